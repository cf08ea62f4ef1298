/-
  What is called: the specification's side.
-/
import Derived.Test.YtooljeddnfkphaaDoorCal7
namespace Go.Proofs.YtooljeddnfkphaaDoor
open Go.RowKit
set_option linter.unusedVariables false
/-- The code that is told, and the hand as it is then. -/
noncomputable def cdOf (p s l c k slot : Int) (h : Hd) (code a b d : Int) : Int :=
  if ok p s l c k = true ∧ inB slot 0 (p - 1) = true ∧ hOk p s l c k h = true then
    if h.up = false then 1 else if ¬ h.at_ = 0 then 2 else if (h.inn = true ↔ code = 1) then 3 else if fitsC p s l c k slot code a b d = false then 4 else if 1000000 < h.last then 5 else 0
  else 6
noncomputable def caH (p s l c k slot : Int) (h : Hd) (code a b d : Int) : Hd := if cdOf p s l c k slot h code a b d = 6 then Hd.zero else if cdOf p s l c k slot h code a b d = 0 then h.begun slot code a b d else h
theorem putsC {B b : Nat} {a w : World} (i : Nat) (v : Value) (hb : B ≤ b) (z : Below B a w) : Below B a (w.setCell ⟨b, i, none⟩ v) := z.setCell (p := ⟨b, i, none⟩) hb v
set_option maxHeartbeats 8000000 in
theorem sCa1 (p s l c k slot : Int) (h : Hd) (code : Int) (a b d : Int) (ho : ok p s l c k = false) (w : World) : Calls Tryd.prog 10 #[.agg #[.int .i64 p, .int .i64 s, .int .i64 l, .int .i64 c, .int .i64 k], .int .i64 slot, .agg h.ar, .int .i64 code, .int .i64 a, .int .i64 b, .int .i64 d] w fun e w' => e = .returned (.tuple #[.agg Hd.zero.ar, .int .i64 6]) ∧ Below w.heap.size w w' := by
  go_enter Tryd.func10, Tryd.ntmps10
  go_upto_region 1 with fail
  refine wp_at (fun W => At W w.heap.size #[.int .i64 p, .int .i64 s, .int .i64 l, .int .i64 c, .int .i64 k] 25 ∧ At W (w.heap.size + 1) h.ar 31 ∧ At W (w.heap.size + 2) Hd.zero.ar 31 ∧ Below w.heap.size w W) (three_box w _ _ _ _ _ _) ?_
  rintro W ⟨P, A, Z, z⟩
  obtain ⟨d0, d1, d2, d3, d4⟩ := P.five
  skip
  go_wp2_with (first
    | (go_at_call 18; refine (sHasN _ _ _ _ _ _ ho _).mono ?_; rintro e w1 ⟨rfl, hb⟩; clear d0 d1 d2 d3 d4; replace P := P.keep hb; replace A := A.keep hb; replace Z := Z.keep hb; replace z := z.trans (hb.mono z.size); clear hb; obtain ⟨d0, d1, d2, d3, d4⟩ := P.five; skip)
    | (go_at_call 27; refine (sHandOk p s l c k h _).mono ?_; rintro e w1 ⟨rfl, hb⟩; rw [hq]; clear d0 d1 d2 d3 d4; replace P := P.keep hb; replace A := A.keep hb; replace Z := Z.keep hb; replace z := z.trans (hb.mono z.size); clear hb; obtain ⟨d0, d1, d2, d3, d4⟩ := P.five; skip)
    | (go_at_call 7; refine Calls.mono (sFits p s l c k slot code a b d _) ?_; rintro e w1 ⟨rfl, hb⟩; rw [hf]; clear d0 d1 d2 d3 d4; replace P := P.keep hb; replace A := A.keep hb; replace Z := Z.keep hb; replace z := z.trans (hb.mono z.size); clear hb; obtain ⟨d0, d1, d2, d3, d4⟩ := P.five; skip)
    | (refine loadHg rfl (.tmp 9) rfl (w.heap.size + 1) h rfl A ?_)
    | (refine wpList_built rfl 31 #[] rfl [] rfl _ bZero ?_)
    | (refine storeH rfl (.tmp 14) (.tmp 27) rfl (w.heap.size + 2) (Hd.zero) rfl rfl Z rfl ?_; intro W2 Z2 kk; replace z := z.trans (kk.below (show w.heap.size ≤ w.heap.size + 2 by omega) z.size)))
  exact bodyPost_ret (v := .tuple #[.agg Hd.zero.ar, .int .i64 6]) (resH2 14 15 Tryd.results10 rfl rfl Z2) rfl ⟨rfl, z⟩
set_option maxHeartbeats 8000000 in
theorem sCa2 (p s l c k slot : Int) (h : Hd) (code : Int) (a b d : Int) (ho : ok p s l c k = true) (hs : inB slot 0 (p - 1) = false) (w : World) : Calls Tryd.prog 10 #[.agg #[.int .i64 p, .int .i64 s, .int .i64 l, .int .i64 c, .int .i64 k], .int .i64 slot, .agg h.ar, .int .i64 code, .int .i64 a, .int .i64 b, .int .i64 d] w fun e w' => e = .returned (.tuple #[.agg Hd.zero.ar, .int .i64 6]) ∧ Below w.heap.size w w' := by
  go_enter Tryd.func10, Tryd.ntmps10
  go_upto_region 1 with fail
  refine wp_at (fun W => At W w.heap.size #[.int .i64 p, .int .i64 s, .int .i64 l, .int .i64 c, .int .i64 k] 25 ∧ At W (w.heap.size + 1) h.ar 31 ∧ At W (w.heap.size + 2) Hd.zero.ar 31 ∧ Below w.heap.size w W) (three_box w _ _ _ _ _ _) ?_
  rintro W ⟨P, A, Z, z⟩
  obtain ⟨d0, d1, d2, d3, d4⟩ := P.five
  skip
  go_wp2_with (first
    | (go_at_call 18; refine (sHas _ _ _ _ _ _ ho _).mono ?_; rintro e w1 ⟨rfl, hb⟩; rw [hs]; clear d0 d1 d2 d3 d4; replace P := P.keep hb; replace A := A.keep hb; replace Z := Z.keep hb; replace z := z.trans (hb.mono z.size); clear hb; obtain ⟨d0, d1, d2, d3, d4⟩ := P.five; skip)
    | (go_at_call 27; refine (sHandOk p s l c k h _).mono ?_; rintro e w1 ⟨rfl, hb⟩; rw [hq]; clear d0 d1 d2 d3 d4; replace P := P.keep hb; replace A := A.keep hb; replace Z := Z.keep hb; replace z := z.trans (hb.mono z.size); clear hb; obtain ⟨d0, d1, d2, d3, d4⟩ := P.five; skip)
    | (go_at_call 7; refine Calls.mono (sFits p s l c k slot code a b d _) ?_; rintro e w1 ⟨rfl, hb⟩; rw [hf]; clear d0 d1 d2 d3 d4; replace P := P.keep hb; replace A := A.keep hb; replace Z := Z.keep hb; replace z := z.trans (hb.mono z.size); clear hb; obtain ⟨d0, d1, d2, d3, d4⟩ := P.five; skip)
    | (refine loadHg rfl (.tmp 9) rfl (w.heap.size + 1) h rfl A ?_)
    | (refine wpList_built rfl 31 #[] rfl [] rfl _ bZero ?_)
    | (refine storeH rfl (.tmp 14) (.tmp 27) rfl (w.heap.size + 2) (Hd.zero) rfl rfl Z rfl ?_; intro W2 Z2 kk; replace z := z.trans (kk.below (show w.heap.size ≤ w.heap.size + 2 by omega) z.size)))
  exact bodyPost_ret (v := .tuple #[.agg Hd.zero.ar, .int .i64 6]) (resH2 14 15 Tryd.results10 rfl rfl Z2) rfl ⟨rfl, z⟩
set_option maxHeartbeats 8000000 in
theorem sCa3 (p s l c k slot : Int) (h : Hd) (code : Int) (a b d : Int) (ho : ok p s l c k = true) (hs : inB slot 0 (p - 1) = true) (hq : hOk p s l c k h = false) (w : World) : Calls Tryd.prog 10 #[.agg #[.int .i64 p, .int .i64 s, .int .i64 l, .int .i64 c, .int .i64 k], .int .i64 slot, .agg h.ar, .int .i64 code, .int .i64 a, .int .i64 b, .int .i64 d] w fun e w' => e = .returned (.tuple #[.agg Hd.zero.ar, .int .i64 6]) ∧ Below w.heap.size w w' := by
  go_enter Tryd.func10, Tryd.ntmps10
  go_upto_region 1 with fail
  refine wp_at (fun W => At W w.heap.size #[.int .i64 p, .int .i64 s, .int .i64 l, .int .i64 c, .int .i64 k] 25 ∧ At W (w.heap.size + 1) h.ar 31 ∧ At W (w.heap.size + 2) Hd.zero.ar 31 ∧ Below w.heap.size w W) (three_box w _ _ _ _ _ _) ?_
  rintro W ⟨P, A, Z, z⟩
  obtain ⟨d0, d1, d2, d3, d4⟩ := P.five
  skip
  go_wp2_with (first
    | (go_at_call 18; refine (sHas _ _ _ _ _ _ ho _).mono ?_; rintro e w1 ⟨rfl, hb⟩; rw [hs]; clear d0 d1 d2 d3 d4; replace P := P.keep hb; replace A := A.keep hb; replace Z := Z.keep hb; replace z := z.trans (hb.mono z.size); clear hb; obtain ⟨d0, d1, d2, d3, d4⟩ := P.five; skip)
    | (go_at_call 27; refine (sHandOk p s l c k h _).mono ?_; rintro e w1 ⟨rfl, hb⟩; rw [hq]; clear d0 d1 d2 d3 d4; replace P := P.keep hb; replace A := A.keep hb; replace Z := Z.keep hb; replace z := z.trans (hb.mono z.size); clear hb; obtain ⟨d0, d1, d2, d3, d4⟩ := P.five; skip)
    | (go_at_call 7; refine Calls.mono (sFits p s l c k slot code a b d _) ?_; rintro e w1 ⟨rfl, hb⟩; rw [hf]; clear d0 d1 d2 d3 d4; replace P := P.keep hb; replace A := A.keep hb; replace Z := Z.keep hb; replace z := z.trans (hb.mono z.size); clear hb; obtain ⟨d0, d1, d2, d3, d4⟩ := P.five; skip)
    | (refine loadHg rfl (.tmp 9) rfl (w.heap.size + 1) h rfl A ?_)
    | (refine wpList_built rfl 31 #[] rfl [] rfl _ bZero ?_)
    | (refine storeH rfl (.tmp 14) (.tmp 27) rfl (w.heap.size + 2) (Hd.zero) rfl rfl Z rfl ?_; intro W2 Z2 kk; replace z := z.trans (kk.below (show w.heap.size ≤ w.heap.size + 2 by omega) z.size)))
  exact bodyPost_ret (v := .tuple #[.agg Hd.zero.ar, .int .i64 6]) (resH2 14 15 Tryd.results10 rfl rfl Z2) rfl ⟨rfl, z⟩
set_option maxHeartbeats 8000000 in
theorem sCaD (p s l c k slot : Int) (h : Hd) (code : Int) (a b d : Int) (ho : ok p s l c k = true) (hs : inB slot 0 (p - 1) = true) (hq : hOk p s l c k h = true) (hu : h.up = false) (w : World) : Calls Tryd.prog 10 #[.agg #[.int .i64 p, .int .i64 s, .int .i64 l, .int .i64 c, .int .i64 k], .int .i64 slot, .agg h.ar, .int .i64 code, .int .i64 a, .int .i64 b, .int .i64 d] w fun e w' => e = .returned (.tuple #[.agg h.ar, .int .i64 1]) ∧ Below w.heap.size w w' := by
  go_enter Tryd.func10, Tryd.ntmps10
  go_upto_region 1 with fail
  refine wp_at (fun W => At W w.heap.size #[.int .i64 p, .int .i64 s, .int .i64 l, .int .i64 c, .int .i64 k] 25 ∧ At W (w.heap.size + 1) h.ar 31 ∧ At W (w.heap.size + 2) Hd.zero.ar 31 ∧ Below w.heap.size w W) (three_box w _ _ _ _ _ _) ?_
  rintro W ⟨P, A, Z, z⟩
  obtain ⟨d0, d1, d2, d3, d4⟩ := P.five
  have c0 : World.cell? W ⟨w.heap.size + 1, 0, none⟩ = some (.bool false) := (A.cell 0).trans (by show some (Value.bool h.up) = _; rw [hu])
  go_wp2_with (first
    | (go_at_call 18; refine (sHas _ _ _ _ _ _ ho _).mono ?_; rintro e w1 ⟨rfl, hb⟩; rw [hs]; clear d0 d1 d2 d3 d4 c0; replace P := P.keep hb; replace A := A.keep hb; replace Z := Z.keep hb; replace z := z.trans (hb.mono z.size); clear hb; obtain ⟨d0, d1, d2, d3, d4⟩ := P.five; have c0 : World.cell? w1 ⟨w.heap.size + 1, 0, none⟩ = some (.bool false) := (A.cell 0).trans (by show some (Value.bool h.up) = _; rw [hu]))
    | (go_at_call 27; refine (sHandOk p s l c k h _).mono ?_; rintro e w1 ⟨rfl, hb⟩; rw [hq]; clear d0 d1 d2 d3 d4 c0; replace P := P.keep hb; replace A := A.keep hb; replace Z := Z.keep hb; replace z := z.trans (hb.mono z.size); clear hb; obtain ⟨d0, d1, d2, d3, d4⟩ := P.five; have c0 : World.cell? w1 ⟨w.heap.size + 1, 0, none⟩ = some (.bool false) := (A.cell 0).trans (by show some (Value.bool h.up) = _; rw [hu]))
    | (go_at_call 7; refine Calls.mono (sFits p s l c k slot code a b d _) ?_; rintro e w1 ⟨rfl, hb⟩; rw [hf]; clear d0 d1 d2 d3 d4 c0; replace P := P.keep hb; replace A := A.keep hb; replace Z := Z.keep hb; replace z := z.trans (hb.mono z.size); clear hb; obtain ⟨d0, d1, d2, d3, d4⟩ := P.five; have c0 : World.cell? w1 ⟨w.heap.size + 1, 0, none⟩ = some (.bool false) := (A.cell 0).trans (by show some (Value.bool h.up) = _; rw [hu]))
    | (refine loadHg rfl (.tmp 9) rfl (w.heap.size + 1) h rfl A ?_)
    | (refine storeH rfl (.tmp 14) (.tmp 31) rfl (w.heap.size + 2) (h) rfl rfl Z rfl ?_; intro W2 Z2 kk; replace z := z.trans (kk.below (show w.heap.size ≤ w.heap.size + 2 by omega) z.size)))
  exact bodyPost_ret (v := .tuple #[.agg h.ar, .int .i64 1]) (resH2 14 15 Tryd.results10 rfl rfl Z2) rfl ⟨rfl, z⟩
set_option maxHeartbeats 8000000 in
theorem sCaB (p s l c k slot : Int) (h : Hd) (code : Int) (a b d : Int) (ho : ok p s l c k = true) (hs : inB slot 0 (p - 1) = true) (hq : hOk p s l c k h = true) (hu : h.up = true) (ha : ¬ h.at_ = 0) (w : World) : Calls Tryd.prog 10 #[.agg #[.int .i64 p, .int .i64 s, .int .i64 l, .int .i64 c, .int .i64 k], .int .i64 slot, .agg h.ar, .int .i64 code, .int .i64 a, .int .i64 b, .int .i64 d] w fun e w' => e = .returned (.tuple #[.agg h.ar, .int .i64 2]) ∧ Below w.heap.size w w' := by
  go_enter Tryd.func10, Tryd.ntmps10
  go_upto_region 1 with fail
  refine wp_at (fun W => At W w.heap.size #[.int .i64 p, .int .i64 s, .int .i64 l, .int .i64 c, .int .i64 k] 25 ∧ At W (w.heap.size + 1) h.ar 31 ∧ At W (w.heap.size + 2) Hd.zero.ar 31 ∧ Below w.heap.size w W) (three_box w _ _ _ _ _ _) ?_
  rintro W ⟨P, A, Z, z⟩
  obtain ⟨d0, d1, d2, d3, d4⟩ := P.five
  have c0 : World.cell? W ⟨w.heap.size + 1, 0, none⟩ = some (.bool true) := (A.cell 0).trans (by show some (Value.bool h.up) = _; rw [hu])
  have c5 : World.cell? W ⟨w.heap.size + 1, 5, none⟩ = some (.int .i64 h.at_) := A.cell 5
  go_wp2_with (first
    | (go_at_call 18; refine (sHas _ _ _ _ _ _ ho _).mono ?_; rintro e w1 ⟨rfl, hb⟩; rw [hs]; clear d0 d1 d2 d3 d4 c0 c5; replace P := P.keep hb; replace A := A.keep hb; replace Z := Z.keep hb; replace z := z.trans (hb.mono z.size); clear hb; obtain ⟨d0, d1, d2, d3, d4⟩ := P.five; have c0 : World.cell? w1 ⟨w.heap.size + 1, 0, none⟩ = some (.bool true) := (A.cell 0).trans (by show some (Value.bool h.up) = _; rw [hu]); have c5 : World.cell? w1 ⟨w.heap.size + 1, 5, none⟩ = some (.int .i64 h.at_) := A.cell 5)
    | (go_at_call 27; refine (sHandOk p s l c k h _).mono ?_; rintro e w1 ⟨rfl, hb⟩; rw [hq]; clear d0 d1 d2 d3 d4 c0 c5; replace P := P.keep hb; replace A := A.keep hb; replace Z := Z.keep hb; replace z := z.trans (hb.mono z.size); clear hb; obtain ⟨d0, d1, d2, d3, d4⟩ := P.five; have c0 : World.cell? w1 ⟨w.heap.size + 1, 0, none⟩ = some (.bool true) := (A.cell 0).trans (by show some (Value.bool h.up) = _; rw [hu]); have c5 : World.cell? w1 ⟨w.heap.size + 1, 5, none⟩ = some (.int .i64 h.at_) := A.cell 5)
    | (go_at_call 7; refine Calls.mono (sFits p s l c k slot code a b d _) ?_; rintro e w1 ⟨rfl, hb⟩; rw [hf]; clear d0 d1 d2 d3 d4 c0 c5; replace P := P.keep hb; replace A := A.keep hb; replace Z := Z.keep hb; replace z := z.trans (hb.mono z.size); clear hb; obtain ⟨d0, d1, d2, d3, d4⟩ := P.five; have c0 : World.cell? w1 ⟨w.heap.size + 1, 0, none⟩ = some (.bool true) := (A.cell 0).trans (by show some (Value.bool h.up) = _; rw [hu]); have c5 : World.cell? w1 ⟨w.heap.size + 1, 5, none⟩ = some (.int .i64 h.at_) := A.cell 5)
    | (refine loadHg rfl (.tmp 9) rfl (w.heap.size + 1) h rfl A ?_)
    | (refine storeH rfl (.tmp 14) (.tmp 35) rfl (w.heap.size + 2) (h) rfl rfl Z rfl ?_; intro W2 Z2 kk; replace z := z.trans (kk.below (show w.heap.size ≤ w.heap.size + 2 by omega) z.size)))
  exact bodyPost_ret (v := .tuple #[.agg h.ar, .int .i64 2]) (resH2 14 15 Tryd.results10 rfl rfl Z2) rfl ⟨rfl, z⟩
set_option maxHeartbeats 8000000 in
theorem sCaS1 (p s l c k slot : Int) (h : Hd) (a b d : Int) (ho : ok p s l c k = true) (hs : inB slot 0 (p - 1) = true) (hq : hOk p s l c k h = true) (hu : h.up = true) (ha : h.at_ = 0) (hi : h.inn = true) (w : World) : Calls Tryd.prog 10 #[.agg #[.int .i64 p, .int .i64 s, .int .i64 l, .int .i64 c, .int .i64 k], .int .i64 slot, .agg h.ar, .int .i64 1, .int .i64 a, .int .i64 b, .int .i64 d] w fun e w' => e = .returned (.tuple #[.agg h.ar, .int .i64 3]) ∧ Below w.heap.size w w' := by
  go_enter Tryd.func10, Tryd.ntmps10
  go_upto_region 1 with fail
  refine wp_at (fun W => At W w.heap.size #[.int .i64 p, .int .i64 s, .int .i64 l, .int .i64 c, .int .i64 k] 25 ∧ At W (w.heap.size + 1) h.ar 31 ∧ At W (w.heap.size + 2) Hd.zero.ar 31 ∧ Below w.heap.size w W) (three_box w _ _ _ _ _ _) ?_
  rintro W ⟨P, A, Z, z⟩
  obtain ⟨d0, d1, d2, d3, d4⟩ := P.five
  have c0 : World.cell? W ⟨w.heap.size + 1, 0, none⟩ = some (.bool true) := (A.cell 0).trans (by show some (Value.bool h.up) = _; rw [hu])
  have c5 : World.cell? W ⟨w.heap.size + 1, 5, none⟩ = some (.int .i64 0) := (A.cell 5).trans (by show some (Value.int .i64 h.at_) = _; rw [ha])
  have c1 : World.cell? W ⟨w.heap.size + 1, 1, none⟩ = some (.bool true) := (A.cell 1).trans (by show some (Value.bool h.inn) = _; rw [hi])
  go_wp2_with (first
    | (go_at_call 18; refine (sHas _ _ _ _ _ _ ho _).mono ?_; rintro e w1 ⟨rfl, hb⟩; rw [hs]; clear d0 d1 d2 d3 d4 c0 c5 c1; replace P := P.keep hb; replace A := A.keep hb; replace Z := Z.keep hb; replace z := z.trans (hb.mono z.size); clear hb; obtain ⟨d0, d1, d2, d3, d4⟩ := P.five; have c0 : World.cell? w1 ⟨w.heap.size + 1, 0, none⟩ = some (.bool true) := (A.cell 0).trans (by show some (Value.bool h.up) = _; rw [hu]); have c5 : World.cell? w1 ⟨w.heap.size + 1, 5, none⟩ = some (.int .i64 0) := (A.cell 5).trans (by show some (Value.int .i64 h.at_) = _; rw [ha]); have c1 : World.cell? w1 ⟨w.heap.size + 1, 1, none⟩ = some (.bool true) := (A.cell 1).trans (by show some (Value.bool h.inn) = _; rw [hi]))
    | (go_at_call 27; refine (sHandOk p s l c k h _).mono ?_; rintro e w1 ⟨rfl, hb⟩; rw [hq]; clear d0 d1 d2 d3 d4 c0 c5 c1; replace P := P.keep hb; replace A := A.keep hb; replace Z := Z.keep hb; replace z := z.trans (hb.mono z.size); clear hb; obtain ⟨d0, d1, d2, d3, d4⟩ := P.five; have c0 : World.cell? w1 ⟨w.heap.size + 1, 0, none⟩ = some (.bool true) := (A.cell 0).trans (by show some (Value.bool h.up) = _; rw [hu]); have c5 : World.cell? w1 ⟨w.heap.size + 1, 5, none⟩ = some (.int .i64 0) := (A.cell 5).trans (by show some (Value.int .i64 h.at_) = _; rw [ha]); have c1 : World.cell? w1 ⟨w.heap.size + 1, 1, none⟩ = some (.bool true) := (A.cell 1).trans (by show some (Value.bool h.inn) = _; rw [hi]))
    | (go_at_call 7; refine Calls.mono (sFits p s l c k slot 1 a b d _) ?_; rintro e w1 ⟨rfl, hb⟩; rw [hf]; clear d0 d1 d2 d3 d4 c0 c5 c1; replace P := P.keep hb; replace A := A.keep hb; replace Z := Z.keep hb; replace z := z.trans (hb.mono z.size); clear hb; obtain ⟨d0, d1, d2, d3, d4⟩ := P.five; have c0 : World.cell? w1 ⟨w.heap.size + 1, 0, none⟩ = some (.bool true) := (A.cell 0).trans (by show some (Value.bool h.up) = _; rw [hu]); have c5 : World.cell? w1 ⟨w.heap.size + 1, 5, none⟩ = some (.int .i64 0) := (A.cell 5).trans (by show some (Value.int .i64 h.at_) = _; rw [ha]); have c1 : World.cell? w1 ⟨w.heap.size + 1, 1, none⟩ = some (.bool true) := (A.cell 1).trans (by show some (Value.bool h.inn) = _; rw [hi]))
    | (refine loadHg rfl (.tmp 9) rfl (w.heap.size + 1) h rfl A ?_)
    | (refine storeH rfl (.tmp 14) (.tmp 41) rfl (w.heap.size + 2) (h) rfl rfl Z rfl ?_; intro W2 Z2 kk; replace z := z.trans (kk.below (show w.heap.size ≤ w.heap.size + 2 by omega) z.size)))
  exact bodyPost_ret (v := .tuple #[.agg h.ar, .int .i64 3]) (resH2 14 15 Tryd.results10 rfl rfl Z2) rfl ⟨rfl, z⟩
set_option maxHeartbeats 8000000 in
theorem sCaS2 (p s l c k slot : Int) (h : Hd) (code : Int) (a b d : Int) (ho : ok p s l c k = true) (hs : inB slot 0 (p - 1) = true) (hq : hOk p s l c k h = true) (hu : h.up = true) (ha : h.at_ = 0) (hi : h.inn = false) (hne : ¬ code = 1) (w : World) : Calls Tryd.prog 10 #[.agg #[.int .i64 p, .int .i64 s, .int .i64 l, .int .i64 c, .int .i64 k], .int .i64 slot, .agg h.ar, .int .i64 code, .int .i64 a, .int .i64 b, .int .i64 d] w fun e w' => e = .returned (.tuple #[.agg h.ar, .int .i64 3]) ∧ Below w.heap.size w w' := by
  have hx1 : (code == 1) = false := by simp [hne]
  have hx2 : decide (code = 1) = false := decide_eq_false hne
  go_enter Tryd.func10, Tryd.ntmps10
  go_upto_region 1 with fail
  refine wp_at (fun W => At W w.heap.size #[.int .i64 p, .int .i64 s, .int .i64 l, .int .i64 c, .int .i64 k] 25 ∧ At W (w.heap.size + 1) h.ar 31 ∧ At W (w.heap.size + 2) Hd.zero.ar 31 ∧ Below w.heap.size w W) (three_box w _ _ _ _ _ _) ?_
  rintro W ⟨P, A, Z, z⟩
  obtain ⟨d0, d1, d2, d3, d4⟩ := P.five
  have c0 : World.cell? W ⟨w.heap.size + 1, 0, none⟩ = some (.bool true) := (A.cell 0).trans (by show some (Value.bool h.up) = _; rw [hu])
  have c5 : World.cell? W ⟨w.heap.size + 1, 5, none⟩ = some (.int .i64 0) := (A.cell 5).trans (by show some (Value.int .i64 h.at_) = _; rw [ha])
  have c1 : World.cell? W ⟨w.heap.size + 1, 1, none⟩ = some (.bool false) := (A.cell 1).trans (by show some (Value.bool h.inn) = _; rw [hi])
  go_wp2_with (first
    | (go_at_call 18; refine (sHas _ _ _ _ _ _ ho _).mono ?_; rintro e w1 ⟨rfl, hb⟩; rw [hs]; clear d0 d1 d2 d3 d4 c0 c5 c1; replace P := P.keep hb; replace A := A.keep hb; replace Z := Z.keep hb; replace z := z.trans (hb.mono z.size); clear hb; obtain ⟨d0, d1, d2, d3, d4⟩ := P.five; have c0 : World.cell? w1 ⟨w.heap.size + 1, 0, none⟩ = some (.bool true) := (A.cell 0).trans (by show some (Value.bool h.up) = _; rw [hu]); have c5 : World.cell? w1 ⟨w.heap.size + 1, 5, none⟩ = some (.int .i64 0) := (A.cell 5).trans (by show some (Value.int .i64 h.at_) = _; rw [ha]); have c1 : World.cell? w1 ⟨w.heap.size + 1, 1, none⟩ = some (.bool false) := (A.cell 1).trans (by show some (Value.bool h.inn) = _; rw [hi]))
    | (go_at_call 27; refine (sHandOk p s l c k h _).mono ?_; rintro e w1 ⟨rfl, hb⟩; rw [hq]; clear d0 d1 d2 d3 d4 c0 c5 c1; replace P := P.keep hb; replace A := A.keep hb; replace Z := Z.keep hb; replace z := z.trans (hb.mono z.size); clear hb; obtain ⟨d0, d1, d2, d3, d4⟩ := P.five; have c0 : World.cell? w1 ⟨w.heap.size + 1, 0, none⟩ = some (.bool true) := (A.cell 0).trans (by show some (Value.bool h.up) = _; rw [hu]); have c5 : World.cell? w1 ⟨w.heap.size + 1, 5, none⟩ = some (.int .i64 0) := (A.cell 5).trans (by show some (Value.int .i64 h.at_) = _; rw [ha]); have c1 : World.cell? w1 ⟨w.heap.size + 1, 1, none⟩ = some (.bool false) := (A.cell 1).trans (by show some (Value.bool h.inn) = _; rw [hi]))
    | (go_at_call 7; refine Calls.mono (sFits p s l c k slot code a b d _) ?_; rintro e w1 ⟨rfl, hb⟩; rw [hf]; clear d0 d1 d2 d3 d4 c0 c5 c1; replace P := P.keep hb; replace A := A.keep hb; replace Z := Z.keep hb; replace z := z.trans (hb.mono z.size); clear hb; obtain ⟨d0, d1, d2, d3, d4⟩ := P.five; have c0 : World.cell? w1 ⟨w.heap.size + 1, 0, none⟩ = some (.bool true) := (A.cell 0).trans (by show some (Value.bool h.up) = _; rw [hu]); have c5 : World.cell? w1 ⟨w.heap.size + 1, 5, none⟩ = some (.int .i64 0) := (A.cell 5).trans (by show some (Value.int .i64 h.at_) = _; rw [ha]); have c1 : World.cell? w1 ⟨w.heap.size + 1, 1, none⟩ = some (.bool false) := (A.cell 1).trans (by show some (Value.bool h.inn) = _; rw [hi]))
    | (refine loadHg rfl (.tmp 9) rfl (w.heap.size + 1) h rfl A ?_)
    | (refine storeH rfl (.tmp 14) (.tmp 41) rfl (w.heap.size + 2) (h) rfl rfl Z rfl ?_; intro W2 Z2 kk; replace z := z.trans (kk.below (show w.heap.size ≤ w.heap.size + 2 by omega) z.size)))
  exact bodyPost_ret (v := .tuple #[.agg h.ar, .int .i64 3]) (resH2 14 15 Tryd.results10 rfl rfl Z2) rfl ⟨rfl, z⟩
set_option maxHeartbeats 8000000 in
theorem sCaU1 (p s l c k slot : Int) (h : Hd) (a b d : Int) (ho : ok p s l c k = true) (hs : inB slot 0 (p - 1) = true) (hq : hOk p s l c k h = true) (hu : h.up = true) (ha : h.at_ = 0) (hi : h.inn = false) (hf : fitsC p s l c k slot 1 a b d = false) (w : World) : Calls Tryd.prog 10 #[.agg #[.int .i64 p, .int .i64 s, .int .i64 l, .int .i64 c, .int .i64 k], .int .i64 slot, .agg h.ar, .int .i64 1, .int .i64 a, .int .i64 b, .int .i64 d] w fun e w' => e = .returned (.tuple #[.agg h.ar, .int .i64 4]) ∧ Below w.heap.size w w' := by
  go_enter Tryd.func10, Tryd.ntmps10
  go_upto_region 1 with fail
  refine wp_at (fun W => At W w.heap.size #[.int .i64 p, .int .i64 s, .int .i64 l, .int .i64 c, .int .i64 k] 25 ∧ At W (w.heap.size + 1) h.ar 31 ∧ At W (w.heap.size + 2) Hd.zero.ar 31 ∧ Below w.heap.size w W) (three_box w _ _ _ _ _ _) ?_
  rintro W ⟨P, A, Z, z⟩
  obtain ⟨d0, d1, d2, d3, d4⟩ := P.five
  have c0 : World.cell? W ⟨w.heap.size + 1, 0, none⟩ = some (.bool true) := (A.cell 0).trans (by show some (Value.bool h.up) = _; rw [hu])
  have c5 : World.cell? W ⟨w.heap.size + 1, 5, none⟩ = some (.int .i64 0) := (A.cell 5).trans (by show some (Value.int .i64 h.at_) = _; rw [ha])
  have c1 : World.cell? W ⟨w.heap.size + 1, 1, none⟩ = some (.bool false) := (A.cell 1).trans (by show some (Value.bool h.inn) = _; rw [hi])
  have c12 : World.cell? W ⟨w.heap.size + 1, 12, none⟩ = some (.int .i64 h.last) := A.cell 12
  go_wp2_with (first
    | (go_at_call 18; refine (sHas _ _ _ _ _ _ ho _).mono ?_; rintro e w1 ⟨rfl, hb⟩; rw [hs]; clear d0 d1 d2 d3 d4 c0 c5 c1 c12; replace P := P.keep hb; replace A := A.keep hb; replace Z := Z.keep hb; replace z := z.trans (hb.mono z.size); clear hb; obtain ⟨d0, d1, d2, d3, d4⟩ := P.five; have c0 : World.cell? w1 ⟨w.heap.size + 1, 0, none⟩ = some (.bool true) := (A.cell 0).trans (by show some (Value.bool h.up) = _; rw [hu]); have c5 : World.cell? w1 ⟨w.heap.size + 1, 5, none⟩ = some (.int .i64 0) := (A.cell 5).trans (by show some (Value.int .i64 h.at_) = _; rw [ha]); have c1 : World.cell? w1 ⟨w.heap.size + 1, 1, none⟩ = some (.bool false) := (A.cell 1).trans (by show some (Value.bool h.inn) = _; rw [hi]); have c12 : World.cell? w1 ⟨w.heap.size + 1, 12, none⟩ = some (.int .i64 h.last) := A.cell 12)
    | (go_at_call 27; refine (sHandOk p s l c k h _).mono ?_; rintro e w1 ⟨rfl, hb⟩; rw [hq]; clear d0 d1 d2 d3 d4 c0 c5 c1 c12; replace P := P.keep hb; replace A := A.keep hb; replace Z := Z.keep hb; replace z := z.trans (hb.mono z.size); clear hb; obtain ⟨d0, d1, d2, d3, d4⟩ := P.five; have c0 : World.cell? w1 ⟨w.heap.size + 1, 0, none⟩ = some (.bool true) := (A.cell 0).trans (by show some (Value.bool h.up) = _; rw [hu]); have c5 : World.cell? w1 ⟨w.heap.size + 1, 5, none⟩ = some (.int .i64 0) := (A.cell 5).trans (by show some (Value.int .i64 h.at_) = _; rw [ha]); have c1 : World.cell? w1 ⟨w.heap.size + 1, 1, none⟩ = some (.bool false) := (A.cell 1).trans (by show some (Value.bool h.inn) = _; rw [hi]); have c12 : World.cell? w1 ⟨w.heap.size + 1, 12, none⟩ = some (.int .i64 h.last) := A.cell 12)
    | (go_at_call 7; refine Calls.mono (sFits p s l c k slot 1 a b d _) ?_; rintro e w1 ⟨rfl, hb⟩; rw [hf]; clear d0 d1 d2 d3 d4 c0 c5 c1 c12; replace P := P.keep hb; replace A := A.keep hb; replace Z := Z.keep hb; replace z := z.trans (hb.mono z.size); clear hb; obtain ⟨d0, d1, d2, d3, d4⟩ := P.five; have c0 : World.cell? w1 ⟨w.heap.size + 1, 0, none⟩ = some (.bool true) := (A.cell 0).trans (by show some (Value.bool h.up) = _; rw [hu]); have c5 : World.cell? w1 ⟨w.heap.size + 1, 5, none⟩ = some (.int .i64 0) := (A.cell 5).trans (by show some (Value.int .i64 h.at_) = _; rw [ha]); have c1 : World.cell? w1 ⟨w.heap.size + 1, 1, none⟩ = some (.bool false) := (A.cell 1).trans (by show some (Value.bool h.inn) = _; rw [hi]); have c12 : World.cell? w1 ⟨w.heap.size + 1, 12, none⟩ = some (.int .i64 h.last) := A.cell 12)
    | (refine loadHg rfl (.tmp 9) rfl (w.heap.size + 1) h rfl A ?_)
    | (refine storeH rfl (.tmp 14) (.tmp 50) rfl (w.heap.size + 2) (h) rfl rfl Z rfl ?_; intro W2 Z2 kk; replace z := z.trans (kk.below (show w.heap.size ≤ w.heap.size + 2 by omega) z.size)))
  exact bodyPost_ret (v := .tuple #[.agg h.ar, .int .i64 4]) (resH2 14 15 Tryd.results10 rfl rfl Z2) rfl ⟨rfl, z⟩
set_option maxHeartbeats 8000000 in
theorem sCaP1 (p s l c k slot : Int) (h : Hd) (a b d : Int) (ho : ok p s l c k = true) (hs : inB slot 0 (p - 1) = true) (hq : hOk p s l c k h = true) (hu : h.up = true) (ha : h.at_ = 0) (hi : h.inn = false) (hf : fitsC p s l c k slot 1 a b d = true) (hl : 1000000 < h.last) (w : World) : Calls Tryd.prog 10 #[.agg #[.int .i64 p, .int .i64 s, .int .i64 l, .int .i64 c, .int .i64 k], .int .i64 slot, .agg h.ar, .int .i64 1, .int .i64 a, .int .i64 b, .int .i64 d] w fun e w' => e = .returned (.tuple #[.agg h.ar, .int .i64 5]) ∧ Below w.heap.size w w' := by
  go_enter Tryd.func10, Tryd.ntmps10
  go_upto_region 1 with fail
  refine wp_at (fun W => At W w.heap.size #[.int .i64 p, .int .i64 s, .int .i64 l, .int .i64 c, .int .i64 k] 25 ∧ At W (w.heap.size + 1) h.ar 31 ∧ At W (w.heap.size + 2) Hd.zero.ar 31 ∧ Below w.heap.size w W) (three_box w _ _ _ _ _ _) ?_
  rintro W ⟨P, A, Z, z⟩
  obtain ⟨d0, d1, d2, d3, d4⟩ := P.five
  have c0 : World.cell? W ⟨w.heap.size + 1, 0, none⟩ = some (.bool true) := (A.cell 0).trans (by show some (Value.bool h.up) = _; rw [hu])
  have c5 : World.cell? W ⟨w.heap.size + 1, 5, none⟩ = some (.int .i64 0) := (A.cell 5).trans (by show some (Value.int .i64 h.at_) = _; rw [ha])
  have c1 : World.cell? W ⟨w.heap.size + 1, 1, none⟩ = some (.bool false) := (A.cell 1).trans (by show some (Value.bool h.inn) = _; rw [hi])
  have c12 : World.cell? W ⟨w.heap.size + 1, 12, none⟩ = some (.int .i64 h.last) := A.cell 12
  go_wp2_with (first
    | (go_at_call 18; refine (sHas _ _ _ _ _ _ ho _).mono ?_; rintro e w1 ⟨rfl, hb⟩; rw [hs]; clear d0 d1 d2 d3 d4 c0 c5 c1 c12; replace P := P.keep hb; replace A := A.keep hb; replace Z := Z.keep hb; replace z := z.trans (hb.mono z.size); clear hb; obtain ⟨d0, d1, d2, d3, d4⟩ := P.five; have c0 : World.cell? w1 ⟨w.heap.size + 1, 0, none⟩ = some (.bool true) := (A.cell 0).trans (by show some (Value.bool h.up) = _; rw [hu]); have c5 : World.cell? w1 ⟨w.heap.size + 1, 5, none⟩ = some (.int .i64 0) := (A.cell 5).trans (by show some (Value.int .i64 h.at_) = _; rw [ha]); have c1 : World.cell? w1 ⟨w.heap.size + 1, 1, none⟩ = some (.bool false) := (A.cell 1).trans (by show some (Value.bool h.inn) = _; rw [hi]); have c12 : World.cell? w1 ⟨w.heap.size + 1, 12, none⟩ = some (.int .i64 h.last) := A.cell 12)
    | (go_at_call 27; refine (sHandOk p s l c k h _).mono ?_; rintro e w1 ⟨rfl, hb⟩; rw [hq]; clear d0 d1 d2 d3 d4 c0 c5 c1 c12; replace P := P.keep hb; replace A := A.keep hb; replace Z := Z.keep hb; replace z := z.trans (hb.mono z.size); clear hb; obtain ⟨d0, d1, d2, d3, d4⟩ := P.five; have c0 : World.cell? w1 ⟨w.heap.size + 1, 0, none⟩ = some (.bool true) := (A.cell 0).trans (by show some (Value.bool h.up) = _; rw [hu]); have c5 : World.cell? w1 ⟨w.heap.size + 1, 5, none⟩ = some (.int .i64 0) := (A.cell 5).trans (by show some (Value.int .i64 h.at_) = _; rw [ha]); have c1 : World.cell? w1 ⟨w.heap.size + 1, 1, none⟩ = some (.bool false) := (A.cell 1).trans (by show some (Value.bool h.inn) = _; rw [hi]); have c12 : World.cell? w1 ⟨w.heap.size + 1, 12, none⟩ = some (.int .i64 h.last) := A.cell 12)
    | (go_at_call 7; refine Calls.mono (sFits p s l c k slot 1 a b d _) ?_; rintro e w1 ⟨rfl, hb⟩; rw [hf]; clear d0 d1 d2 d3 d4 c0 c5 c1 c12; replace P := P.keep hb; replace A := A.keep hb; replace Z := Z.keep hb; replace z := z.trans (hb.mono z.size); clear hb; obtain ⟨d0, d1, d2, d3, d4⟩ := P.five; have c0 : World.cell? w1 ⟨w.heap.size + 1, 0, none⟩ = some (.bool true) := (A.cell 0).trans (by show some (Value.bool h.up) = _; rw [hu]); have c5 : World.cell? w1 ⟨w.heap.size + 1, 5, none⟩ = some (.int .i64 0) := (A.cell 5).trans (by show some (Value.int .i64 h.at_) = _; rw [ha]); have c1 : World.cell? w1 ⟨w.heap.size + 1, 1, none⟩ = some (.bool false) := (A.cell 1).trans (by show some (Value.bool h.inn) = _; rw [hi]); have c12 : World.cell? w1 ⟨w.heap.size + 1, 12, none⟩ = some (.int .i64 h.last) := A.cell 12)
    | (refine loadHg rfl (.tmp 9) rfl (w.heap.size + 1) h rfl A ?_)
    | (refine storeH rfl (.tmp 14) (.tmp 54) rfl (w.heap.size + 2) (h) rfl rfl Z rfl ?_; intro W2 Z2 kk; replace z := z.trans (kk.below (show w.heap.size ≤ w.heap.size + 2 by omega) z.size)))
  exact bodyPost_ret (v := .tuple #[.agg h.ar, .int .i64 5]) (resH2 14 15 Tryd.results10 rfl rfl Z2) rfl ⟨rfl, z⟩
set_option maxHeartbeats 8000000 in
theorem sCaO1 (p s l c k slot : Int) (h : Hd) (a b d : Int) (ho : ok p s l c k = true) (hs : inB slot 0 (p - 1) = true) (hq : hOk p s l c k h = true) (hu : h.up = true) (ha : h.at_ = 0) (hi : h.inn = false) (hf : fitsC p s l c k slot 1 a b d = true) (hl : ¬ 1000000 < h.last) (w : World) : Calls Tryd.prog 10 #[.agg #[.int .i64 p, .int .i64 s, .int .i64 l, .int .i64 c, .int .i64 k], .int .i64 slot, .agg h.ar, .int .i64 1, .int .i64 a, .int .i64 b, .int .i64 d] w fun e w' => e = .returned (.tuple #[.agg (h.begun slot 1 a b d).ar, .int .i64 0]) ∧ Below w.heap.size w w' := by
  go_enter Tryd.func10, Tryd.ntmps10
  go_upto_region 1 with fail
  refine wp_at (fun W => At W w.heap.size #[.int .i64 p, .int .i64 s, .int .i64 l, .int .i64 c, .int .i64 k] 25 ∧ At W (w.heap.size + 1) h.ar 31 ∧ At W (w.heap.size + 2) Hd.zero.ar 31 ∧ Below w.heap.size w W) (three_box w _ _ _ _ _ _) ?_
  rintro W ⟨P, A, Z, z⟩
  obtain ⟨d0, d1, d2, d3, d4⟩ := P.five
  have c0 : World.cell? W ⟨w.heap.size + 1, 0, none⟩ = some (.bool true) := (A.cell 0).trans (by show some (Value.bool h.up) = _; rw [hu])
  have c5 : World.cell? W ⟨w.heap.size + 1, 5, none⟩ = some (.int .i64 0) := (A.cell 5).trans (by show some (Value.int .i64 h.at_) = _; rw [ha])
  have c1 : World.cell? W ⟨w.heap.size + 1, 1, none⟩ = some (.bool false) := (A.cell 1).trans (by show some (Value.bool h.inn) = _; rw [hi])
  have c12 : World.cell? W ⟨w.heap.size + 1, 12, none⟩ = some (.int .i64 h.last) := A.cell 12
  go_upto_region 14 with (first
    | (go_at_call 18; refine (sHas _ _ _ _ _ _ ho _).mono ?_; rintro e w1 ⟨rfl, hb⟩; rw [hs]; clear d0 d1 d2 d3 d4 c0 c5 c1 c12; replace P := P.keep hb; replace A := A.keep hb; replace Z := Z.keep hb; replace z := z.trans (hb.mono z.size); clear hb; obtain ⟨d0, d1, d2, d3, d4⟩ := P.five; have c0 : World.cell? w1 ⟨w.heap.size + 1, 0, none⟩ = some (.bool true) := (A.cell 0).trans (by show some (Value.bool h.up) = _; rw [hu]); have c5 : World.cell? w1 ⟨w.heap.size + 1, 5, none⟩ = some (.int .i64 0) := (A.cell 5).trans (by show some (Value.int .i64 h.at_) = _; rw [ha]); have c1 : World.cell? w1 ⟨w.heap.size + 1, 1, none⟩ = some (.bool false) := (A.cell 1).trans (by show some (Value.bool h.inn) = _; rw [hi]); have c12 : World.cell? w1 ⟨w.heap.size + 1, 12, none⟩ = some (.int .i64 h.last) := A.cell 12)
    | (go_at_call 27; refine (sHandOk p s l c k h _).mono ?_; rintro e w1 ⟨rfl, hb⟩; rw [hq]; clear d0 d1 d2 d3 d4 c0 c5 c1 c12; replace P := P.keep hb; replace A := A.keep hb; replace Z := Z.keep hb; replace z := z.trans (hb.mono z.size); clear hb; obtain ⟨d0, d1, d2, d3, d4⟩ := P.five; have c0 : World.cell? w1 ⟨w.heap.size + 1, 0, none⟩ = some (.bool true) := (A.cell 0).trans (by show some (Value.bool h.up) = _; rw [hu]); have c5 : World.cell? w1 ⟨w.heap.size + 1, 5, none⟩ = some (.int .i64 0) := (A.cell 5).trans (by show some (Value.int .i64 h.at_) = _; rw [ha]); have c1 : World.cell? w1 ⟨w.heap.size + 1, 1, none⟩ = some (.bool false) := (A.cell 1).trans (by show some (Value.bool h.inn) = _; rw [hi]); have c12 : World.cell? w1 ⟨w.heap.size + 1, 12, none⟩ = some (.int .i64 h.last) := A.cell 12)
    | (go_at_call 7; refine Calls.mono (sFits p s l c k slot 1 a b d _) ?_; rintro e w1 ⟨rfl, hb⟩; rw [hf]; clear d0 d1 d2 d3 d4 c0 c5 c1 c12; replace P := P.keep hb; replace A := A.keep hb; replace Z := Z.keep hb; replace z := z.trans (hb.mono z.size); clear hb; obtain ⟨d0, d1, d2, d3, d4⟩ := P.five; have c0 : World.cell? w1 ⟨w.heap.size + 1, 0, none⟩ = some (.bool true) := (A.cell 0).trans (by show some (Value.bool h.up) = _; rw [hu]); have c5 : World.cell? w1 ⟨w.heap.size + 1, 5, none⟩ = some (.int .i64 0) := (A.cell 5).trans (by show some (Value.int .i64 h.at_) = _; rw [ha]); have c1 : World.cell? w1 ⟨w.heap.size + 1, 1, none⟩ = some (.bool false) := (A.cell 1).trans (by show some (Value.bool h.inn) = _; rw [hi]); have c12 : World.cell? w1 ⟨w.heap.size + 1, 12, none⟩ = some (.int .i64 h.last) := A.cell 12)
    | (refine loadHg rfl (.tmp 9) rfl (w.heap.size + 1) h rfl A ?_)
    | (go_at_call 28; refine (sResting h _).mono ?_; rintro e w1 ⟨rfl, hb⟩; clear d0 d1 d2 d3 d4 c0 c5 c1 c12; replace P := P.keep hb; replace A := A.keep hb; replace Z := Z.keep hb; replace z := z.trans (hb.mono z.size); clear hb; obtain ⟨d0, d1, d2, d3, d4⟩ := P.five; have c0 : World.cell? w1 ⟨w.heap.size + 1, 0, none⟩ = some (.bool true) := (A.cell 0).trans (by show some (Value.bool h.up) = _; rw [hu]); have c5 : World.cell? w1 ⟨w.heap.size + 1, 5, none⟩ = some (.int .i64 0) := (A.cell 5).trans (by show some (Value.int .i64 h.at_) = _; rw [ha]); have c1 : World.cell? w1 ⟨w.heap.size + 1, 1, none⟩ = some (.bool false) := (A.cell 1).trans (by show some (Value.bool h.inn) = _; rw [hi]); have c12 : World.cell? w1 ⟨w.heap.size + 1, 12, none⟩ = some (.int .i64 h.last) := A.cell 12)
    | (refine newH rfl (.tmp 16) (.tmp 56) rfl h.resting rfl rfl rfl ?_; intro w3 G hb lt3; have hb3 := Z.lt; clear d0 d1 d2 d3 d4 c0 c5 c1 c12; replace Z := Z.keep hb; replace z := z.trans (hb.mono z.size)))
  clear hb lt3 P A
  obtain ⟨b3, e3⟩ : ∃ q, Hid (w1.heap.size = q) := ⟨_, rfl⟩
  rw [e3.out] at G hb3
  rw [e3.out]
  have r5 : w3.cell? ⟨b3, 5, none⟩ = some _ := (G.cell 5).trans rfl
  have g5 : w3.frozen? ⟨b3, 5, none⟩ = false := G.frozen 5
  have r6 : w3.cell? ⟨b3, 6, none⟩ = some _ := (G.cell 6).trans rfl
  have g6 : w3.frozen? ⟨b3, 6, none⟩ = false := G.frozen 6
  have r7 : w3.cell? ⟨b3, 7, none⟩ = some _ := (G.cell 7).trans rfl
  have g7 : w3.frozen? ⟨b3, 7, none⟩ = false := G.frozen 7
  have r8 : w3.cell? ⟨b3, 8, none⟩ = some _ := (G.cell 8).trans rfl
  have g8 : w3.frozen? ⟨b3, 8, none⟩ = false := G.frozen 8
  have r9 : w3.cell? ⟨b3, 9, none⟩ = some _ := (G.cell 9).trans rfl
  have g9 : w3.frozen? ⟨b3, 9, none⟩ = false := G.frozen 9
  have r11 : w3.cell? ⟨b3, 11, none⟩ = some _ := (G.cell 11).trans rfl
  have g11 : w3.frozen? ⟨b3, 11, none⟩ = false := G.frozen 11
  go_upto_region 20 with fail
  refine wp_at (fun W => At W b3 (h.mid slot 1 a b d).ar 31 ∧ At W (w.heap.size + 2) Hd.zero.ar 31 ∧ Below w.heap.size w W) (by
    refine ⟨?_, ?_, ?_⟩
    · rw [← mid_ar]; exact (((((G.set 6 _).set 7 _).set 8 _).set 9 _).set 11 _).set 5 _
    · exact (((((Z.other (show w.heap.size + 2 ≠ b3 by omega) _).other (show w.heap.size + 2 ≠ b3 by omega) _).other (show w.heap.size + 2 ≠ b3 by omega) _).other (show w.heap.size + 2 ≠ b3 by omega) _).other (show w.heap.size + 2 ≠ b3 by omega) _).other (show w.heap.size + 2 ≠ b3 by omega) _
    · exact putsC 5 _ (by omega) (putsC 11 _ (by omega) (putsC 9 _ (by omega) (putsC 8 _ (by omega) (putsC 7 _ (by omega) (putsC 6 _ (by omega) z)))))) ?_
  clear r5 g5 r6 g6 r7 g7 r8 g8 r9 g9 r11 g11 G Z z
  rintro W3 ⟨G, Z, z⟩
  have r5 : W3.cell? ⟨b3, 5, none⟩ = some _ := (G.cell 5).trans rfl
  have g5 : W3.frozen? ⟨b3, 5, none⟩ = false := G.frozen 5
  have r26 : W3.cell? ⟨b3, 26, none⟩ = some _ := (G.cell 26).trans rfl
  have g26 : W3.frozen? ⟨b3, 26, none⟩ = false := G.frozen 26
  go_upto_region 23 with fail
  refine wp_at (fun W => At W b3 (h.begun slot 1 a b d).ar 31 ∧ At W (w.heap.size + 2) Hd.zero.ar 31 ∧ Below w.heap.size w W) (by
    refine ⟨?_, ?_, ?_⟩
    · rw [← start_ar]; exact (G.set 5 _).set 26 _
    · exact (Z.other (show w.heap.size + 2 ≠ b3 by omega) _).other (show w.heap.size + 2 ≠ b3 by omega) _
    · exact putsC 26 _ (by omega) (putsC 5 _ (by omega) z)) ?_
  clear r5 g5 r26 g26 G Z z
  rintro W4 ⟨G, Z, z⟩
  go_wp2_with (first
    | (refine loadHl rfl (.tmp 16) rfl b3 (h.begun slot 1 a b d) rfl G ?_)
    | (refine storeH rfl (.tmp 14) (.tmp 72) rfl (w.heap.size + 2) (h.begun slot 1 a b d) rfl rfl Z rfl ?_; intro W2 Z2 kk; replace z := z.trans (kk.below (show w.heap.size ≤ w.heap.size + 2 by omega) z.size)))
  exact bodyPost_ret (v := .tuple #[.agg (h.begun slot 1 a b d).ar, .int .i64 0]) (resH2 14 15 Tryd.results10 rfl rfl Z2) rfl ⟨rfl, z⟩
set_option maxHeartbeats 8000000 in
theorem sCaU2 (p s l c k slot : Int) (h : Hd) (code : Int) (a b d : Int) (ho : ok p s l c k = true) (hs : inB slot 0 (p - 1) = true) (hq : hOk p s l c k h = true) (hu : h.up = true) (ha : h.at_ = 0) (hi : h.inn = true) (hne : ¬ code = 1) (hf : fitsC p s l c k slot code a b d = false) (w : World) : Calls Tryd.prog 10 #[.agg #[.int .i64 p, .int .i64 s, .int .i64 l, .int .i64 c, .int .i64 k], .int .i64 slot, .agg h.ar, .int .i64 code, .int .i64 a, .int .i64 b, .int .i64 d] w fun e w' => e = .returned (.tuple #[.agg h.ar, .int .i64 4]) ∧ Below w.heap.size w w' := by
  go_enter Tryd.func10, Tryd.ntmps10
  go_upto_region 1 with fail
  refine wp_at (fun W => At W w.heap.size #[.int .i64 p, .int .i64 s, .int .i64 l, .int .i64 c, .int .i64 k] 25 ∧ At W (w.heap.size + 1) h.ar 31 ∧ At W (w.heap.size + 2) Hd.zero.ar 31 ∧ Below w.heap.size w W) (three_box w _ _ _ _ _ _) ?_
  rintro W ⟨P, A, Z, z⟩
  obtain ⟨d0, d1, d2, d3, d4⟩ := P.five
  have c0 : World.cell? W ⟨w.heap.size + 1, 0, none⟩ = some (.bool true) := (A.cell 0).trans (by show some (Value.bool h.up) = _; rw [hu])
  have c5 : World.cell? W ⟨w.heap.size + 1, 5, none⟩ = some (.int .i64 0) := (A.cell 5).trans (by show some (Value.int .i64 h.at_) = _; rw [ha])
  have c1 : World.cell? W ⟨w.heap.size + 1, 1, none⟩ = some (.bool true) := (A.cell 1).trans (by show some (Value.bool h.inn) = _; rw [hi])
  have c12 : World.cell? W ⟨w.heap.size + 1, 12, none⟩ = some (.int .i64 h.last) := A.cell 12
  go_wp2_with (first
    | (go_at_call 18; refine (sHas _ _ _ _ _ _ ho _).mono ?_; rintro e w1 ⟨rfl, hb⟩; rw [hs]; clear d0 d1 d2 d3 d4 c0 c5 c1 c12; replace P := P.keep hb; replace A := A.keep hb; replace Z := Z.keep hb; replace z := z.trans (hb.mono z.size); clear hb; obtain ⟨d0, d1, d2, d3, d4⟩ := P.five; have c0 : World.cell? w1 ⟨w.heap.size + 1, 0, none⟩ = some (.bool true) := (A.cell 0).trans (by show some (Value.bool h.up) = _; rw [hu]); have c5 : World.cell? w1 ⟨w.heap.size + 1, 5, none⟩ = some (.int .i64 0) := (A.cell 5).trans (by show some (Value.int .i64 h.at_) = _; rw [ha]); have c1 : World.cell? w1 ⟨w.heap.size + 1, 1, none⟩ = some (.bool true) := (A.cell 1).trans (by show some (Value.bool h.inn) = _; rw [hi]); have c12 : World.cell? w1 ⟨w.heap.size + 1, 12, none⟩ = some (.int .i64 h.last) := A.cell 12)
    | (go_at_call 27; refine (sHandOk p s l c k h _).mono ?_; rintro e w1 ⟨rfl, hb⟩; rw [hq]; clear d0 d1 d2 d3 d4 c0 c5 c1 c12; replace P := P.keep hb; replace A := A.keep hb; replace Z := Z.keep hb; replace z := z.trans (hb.mono z.size); clear hb; obtain ⟨d0, d1, d2, d3, d4⟩ := P.five; have c0 : World.cell? w1 ⟨w.heap.size + 1, 0, none⟩ = some (.bool true) := (A.cell 0).trans (by show some (Value.bool h.up) = _; rw [hu]); have c5 : World.cell? w1 ⟨w.heap.size + 1, 5, none⟩ = some (.int .i64 0) := (A.cell 5).trans (by show some (Value.int .i64 h.at_) = _; rw [ha]); have c1 : World.cell? w1 ⟨w.heap.size + 1, 1, none⟩ = some (.bool true) := (A.cell 1).trans (by show some (Value.bool h.inn) = _; rw [hi]); have c12 : World.cell? w1 ⟨w.heap.size + 1, 12, none⟩ = some (.int .i64 h.last) := A.cell 12)
    | (go_at_call 7; refine Calls.mono (sFits p s l c k slot code a b d _) ?_; rintro e w1 ⟨rfl, hb⟩; rw [hf]; clear d0 d1 d2 d3 d4 c0 c5 c1 c12; replace P := P.keep hb; replace A := A.keep hb; replace Z := Z.keep hb; replace z := z.trans (hb.mono z.size); clear hb; obtain ⟨d0, d1, d2, d3, d4⟩ := P.five; have c0 : World.cell? w1 ⟨w.heap.size + 1, 0, none⟩ = some (.bool true) := (A.cell 0).trans (by show some (Value.bool h.up) = _; rw [hu]); have c5 : World.cell? w1 ⟨w.heap.size + 1, 5, none⟩ = some (.int .i64 0) := (A.cell 5).trans (by show some (Value.int .i64 h.at_) = _; rw [ha]); have c1 : World.cell? w1 ⟨w.heap.size + 1, 1, none⟩ = some (.bool true) := (A.cell 1).trans (by show some (Value.bool h.inn) = _; rw [hi]); have c12 : World.cell? w1 ⟨w.heap.size + 1, 12, none⟩ = some (.int .i64 h.last) := A.cell 12)
    | (refine loadHg rfl (.tmp 9) rfl (w.heap.size + 1) h rfl A ?_)
    | (refine storeH rfl (.tmp 14) (.tmp 50) rfl (w.heap.size + 2) (h) rfl rfl Z rfl ?_; intro W2 Z2 kk; replace z := z.trans (kk.below (show w.heap.size ≤ w.heap.size + 2 by omega) z.size)))
  exact bodyPost_ret (v := .tuple #[.agg h.ar, .int .i64 4]) (resH2 14 15 Tryd.results10 rfl rfl Z2) rfl ⟨rfl, z⟩
set_option maxHeartbeats 8000000 in
theorem sCaP2 (p s l c k slot : Int) (h : Hd) (code : Int) (a b d : Int) (ho : ok p s l c k = true) (hs : inB slot 0 (p - 1) = true) (hq : hOk p s l c k h = true) (hu : h.up = true) (ha : h.at_ = 0) (hi : h.inn = true) (hne : ¬ code = 1) (hf : fitsC p s l c k slot code a b d = true) (hl : 1000000 < h.last) (w : World) : Calls Tryd.prog 10 #[.agg #[.int .i64 p, .int .i64 s, .int .i64 l, .int .i64 c, .int .i64 k], .int .i64 slot, .agg h.ar, .int .i64 code, .int .i64 a, .int .i64 b, .int .i64 d] w fun e w' => e = .returned (.tuple #[.agg h.ar, .int .i64 5]) ∧ Below w.heap.size w w' := by
  go_enter Tryd.func10, Tryd.ntmps10
  go_upto_region 1 with fail
  refine wp_at (fun W => At W w.heap.size #[.int .i64 p, .int .i64 s, .int .i64 l, .int .i64 c, .int .i64 k] 25 ∧ At W (w.heap.size + 1) h.ar 31 ∧ At W (w.heap.size + 2) Hd.zero.ar 31 ∧ Below w.heap.size w W) (three_box w _ _ _ _ _ _) ?_
  rintro W ⟨P, A, Z, z⟩
  obtain ⟨d0, d1, d2, d3, d4⟩ := P.five
  have c0 : World.cell? W ⟨w.heap.size + 1, 0, none⟩ = some (.bool true) := (A.cell 0).trans (by show some (Value.bool h.up) = _; rw [hu])
  have c5 : World.cell? W ⟨w.heap.size + 1, 5, none⟩ = some (.int .i64 0) := (A.cell 5).trans (by show some (Value.int .i64 h.at_) = _; rw [ha])
  have c1 : World.cell? W ⟨w.heap.size + 1, 1, none⟩ = some (.bool true) := (A.cell 1).trans (by show some (Value.bool h.inn) = _; rw [hi])
  have c12 : World.cell? W ⟨w.heap.size + 1, 12, none⟩ = some (.int .i64 h.last) := A.cell 12
  go_wp2_with (first
    | (go_at_call 18; refine (sHas _ _ _ _ _ _ ho _).mono ?_; rintro e w1 ⟨rfl, hb⟩; rw [hs]; clear d0 d1 d2 d3 d4 c0 c5 c1 c12; replace P := P.keep hb; replace A := A.keep hb; replace Z := Z.keep hb; replace z := z.trans (hb.mono z.size); clear hb; obtain ⟨d0, d1, d2, d3, d4⟩ := P.five; have c0 : World.cell? w1 ⟨w.heap.size + 1, 0, none⟩ = some (.bool true) := (A.cell 0).trans (by show some (Value.bool h.up) = _; rw [hu]); have c5 : World.cell? w1 ⟨w.heap.size + 1, 5, none⟩ = some (.int .i64 0) := (A.cell 5).trans (by show some (Value.int .i64 h.at_) = _; rw [ha]); have c1 : World.cell? w1 ⟨w.heap.size + 1, 1, none⟩ = some (.bool true) := (A.cell 1).trans (by show some (Value.bool h.inn) = _; rw [hi]); have c12 : World.cell? w1 ⟨w.heap.size + 1, 12, none⟩ = some (.int .i64 h.last) := A.cell 12)
    | (go_at_call 27; refine (sHandOk p s l c k h _).mono ?_; rintro e w1 ⟨rfl, hb⟩; rw [hq]; clear d0 d1 d2 d3 d4 c0 c5 c1 c12; replace P := P.keep hb; replace A := A.keep hb; replace Z := Z.keep hb; replace z := z.trans (hb.mono z.size); clear hb; obtain ⟨d0, d1, d2, d3, d4⟩ := P.five; have c0 : World.cell? w1 ⟨w.heap.size + 1, 0, none⟩ = some (.bool true) := (A.cell 0).trans (by show some (Value.bool h.up) = _; rw [hu]); have c5 : World.cell? w1 ⟨w.heap.size + 1, 5, none⟩ = some (.int .i64 0) := (A.cell 5).trans (by show some (Value.int .i64 h.at_) = _; rw [ha]); have c1 : World.cell? w1 ⟨w.heap.size + 1, 1, none⟩ = some (.bool true) := (A.cell 1).trans (by show some (Value.bool h.inn) = _; rw [hi]); have c12 : World.cell? w1 ⟨w.heap.size + 1, 12, none⟩ = some (.int .i64 h.last) := A.cell 12)
    | (go_at_call 7; refine Calls.mono (sFits p s l c k slot code a b d _) ?_; rintro e w1 ⟨rfl, hb⟩; rw [hf]; clear d0 d1 d2 d3 d4 c0 c5 c1 c12; replace P := P.keep hb; replace A := A.keep hb; replace Z := Z.keep hb; replace z := z.trans (hb.mono z.size); clear hb; obtain ⟨d0, d1, d2, d3, d4⟩ := P.five; have c0 : World.cell? w1 ⟨w.heap.size + 1, 0, none⟩ = some (.bool true) := (A.cell 0).trans (by show some (Value.bool h.up) = _; rw [hu]); have c5 : World.cell? w1 ⟨w.heap.size + 1, 5, none⟩ = some (.int .i64 0) := (A.cell 5).trans (by show some (Value.int .i64 h.at_) = _; rw [ha]); have c1 : World.cell? w1 ⟨w.heap.size + 1, 1, none⟩ = some (.bool true) := (A.cell 1).trans (by show some (Value.bool h.inn) = _; rw [hi]); have c12 : World.cell? w1 ⟨w.heap.size + 1, 12, none⟩ = some (.int .i64 h.last) := A.cell 12)
    | (refine loadHg rfl (.tmp 9) rfl (w.heap.size + 1) h rfl A ?_)
    | (refine storeH rfl (.tmp 14) (.tmp 54) rfl (w.heap.size + 2) (h) rfl rfl Z rfl ?_; intro W2 Z2 kk; replace z := z.trans (kk.below (show w.heap.size ≤ w.heap.size + 2 by omega) z.size)))
  exact bodyPost_ret (v := .tuple #[.agg h.ar, .int .i64 5]) (resH2 14 15 Tryd.results10 rfl rfl Z2) rfl ⟨rfl, z⟩
set_option maxHeartbeats 8000000 in
theorem sCaO2 (p s l c k slot : Int) (h : Hd) (code : Int) (a b d : Int) (ho : ok p s l c k = true) (hs : inB slot 0 (p - 1) = true) (hq : hOk p s l c k h = true) (hu : h.up = true) (ha : h.at_ = 0) (hi : h.inn = true) (hne : ¬ code = 1) (hf : fitsC p s l c k slot code a b d = true) (hl : ¬ 1000000 < h.last) (w : World) : Calls Tryd.prog 10 #[.agg #[.int .i64 p, .int .i64 s, .int .i64 l, .int .i64 c, .int .i64 k], .int .i64 slot, .agg h.ar, .int .i64 code, .int .i64 a, .int .i64 b, .int .i64 d] w fun e w' => e = .returned (.tuple #[.agg (h.begun slot code a b d).ar, .int .i64 0]) ∧ Below w.heap.size w w' := by
  go_enter Tryd.func10, Tryd.ntmps10
  go_upto_region 1 with fail
  refine wp_at (fun W => At W w.heap.size #[.int .i64 p, .int .i64 s, .int .i64 l, .int .i64 c, .int .i64 k] 25 ∧ At W (w.heap.size + 1) h.ar 31 ∧ At W (w.heap.size + 2) Hd.zero.ar 31 ∧ Below w.heap.size w W) (three_box w _ _ _ _ _ _) ?_
  rintro W ⟨P, A, Z, z⟩
  obtain ⟨d0, d1, d2, d3, d4⟩ := P.five
  have c0 : World.cell? W ⟨w.heap.size + 1, 0, none⟩ = some (.bool true) := (A.cell 0).trans (by show some (Value.bool h.up) = _; rw [hu])
  have c5 : World.cell? W ⟨w.heap.size + 1, 5, none⟩ = some (.int .i64 0) := (A.cell 5).trans (by show some (Value.int .i64 h.at_) = _; rw [ha])
  have c1 : World.cell? W ⟨w.heap.size + 1, 1, none⟩ = some (.bool true) := (A.cell 1).trans (by show some (Value.bool h.inn) = _; rw [hi])
  have c12 : World.cell? W ⟨w.heap.size + 1, 12, none⟩ = some (.int .i64 h.last) := A.cell 12
  go_upto_region 14 with (first
    | (go_at_call 18; refine (sHas _ _ _ _ _ _ ho _).mono ?_; rintro e w1 ⟨rfl, hb⟩; rw [hs]; clear d0 d1 d2 d3 d4 c0 c5 c1 c12; replace P := P.keep hb; replace A := A.keep hb; replace Z := Z.keep hb; replace z := z.trans (hb.mono z.size); clear hb; obtain ⟨d0, d1, d2, d3, d4⟩ := P.five; have c0 : World.cell? w1 ⟨w.heap.size + 1, 0, none⟩ = some (.bool true) := (A.cell 0).trans (by show some (Value.bool h.up) = _; rw [hu]); have c5 : World.cell? w1 ⟨w.heap.size + 1, 5, none⟩ = some (.int .i64 0) := (A.cell 5).trans (by show some (Value.int .i64 h.at_) = _; rw [ha]); have c1 : World.cell? w1 ⟨w.heap.size + 1, 1, none⟩ = some (.bool true) := (A.cell 1).trans (by show some (Value.bool h.inn) = _; rw [hi]); have c12 : World.cell? w1 ⟨w.heap.size + 1, 12, none⟩ = some (.int .i64 h.last) := A.cell 12)
    | (go_at_call 27; refine (sHandOk p s l c k h _).mono ?_; rintro e w1 ⟨rfl, hb⟩; rw [hq]; clear d0 d1 d2 d3 d4 c0 c5 c1 c12; replace P := P.keep hb; replace A := A.keep hb; replace Z := Z.keep hb; replace z := z.trans (hb.mono z.size); clear hb; obtain ⟨d0, d1, d2, d3, d4⟩ := P.five; have c0 : World.cell? w1 ⟨w.heap.size + 1, 0, none⟩ = some (.bool true) := (A.cell 0).trans (by show some (Value.bool h.up) = _; rw [hu]); have c5 : World.cell? w1 ⟨w.heap.size + 1, 5, none⟩ = some (.int .i64 0) := (A.cell 5).trans (by show some (Value.int .i64 h.at_) = _; rw [ha]); have c1 : World.cell? w1 ⟨w.heap.size + 1, 1, none⟩ = some (.bool true) := (A.cell 1).trans (by show some (Value.bool h.inn) = _; rw [hi]); have c12 : World.cell? w1 ⟨w.heap.size + 1, 12, none⟩ = some (.int .i64 h.last) := A.cell 12)
    | (go_at_call 7; refine Calls.mono (sFits p s l c k slot code a b d _) ?_; rintro e w1 ⟨rfl, hb⟩; rw [hf]; clear d0 d1 d2 d3 d4 c0 c5 c1 c12; replace P := P.keep hb; replace A := A.keep hb; replace Z := Z.keep hb; replace z := z.trans (hb.mono z.size); clear hb; obtain ⟨d0, d1, d2, d3, d4⟩ := P.five; have c0 : World.cell? w1 ⟨w.heap.size + 1, 0, none⟩ = some (.bool true) := (A.cell 0).trans (by show some (Value.bool h.up) = _; rw [hu]); have c5 : World.cell? w1 ⟨w.heap.size + 1, 5, none⟩ = some (.int .i64 0) := (A.cell 5).trans (by show some (Value.int .i64 h.at_) = _; rw [ha]); have c1 : World.cell? w1 ⟨w.heap.size + 1, 1, none⟩ = some (.bool true) := (A.cell 1).trans (by show some (Value.bool h.inn) = _; rw [hi]); have c12 : World.cell? w1 ⟨w.heap.size + 1, 12, none⟩ = some (.int .i64 h.last) := A.cell 12)
    | (refine loadHg rfl (.tmp 9) rfl (w.heap.size + 1) h rfl A ?_)
    | (go_at_call 28; refine (sResting h _).mono ?_; rintro e w1 ⟨rfl, hb⟩; clear d0 d1 d2 d3 d4 c0 c5 c1 c12; replace P := P.keep hb; replace A := A.keep hb; replace Z := Z.keep hb; replace z := z.trans (hb.mono z.size); clear hb; obtain ⟨d0, d1, d2, d3, d4⟩ := P.five; have c0 : World.cell? w1 ⟨w.heap.size + 1, 0, none⟩ = some (.bool true) := (A.cell 0).trans (by show some (Value.bool h.up) = _; rw [hu]); have c5 : World.cell? w1 ⟨w.heap.size + 1, 5, none⟩ = some (.int .i64 0) := (A.cell 5).trans (by show some (Value.int .i64 h.at_) = _; rw [ha]); have c1 : World.cell? w1 ⟨w.heap.size + 1, 1, none⟩ = some (.bool true) := (A.cell 1).trans (by show some (Value.bool h.inn) = _; rw [hi]); have c12 : World.cell? w1 ⟨w.heap.size + 1, 12, none⟩ = some (.int .i64 h.last) := A.cell 12)
    | (refine newH rfl (.tmp 16) (.tmp 56) rfl h.resting rfl rfl rfl ?_; intro w3 G hb lt3; have hb3 := Z.lt; clear d0 d1 d2 d3 d4 c0 c5 c1 c12; replace Z := Z.keep hb; replace z := z.trans (hb.mono z.size)))
  clear hb lt3 P A
  obtain ⟨b3, e3⟩ : ∃ q, Hid (w1.heap.size = q) := ⟨_, rfl⟩
  rw [e3.out] at G hb3
  rw [e3.out]
  have r5 : w3.cell? ⟨b3, 5, none⟩ = some _ := (G.cell 5).trans rfl
  have g5 : w3.frozen? ⟨b3, 5, none⟩ = false := G.frozen 5
  have r6 : w3.cell? ⟨b3, 6, none⟩ = some _ := (G.cell 6).trans rfl
  have g6 : w3.frozen? ⟨b3, 6, none⟩ = false := G.frozen 6
  have r7 : w3.cell? ⟨b3, 7, none⟩ = some _ := (G.cell 7).trans rfl
  have g7 : w3.frozen? ⟨b3, 7, none⟩ = false := G.frozen 7
  have r8 : w3.cell? ⟨b3, 8, none⟩ = some _ := (G.cell 8).trans rfl
  have g8 : w3.frozen? ⟨b3, 8, none⟩ = false := G.frozen 8
  have r9 : w3.cell? ⟨b3, 9, none⟩ = some _ := (G.cell 9).trans rfl
  have g9 : w3.frozen? ⟨b3, 9, none⟩ = false := G.frozen 9
  have r11 : w3.cell? ⟨b3, 11, none⟩ = some _ := (G.cell 11).trans rfl
  have g11 : w3.frozen? ⟨b3, 11, none⟩ = false := G.frozen 11
  go_upto_region 20 with fail
  refine wp_at (fun W => At W b3 (h.mid slot code a b d).ar 31 ∧ At W (w.heap.size + 2) Hd.zero.ar 31 ∧ Below w.heap.size w W) (by
    refine ⟨?_, ?_, ?_⟩
    · rw [← mid_ar]; exact (((((G.set 6 _).set 7 _).set 8 _).set 9 _).set 11 _).set 5 _
    · exact (((((Z.other (show w.heap.size + 2 ≠ b3 by omega) _).other (show w.heap.size + 2 ≠ b3 by omega) _).other (show w.heap.size + 2 ≠ b3 by omega) _).other (show w.heap.size + 2 ≠ b3 by omega) _).other (show w.heap.size + 2 ≠ b3 by omega) _).other (show w.heap.size + 2 ≠ b3 by omega) _
    · exact putsC 5 _ (by omega) (putsC 11 _ (by omega) (putsC 9 _ (by omega) (putsC 8 _ (by omega) (putsC 7 _ (by omega) (putsC 6 _ (by omega) z)))))) ?_
  clear r5 g5 r6 g6 r7 g7 r8 g8 r9 g9 r11 g11 G Z z
  rintro W3 ⟨G, Z, z⟩
  go_wp2_with (first
    | (refine loadHl rfl (.tmp 16) rfl b3 (h.mid slot code a b d) rfl G ?_)
    | (refine storeH rfl (.tmp 14) (.tmp 72) rfl (w.heap.size + 2) (h.mid slot code a b d) rfl rfl Z rfl ?_; intro W2 Z2 kk; replace z := z.trans (kk.below (show w.heap.size ≤ w.heap.size + 2 by omega) z.size)))
  exact bodyPost_ret (v := .tuple #[.agg (h.mid slot code a b d).ar, .int .i64 0]) (resH2 14 15 Tryd.results10 rfl rfl Z2) rfl ⟨by rw [begun_n hne], z⟩
theorem sCalled (p s l c k slot : Int) (h : Hd) (code a b d : Int) (w : World) : Calls Tryd.prog 10 #[.agg #[.int .i64 p, .int .i64 s, .int .i64 l, .int .i64 c, .int .i64 k], .int .i64 slot, .agg h.ar, .int .i64 code, .int .i64 a, .int .i64 b, .int .i64 d] w fun e w' => e = .returned (.tuple #[.agg (caH p s l c k slot h code a b d).ar, .int .i64 (cdOf p s l c k slot h code a b d)]) ∧ Below w.heap.size w w' := by
  cases ho : ok p s l c k with
  | false =>
    have e : cdOf p s l c k slot h code a b d = 6 := by unfold cdOf; rw [if_neg (by rw [ho]; simp)]
    have e2 : caH p s l c k slot h code a b d = Hd.zero := by unfold caH; rw [e]; rfl
    rw [e, e2]
    exact sCa1 p s l c k slot h code a b d ho w
  | true =>
    cases hs : inB slot 0 (p - 1) with
    | false =>
      have e : cdOf p s l c k slot h code a b d = 6 := by unfold cdOf; rw [if_neg (by rw [hs]; simp)]
      have e2 : caH p s l c k slot h code a b d = Hd.zero := by unfold caH; rw [e]; rfl
      rw [e, e2]
      exact sCa2 p s l c k slot h code a b d ho hs w
    | true =>
      cases hq : hOk p s l c k h with
      | false =>
        have e : cdOf p s l c k slot h code a b d = 6 := by unfold cdOf; rw [if_neg (by rw [hq]; simp)]
        have e2 : caH p s l c k slot h code a b d = Hd.zero := by unfold caH; rw [e]; rfl
        rw [e, e2]
        exact sCa3 p s l c k slot h code a b d ho hs hq w
      | true =>
        have e0 : cdOf p s l c k slot h code a b d = if h.up = false then 1 else if ¬ h.at_ = 0 then 2 else if (h.inn = true ↔ code = 1) then 3 else if fitsC p s l c k slot code a b d = false then 4 else if 1000000 < h.last then 5 else 0 := by unfold cdOf; rw [if_pos ⟨ho, hs, hq⟩]
        cases hu : h.up with
        | false =>
          have e : cdOf p s l c k slot h code a b d = 1 := by rw [e0, if_pos hu]
          have e2 : caH p s l c k slot h code a b d = h := by unfold caH; rw [e]; rfl
          rw [e, e2]
          exact sCaD p s l c k slot h code a b d ho hs hq hu w
        | true =>
          rw [if_neg (by rw [hu]; simp)] at e0
          by_cases ha : h.at_ = 0
          · rw [if_neg (by rw [ha]; simp)] at e0
            by_cases hc : code = 1
            · subst hc
              cases hi : h.inn with
              | true =>
                have e : cdOf p s l c k slot h 1 a b d = 3 := by rw [e0, if_pos (by rw [hi]; simp)]
                have e2 : caH p s l c k slot h 1 a b d = h := by unfold caH; rw [e]; rfl
                rw [e, e2]
                exact sCaS1 p s l c k slot h a b d ho hs hq hu ha hi w
              | false =>
                rw [if_neg (by rw [hi]; simp)] at e0
                cases hf : fitsC p s l c k slot 1 a b d with
                | false =>
                  have e : cdOf p s l c k slot h 1 a b d = 4 := by rw [e0, if_pos hf]
                  have e2 : caH p s l c k slot h 1 a b d = h := by unfold caH; rw [e]; rfl
                  rw [e, e2]
                  exact sCaU1 p s l c k slot h a b d ho hs hq hu ha hi hf w
                | true =>
                  rw [if_neg (by rw [hf]; simp)] at e0
                  by_cases hl : 1000000 < h.last
                  · have e : cdOf p s l c k slot h 1 a b d = 5 := by rw [e0, if_pos hl]
                    have e2 : caH p s l c k slot h 1 a b d = h := by unfold caH; rw [e]; rfl
                    rw [e, e2]
                    exact sCaP1 p s l c k slot h a b d ho hs hq hu ha hi hf hl w
                  · have e : cdOf p s l c k slot h 1 a b d = 0 := by rw [e0, if_neg hl]
                    have e2 : caH p s l c k slot h 1 a b d = h.begun slot 1 a b d := by unfold caH; rw [e]; rfl
                    rw [e, e2]
                    exact sCaO1 p s l c k slot h a b d ho hs hq hu ha hi hf hl w
            · cases hi : h.inn with
              | false =>
                have e : cdOf p s l c k slot h code a b d = 3 := by rw [e0, if_pos (by rw [hi]; simp [hc])]
                have e2 : caH p s l c k slot h code a b d = h := by unfold caH; rw [e]; rfl
                rw [e, e2]
                exact sCaS2 p s l c k slot h code a b d ho hs hq hu ha hi hc w
              | true =>
                rw [if_neg (by rw [hi]; simp [hc])] at e0
                cases hf : fitsC p s l c k slot code a b d with
                | false =>
                  have e : cdOf p s l c k slot h code a b d = 4 := by rw [e0, if_pos hf]
                  have e2 : caH p s l c k slot h code a b d = h := by unfold caH; rw [e]; rfl
                  rw [e, e2]
                  exact sCaU2 p s l c k slot h code a b d ho hs hq hu ha hi hc hf w
                | true =>
                  rw [if_neg (by rw [hf]; simp)] at e0
                  by_cases hl : 1000000 < h.last
                  · have e : cdOf p s l c k slot h code a b d = 5 := by rw [e0, if_pos hl]
                    have e2 : caH p s l c k slot h code a b d = h := by unfold caH; rw [e]; rfl
                    rw [e, e2]
                    exact sCaP2 p s l c k slot h code a b d ho hs hq hu ha hi hc hf hl w
                  · have e : cdOf p s l c k slot h code a b d = 0 := by rw [e0, if_neg hl]
                    have e2 : caH p s l c k slot h code a b d = h.begun slot code a b d := by unfold caH; rw [e]; rfl
                    rw [e, e2]
                    exact sCaO2 p s l c k slot h code a b d ho hs hq hu ha hi hc hf hl w
          · have e : cdOf p s l c k slot h code a b d = 2 := by rw [e0, if_pos ha]
            have e2 : caH p s l c k slot h code a b d = h := by unfold caH; rw [e]; rfl
            rw [e, e2]
            exact sCaB p s l c k slot h code a b d ho hs hq hu ha w
end Go.Proofs.YtooljeddnfkphaaDoor
