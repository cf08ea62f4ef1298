/-
  Whether a hand is right: the specification's side.
-/
import Derived.Test.YtooljeddnfkphaaDoorHan6
import Derived.Test.YtooljeddnfkphaaDoorHan7
namespace Go.Proofs.YtooljeddnfkphaaDoor
open Go.RowKit
set_option linter.unusedVariables false
theorem loadHg {ops : Array Oper} {rest : List Oper} {op : Oper} {a : Act} {w : World} {Q : Exit → Act → World → Prop} (hgd : Region.wanted op (yielded ops a.tmps) = true) (x : Operand) (ho : op.op = .load 31 x)
    (b : Nat) (k : Hd) (hx : a.eval x = .pointer (some ⟨b, 0, none⟩)) {t : TypeId} (Z : At w b k.ar t)
    (h : wpList Tryd.prog ops Q rest (a.put op.dst (.agg k.ar)) w) : wpList Tryd.prog ops Q (op :: rest) a w :=
  BigFrame.wpList_want hgd fun K hK => wp_load_mid 31 x ho b 0 hx k.vs _ Z.range Tryd.underlying31 rfl infoH (hK _ _ h)
noncomputable def hOk (p s l c k : Int) (h : Hd) : Bool := ok p s l c k && inB h.life 0 65535 && (if h.up = true then decide (1 ≤ h.life) && h.own p && h.swap p s l c && h.was else h.same h.downed)
set_option maxHeartbeats 8000000 in
theorem sHandOkN (p s l c k : Int) (h : Hd) (ho : ok p s l c k = false) (w : World) : Calls Tryd.prog 27 #[.agg #[.int .i64 p, .int .i64 s, .int .i64 l, .int .i64 c, .int .i64 k], .agg h.ar] w fun e w' => e = .returned (.bool false) ∧ Below w.heap.size w w' := by
  go_enter Tryd.func27, Tryd.ntmps27
  go_upto_region 1 with fail
  refine wp_at (fun W => At W w.heap.size #[.int .i64 p, .int .i64 s, .int .i64 l, .int .i64 c, .int .i64 k] 25 ∧ At W (w.heap.size + 1) h.ar 31 ∧ Below w.heap.size w W) (two_box w _ _ _ _) ?_
  rintro W ⟨P, A, z⟩
  obtain ⟨d0, d1, d2, d3, d4⟩ := P.five
  go_wp2_with (first
    | (go_at_call 31; refine (sPlanOk _ _ _ _ _ _).mono ?_; rintro e w1 ⟨rfl, hb⟩; rw [ho]; clear d0 d1 d2 d3 d4; replace P := P.keep hb; replace A := A.keep hb; replace z := z.trans (hb.mono z.size); clear hb; obtain ⟨d0, d1, d2, d3, d4⟩ := P.five; have c4 : w1.cell? ⟨w.heap.size + 1, 4, none⟩ = some (.int .i64 h.life) := A.cell 4; have c0 : w1.cell? ⟨w.heap.size + 1, 0, none⟩ = some (.bool h.up) := (A.cell 0).trans (by show some (Value.bool h.up) = _; rfl)))
  go_returns
  exact ⟨rfl, z⟩
set_option maxHeartbeats 8000000 in
theorem sHandOkL (p s l c k : Int) (h : Hd) (ho : ok p s l c k = true) (hl : inB h.life 0 65535 = false) (w : World) : Calls Tryd.prog 27 #[.agg #[.int .i64 p, .int .i64 s, .int .i64 l, .int .i64 c, .int .i64 k], .agg h.ar] w fun e w' => e = .returned (.bool false) ∧ Below w.heap.size w w' := by
  go_enter Tryd.func27, Tryd.ntmps27
  go_upto_region 1 with fail
  refine wp_at (fun W => At W w.heap.size #[.int .i64 p, .int .i64 s, .int .i64 l, .int .i64 c, .int .i64 k] 25 ∧ At W (w.heap.size + 1) h.ar 31 ∧ Below w.heap.size w W) (two_box w _ _ _ _) ?_
  rintro W ⟨P, A, z⟩
  obtain ⟨d0, d1, d2, d3, d4⟩ := P.five
  go_wp2_with (first
    | (go_at_call 31; refine (sPlanOk _ _ _ _ _ _).mono ?_; rintro e w1 ⟨rfl, hb⟩; rw [ho]; clear d0 d1 d2 d3 d4; replace P := P.keep hb; replace A := A.keep hb; replace z := z.trans (hb.mono z.size); clear hb; obtain ⟨d0, d1, d2, d3, d4⟩ := P.five; have c4 : w1.cell? ⟨w.heap.size + 1, 4, none⟩ = some (.int .i64 h.life) := A.cell 4; have c0 : w1.cell? ⟨w.heap.size + 1, 0, none⟩ = some (.bool h.up) := (A.cell 0).trans (by show some (Value.bool h.up) = _; rfl))
    | (go_at_call 19; refine (sIn _ _ _ _).mono ?_; rintro e w2 ⟨rfl, rfl⟩; rw [hl]))
  go_returns
  exact ⟨rfl, z⟩
set_option maxHeartbeats 8000000 in
theorem sHandOkD (p s l c k : Int) (h : Hd) (ho : ok p s l c k = true) (hl : inB h.life 0 65535 = true) (hu : h.up = false) (w : World) : Calls Tryd.prog 27 #[.agg #[.int .i64 p, .int .i64 s, .int .i64 l, .int .i64 c, .int .i64 k], .agg h.ar] w fun e w' => e = .returned (.bool (h.same h.downed)) ∧ Below w.heap.size w w' := by
  go_enter Tryd.func27, Tryd.ntmps27
  go_upto_region 1 with fail
  refine wp_at (fun W => At W w.heap.size #[.int .i64 p, .int .i64 s, .int .i64 l, .int .i64 c, .int .i64 k] 25 ∧ At W (w.heap.size + 1) h.ar 31 ∧ Below w.heap.size w W) (two_box w _ _ _ _) ?_
  rintro W ⟨P, A, z⟩
  obtain ⟨d0, d1, d2, d3, d4⟩ := P.five
  go_wp2_with (first
    | (go_at_call 31; refine (sPlanOk _ _ _ _ _ _).mono ?_; rintro e w1 ⟨rfl, hb⟩; rw [ho]; clear d0 d1 d2 d3 d4; replace P := P.keep hb; replace A := A.keep hb; replace z := z.trans (hb.mono z.size); clear hb; obtain ⟨d0, d1, d2, d3, d4⟩ := P.five; have c4 : w1.cell? ⟨w.heap.size + 1, 4, none⟩ = some (.int .i64 h.life) := A.cell 4; have c0 : w1.cell? ⟨w.heap.size + 1, 0, none⟩ = some (.bool false) := (A.cell 0).trans (by show some (Value.bool h.up) = _; rw [hu]))
    | (go_at_call 19; refine (sIn _ _ _ _).mono ?_; rintro e w2 ⟨rfl, rfl⟩; rw [hl])
    | (refine loadHl rfl (.tmp 3) rfl (w.heap.size + 1) h rfl A ?_)
    | (refine wpList_built rfl 31 #[(4, .tmp 19)] rfl [(4, .int .i64 h.life)] rfl _ (bDowned h) ?_)
    | (refine wpList_eqH rfl (.tmp 17) (.tmp 20) rfl h h.downed rfl rfl ?_))
  go_returns
  exact ⟨rfl, z⟩
set_option maxHeartbeats 16000000 in
theorem sHandOkU (p s l c k : Int) (h : Hd) (ho : ok p s l c k = true) (hl : inB h.life 0 65535 = true) (hu : h.up = true) (w : World) : Calls Tryd.prog 27 #[.agg #[.int .i64 p, .int .i64 s, .int .i64 l, .int .i64 c, .int .i64 k], .agg h.ar] w fun e w' => e = .returned (.bool (decide (1 ≤ h.life) && h.own p && h.swap p s l c && h.was)) ∧ Below w.heap.size w w' := by
  obtain ⟨x1, e1⟩ : ∃ x, Hid (h.own p = x) := ⟨_, rfl⟩
  obtain ⟨x2, e2⟩ : ∃ x, Hid (h.swap p s l c = x) := ⟨_, rfl⟩
  obtain ⟨x3, e3⟩ : ∃ x, Hid (h.was = x) := ⟨_, rfl⟩
  rw [e1.out, e2.out, e3.out]
  go_enter Tryd.func27, Tryd.ntmps27
  go_upto_region 1 with fail
  refine wp_at (fun W => At W w.heap.size #[.int .i64 p, .int .i64 s, .int .i64 l, .int .i64 c, .int .i64 k] 25 ∧ At W (w.heap.size + 1) h.ar 31 ∧ Below w.heap.size w W) (two_box w _ _ _ _) ?_
  rintro W ⟨P, A, z⟩
  obtain ⟨d0, d1, d2, d3, d4⟩ := P.five
  go_upto_region 5 with (first
    | (go_at_call 31; refine (sPlanOk _ _ _ _ _ _).mono ?_; rintro e w1 ⟨rfl, hb⟩; rw [ho]; clear d0 d1 d2 d3 d4; replace P := P.keep hb; replace A := A.keep hb; replace z := z.trans (hb.mono z.size); clear hb; obtain ⟨d0, d1, d2, d3, d4⟩ := P.five; have c4 : w1.cell? ⟨w.heap.size + 1, 4, none⟩ = some (.int .i64 h.life) := A.cell 4; have c0 : w1.cell? ⟨w.heap.size + 1, 0, none⟩ = some (.bool true) := (A.cell 0).trans (by show some (Value.bool h.up) = _; rw [hu]))
    | (go_at_call 19; refine (sIn _ _ _ _).mono ?_; rintro e w2 ⟨rfl, rfl⟩; rw [hl]))
  by_cases hf : 1 ≤ h.life
  · have hf' : decide (1 ≤ h.life) = true := decide_eq_true hf
    cases x1 with
    | true =>
      cases x2 with
      | true =>
        go_wp2_with (first
          | (refine loadHg rfl (.tmp 3) rfl (w.heap.size + 1) h rfl A ?_)
          | (go_at_call 35; refine (sOwn _ _ _ _ _ _ ho _).mono ?_; rintro e w3 ⟨rfl, hb⟩; rw [e1.out]; clear d0 d1 d2 d3 d4; replace P := P.keep hb; replace A := A.keep hb; replace z := z.trans (hb.mono z.size); clear hb; obtain ⟨d0, d1, d2, d3, d4⟩ := P.five)
          | (go_at_call 36; refine (sSwp _ _ _ _ _ _ ho _).mono ?_; rintro e w3 ⟨rfl, hb⟩; rw [e2.out]; clear d0 d1 d2 d3 d4; replace P := P.keep hb; replace A := A.keep hb; replace z := z.trans (hb.mono z.size); clear hb; obtain ⟨d0, d1, d2, d3, d4⟩ := P.five)
          | (go_at_call 37; refine (sWas _ _).mono ?_; rintro e w3 ⟨rfl, hb⟩; rw [e3.out]; clear d0 d1 d2 d3 d4; replace P := P.keep hb; replace A := A.keep hb; replace z := z.trans (hb.mono z.size); clear hb; obtain ⟨d0, d1, d2, d3, d4⟩ := P.five))
        go_returns
        exact ⟨by rw [hf']; rfl, z⟩
      | false =>
        go_wp2_with (first
          | (refine loadHg rfl (.tmp 3) rfl (w.heap.size + 1) h rfl A ?_)
          | (go_at_call 35; refine (sOwn _ _ _ _ _ _ ho _).mono ?_; rintro e w3 ⟨rfl, hb⟩; rw [e1.out]; clear d0 d1 d2 d3 d4; replace P := P.keep hb; replace A := A.keep hb; replace z := z.trans (hb.mono z.size); clear hb; obtain ⟨d0, d1, d2, d3, d4⟩ := P.five)
          | (go_at_call 36; refine (sSwp _ _ _ _ _ _ ho _).mono ?_; rintro e w3 ⟨rfl, hb⟩; rw [e2.out]; clear d0 d1 d2 d3 d4; replace P := P.keep hb; replace A := A.keep hb; replace z := z.trans (hb.mono z.size); clear hb; obtain ⟨d0, d1, d2, d3, d4⟩ := P.five)
          | (go_at_call 37; refine (sWas _ _).mono ?_; rintro e w3 ⟨rfl, hb⟩; rw [e3.out]; clear d0 d1 d2 d3 d4; replace P := P.keep hb; replace A := A.keep hb; replace z := z.trans (hb.mono z.size); clear hb; obtain ⟨d0, d1, d2, d3, d4⟩ := P.five))
        go_returns
        exact ⟨by rw [hf']; rfl, z⟩
    | false =>
        go_wp2_with (first
          | (refine loadHg rfl (.tmp 3) rfl (w.heap.size + 1) h rfl A ?_)
          | (go_at_call 35; refine (sOwn _ _ _ _ _ _ ho _).mono ?_; rintro e w3 ⟨rfl, hb⟩; rw [e1.out]; clear d0 d1 d2 d3 d4; replace P := P.keep hb; replace A := A.keep hb; replace z := z.trans (hb.mono z.size); clear hb; obtain ⟨d0, d1, d2, d3, d4⟩ := P.five)
          | (go_at_call 36; refine (sSwp _ _ _ _ _ _ ho _).mono ?_; rintro e w3 ⟨rfl, hb⟩; rw [e2.out]; clear d0 d1 d2 d3 d4; replace P := P.keep hb; replace A := A.keep hb; replace z := z.trans (hb.mono z.size); clear hb; obtain ⟨d0, d1, d2, d3, d4⟩ := P.five)
          | (go_at_call 37; refine (sWas _ _).mono ?_; rintro e w3 ⟨rfl, hb⟩; rw [e3.out]; clear d0 d1 d2 d3 d4; replace P := P.keep hb; replace A := A.keep hb; replace z := z.trans (hb.mono z.size); clear hb; obtain ⟨d0, d1, d2, d3, d4⟩ := P.five))
        go_returns
        exact ⟨by rw [hf']; rfl, z⟩
  · have hf' : decide (1 ≤ h.life) = false := decide_eq_false hf
    go_wp2
    go_returns
    first | exact ⟨rfl, z⟩ | exact ⟨by rw [hf']; rfl, z⟩ | exact ⟨by simp [hf'], z⟩ | exact ⟨by simp, z⟩
theorem sHandOk (p s l c k : Int) (h : Hd) (w : World) : Calls Tryd.prog 27 #[.agg #[.int .i64 p, .int .i64 s, .int .i64 l, .int .i64 c, .int .i64 k], .agg h.ar] w fun e w' => e = .returned (.bool (hOk p s l c k h)) ∧ Below w.heap.size w w' := by
  unfold hOk
  cases ho : ok p s l c k with
  | false => exact sHandOkN p s l c k h ho w
  | true =>
    cases hl : inB h.life 0 65535 with
    | false => exact sHandOkL p s l c k h ho hl w
    | true =>
      cases hu : h.up with
      | false => exact sHandOkD p s l c k h ho hl hu w
      | true => exact sHandOkU p s l c k h ho hl hu w
end Go.Proofs.YtooljeddnfkphaaDoor
