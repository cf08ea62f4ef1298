/-
  Whether a hand is right: the program's side.
-/
import Derived.Test.YtooljeddnfkphaaDoorHan11
namespace Go.Proofs.YtooljeddnfkphaaDoor
open Go.RowKit
set_option linter.unusedVariables false
theorem newR {ops : Array Oper} {rest : List Oper} {op : Oper} {a : Act} {w : World} {Q : Exit → Act → World → Prop} {ty t : TypeId} {cs : Array Value} {vs : List Value} (hi : (Tryd.prog.info? ty).map (·.size) = some vs.length) (h1 : ∀ v ∈ vs, v.oneCell' = true) (hgd : op.guard = none) (x y : Operand) (ho : op.op = .store ty x y)
    (hx : a.eval x = .pointer (some ⟨w.heap.size, 0, none⟩)) (hy : a.eval y = .agg vs.toArray) (hs : cs.size = vs.length)
    (h : ∀ w', At w' w.heap.size vs.toArray t → Below w.heap.size w w' → wpList Tryd.prog ops Q rest (a.put op.dst undef) w') : wpList Tryd.prog ops Q (op :: rest) a (w.alloc (.cells cs t)) :=
  storeR hi h1 hgd x y ho w.heap.size hx hy (At.new w cs t) hs fun w' Z kk => h w' Z (((Below.refl _ _).alloc (Nat.le_refl _) _).trans (kk.below (Nat.le_refl _) (by simp)))
theorem sub_get (pre l post : List Value) (j : Nat) (v : Value) (hv : l[j]? = some v) : (pre ++ l ++ post).toArray[pre.length + j]? = some v := by
  have hj : j < l.length := (List.getElem?_eq_some_iff.1 hv).1
  simp only [List.getElem?_toArray, List.append_assoc]
  rw [List.getElem?_append_right (by omega), Nat.add_sub_cancel_left, List.getElem?_append_left hj, hv]
def Hd.tp (h : Hd) : List Value := [.bool h.up, .bool h.inn, .int .i64 h.life, .int .i64 h.at_, .int .i64 h.last, .int .i64 h.kept]
theorem Hd.in_cp (h : Hd) : ∀ j v, h.cp[j]? = some v → h.ps.toArray[6 + j]? = some v := fun j v hv => sub_get h.tp h.cp (h.sp ++ h.mp) j v hv
theorem Hd.in_sp (h : Hd) : ∀ j v, h.sp[j]? = some v → h.ps.toArray[17 + j]? = some v := fun j v hv => sub_get (h.tp ++ h.cp) h.sp h.mp j v hv
theorem Hd.in_mp (h : Hd) : ∀ j v, h.mp[j]? = some v → h.ps.toArray[27 + j]? = some v := fun j v hv => by
  have := sub_get (h.tp ++ h.cp ++ h.sp) h.mp [] j v hv
  rw [List.append_nil] at this
  exact this
theorem allUp_one {m x : Int} : allUp m [x] = inB x 0 m := by simp [allUp, inB]
theorem parts_eq (p s l c : Int) (h : Hd) (hl : inB h.life 0 65535 = true) : (h.aliveB && h.callB && h.swapB && h.mendB && h.placesB p s l c) = (decide (1 ≤ h.life) && h.own p && h.swap p s l c && h.was) := by
  rw [Bool.eq_iff_iff]
  unfold Hd.aliveB Hd.callB Hd.swapB Hd.mendB Hd.placesB Hd.own Hd.swap Hd.was
  simp only [inB, decide_eq_true_eq] at hl
  simp only [allUp, inB, List.all_cons, List.all_nil, Bool.and_true, Bool.and_eq_true, decide_eq_true_eq]
  constructor
  · intro hh
    repeat' apply And.intro
    all_goals omega
  · intro hh
    repeat' apply And.intro
    all_goals omega
set_option maxHeartbeats 8000000 in
theorem iHandOkN (p s l c k : Int) (h : Hd) (ho : ok p s l c k = false) (w : World) : Calls Tryd.prog 29 #[.agg #[.int .i64 p, .int .i64 s, .int .i64 l, .int .i64 c, .int .i64 k], .agg h.ar] w fun e w' => e = .returned (.bool false) ∧ Below w.heap.size w w' := by
  go_enter Tryd.func29, Tryd.ntmps29
  go_upto_region 1 with fail
  refine wp_at (fun W => At W w.heap.size #[.int .i64 p, .int .i64 s, .int .i64 l, .int .i64 c, .int .i64 k] 25 ∧ At W (w.heap.size + 1) h.ar 31 ∧ Below w.heap.size w W) (two_box w _ _ _ _) ?_
  rintro W ⟨P, A, z⟩
  obtain ⟨d0, d1, d2, d3, d4⟩ := P.five
  go_wp2_with (first
    | (go_at_call 23; refine (iPlanOk _ _ _ _ _ _).mono ?_; rintro e w1 ⟨rfl, hb⟩; rw [ho]; clear d0 d1 d2 d3 d4; replace P := P.keep hb; replace A := A.keep hb; replace z := z.trans (hb.mono z.size); clear hb; obtain ⟨d0, d1, d2, d3, d4⟩ := P.five; have c4 : World.cell? w1 ⟨w.heap.size + 1, 4, none⟩ = some (.int .i64 h.life) := A.cell 4; have c0 : World.cell? w1 ⟨w.heap.size + 1, 0, none⟩ = some (.bool h.up) := (A.cell 0).trans (by show some (Value.bool h.up) = _; rfl)))
  go_returns
  exact ⟨rfl, z⟩
set_option maxHeartbeats 8000000 in
theorem iHandOkL (p s l c k : Int) (h : Hd) (ho : ok p s l c k = true) (hl : allUp 65535 [h.life] = false) (w : World) : Calls Tryd.prog 29 #[.agg #[.int .i64 p, .int .i64 s, .int .i64 l, .int .i64 c, .int .i64 k], .agg h.ar] w fun e w' => e = .returned (.bool false) ∧ Below w.heap.size w w' := by
  go_enter Tryd.func29, Tryd.ntmps29
  go_upto_region 1 with fail
  refine wp_at (fun W => At W w.heap.size #[.int .i64 p, .int .i64 s, .int .i64 l, .int .i64 c, .int .i64 k] 25 ∧ At W (w.heap.size + 1) h.ar 31 ∧ Below w.heap.size w W) (two_box w _ _ _ _) ?_
  rintro W ⟨P, A, z⟩
  obtain ⟨d0, d1, d2, d3, d4⟩ := P.five
  go_wp2_with (first
    | (go_at_call 23; refine (iPlanOk _ _ _ _ _ _).mono ?_; rintro e w1 ⟨rfl, hb⟩; rw [ho]; clear d0 d1 d2 d3 d4; replace P := P.keep hb; replace A := A.keep hb; replace z := z.trans (hb.mono z.size); clear hb; obtain ⟨d0, d1, d2, d3, d4⟩ := P.five; have c4 : World.cell? w1 ⟨w.heap.size + 1, 4, none⟩ = some (.int .i64 h.life) := A.cell 4; have c0 : World.cell? w1 ⟨w.heap.size + 1, 0, none⟩ = some (.bool h.up) := (A.cell 0).trans (by show some (Value.bool h.up) = _; rfl))
    | (go_at_call 38; (with_reducible refine (iUpTo1 _ _ _ _).mono ?_); rintro e w1 ⟨rfl, hb⟩; rw [hl]; clear c4 c0; clear d0 d1 d2 d3 d4; replace P := P.keep hb; replace A := A.keep hb; replace z := z.trans (hb.mono z.size); clear hb; obtain ⟨d0, d1, d2, d3, d4⟩ := P.five; have c4 : World.cell? w1 ⟨w.heap.size + 1, 4, none⟩ = some (.int .i64 h.life) := A.cell 4; have c0 : World.cell? w1 ⟨w.heap.size + 1, 0, none⟩ = some (.bool h.up) := (A.cell 0).trans (by show some (Value.bool h.up) = _; rfl)))
  go_returns
  exact ⟨rfl, z⟩
set_option maxHeartbeats 8000000 in
theorem iHandOkD (p s l c k : Int) (h : Hd) (ho : ok p s l c k = true) (hl : allUp 65535 [h.life] = true) (hu : h.up = false) (w : World) : Calls Tryd.prog 29 #[.agg #[.int .i64 p, .int .i64 s, .int .i64 l, .int .i64 c, .int .i64 k], .agg h.ar] w fun e w' => e = .returned (.bool (h.same h.downed)) ∧ Below w.heap.size w w' := by
  go_enter Tryd.func29, Tryd.ntmps29
  go_upto_region 1 with fail
  refine wp_at (fun W => At W w.heap.size #[.int .i64 p, .int .i64 s, .int .i64 l, .int .i64 c, .int .i64 k] 25 ∧ At W (w.heap.size + 1) h.ar 31 ∧ Below w.heap.size w W) (two_box w _ _ _ _) ?_
  rintro W ⟨P, A, z⟩
  obtain ⟨d0, d1, d2, d3, d4⟩ := P.five
  go_upto_region 4 with (first
    | (go_at_call 23; refine (iPlanOk _ _ _ _ _ _).mono ?_; rintro e w1 ⟨rfl, hb⟩; rw [ho]; clear d0 d1 d2 d3 d4; replace P := P.keep hb; replace A := A.keep hb; replace z := z.trans (hb.mono z.size); clear hb; obtain ⟨d0, d1, d2, d3, d4⟩ := P.five; have c4 : World.cell? w1 ⟨w.heap.size + 1, 4, none⟩ = some (.int .i64 h.life) := A.cell 4; have c0 : World.cell? w1 ⟨w.heap.size + 1, 0, none⟩ = some (.bool false) := (A.cell 0).trans (by show some (Value.bool h.up) = _; rw [hu]))
    | (go_at_call 38; (with_reducible refine (iUpTo1 _ _ _ _).mono ?_); rintro e w1 ⟨rfl, hb⟩; rw [hl]; clear c4 c0; clear d0 d1 d2 d3 d4; replace P := P.keep hb; replace A := A.keep hb; replace z := z.trans (hb.mono z.size); clear hb; obtain ⟨d0, d1, d2, d3, d4⟩ := P.five; have c4 : World.cell? w1 ⟨w.heap.size + 1, 4, none⟩ = some (.int .i64 h.life) := A.cell 4; have c0 : World.cell? w1 ⟨w.heap.size + 1, 0, none⟩ = some (.bool false) := (A.cell 0).trans (by show some (Value.bool h.up) = _; rw [hu])))
  have lh : ∀ w', Cls w1 w' → (loadVar 31 ⟨w.heap.size + 1, 0, none⟩).run Tryd.prog w' = .ok (.agg h.ar) w' := ld_agg (vs := h.vs) A Tryd.underlying31 rfl (by kernel_rfl)
  refine wp_region_cls (by kernel_rfl) (by kernel_rfl) ?_
  repeat' (first
    | go_big_quiet_skip
    | (go_big_quiet_want; first
      | (refine q_load _ _ _ _ rfl rfl (by assumption) ?_; simp only [Act.put, List.setIfInBounds_toArray, List.set_cons_zero, List.set_cons_succ]; go_big_quiet_on)
      | (refine q_eqH (.tmp 19) (.tmp 21) rfl h h.downed rfl rfl ?_; simp only [Act.put, List.setIfInBounds_toArray, List.set_cons_zero, List.set_cons_succ]; go_big_quiet_on)
      | (go_big_quiet_op; first
        | go_big_quiet_on
        | (apply Exists.intro; refine ⟨fun w' hw' => ?_, ?_⟩
           · (first
             | (go_at_call 39; exact cls_below hw' (iDowned h _)))
           go_big_quiet_on))))
  refine wpQuiet_nil ?_
  intro w2 hw2
  go_wp2
  go_returns
  exact ⟨rfl, z.trans (hw2.below.mono z.size)⟩
set_option maxHeartbeats 16000000 in
theorem iHandOkU (p s l c k : Int) (h : Hd) (ho : ok p s l c k = true) (hl : allUp 65535 [h.life] = true) (hu : h.up = true) (w : World) : Calls Tryd.prog 29 #[.agg #[.int .i64 p, .int .i64 s, .int .i64 l, .int .i64 c, .int .i64 k], .agg h.ar] w fun e w' => e = .returned (.bool (h.aliveB && h.callB && h.swapB && h.mendB && h.placesB p s l c)) ∧ Below w.heap.size w w' := by
  go_enter Tryd.func29, Tryd.ntmps29
  go_upto_region 1 with fail
  refine wp_at (fun W => At W w.heap.size #[.int .i64 p, .int .i64 s, .int .i64 l, .int .i64 c, .int .i64 k] 25 ∧ At W (w.heap.size + 1) h.ar 31 ∧ Below w.heap.size w W) (two_box w _ _ _ _) ?_
  rintro W ⟨P, A, z⟩
  obtain ⟨d0, d1, d2, d3, d4⟩ := P.five
  go_upto_region 6 with (first
    | (go_at_call 23; refine (iPlanOk _ _ _ _ _ _).mono ?_; rintro e w1 ⟨rfl, hb⟩; rw [ho]; clear d0 d1 d2 d3 d4; replace P := P.keep hb; replace A := A.keep hb; replace z := z.trans (hb.mono z.size); clear hb; obtain ⟨d0, d1, d2, d3, d4⟩ := P.five; have c4 : World.cell? w1 ⟨w.heap.size + 1, 4, none⟩ = some (.int .i64 h.life) := A.cell 4; have c0 : World.cell? w1 ⟨w.heap.size + 1, 0, none⟩ = some (.bool true) := (A.cell 0).trans (by show some (Value.bool h.up) = _; rw [hu]))
    | (go_at_call 38; (with_reducible refine (iUpTo1 _ _ _ _).mono ?_); rintro e w1 ⟨rfl, hb⟩; rw [hl]; clear c4 c0; clear d0 d1 d2 d3 d4; replace P := P.keep hb; replace A := A.keep hb; replace z := z.trans (hb.mono z.size); clear hb; obtain ⟨d0, d1, d2, d3, d4⟩ := P.five; have c4 : World.cell? w1 ⟨w.heap.size + 1, 4, none⟩ = some (.int .i64 h.life) := A.cell 4; have c0 : World.cell? w1 ⟨w.heap.size + 1, 0, none⟩ = some (.bool true) := (A.cell 0).trans (by show some (Value.bool h.up) = _; rw [hu]))
    | (refine loadHl rfl (.tmp 3) rfl (w.heap.size + 1) h rfl A ?_)
    | (go_at_call 40; refine (iParts h _).mono ?_; rintro e w1 ⟨rfl, hb⟩; clear d0 d1 d2 d3 d4; replace P := P.keep hb; replace A := A.keep hb; replace z := z.trans (hb.mono z.size); clear hb; obtain ⟨d0, d1, d2, d3, d4⟩ := P.five; have c4 : World.cell? w1 ⟨w.heap.size + 1, 4, none⟩ = some (.int .i64 h.life) := A.cell 4; have c0 : World.cell? w1 ⟨w.heap.size + 1, 0, none⟩ = some (.bool true) := (A.cell 0).trans (by show some (Value.bool h.up) = _; rw [hu]))
    | (refine newR (vs := h.ps) (by kernel_rfl) h.ps_one rfl (.tmp 5) (.tmp 24) rfl rfl rfl rfl ?_; intro w2 Z hb; clear d0 d1 d2 d3 d4 c4 c0; replace P := P.keep hb; replace z := z.trans (hb.mono z.size); clear hb A; obtain ⟨d0, d1, d2, d3, d4⟩ := P.five))
  generalize w1.heap.size = b1 at *
  cases hm : h.mendB
  all_goals (go_wp2_with (first
    | (refine loadR h.ps Tryd.underlying68 rfl (by kernel_rfl) rfl (.tmp 5) rfl b1 0 rfl Z (fun j v hj => by rw [Nat.zero_add]; simpa using hj) ?_)
    | (refine loadR h.cp Tryd.underlying62 rfl (by kernel_rfl) rfl (.tmp 28) rfl b1 6 rfl Z h.in_cp ?_)
    | (refine loadR h.sp Tryd.underlying64 rfl (by kernel_rfl) rfl (.tmp 33) rfl b1 17 rfl Z h.in_sp ?_)
    | (refine loadR h.mp Tryd.underlying66 rfl (by kernel_rfl) rfl (.tmp 38) rfl b1 27 rfl Z h.in_mp ?_)
    | (go_at_call 41; refine (iAlive h _).mono ?_; rintro e w3 ⟨rfl, hb⟩; clear d0 d1 d2 d3 d4; replace P := P.keep hb; replace Z := Z.keep hb; replace z := z.trans (hb.mono z.size); clear hb; obtain ⟨d0, d1, d2, d3, d4⟩ := P.five)
    | (go_at_call 42; refine (iCall h _).mono ?_; rintro e w3 ⟨rfl, hb⟩; clear d0 d1 d2 d3 d4; replace P := P.keep hb; replace Z := Z.keep hb; replace z := z.trans (hb.mono z.size); clear hb; obtain ⟨d0, d1, d2, d3, d4⟩ := P.five)
    | (go_at_call 43; refine (iSwp h _).mono ?_; rintro e w3 ⟨rfl, hb⟩; clear d0 d1 d2 d3 d4; replace P := P.keep hb; replace Z := Z.keep hb; replace z := z.trans (hb.mono z.size); clear hb; obtain ⟨d0, d1, d2, d3, d4⟩ := P.five)
    | (go_at_call 44; refine (iMnd h _).mono ?_; rintro e w3 ⟨rfl, hb⟩; rw [hm]; clear d0 d1 d2 d3 d4; replace P := P.keep hb; replace Z := Z.keep hb; replace z := z.trans (hb.mono z.size); clear hb; obtain ⟨d0, d1, d2, d3, d4⟩ := P.five)
    | (go_at_call 45; refine (iPlaces p s l c k h ho _).mono ?_; rintro e w3 ⟨rfl, hb⟩; clear d0 d1 d2 d3 d4; replace P := P.keep hb; replace Z := Z.keep hb; replace z := z.trans (hb.mono z.size); clear hb; obtain ⟨d0, d1, d2, d3, d4⟩ := P.five)))
  all_goals go_returns
  all_goals refine ⟨ret_b ?_, z⟩
  all_goals simp_all
theorem iHandOk (p s l c k : Int) (h : Hd) (w : World) : Calls Tryd.prog 29 #[.agg #[.int .i64 p, .int .i64 s, .int .i64 l, .int .i64 c, .int .i64 k], .agg h.ar] w fun e w' => e = .returned (.bool (hOk p s l c k h)) ∧ Below w.heap.size w w' := by
  unfold hOk
  cases ho : ok p s l c k with
  | false => exact iHandOkN p s l c k h ho w
  | true =>
    cases hl : inB h.life 0 65535 with
    | false => exact iHandOkL p s l c k h ho (by rw [allUp_one]; exact hl) w
    | true =>
      cases hu : h.up with
      | false => exact iHandOkD p s l c k h ho (by rw [allUp_one]; exact hl) hu w
      | true =>
        have := iHandOkU p s l c k h ho (by rw [allUp_one]; exact hl) hu w
        rw [parts_eq p s l c h hl] at this
        exact this
end Go.Proofs.YtooljeddnfkphaaDoor
