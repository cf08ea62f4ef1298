/-
  Birth, on both sides.
-/
import Derived.Test.YtooljeddnfkphaaHan3
namespace Go.Proofs.Ytooljeddnfkphaa
open Go.RowKit
set_option linter.unusedVariables false
def Hd.born (h : Hd) : Hd := { Hd.zero with up := true, life := h.life + 1 }
def Hd.may (h : Hd) : Bool := decide (h.up = false ∧ 0 ≤ h.life ∧ h.life ≤ 65534)
def Hd.raised (h : Hd) : Hd := if h.may = true then h.born else h
theorem bBorn (h : Hd) : Try.prog.built 30 [(0, .bool true), (4, .int .i64 (h.life + 1))] = some h.born.ar := by kernel_rfl
theorem slices (W : World) (xs : List Int) (t : TypeId) (n : Nat) (hn : xs.length = n) : Hid (∀ i, i < n → (W.alloc (.cells (xs.map (Value.int .i64)).toArray t)).cell? ⟨W.heap.size, i, none⟩ = some (.int .i64 (xs.getD i 0))) := by
  show ∀ i, i < n → _
  intro i hi
  rw [(At.new W _ t).cell i]
  simp [hn, hi]
set_option maxHeartbeats 8000000 in
theorem sRaisedU (h : Hd) (hu : h.up = true) (w : World) : Calls Try.prog 10 #[.agg h.ar] w fun e w' => e = .returned (.tuple #[.agg h.ar, .bool false]) ∧ Below w.heap.size w w' := by
  go_enter Try.func10, Try.ntmps10
  go_upto_region 1 with fail
  refine wp_at (fun W => At W w.heap.size h.ar 30 ∧ At W (w.heap.size + 1) Hd.zero.ar 30 ∧ Below w.heap.size w W) (two_new w h.ar _ _) ?_
  rintro W ⟨A, Z, B⟩
  have c0 : W.cell? ⟨w.heap.size, 0, none⟩ = some (.bool true) := (A.cell 0).trans (by show some (Value.bool h.up) = _; rw [hu])
  have c4 : W.cell? ⟨w.heap.size, 4, none⟩ = some (.int .i64 h.life) := A.cell 4
  go_wp2_with (first
    | (refine loadHl rfl (.tmp 1) rfl w.heap.size h rfl A ?_)
    | (refine storeH rfl (.tmp 2) (.tmp 16) rfl (w.heap.size + 1) h rfl rfl Z rfl ?_; intro W2 Z2 kk; replace B := B.trans (kk.below (Nat.le_succ _) B.size)))
  exact bodyPost_ret (v := .tuple #[.agg h.ar, .bool false]) (resH2 2 3 Try.results10 rfl rfl Z2) rfl ⟨rfl, B⟩
set_option maxHeartbeats 8000000 in
theorem sRaisedY (h : Hd) (hu : h.up = false) (h0 : 0 ≤ h.life) (h1 : h.life ≤ 65534) (w : World) : Calls Try.prog 10 #[.agg h.ar] w fun e w' => e = .returned (.tuple #[.agg h.born.ar, .bool true]) ∧ Below w.heap.size w w' := by
  go_enter Try.func10, Try.ntmps10
  go_upto_region 1 with fail
  refine wp_at (fun W => At W w.heap.size h.ar 30 ∧ At W (w.heap.size + 1) Hd.zero.ar 30 ∧ Below w.heap.size w W) (two_new w h.ar _ _) ?_
  rintro W ⟨A, Z, B⟩
  have c0 : W.cell? ⟨w.heap.size, 0, none⟩ = some (.bool false) := (A.cell 0).trans (by show some (Value.bool h.up) = _; rw [hu])
  have c4 : W.cell? ⟨w.heap.size, 4, none⟩ = some (.int .i64 h.life) := A.cell 4
  go_wp2_with (first
    | (refine wpList_built rfl 30 #[(0, .const (.bool true)), (4, .tmp 19)] rfl [(0, .bool true), (4, .int .i64 (h.life + 1))] rfl h.born.ar (bBorn h) ?_)
    | (refine storeH rfl (.tmp 2) (.tmp 20) rfl (w.heap.size + 1) h.born rfl rfl Z rfl ?_; intro W2 Z2 kk; replace B := B.trans (kk.below (Nat.le_succ _) B.size)))
  exact bodyPost_ret (v := .tuple #[.agg h.born.ar, .bool true]) (resH2 2 3 Try.results10 rfl rfl Z2) rfl ⟨rfl, B⟩
set_option maxHeartbeats 8000000 in
theorem sRaisedL (h : Hd) (hu : h.up = false) (h0 : h.life < 0) (w : World) : Calls Try.prog 10 #[.agg h.ar] w fun e w' => e = .returned (.tuple #[.agg h.ar, .bool false]) ∧ Below w.heap.size w w' := by
  go_enter Try.func10, Try.ntmps10
  go_upto_region 1 with fail
  refine wp_at (fun W => At W w.heap.size h.ar 30 ∧ At W (w.heap.size + 1) Hd.zero.ar 30 ∧ Below w.heap.size w W) (two_new w h.ar _ _) ?_
  rintro W ⟨A, Z, B⟩
  have c0 : W.cell? ⟨w.heap.size, 0, none⟩ = some (.bool false) := (A.cell 0).trans (by show some (Value.bool h.up) = _; rw [hu])
  have c4 : W.cell? ⟨w.heap.size, 4, none⟩ = some (.int .i64 h.life) := A.cell 4
  go_wp2_with (first
    | (refine loadHl rfl (.tmp 1) rfl w.heap.size h rfl A ?_)
    | (refine storeH rfl (.tmp 2) (.tmp 16) rfl (w.heap.size + 1) h rfl rfl Z rfl ?_; intro W2 Z2 kk; replace B := B.trans (kk.below (Nat.le_succ _) B.size)))
  exact bodyPost_ret (v := .tuple #[.agg h.ar, .bool false]) (resH2 2 3 Try.results10 rfl rfl Z2) rfl ⟨rfl, B⟩
set_option maxHeartbeats 8000000 in
theorem sRaisedG (h : Hd) (hu : h.up = false) (h0 : 0 ≤ h.life) (h1 : 65534 < h.life) (w : World) : Calls Try.prog 10 #[.agg h.ar] w fun e w' => e = .returned (.tuple #[.agg h.ar, .bool false]) ∧ Below w.heap.size w w' := by
  go_enter Try.func10, Try.ntmps10
  go_upto_region 1 with fail
  refine wp_at (fun W => At W w.heap.size h.ar 30 ∧ At W (w.heap.size + 1) Hd.zero.ar 30 ∧ Below w.heap.size w W) (two_new w h.ar _ _) ?_
  rintro W ⟨A, Z, B⟩
  have c0 : W.cell? ⟨w.heap.size, 0, none⟩ = some (.bool false) := (A.cell 0).trans (by show some (Value.bool h.up) = _; rw [hu])
  have c4 : W.cell? ⟨w.heap.size, 4, none⟩ = some (.int .i64 h.life) := A.cell 4
  go_wp2_with (first
    | (refine loadHl rfl (.tmp 1) rfl w.heap.size h rfl A ?_)
    | (refine storeH rfl (.tmp 2) (.tmp 16) rfl (w.heap.size + 1) h rfl rfl Z rfl ?_; intro W2 Z2 kk; replace B := B.trans (kk.below (Nat.le_succ _) B.size)))
  exact bodyPost_ret (v := .tuple #[.agg h.ar, .bool false]) (resH2 2 3 Try.results10 rfl rfl Z2) rfl ⟨rfl, B⟩
theorem sRaised (h : Hd) (w : World) : Calls Try.prog 10 #[.agg h.ar] w fun e w' => e = .returned (.tuple #[.agg h.raised.ar, .bool h.may]) ∧ Below w.heap.size w w' := by
  cases hu : h.up with
  | true =>
    have hm : h.may = false := by simp [Hd.may, hu]
    have hr : h.raised = h := by simp [Hd.raised, hm]
    rw [hm, hr]; exact sRaisedU h hu w
  | false =>
    by_cases h0 : h.life < 0
    · have hm : h.may = false := decide_eq_false (by omega)
      have hr : h.raised = h := by simp [Hd.raised, hm]
      rw [hm, hr]; exact sRaisedL h hu h0 w
    · by_cases h1 : 65534 < h.life
      · have hm : h.may = false := decide_eq_false (by omega)
        have hr : h.raised = h := by simp [Hd.raised, hm]
        rw [hm, hr]; exact sRaisedG h hu (by omega) h1 w
      · have hm : h.may = true := decide_eq_true ⟨hu, by omega, by omega⟩
        have hr : h.raised = h.born := by simp [Hd.raised, hm]
        rw [hm, hr]; exact sRaisedY h hu (by omega) (by omega) w
set_option maxHeartbeats 8000000 in
theorem iRaisedU (h : Hd) (hu : h.up = true) (w : World) : Calls Try.prog 11 #[.agg h.ar] w fun e w' => e = .returned (.tuple #[.agg h.ar, .bool false]) ∧ Below w.heap.size w w' := by
  go_enter Try.func11, Try.ntmps11
  go_upto_region 1 with fail
  refine wp_at (fun W => At W w.heap.size h.ar 30 ∧ At W (w.heap.size + 1) Hd.zero.ar 30 ∧ Below w.heap.size w W) (two_new w h.ar _ _) ?_
  rintro W ⟨A, Z, B⟩
  have c0 : W.cell? ⟨w.heap.size, 0, none⟩ = some (.bool true) := (A.cell 0).trans (by show some (Value.bool h.up) = _; rw [hu])
  have c4 : W.cell? ⟨w.heap.size, 4, none⟩ = some (.int .i64 h.life) := A.cell 4
  go_wp2_with (first
    | (refine loadHl rfl (.tmp 1) rfl w.heap.size h rfl A ?_)
    | (refine storeH rfl (.tmp 2) (.tmp 13) rfl (w.heap.size + 1) h rfl rfl Z rfl ?_; intro W2 Z2 kk; replace B := B.trans (kk.below (Nat.le_succ _) B.size)))
  exact bodyPost_ret (v := .tuple #[.agg h.ar, .bool false]) (resH2 2 3 Try.results11 rfl rfl Z2) rfl ⟨rfl, B⟩
set_option maxHeartbeats 8000000 in
theorem iRaisedY (h : Hd) (hu : h.up = false) (h0 : 0 ≤ h.life) (h1 : h.life ≤ 65534) (w : World) : Calls Try.prog 11 #[.agg h.ar] w fun e w' => e = .returned (.tuple #[.agg h.born.ar, .bool true]) ∧ Below w.heap.size w w' := by
  go_enter Try.func11, Try.ntmps11
  go_upto_region 1 with fail
  refine wp_at (fun W => At W w.heap.size h.ar 30 ∧ At W (w.heap.size + 1) Hd.zero.ar 30 ∧ Below w.heap.size w W) (two_new w h.ar _ _) ?_
  rintro W ⟨A, Z, B⟩
  have c0 : W.cell? ⟨w.heap.size, 0, none⟩ = some (.bool false) := (A.cell 0).trans (by show some (Value.bool h.up) = _; rw [hu])
  have c4 : W.cell? ⟨w.heap.size, 4, none⟩ = some (.int .i64 h.life) := A.cell 4
  have e1 : allUp 65534 [h.life] = true := by simp [allUp]; omega
  generalize hq : h.life = x at *
  go_wp2_with (first
    | (go_at_call 21; refine (iUpTo 65534 _ 1 [x] rfl (by omega) _ (slices _ [x] _ 1 rfl)).mono ?_; rintro e w5 ⟨rfl, rfl⟩; rw [e1]; have hb : Below W.heap.size W (W.alloc (.cells #[.int .i64 x] 2)) := (Below.refl _ _).alloc (Nat.le_refl _) _; replace A := A.keep hb; replace Z := Z.keep hb; replace B := B.trans (hb.mono B.size); clear c0 c4 hb; have c4 : World.cell? _ ⟨w.heap.size, 4, none⟩ = some (.int .i64 x) := (A.cell 4).trans (by show some (Value.int .i64 h.life) = _; rw [hq]))
    | (refine wpList_built rfl 30 #[(0, .const (.bool true)), (4, .tmp 16)] rfl [(0, .bool true), (4, .int .i64 (x + 1))] rfl h.born.ar (by rw [← hq]; exact bBorn h) ?_)
    | (refine storeH rfl (.tmp 2) (.tmp 17) rfl (w.heap.size + 1) h.born rfl rfl Z rfl ?_; intro W2 Z2 kk; replace B := B.trans (kk.below (Nat.le_succ _) B.size)))
  exact bodyPost_ret (v := .tuple #[.agg h.born.ar, .bool true]) (resH2 2 3 Try.results11 rfl rfl Z2) rfl ⟨rfl, B⟩
set_option maxHeartbeats 8000000 in
theorem iRaisedL (h : Hd) (hu : h.up = false) (h0 : h.life < 0) (w : World) : Calls Try.prog 11 #[.agg h.ar] w fun e w' => e = .returned (.tuple #[.agg h.ar, .bool false]) ∧ Below w.heap.size w w' := by
  go_enter Try.func11, Try.ntmps11
  go_upto_region 1 with fail
  refine wp_at (fun W => At W w.heap.size h.ar 30 ∧ At W (w.heap.size + 1) Hd.zero.ar 30 ∧ Below w.heap.size w W) (two_new w h.ar _ _) ?_
  rintro W ⟨A, Z, B⟩
  have c0 : W.cell? ⟨w.heap.size, 0, none⟩ = some (.bool false) := (A.cell 0).trans (by show some (Value.bool h.up) = _; rw [hu])
  have c4 : W.cell? ⟨w.heap.size, 4, none⟩ = some (.int .i64 h.life) := A.cell 4
  have e1 : allUp 65534 [h.life] = false := by simp [allUp]; omega
  generalize hq : h.life = x at *
  go_wp2_with (first
    | (go_at_call 21; refine (iUpTo 65534 _ 1 [x] rfl (by omega) _ (slices _ [x] _ 1 rfl)).mono ?_; rintro e w5 ⟨rfl, rfl⟩; rw [e1]; have hb : Below W.heap.size W (W.alloc (.cells #[.int .i64 x] 2)) := (Below.refl _ _).alloc (Nat.le_refl _) _; replace A := A.keep hb; replace Z := Z.keep hb; replace B := B.trans (hb.mono B.size); clear c0 c4 hb; have c4 : World.cell? _ ⟨w.heap.size, 4, none⟩ = some (.int .i64 x) := (A.cell 4).trans (by show some (Value.int .i64 h.life) = _; rw [hq]))
    | (refine loadHl rfl (.tmp 1) rfl w.heap.size h rfl A ?_)
    | (refine storeH rfl (.tmp 2) (.tmp 13) rfl (w.heap.size + 1) h rfl rfl Z rfl ?_; intro W2 Z2 kk; replace B := B.trans (kk.below (Nat.le_succ _) B.size)))
  exact bodyPost_ret (v := .tuple #[.agg h.ar, .bool false]) (resH2 2 3 Try.results11 rfl rfl Z2) rfl ⟨rfl, B⟩
set_option maxHeartbeats 8000000 in
theorem iRaisedG (h : Hd) (hu : h.up = false) (h0 : 0 ≤ h.life) (h1 : 65534 < h.life) (w : World) : Calls Try.prog 11 #[.agg h.ar] w fun e w' => e = .returned (.tuple #[.agg h.ar, .bool false]) ∧ Below w.heap.size w w' := by
  go_enter Try.func11, Try.ntmps11
  go_upto_region 1 with fail
  refine wp_at (fun W => At W w.heap.size h.ar 30 ∧ At W (w.heap.size + 1) Hd.zero.ar 30 ∧ Below w.heap.size w W) (two_new w h.ar _ _) ?_
  rintro W ⟨A, Z, B⟩
  have c0 : W.cell? ⟨w.heap.size, 0, none⟩ = some (.bool false) := (A.cell 0).trans (by show some (Value.bool h.up) = _; rw [hu])
  have c4 : W.cell? ⟨w.heap.size, 4, none⟩ = some (.int .i64 h.life) := A.cell 4
  have e1 : allUp 65534 [h.life] = false := by simp [allUp]; omega
  generalize hq : h.life = x at *
  go_wp2_with (first
    | (go_at_call 21; refine (iUpTo 65534 _ 1 [x] rfl (by omega) _ (slices _ [x] _ 1 rfl)).mono ?_; rintro e w5 ⟨rfl, rfl⟩; rw [e1]; have hb : Below W.heap.size W (W.alloc (.cells #[.int .i64 x] 2)) := (Below.refl _ _).alloc (Nat.le_refl _) _; replace A := A.keep hb; replace Z := Z.keep hb; replace B := B.trans (hb.mono B.size); clear c0 c4 hb; have c4 : World.cell? _ ⟨w.heap.size, 4, none⟩ = some (.int .i64 x) := (A.cell 4).trans (by show some (Value.int .i64 h.life) = _; rw [hq]))
    | (refine loadHl rfl (.tmp 1) rfl w.heap.size h rfl A ?_)
    | (refine storeH rfl (.tmp 2) (.tmp 13) rfl (w.heap.size + 1) h rfl rfl Z rfl ?_; intro W2 Z2 kk; replace B := B.trans (kk.below (Nat.le_succ _) B.size)))
  exact bodyPost_ret (v := .tuple #[.agg h.ar, .bool false]) (resH2 2 3 Try.results11 rfl rfl Z2) rfl ⟨rfl, B⟩
theorem iRaised (h : Hd) (w : World) : Calls Try.prog 11 #[.agg h.ar] w fun e w' => e = .returned (.tuple #[.agg h.raised.ar, .bool h.may]) ∧ Below w.heap.size w w' := by
  cases hu : h.up with
  | true =>
    have hm : h.may = false := by simp [Hd.may, hu]
    have hr : h.raised = h := by simp [Hd.raised, hm]
    rw [hm, hr]; exact iRaisedU h hu w
  | false =>
    by_cases h0 : h.life < 0
    · have hm : h.may = false := decide_eq_false (by omega)
      have hr : h.raised = h := by simp [Hd.raised, hm]
      rw [hm, hr]; exact iRaisedL h hu h0 w
    · by_cases h1 : 65534 < h.life
      · have hm : h.may = false := decide_eq_false (by omega)
        have hr : h.raised = h := by simp [Hd.raised, hm]
        rw [hm, hr]; exact iRaisedG h hu (by omega) h1 w
      · have hm : h.may = true := decide_eq_true ⟨hu, by omega, by omega⟩
        have hr : h.raised = h.born := by simp [Hd.raised, hm]
        rw [hm, hr]; exact iRaisedY h hu (by omega) (by omega) w
end Go.Proofs.Ytooljeddnfkphaa
