/-
  The rows of the calls' table; what a call is called.
-/
import Derived.Test.YtooljeddnfkphaaDoorTab
namespace Go.Proofs.YtooljeddnfkphaaDoor
open Go.RowKit
set_option linter.unusedVariables false
def rowR (code : Int) : List UInt8 × Int × Int × Int := if inB code 1 14 = true then tab.getD code.toNat ([], 0, 0, 0) else ([], 0, 0, 0)
theorem rowV_one (r : List UInt8 × Int × Int × Int) : ∀ v ∈ rowV r, v.oneCell' = true := by simp [rowV, Value.oneCell']
theorem bRow0 : Tryd.prog.built 46 [] = some (rowV ([], 0, 0, 0)).toArray := by kernel_rfl
theorem infoRow : (Tryd.prog.info? 46).map (·.size) = some 4 := by kernel_rfl
theorem resR2 {fn : Func} {T : Array Value} {w : World} {b : Nat} {vs : List Value} {t ty : TypeId} {d : TypeDesc} {v : Value} (i j : Nat) (hr : fn.results = #[.cell i ty, .tmp j]) (hT : T.getD i undef = .pointer (some ⟨b, 0, none⟩)) (hj : T.getD j undef = v) (Z : At w b vs.toArray t)
    (hu : Tryd.prog.underlying ty = some d) (hd : d.isRow = true) (hi : (Tryd.prog.info? ty).map (·.size) = some vs.length) :
    (results fn T).run Tryd.prog w = .ok (.tuple #[.agg vs.toArray, v]) w := by
  have e : (asAddr (T.getD i undef)).run Tryd.prog w = .ok ⟨b, 0, none⟩ w := by rw [hT]; rfl
  simp only [results, hr, List.mapM_toArray, List.mapM_cons, List.mapM_nil, Sem.run_bind, Sem.run_map, Sem.run_pure, e, Result.andThen_ok, run_loadVar_mid w b 0 ty vs d Z.range hu hd hi, hj]
  rfl
theorem loadT {ops : Array Oper} {rest : List Oper} {op : Oper} {a : Act} {w : World} {Q : Exit → Act → World → Prop} (r : List UInt8 × Int × Int × Int) (o : Nat) (hgd : op.guard = none) (x : Operand) (ho : op.op = .load 46 x) (hx : a.eval x = .pointer (some ⟨0, o, none⟩)) (hc : w.rangeAt 0 o (rowV r))
    (h : wpList Tryd.prog ops Q rest (a.put op.dst (.agg (rowV r).toArray)) w) : wpList Tryd.prog ops Q (op :: rest) a w :=
  wpList_load_mid hgd 46 x ho 0 o hx (rowV r) _ hc Tryd.underlying46 rfl infoRow h
set_option maxHeartbeats 2000000 in
theorem iRowN (code : Int) (hc : inB code 1 14 = false) (w : World) : Calls Tryd.prog 25 #[.int .i64 code] w fun e w' => e = .returned (.tuple #[.agg (rowV ([], 0, 0, 0)).toArray, .bool false]) ∧ Below w.heap.size w w' := by
  go_enter Tryd.func25, Tryd.ntmps25
  go_upto_region 1 with fail
  refine wp_at (fun W => At W w.heap.size (rowV ([], 0, 0, 0)).toArray 46 ∧ Below w.heap.size w W) ⟨At.new w _ _, (Below.refl _ _).alloc (Nat.le_refl _) _⟩ ?_
  rintro W ⟨Z, B⟩
  go_wp2_with (first
    | (go_at_call 33; refine (iWithin _ _ _ _).mono ?_; rintro e w1 ⟨rfl, rfl⟩; rw [hc])
    | (refine wpList_built rfl 46 #[] rfl [] rfl _ bRow0 ?_)
    | (refine storeR (vs := rowV ([], 0, 0, 0)) infoRow (rowV_one _) rfl (.tmp 2) (.tmp 7) rfl w.heap.size rfl rfl Z rfl ?_; intro W2 Z2 kk; replace B := B.trans (kk.below (Nat.le_refl _) B.size)))
  exact bodyPost_ret (v := .tuple #[.agg (rowV ([], 0, 0, 0)).toArray, .bool false]) (resR2 2 3 Tryd.results25 rfl rfl Z2 Tryd.underlying46 rfl infoRow) rfl ⟨rfl, B⟩
set_option maxHeartbeats 2000000 in
theorem iRow1 (w : World) (T : Tab w) : Calls Tryd.prog 25 #[.int .i64 1] w fun e w' => e = .returned (.tuple #[.agg (rowV ([115, 116, 97, 114, 116], 0, 0, 0)).toArray, .bool true]) ∧ Below w.heap.size w w' := by
  have hc : inB 1 1 14 = true := rfl
  go_enter Tryd.func25, Tryd.ntmps25
  go_upto_region 1 with fail
  refine wp_at (fun W => At W w.heap.size (rowV ([], 0, 0, 0)).toArray 46 ∧ Tab W ∧ Below w.heap.size w W) ⟨At.new w _ _, T.keep ((Below.refl _ _).alloc (Nat.le_refl _) _), (Below.refl _ _).alloc (Nat.le_refl _) _⟩ ?_
  clear T
  rintro W ⟨Z, T, B⟩
  have hr : W.rangeAt 0 4 (rowV ([115, 116, 97, 114, 116], 0, 0, 0)) := T.is 1 _ rfl
  go_wp2_with (first
    | (go_at_call 33; refine (iWithin _ _ _ _).mono ?_; rintro e w1 ⟨rfl, rfl⟩; rw [hc])
    | (refine loadT ([115, 116, 97, 114, 116], 0, 0, 0) 4 rfl (.tmp 9) rfl rfl hr ?_)
    | (refine storeR (vs := rowV ([115, 116, 97, 114, 116], 0, 0, 0)) infoRow (rowV_one _) rfl (.tmp 2) (.tmp 10) rfl w.heap.size rfl rfl Z rfl ?_; intro W2 Z2 kk; replace B := B.trans (kk.below (Nat.le_refl _) B.size)))
  exact bodyPost_ret (v := .tuple #[.agg (rowV ([115, 116, 97, 114, 116], 0, 0, 0)).toArray, .bool true]) (resR2 2 3 Tryd.results25 rfl rfl Z2 Tryd.underlying46 rfl infoRow) rfl ⟨rfl, B⟩
set_option maxHeartbeats 2000000 in
theorem iRow2 (w : World) (T : Tab w) : Calls Tryd.prog 25 #[.int .i64 2] w fun e w' => e = .returned (.tuple #[.agg (rowV ([97, 108, 108, 111, 99], 1, 0, 0)).toArray, .bool true]) ∧ Below w.heap.size w w' := by
  have hc : inB 2 1 14 = true := rfl
  go_enter Tryd.func25, Tryd.ntmps25
  go_upto_region 1 with fail
  refine wp_at (fun W => At W w.heap.size (rowV ([], 0, 0, 0)).toArray 46 ∧ Tab W ∧ Below w.heap.size w W) ⟨At.new w _ _, T.keep ((Below.refl _ _).alloc (Nat.le_refl _) _), (Below.refl _ _).alloc (Nat.le_refl _) _⟩ ?_
  clear T
  rintro W ⟨Z, T, B⟩
  have hr : W.rangeAt 0 8 (rowV ([97, 108, 108, 111, 99], 1, 0, 0)) := T.is 2 _ rfl
  go_wp2_with (first
    | (go_at_call 33; refine (iWithin _ _ _ _).mono ?_; rintro e w1 ⟨rfl, rfl⟩; rw [hc])
    | (refine loadT ([97, 108, 108, 111, 99], 1, 0, 0) 8 rfl (.tmp 9) rfl rfl hr ?_)
    | (refine storeR (vs := rowV ([97, 108, 108, 111, 99], 1, 0, 0)) infoRow (rowV_one _) rfl (.tmp 2) (.tmp 10) rfl w.heap.size rfl rfl Z rfl ?_; intro W2 Z2 kk; replace B := B.trans (kk.below (Nat.le_refl _) B.size)))
  exact bodyPost_ret (v := .tuple #[.agg (rowV ([97, 108, 108, 111, 99], 1, 0, 0)).toArray, .bool true]) (resR2 2 3 Tryd.results25 rfl rfl Z2 Tryd.underlying46 rfl infoRow) rfl ⟨rfl, B⟩
set_option maxHeartbeats 2000000 in
theorem iRow3 (w : World) (T : Tab w) : Calls Tryd.prog 25 #[.int .i64 3] w fun e w' => e = .returned (.tuple #[.agg (rowV ([102, 114, 101, 101], 2, 0, 0)).toArray, .bool true]) ∧ Below w.heap.size w w' := by
  have hc : inB 3 1 14 = true := rfl
  go_enter Tryd.func25, Tryd.ntmps25
  go_upto_region 1 with fail
  refine wp_at (fun W => At W w.heap.size (rowV ([], 0, 0, 0)).toArray 46 ∧ Tab W ∧ Below w.heap.size w W) ⟨At.new w _ _, T.keep ((Below.refl _ _).alloc (Nat.le_refl _) _), (Below.refl _ _).alloc (Nat.le_refl _) _⟩ ?_
  clear T
  rintro W ⟨Z, T, B⟩
  have hr : W.rangeAt 0 12 (rowV ([102, 114, 101, 101], 2, 0, 0)) := T.is 3 _ rfl
  go_wp2_with (first
    | (go_at_call 33; refine (iWithin _ _ _ _).mono ?_; rintro e w1 ⟨rfl, rfl⟩; rw [hc])
    | (refine loadT ([102, 114, 101, 101], 2, 0, 0) 12 rfl (.tmp 9) rfl rfl hr ?_)
    | (refine storeR (vs := rowV ([102, 114, 101, 101], 2, 0, 0)) infoRow (rowV_one _) rfl (.tmp 2) (.tmp 10) rfl w.heap.size rfl rfl Z rfl ?_; intro W2 Z2 kk; replace B := B.trans (kk.below (Nat.le_refl _) B.size)))
  exact bodyPost_ret (v := .tuple #[.agg (rowV ([102, 114, 101, 101], 2, 0, 0)).toArray, .bool true]) (resR2 2 3 Tryd.results25 rfl rfl Z2 Tryd.underlying46 rfl infoRow) rfl ⟨rfl, B⟩
set_option maxHeartbeats 2000000 in
theorem iRow4 (w : World) (T : Tab w) : Calls Tryd.prog 25 #[.int .i64 4] w fun e w' => e = .returned (.tuple #[.agg (rowV ([119, 114, 105, 116, 101], 2, 3, 4)).toArray, .bool true]) ∧ Below w.heap.size w w' := by
  have hc : inB 4 1 14 = true := rfl
  go_enter Tryd.func25, Tryd.ntmps25
  go_upto_region 1 with fail
  refine wp_at (fun W => At W w.heap.size (rowV ([], 0, 0, 0)).toArray 46 ∧ Tab W ∧ Below w.heap.size w W) ⟨At.new w _ _, T.keep ((Below.refl _ _).alloc (Nat.le_refl _) _), (Below.refl _ _).alloc (Nat.le_refl _) _⟩ ?_
  clear T
  rintro W ⟨Z, T, B⟩
  have hr : W.rangeAt 0 16 (rowV ([119, 114, 105, 116, 101], 2, 3, 4)) := T.is 4 _ rfl
  go_wp2_with (first
    | (go_at_call 33; refine (iWithin _ _ _ _).mono ?_; rintro e w1 ⟨rfl, rfl⟩; rw [hc])
    | (refine loadT ([119, 114, 105, 116, 101], 2, 3, 4) 16 rfl (.tmp 9) rfl rfl hr ?_)
    | (refine storeR (vs := rowV ([119, 114, 105, 116, 101], 2, 3, 4)) infoRow (rowV_one _) rfl (.tmp 2) (.tmp 10) rfl w.heap.size rfl rfl Z rfl ?_; intro W2 Z2 kk; replace B := B.trans (kk.below (Nat.le_refl _) B.size)))
  exact bodyPost_ret (v := .tuple #[.agg (rowV ([119, 114, 105, 116, 101], 2, 3, 4)).toArray, .bool true]) (resR2 2 3 Tryd.results25 rfl rfl Z2 Tryd.underlying46 rfl infoRow) rfl ⟨rfl, B⟩
set_option maxHeartbeats 2000000 in
theorem iRow5 (w : World) (T : Tab w) : Calls Tryd.prog 25 #[.int .i64 5] w fun e w' => e = .returned (.tuple #[.agg (rowV ([108, 111, 97, 100], 2, 3, 0)).toArray, .bool true]) ∧ Below w.heap.size w w' := by
  have hc : inB 5 1 14 = true := rfl
  go_enter Tryd.func25, Tryd.ntmps25
  go_upto_region 1 with fail
  refine wp_at (fun W => At W w.heap.size (rowV ([], 0, 0, 0)).toArray 46 ∧ Tab W ∧ Below w.heap.size w W) ⟨At.new w _ _, T.keep ((Below.refl _ _).alloc (Nat.le_refl _) _), (Below.refl _ _).alloc (Nat.le_refl _) _⟩ ?_
  clear T
  rintro W ⟨Z, T, B⟩
  have hr : W.rangeAt 0 20 (rowV ([108, 111, 97, 100], 2, 3, 0)) := T.is 5 _ rfl
  go_wp2_with (first
    | (go_at_call 33; refine (iWithin _ _ _ _).mono ?_; rintro e w1 ⟨rfl, rfl⟩; rw [hc])
    | (refine loadT ([108, 111, 97, 100], 2, 3, 0) 20 rfl (.tmp 9) rfl rfl hr ?_)
    | (refine storeR (vs := rowV ([108, 111, 97, 100], 2, 3, 0)) infoRow (rowV_one _) rfl (.tmp 2) (.tmp 10) rfl w.heap.size rfl rfl Z rfl ?_; intro W2 Z2 kk; replace B := B.trans (kk.below (Nat.le_refl _) B.size)))
  exact bodyPost_ret (v := .tuple #[.agg (rowV ([108, 111, 97, 100], 2, 3, 0)).toArray, .bool true]) (resR2 2 3 Tryd.results25 rfl rfl Z2 Tryd.underlying46 rfl infoRow) rfl ⟨rfl, B⟩
set_option maxHeartbeats 2000000 in
theorem iRow6 (w : World) (T : Tab w) : Calls Tryd.prog 25 #[.int .i64 6] w fun e w' => e = .returned (.tuple #[.agg (rowV ([112, 117, 115, 104], 0, 4, 0)).toArray, .bool true]) ∧ Below w.heap.size w w' := by
  have hc : inB 6 1 14 = true := rfl
  go_enter Tryd.func25, Tryd.ntmps25
  go_upto_region 1 with fail
  refine wp_at (fun W => At W w.heap.size (rowV ([], 0, 0, 0)).toArray 46 ∧ Tab W ∧ Below w.heap.size w W) ⟨At.new w _ _, T.keep ((Below.refl _ _).alloc (Nat.le_refl _) _), (Below.refl _ _).alloc (Nat.le_refl _) _⟩ ?_
  clear T
  rintro W ⟨Z, T, B⟩
  have hr : W.rangeAt 0 24 (rowV ([112, 117, 115, 104], 0, 4, 0)) := T.is 6 _ rfl
  go_wp2_with (first
    | (go_at_call 33; refine (iWithin _ _ _ _).mono ?_; rintro e w1 ⟨rfl, rfl⟩; rw [hc])
    | (refine loadT ([112, 117, 115, 104], 0, 4, 0) 24 rfl (.tmp 9) rfl rfl hr ?_)
    | (refine storeR (vs := rowV ([112, 117, 115, 104], 0, 4, 0)) infoRow (rowV_one _) rfl (.tmp 2) (.tmp 10) rfl w.heap.size rfl rfl Z rfl ?_; intro W2 Z2 kk; replace B := B.trans (kk.below (Nat.le_refl _) B.size)))
  exact bodyPost_ret (v := .tuple #[.agg (rowV ([112, 117, 115, 104], 0, 4, 0)).toArray, .bool true]) (resR2 2 3 Tryd.results25 rfl rfl Z2 Tryd.underlying46 rfl infoRow) rfl ⟨rfl, B⟩
set_option maxHeartbeats 2000000 in
theorem iRow7 (w : World) (T : Tab w) : Calls Tryd.prog 25 #[.int .i64 7] w fun e w' => e = .returned (.tuple #[.agg (rowV ([112, 111, 112], 0, 0, 0)).toArray, .bool true]) ∧ Below w.heap.size w w' := by
  have hc : inB 7 1 14 = true := rfl
  go_enter Tryd.func25, Tryd.ntmps25
  go_upto_region 1 with fail
  refine wp_at (fun W => At W w.heap.size (rowV ([], 0, 0, 0)).toArray 46 ∧ Tab W ∧ Below w.heap.size w W) ⟨At.new w _ _, T.keep ((Below.refl _ _).alloc (Nat.le_refl _) _), (Below.refl _ _).alloc (Nat.le_refl _) _⟩ ?_
  clear T
  rintro W ⟨Z, T, B⟩
  have hr : W.rangeAt 0 28 (rowV ([112, 111, 112], 0, 0, 0)) := T.is 7 _ rfl
  go_wp2_with (first
    | (go_at_call 33; refine (iWithin _ _ _ _).mono ?_; rintro e w1 ⟨rfl, rfl⟩; rw [hc])
    | (refine loadT ([112, 111, 112], 0, 0, 0) 28 rfl (.tmp 9) rfl rfl hr ?_)
    | (refine storeR (vs := rowV ([112, 111, 112], 0, 0, 0)) infoRow (rowV_one _) rfl (.tmp 2) (.tmp 10) rfl w.heap.size rfl rfl Z rfl ?_; intro W2 Z2 kk; replace B := B.trans (kk.below (Nat.le_refl _) B.size)))
  exact bodyPost_ret (v := .tuple #[.agg (rowV ([112, 111, 112], 0, 0, 0)).toArray, .bool true]) (resR2 2 3 Tryd.results25 rfl rfl Z2 Tryd.underlying46 rfl infoRow) rfl ⟨rfl, B⟩
set_option maxHeartbeats 2000000 in
theorem iRow8 (w : World) (T : Tab w) : Calls Tryd.prog 25 #[.int .i64 8] w fun e w' => e = .returned (.tuple #[.agg (rowV ([101, 110, 113], 0, 4, 0)).toArray, .bool true]) ∧ Below w.heap.size w w' := by
  have hc : inB 8 1 14 = true := rfl
  go_enter Tryd.func25, Tryd.ntmps25
  go_upto_region 1 with fail
  refine wp_at (fun W => At W w.heap.size (rowV ([], 0, 0, 0)).toArray 46 ∧ Tab W ∧ Below w.heap.size w W) ⟨At.new w _ _, T.keep ((Below.refl _ _).alloc (Nat.le_refl _) _), (Below.refl _ _).alloc (Nat.le_refl _) _⟩ ?_
  clear T
  rintro W ⟨Z, T, B⟩
  have hr : W.rangeAt 0 32 (rowV ([101, 110, 113], 0, 4, 0)) := T.is 8 _ rfl
  go_wp2_with (first
    | (go_at_call 33; refine (iWithin _ _ _ _).mono ?_; rintro e w1 ⟨rfl, rfl⟩; rw [hc])
    | (refine loadT ([101, 110, 113], 0, 4, 0) 32 rfl (.tmp 9) rfl rfl hr ?_)
    | (refine storeR (vs := rowV ([101, 110, 113], 0, 4, 0)) infoRow (rowV_one _) rfl (.tmp 2) (.tmp 10) rfl w.heap.size rfl rfl Z rfl ?_; intro W2 Z2 kk; replace B := B.trans (kk.below (Nat.le_refl _) B.size)))
  exact bodyPost_ret (v := .tuple #[.agg (rowV ([101, 110, 113], 0, 4, 0)).toArray, .bool true]) (resR2 2 3 Tryd.results25 rfl rfl Z2 Tryd.underlying46 rfl infoRow) rfl ⟨rfl, B⟩
set_option maxHeartbeats 2000000 in
theorem iRow9 (w : World) (T : Tab w) : Calls Tryd.prog 25 #[.int .i64 9] w fun e w' => e = .returned (.tuple #[.agg (rowV ([100, 101, 113], 0, 0, 0)).toArray, .bool true]) ∧ Below w.heap.size w w' := by
  have hc : inB 9 1 14 = true := rfl
  go_enter Tryd.func25, Tryd.ntmps25
  go_upto_region 1 with fail
  refine wp_at (fun W => At W w.heap.size (rowV ([], 0, 0, 0)).toArray 46 ∧ Tab W ∧ Below w.heap.size w W) ⟨At.new w _ _, T.keep ((Below.refl _ _).alloc (Nat.le_refl _) _), (Below.refl _ _).alloc (Nat.le_refl _) _⟩ ?_
  clear T
  rintro W ⟨Z, T, B⟩
  have hr : W.rangeAt 0 36 (rowV ([100, 101, 113], 0, 0, 0)) := T.is 9 _ rfl
  go_wp2_with (first
    | (go_at_call 33; refine (iWithin _ _ _ _).mono ?_; rintro e w1 ⟨rfl, rfl⟩; rw [hc])
    | (refine loadT ([100, 101, 113], 0, 0, 0) 36 rfl (.tmp 9) rfl rfl hr ?_)
    | (refine storeR (vs := rowV ([100, 101, 113], 0, 0, 0)) infoRow (rowV_one _) rfl (.tmp 2) (.tmp 10) rfl w.heap.size rfl rfl Z rfl ?_; intro W2 Z2 kk; replace B := B.trans (kk.below (Nat.le_refl _) B.size)))
  exact bodyPost_ret (v := .tuple #[.agg (rowV ([100, 101, 113], 0, 0, 0)).toArray, .bool true]) (resR2 2 3 Tryd.results25 rfl rfl Z2 Tryd.underlying46 rfl infoRow) rfl ⟨rfl, B⟩
set_option maxHeartbeats 2000000 in
theorem iRow10 (w : World) (T : Tab w) : Calls Tryd.prog 25 #[.int .i64 10] w fun e w' => e = .returned (.tuple #[.agg (rowV ([99, 97, 115], 5, 4, 4)).toArray, .bool true]) ∧ Below w.heap.size w w' := by
  have hc : inB 10 1 14 = true := rfl
  go_enter Tryd.func25, Tryd.ntmps25
  go_upto_region 1 with fail
  refine wp_at (fun W => At W w.heap.size (rowV ([], 0, 0, 0)).toArray 46 ∧ Tab W ∧ Below w.heap.size w W) ⟨At.new w _ _, T.keep ((Below.refl _ _).alloc (Nat.le_refl _) _), (Below.refl _ _).alloc (Nat.le_refl _) _⟩ ?_
  clear T
  rintro W ⟨Z, T, B⟩
  have hr : W.rangeAt 0 40 (rowV ([99, 97, 115], 5, 4, 4)) := T.is 10 _ rfl
  go_wp2_with (first
    | (go_at_call 33; refine (iWithin _ _ _ _).mono ?_; rintro e w1 ⟨rfl, rfl⟩; rw [hc])
    | (refine loadT ([99, 97, 115], 5, 4, 4) 40 rfl (.tmp 9) rfl rfl hr ?_)
    | (refine storeR (vs := rowV ([99, 97, 115], 5, 4, 4)) infoRow (rowV_one _) rfl (.tmp 2) (.tmp 10) rfl w.heap.size rfl rfl Z rfl ?_; intro W2 Z2 kk; replace B := B.trans (kk.below (Nat.le_refl _) B.size)))
  exact bodyPost_ret (v := .tuple #[.agg (rowV ([99, 97, 115], 5, 4, 4)).toArray, .bool true]) (resR2 2 3 Tryd.results25 rfl rfl Z2 Tryd.underlying46 rfl infoRow) rfl ⟨rfl, B⟩
set_option maxHeartbeats 2000000 in
theorem iRow11 (w : World) (T : Tab w) : Calls Tryd.prog 25 #[.int .i64 11] w fun e w' => e = .returned (.tuple #[.agg (rowV ([115, 101, 101], 5, 0, 0)).toArray, .bool true]) ∧ Below w.heap.size w w' := by
  have hc : inB 11 1 14 = true := rfl
  go_enter Tryd.func25, Tryd.ntmps25
  go_upto_region 1 with fail
  refine wp_at (fun W => At W w.heap.size (rowV ([], 0, 0, 0)).toArray 46 ∧ Tab W ∧ Below w.heap.size w W) ⟨At.new w _ _, T.keep ((Below.refl _ _).alloc (Nat.le_refl _) _), (Below.refl _ _).alloc (Nat.le_refl _) _⟩ ?_
  clear T
  rintro W ⟨Z, T, B⟩
  have hr : W.rangeAt 0 44 (rowV ([115, 101, 101], 5, 0, 0)) := T.is 11 _ rfl
  go_wp2_with (first
    | (go_at_call 33; refine (iWithin _ _ _ _).mono ?_; rintro e w1 ⟨rfl, rfl⟩; rw [hc])
    | (refine loadT ([115, 101, 101], 5, 0, 0) 44 rfl (.tmp 9) rfl rfl hr ?_)
    | (refine storeR (vs := rowV ([115, 101, 101], 5, 0, 0)) infoRow (rowV_one _) rfl (.tmp 2) (.tmp 10) rfl w.heap.size rfl rfl Z rfl ?_; intro W2 Z2 kk; replace B := B.trans (kk.below (Nat.le_refl _) B.size)))
  exact bodyPost_ret (v := .tuple #[.agg (rowV ([115, 101, 101], 5, 0, 0)).toArray, .bool true]) (resR2 2 3 Tryd.results25 rfl rfl Z2 Tryd.underlying46 rfl infoRow) rfl ⟨rfl, B⟩
set_option maxHeartbeats 2000000 in
theorem iRow12 (w : World) (T : Tab w) : Calls Tryd.prog 25 #[.int .i64 12] w fun e w' => e = .returned (.tuple #[.agg (rowV ([115, 99, 97, 110], 0, 0, 0)).toArray, .bool true]) ∧ Below w.heap.size w w' := by
  have hc : inB 12 1 14 = true := rfl
  go_enter Tryd.func25, Tryd.ntmps25
  go_upto_region 1 with fail
  refine wp_at (fun W => At W w.heap.size (rowV ([], 0, 0, 0)).toArray 46 ∧ Tab W ∧ Below w.heap.size w W) ⟨At.new w _ _, T.keep ((Below.refl _ _).alloc (Nat.le_refl _) _), (Below.refl _ _).alloc (Nat.le_refl _) _⟩ ?_
  clear T
  rintro W ⟨Z, T, B⟩
  have hr : W.rangeAt 0 48 (rowV ([115, 99, 97, 110], 0, 0, 0)) := T.is 12 _ rfl
  go_wp2_with (first
    | (go_at_call 33; refine (iWithin _ _ _ _).mono ?_; rintro e w1 ⟨rfl, rfl⟩; rw [hc])
    | (refine loadT ([115, 99, 97, 110], 0, 0, 0) 48 rfl (.tmp 9) rfl rfl hr ?_)
    | (refine storeR (vs := rowV ([115, 99, 97, 110], 0, 0, 0)) infoRow (rowV_one _) rfl (.tmp 2) (.tmp 10) rfl w.heap.size rfl rfl Z rfl ?_; intro W2 Z2 kk; replace B := B.trans (kk.below (Nat.le_refl _) B.size)))
  exact bodyPost_ret (v := .tuple #[.agg (rowV ([115, 99, 97, 110], 0, 0, 0)).toArray, .bool true]) (resR2 2 3 Tryd.results25 rfl rfl Z2 Tryd.underlying46 rfl infoRow) rfl ⟨rfl, B⟩
set_option maxHeartbeats 2000000 in
theorem iRow13 (w : World) (T : Tab w) : Calls Tryd.prog 25 #[.int .i64 13] w fun e w' => e = .returned (.tuple #[.agg (rowV ([97, 100, 111, 112, 116], 7, 0, 0)).toArray, .bool true]) ∧ Below w.heap.size w w' := by
  have hc : inB 13 1 14 = true := rfl
  go_enter Tryd.func25, Tryd.ntmps25
  go_upto_region 1 with fail
  refine wp_at (fun W => At W w.heap.size (rowV ([], 0, 0, 0)).toArray 46 ∧ Tab W ∧ Below w.heap.size w W) ⟨At.new w _ _, T.keep ((Below.refl _ _).alloc (Nat.le_refl _) _), (Below.refl _ _).alloc (Nat.le_refl _) _⟩ ?_
  clear T
  rintro W ⟨Z, T, B⟩
  have hr : W.rangeAt 0 52 (rowV ([97, 100, 111, 112, 116], 7, 0, 0)) := T.is 13 _ rfl
  go_wp2_with (first
    | (go_at_call 33; refine (iWithin _ _ _ _).mono ?_; rintro e w1 ⟨rfl, rfl⟩; rw [hc])
    | (refine loadT ([97, 100, 111, 112, 116], 7, 0, 0) 52 rfl (.tmp 9) rfl rfl hr ?_)
    | (refine storeR (vs := rowV ([97, 100, 111, 112, 116], 7, 0, 0)) infoRow (rowV_one _) rfl (.tmp 2) (.tmp 10) rfl w.heap.size rfl rfl Z rfl ?_; intro W2 Z2 kk; replace B := B.trans (kk.below (Nat.le_refl _) B.size)))
  exact bodyPost_ret (v := .tuple #[.agg (rowV ([97, 100, 111, 112, 116], 7, 0, 0)).toArray, .bool true]) (resR2 2 3 Tryd.results25 rfl rfl Z2 Tryd.underlying46 rfl infoRow) rfl ⟨rfl, B⟩
set_option maxHeartbeats 2000000 in
theorem iRow14 (w : World) (T : Tab w) : Calls Tryd.prog 25 #[.int .i64 14] w fun e w' => e = .returned (.tuple #[.agg (rowV ([97, 115, 107], 6, 8, 0)).toArray, .bool true]) ∧ Below w.heap.size w w' := by
  have hc : inB 14 1 14 = true := rfl
  go_enter Tryd.func25, Tryd.ntmps25
  go_upto_region 1 with fail
  refine wp_at (fun W => At W w.heap.size (rowV ([], 0, 0, 0)).toArray 46 ∧ Tab W ∧ Below w.heap.size w W) ⟨At.new w _ _, T.keep ((Below.refl _ _).alloc (Nat.le_refl _) _), (Below.refl _ _).alloc (Nat.le_refl _) _⟩ ?_
  clear T
  rintro W ⟨Z, T, B⟩
  have hr : W.rangeAt 0 56 (rowV ([97, 115, 107], 6, 8, 0)) := T.is 14 _ rfl
  go_wp2_with (first
    | (go_at_call 33; refine (iWithin _ _ _ _).mono ?_; rintro e w1 ⟨rfl, rfl⟩; rw [hc])
    | (refine loadT ([97, 115, 107], 6, 8, 0) 56 rfl (.tmp 9) rfl rfl hr ?_)
    | (refine storeR (vs := rowV ([97, 115, 107], 6, 8, 0)) infoRow (rowV_one _) rfl (.tmp 2) (.tmp 10) rfl w.heap.size rfl rfl Z rfl ?_; intro W2 Z2 kk; replace B := B.trans (kk.below (Nat.le_refl _) B.size)))
  exact bodyPost_ret (v := .tuple #[.agg (rowV ([97, 115, 107], 6, 8, 0)).toArray, .bool true]) (resR2 2 3 Tryd.results25 rfl rfl Z2 Tryd.underlying46 rfl infoRow) rfl ⟨rfl, B⟩
theorem fourteen {code : Int} (hc : inB code 1 14 = true) : code = 1 ∨ code = 2 ∨ code = 3 ∨ code = 4 ∨ code = 5 ∨ code = 6 ∨ code = 7 ∨ code = 8 ∨ code = 9 ∨ code = 10 ∨ code = 11 ∨ code = 12 ∨ code = 13 ∨ code = 14 := by
  simp only [inB, decide_eq_true_eq] at hc
  omega
theorem iRow (code : Int) (w : World) (T : Tab w) : Calls Tryd.prog 25 #[.int .i64 code] w fun e w' => e = .returned (.tuple #[.agg (rowV (rowR code)).toArray, .bool (inB code 1 14)]) ∧ Below w.heap.size w w' := by
  cases hc : inB code 1 14 with
  | false =>
    have e : rowR code = ([], 0, 0, 0) := by unfold rowR; rw [hc]; rfl
    rw [e]
    exact iRowN code hc w
  | true =>
    rcases fourteen hc with rfl | rfl | rfl | rfl | rfl | rfl | rfl | rfl | rfl | rfl | rfl | rfl | rfl | rfl
    · exact iRow1 w T
    · exact iRow2 w T
    · exact iRow3 w T
    · exact iRow4 w T
    · exact iRow5 w T
    · exact iRow6 w T
    · exact iRow7 w T
    · exact iRow8 w T
    · exact iRow9 w T
    · exact iRow10 w T
    · exact iRow11 w T
    · exact iRow12 w T
    · exact iRow13 w T
    · exact iRow14 w T
end Go.Proofs.YtooljeddnfkphaaDoor
