/-
  Whether the places that a hand names are there: the program's side.
  Whether a hand is right: the program's side.
-/
import Derived.Test.YtljpkgloegafnaaGreatMg
namespace Go.Proofs.YtljpkgloegafnaaGreat
open Go.RowKit
set_option maxRecDepth 100000
set_option linter.unusedVariables false
def Hd.placesB (h : Hd) (p s l c : Int) : Bool := inB h.for_ 0 (p - 1) && allUp (zF p s l c - 1) [h.addr] && allUp (s + l + 1) [h.index] && allUp (2 * p - 1) [h.which]
theorem slices_at {w : World} {b : Nat} {x : Int} {t : TypeId} (sl : At w b #[.int .i64 x] t) : Hid (∀ i, i < 1 → w.cell? ⟨b, i, none⟩ = some (.int .i64 ([x].getD i 0))) := by
  show ∀ i, i < 1 → _
  intro i hi
  obtain rfl : i = 0 := by omega
  exact sl.cell 0
def pk0 : Oper := { dst := some 5, op := Op.load 35 (Operand.tmp 3), type := 35, pos := "l06_hand.go:251", after := #[], guard := none }
def pk1 : Oper := { dst := some 6, op := Op.fieldAddr 107 (Operand.tmp 2) 6, type := 0, pos := "l06_hand.go:251", after := #[], guard := none }
def pk2 : Oper := { dst := some 7, op := Op.fieldAddr 101 (Operand.tmp 6) 5, type := 0, pos := "l06_hand.go:251", after := #[{ on := 1, ground := Ground.data }], guard := none }
def pk3 : Oper := { dst := some 8, op := Op.load 2 (Operand.tmp 7), type := 2, pos := "l06_hand.go:251", after := #[{ on := 2, ground := Ground.data }], guard := none }
def pk4 : Oper := { dst := some 9, op := Op.call { callee := Callee.value (Operand.func 47), args := #[Operand.tmp 5, Operand.tmp 8], argTypes := #[35, 2] }, type := 4, pos := "l06_hand.go:251", after := #[{ on := 0, ground := Ground.data }, { on := 3, ground := Ground.data }], guard := none }
def pk5 : Oper := { dst := some 10, op := Op.move (Operand.tmp 9), type := 4, pos := "l06_hand.go:251", after := #[{ on := 4, ground := Ground.data }, { on := 4, ground := Ground.chain }], guard := none }
def pk6 : Oper := { dst := some 11, op := Op.load 35 (Operand.tmp 3), type := 35, pos := "l06_hand.go:251", after := #[{ on := 5, ground := Ground.guard }], guard := some (5, true) }
def pk7 : Oper := { dst := some 12, op := Op.call { callee := Callee.value (Operand.func 92), args := #[Operand.tmp 11], argTypes := #[35] }, type := 2, pos := "l06_hand.go:252", after := #[{ on := 6, ground := Ground.data }, { on := 5, ground := Ground.chain }, { on := 5, ground := Ground.guard }], guard := some (5, true) }
def pk8 : Oper := { dst := some 13, op := Op.binOp BinOp.sub 2 (Operand.tmp 12) (Operand.const (Value.int IntKind.i64 1)) 2, type := 2, pos := "l06_hand.go:251", after := #[{ on := 7, ground := Ground.data }, { on := 5, ground := Ground.guard }], guard := some (5, true) }
def pk9 : Oper := { dst := some 14, op := Op.fieldAddr 107 (Operand.tmp 2) 7, type := 0, pos := "l06_hand.go:251", after := #[{ on := 5, ground := Ground.guard }], guard := some (5, true) }
def pk10 : Oper := { dst := some 15, op := Op.fieldAddr 103 (Operand.tmp 14) 0, type := 0, pos := "l06_hand.go:251", after := #[{ on := 9, ground := Ground.data }, { on := 5, ground := Ground.guard }], guard := some (5, true) }
def pk11 : Oper := { dst := some 16, op := Op.load 2 (Operand.tmp 15), type := 2, pos := "l06_hand.go:251", after := #[{ on := 10, ground := Ground.data }, { on := 5, ground := Ground.guard }], guard := some (5, true) }
def pk12 : Oper := { dst := some 17, op := Op.buildSlice 47 1 #[(0, Operand.tmp 16)], type := 47, pos := "l06_hand.go:251", after := #[{ on := 11, ground := Ground.data }, { on := 5, ground := Ground.guard }], guard := some (5, true) }
def pk13 : Oper := { dst := some 18, op := Op.call { callee := Callee.value (Operand.func 95), args := #[Operand.tmp 13, Operand.tmp 17], argTypes := #[2, 47] }, type := 4, pos := "l06_hand.go:252", after := #[{ on := 8, ground := Ground.data }, { on := 12, ground := Ground.data }, { on := 7, ground := Ground.chain }, { on := 5, ground := Ground.guard }], guard := some (5, true) }
def pk14 : Oper := { dst := some 19, op := Op.pick (Operand.tmp 10) (Operand.tmp 18) (Operand.const (Value.bool false)), type := 4, pos := "l06_hand.go:251", after := #[{ on := 5, ground := Ground.data }, { on := 13, ground := Ground.data }], guard := none }
def pk15 : Oper := { dst := some 20, op := Op.move (Operand.tmp 19), type := 4, pos := "l06_hand.go:251", after := #[{ on := 14, ground := Ground.data }, { on := 13, ground := Ground.chain }], guard := none }
def pk16 : Oper := { dst := some 21, op := Op.load 35 (Operand.tmp 3), type := 35, pos := "l06_hand.go:251", after := #[{ on := 15, ground := Ground.guard }], guard := some (15, true) }
def pk17 : Oper := { dst := some 22, op := Op.call { callee := Callee.value (Operand.func 133), args := #[Operand.tmp 21], argTypes := #[35] }, type := 2, pos := "l06_hand.go:253", after := #[{ on := 16, ground := Ground.data }, { on := 15, ground := Ground.chain }, { on := 15, ground := Ground.guard }], guard := some (15, true) }
def pk18 : Oper := { dst := some 23, op := Op.binOp BinOp.add 2 (Operand.tmp 22) (Operand.const (Value.int IntKind.i64 1)) 2, type := 2, pos := "l06_hand.go:251", after := #[{ on := 17, ground := Ground.data }, { on := 15, ground := Ground.guard }], guard := some (15, true) }
def pk19 : Oper := { dst := some 24, op := Op.fieldAddr 107 (Operand.tmp 2) 8, type := 0, pos := "l06_hand.go:251", after := #[{ on := 15, ground := Ground.guard }], guard := some (15, true) }
def pk20 : Oper := { dst := some 25, op := Op.fieldAddr 105 (Operand.tmp 24) 2, type := 0, pos := "l06_hand.go:251", after := #[{ on := 19, ground := Ground.data }, { on := 15, ground := Ground.guard }], guard := some (15, true) }
def pk21 : Oper := { dst := some 26, op := Op.load 2 (Operand.tmp 25), type := 2, pos := "l06_hand.go:251", after := #[{ on := 20, ground := Ground.data }, { on := 15, ground := Ground.guard }], guard := some (15, true) }
def pk22 : Oper := { dst := some 27, op := Op.buildSlice 47 1 #[(0, Operand.tmp 26)], type := 47, pos := "l06_hand.go:251", after := #[{ on := 21, ground := Ground.data }, { on := 15, ground := Ground.guard }], guard := some (15, true) }
def pk23 : Oper := { dst := some 28, op := Op.call { callee := Callee.value (Operand.func 95), args := #[Operand.tmp 23, Operand.tmp 27], argTypes := #[2, 47] }, type := 4, pos := "l06_hand.go:253", after := #[{ on := 18, ground := Ground.data }, { on := 22, ground := Ground.data }, { on := 17, ground := Ground.chain }, { on := 15, ground := Ground.guard }], guard := some (15, true) }
def pk24 : Oper := { dst := some 29, op := Op.pick (Operand.tmp 20) (Operand.tmp 28) (Operand.const (Value.bool false)), type := 4, pos := "l06_hand.go:251", after := #[{ on := 15, ground := Ground.data }, { on := 23, ground := Ground.data }], guard := none }
def pk25 : Oper := { dst := some 30, op := Op.move (Operand.tmp 29), type := 4, pos := "l06_hand.go:251", after := #[{ on := 24, ground := Ground.data }, { on := 23, ground := Ground.chain }], guard := none }
def pk26 : Oper := { dst := some 31, op := Op.fieldAddr 35 (Operand.tmp 3) 0, type := 0, pos := "l06_hand.go:251", after := #[{ on := 25, ground := Ground.guard }], guard := some (25, true) }
def pk27 : Oper := { dst := some 32, op := Op.load 2 (Operand.tmp 31), type := 2, pos := "l06_hand.go:251", after := #[{ on := 26, ground := Ground.data }, { on := 25, ground := Ground.guard }], guard := some (25, true) }
def pk28 : Oper := { dst := some 33, op := Op.binOp BinOp.mul 2 (Operand.const (Value.int IntKind.i64 2)) (Operand.tmp 32) 2, type := 2, pos := "l06_hand.go:251", after := #[{ on := 27, ground := Ground.data }, { on := 25, ground := Ground.guard }], guard := some (25, true) }
def pk29 : Oper := { dst := some 34, op := Op.binOp BinOp.sub 2 (Operand.tmp 33) (Operand.const (Value.int IntKind.i64 1)) 2, type := 2, pos := "l06_hand.go:251", after := #[{ on := 28, ground := Ground.data }, { on := 25, ground := Ground.guard }], guard := some (25, true) }
def pk30 : Oper := { dst := some 35, op := Op.fieldAddr 107 (Operand.tmp 2) 8, type := 0, pos := "l06_hand.go:251", after := #[{ on := 25, ground := Ground.guard }], guard := some (25, true) }
def pk31 : Oper := { dst := some 36, op := Op.fieldAddr 105 (Operand.tmp 35) 3, type := 0, pos := "l06_hand.go:251", after := #[{ on := 30, ground := Ground.data }, { on := 25, ground := Ground.guard }], guard := some (25, true) }
def pk32 : Oper := { dst := some 37, op := Op.load 2 (Operand.tmp 36), type := 2, pos := "l06_hand.go:251", after := #[{ on := 31, ground := Ground.data }, { on := 25, ground := Ground.guard }], guard := some (25, true) }
def pk33 : Oper := { dst := some 38, op := Op.buildSlice 47 1 #[(0, Operand.tmp 37)], type := 47, pos := "l06_hand.go:251", after := #[{ on := 32, ground := Ground.data }, { on := 25, ground := Ground.guard }], guard := some (25, true) }
def pk34 : Oper := { dst := some 39, op := Op.call { callee := Callee.value (Operand.func 95), args := #[Operand.tmp 34, Operand.tmp 38], argTypes := #[2, 47] }, type := 4, pos := "l06_hand.go:254", after := #[{ on := 29, ground := Ground.data }, { on := 33, ground := Ground.data }, { on := 25, ground := Ground.chain }, { on := 25, ground := Ground.guard }], guard := some (25, true) }
def pk35 : Oper := { dst := some 40, op := Op.pick (Operand.tmp 30) (Operand.tmp 39) (Operand.const (Value.bool false)), type := 4, pos := "l06_hand.go:251", after := #[{ on := 25, ground := Ground.data }, { on := 34, ground := Ground.data }], guard := none }
def pk36 : Oper := { dst := some 4, op := Op.assign (Operand.tmp 40), type := 4, pos := "l06_hand.go:251", after := #[{ on := 35, ground := Ground.data }, { on := 34, ground := Ground.chain }, { on := 0, ground := Ground.phase }, { on := 1, ground := Ground.phase }, { on := 2, ground := Ground.phase }, { on := 3, ground := Ground.phase }, { on := 4, ground := Ground.phase }, { on := 5, ground := Ground.phase }, { on := 6, ground := Ground.phase }, { on := 7, ground := Ground.phase }, { on := 8, ground := Ground.phase }, { on := 9, ground := Ground.phase }, { on := 10, ground := Ground.phase }, { on := 11, ground := Ground.phase }, { on := 12, ground := Ground.phase }, { on := 13, ground := Ground.phase }, { on := 14, ground := Ground.phase }, { on := 15, ground := Ground.phase }, { on := 16, ground := Ground.phase }, { on := 17, ground := Ground.phase }, { on := 18, ground := Ground.phase }, { on := 19, ground := Ground.phase }, { on := 20, ground := Ground.phase }, { on := 21, ground := Ground.phase }, { on := 22, ground := Ground.phase }, { on := 23, ground := Ground.phase }, { on := 24, ground := Ground.phase }, { on := 25, ground := Ground.phase }, { on := 26, ground := Ground.phase }, { on := 27, ground := Ground.phase }, { on := 28, ground := Ground.phase }, { on := 29, ground := Ground.phase }, { on := 30, ground := Ground.phase }, { on := 31, ground := Ground.phase }, { on := 32, ground := Ground.phase }, { on := 33, ground := Ground.phase }, { on := 34, ground := Ground.phase }, { on := 35, ground := Ground.phase }], guard := none }
set_option maxHeartbeats 32000000 in
theorem iPlacesA (p s l c k z0 : Int) (h : Hd) (ho : ok p s l c k = true) (ez : Hid (zF p s l c = z0)) (zb : 0 ≤ z0 ∧ z0 ≤ 100000) (e1 : inB h.for_ 0 (p - 1) = false) (w : World) : Calls Tryz.prog 102 #[.agg h.ps.toArray, .agg #[.int .i64 p, .int .i64 s, .int .i64 l, .int .i64 c, .int .i64 k]] w fun e w' => e = .returned (.bool (h.placesB p s l c)) ∧ Below w.heap.size w w' := by
  have h' := ok_iff.1 ho
  have eS : Hid (vSize p s l c k = z0) := by rw [← ez.out]; unfold vSize; rw [ho]; rfl
  have eB : Hid (vBlocks p s l c k = s + l) := by unfold vBlocks; rw [ho]; rfl
  have wz : Hid (IntKind.i64.wrap (z0 - 1) = z0 - 1) := by show _ = _; rw [IntKind.wrap_i64]; omega
  have wb : Hid (IntKind.i64.wrap (s + l + 1) = s + l + 1) := by show _ = _; rw [IntKind.wrap_i64]; omega
  have wp : Hid (IntKind.i64.wrap (IntKind.i64.wrap (2 * p) - 1) = 2 * p - 1) := by show _ = _; rw [IntKind.wrap_i64, IntKind.wrap_i64]; omega
  have wq : Hid (IntKind.i64.wrap (2 * p - 1) = 2 * p - 1) := by show _ = _; rw [IntKind.wrap_i64]; omega
  go_enter Tryz.func102, Tryz.ntmps102
  go_upto_region 1 with fail
  refine wp_at (fun W => At W w.heap.size h.ps.toArray 107 ∧ At W (w.heap.size + 1) #[.int .i64 p, .int .i64 s, .int .i64 l, .int .i64 c, .int .i64 k] 35 ∧ Below w.heap.size w W) (two_box w _ _ _ _) ?_
  rintro W ⟨A, P, z⟩
  have l11 : ∀ w', Cls W w' → (loadVar 2 ⟨w.heap.size, 11, none⟩).run Tryz.prog w' = .ok (.int .i64 h.for_) w' := ld_i A Tryz.underlying2 rfl
  have l17 : ∀ w', Cls W w' → (loadVar 2 ⟨w.heap.size, 17, none⟩).run Tryz.prog w' = .ok (.int .i64 h.addr) w' := ld_i A Tryz.underlying2 rfl
  have l29 : ∀ w', Cls W w' → (loadVar 2 ⟨w.heap.size, 29, none⟩).run Tryz.prog w' = .ok (.int .i64 h.index) w' := ld_i A Tryz.underlying2 rfl
  have l30 : ∀ w', Cls W w' → (loadVar 2 ⟨w.heap.size, 30, none⟩).run Tryz.prog w' = .ok (.int .i64 h.which) w' := ld_i A Tryz.underlying2 rfl
  have l0 : ∀ w', Cls W w' → (loadVar 2 ⟨w.heap.size + 1, 0, none⟩).run Tryz.prog w' = .ok (.int .i64 p) w' := ld_i P Tryz.underlying2 rfl
  have lp : ∀ w', Cls W w' → (loadVar 35 ⟨w.heap.size + 1, 0, none⟩).run Tryz.prog w' = .ok (.agg #[.int .i64 p, .int .i64 s, .int .i64 l, .int .i64 c, .int .i64 k]) w' := ld_agg (vs := [.int .i64 p, .int .i64 s, .int .i64 l, .int .i64 c, .int .i64 k]) P Tryz.underlying35 rfl (by kernel_rfl)
  refine wp_region_held_drew (S := Cls W) (by kernel_rfl) ⟨⟨rfl, rfl, rfl, Nat.le_refl _, fun _ _ => rfl⟩⟩ (fun hS => ?_)
  generalize W.drew = v0 at *
  refine tk_load (i := 0) (oi := pk0) rfl (by kernel_rfl) (by kernel_rfl) (by kernel_rfl) (fun _ _ _ h => h) (by rfl) _ _ _ rfl rfl (by assumption) hS ?_
  simp only [pk0, Act.put, List.setIfInBounds_toArray, List.set_cons_zero, List.set_cons_succ]
  refine tk_pure (i := 1) (oi := pk1) rfl (by kernel_rfl) (by kernel_rfl) (by kernel_rfl) (fun _ _ _ h => h) (by rfl) hS (fun w9 => by simp only [pk1]; go_simp; (try with_reducible rfl)) ?_
  simp only [pk1, Act.put, List.setIfInBounds_toArray, List.set_cons_zero, List.set_cons_succ]
  refine tk_pure (i := 2) (oi := pk2) rfl (by kernel_rfl) (by kernel_rfl) (by kernel_rfl) (fun _ _ _ h => h) (by rfl) hS (fun w9 => by simp only [pk2]; go_simp; (try with_reducible rfl)) ?_
  simp only [pk2, Act.put, List.setIfInBounds_toArray, List.set_cons_zero, List.set_cons_succ]
  refine tk_load (i := 3) (oi := pk3) rfl (by kernel_rfl) (by kernel_rfl) (by kernel_rfl) (fun _ _ _ h => h) (by rfl) _ _ _ rfl rfl (by assumption) hS ?_
  simp only [pk3, Act.put, List.setIfInBounds_toArray, List.set_cons_zero, List.set_cons_succ]
  refine wpAnyH_ready (rs := [4]) (by kernel_rfl) (by simp) ?_
  refine AllReadyH.cons (o := pk4) rfl (fun K hK => ?_) ?_
  · rw [if_pos (by rfl)]
    simp only [pk4]
    go_simp
    go_at_call 47
    refine (iHas p s l c k h.for_ ho _).mono ?_
    rintro e v1 ⟨rfl, hb⟩
    rw [e1]
    (go_wp2_with fail)
    have hS2 : Cls W v1 := ⟨hS.below.trans (hb.mono hS.below.size)⟩
    clear hb
    refine hK.out _ _ hS2 (fun hS => ?_)
    clear hK K
    (try simp only [pk4, Act.put, List.setIfInBounds_toArray, List.set_cons_zero, List.set_cons_succ])
    refine tk_pure (i := 5) (oi := pk5) rfl (by kernel_rfl) (by kernel_rfl) (by kernel_rfl) (fun _ _ _ h => h) (by rfl) hS (fun w9 => by simp only [pk5]; go_simp; (try with_reducible rfl)) ?_
    simp only [pk5, Act.put, List.setIfInBounds_toArray, List.set_cons_zero, List.set_cons_succ]
    refine tk_skip (i := 6) (oi := pk6) rfl (by kernel_rfl) (by kernel_rfl) (by kernel_rfl) (fun _ _ _ h => h) (by rfl) hS ?_
    simp only [pk6, Act.put, List.setIfInBounds_toArray, List.set_cons_zero, List.set_cons_succ]
    refine tk_skip (i := 7) (oi := pk7) rfl (by kernel_rfl) (by kernel_rfl) (by kernel_rfl) (fun _ _ _ h => h) (by rfl) hS ?_
    simp only [pk7, Act.put, List.setIfInBounds_toArray, List.set_cons_zero, List.set_cons_succ]
    refine tk_skip (i := 8) (oi := pk8) rfl (by kernel_rfl) (by kernel_rfl) (by kernel_rfl) (fun _ _ _ h => h) (by rfl) hS ?_
    simp only [pk8, Act.put, List.setIfInBounds_toArray, List.set_cons_zero, List.set_cons_succ]
    refine tk_skip (i := 9) (oi := pk9) rfl (by kernel_rfl) (by kernel_rfl) (by kernel_rfl) (fun _ _ _ h => h) (by rfl) hS ?_
    simp only [pk9, Act.put, List.setIfInBounds_toArray, List.set_cons_zero, List.set_cons_succ]
    refine tk_skip (i := 10) (oi := pk10) rfl (by kernel_rfl) (by kernel_rfl) (by kernel_rfl) (fun _ _ _ h => h) (by rfl) hS ?_
    simp only [pk10, Act.put, List.setIfInBounds_toArray, List.set_cons_zero, List.set_cons_succ]
    refine tk_skip (i := 11) (oi := pk11) rfl (by kernel_rfl) (by kernel_rfl) (by kernel_rfl) (fun _ _ _ h => h) (by rfl) hS ?_
    simp only [pk11, Act.put, List.setIfInBounds_toArray, List.set_cons_zero, List.set_cons_succ]
    refine tk_skip (i := 12) (oi := pk12) rfl (by kernel_rfl) (by kernel_rfl) (by kernel_rfl) (fun _ _ _ h => h) (by rfl) hS ?_
    simp only [pk12, Act.put, List.setIfInBounds_toArray, List.set_cons_zero, List.set_cons_succ]
    refine tk_skip (i := 13) (oi := pk13) rfl (by kernel_rfl) (by kernel_rfl) (by kernel_rfl) (fun _ _ _ h => h) (by rfl) hS ?_
    simp only [pk13, Act.put, List.setIfInBounds_toArray, List.set_cons_zero, List.set_cons_succ]
    refine tk_pure (i := 14) (oi := pk14) rfl (by kernel_rfl) (by kernel_rfl) (by kernel_rfl) (fun _ _ _ h => h) (by rfl) hS (fun w9 => by simp only [pk14]; go_simp; (try with_reducible rfl)) ?_
    simp only [pk14, Act.put, List.setIfInBounds_toArray, List.set_cons_zero, List.set_cons_succ]
    refine tk_pure (i := 15) (oi := pk15) rfl (by kernel_rfl) (by kernel_rfl) (by kernel_rfl) (fun _ _ _ h => h) (by rfl) hS (fun w9 => by simp only [pk15]; go_simp; (try with_reducible rfl)) ?_
    simp only [pk15, Act.put, List.setIfInBounds_toArray, List.set_cons_zero, List.set_cons_succ]
    refine tk_skip (i := 16) (oi := pk16) rfl (by kernel_rfl) (by kernel_rfl) (by kernel_rfl) (fun _ _ _ h => h) (by rfl) hS ?_
    simp only [pk16, Act.put, List.setIfInBounds_toArray, List.set_cons_zero, List.set_cons_succ]
    refine tk_skip (i := 17) (oi := pk17) rfl (by kernel_rfl) (by kernel_rfl) (by kernel_rfl) (fun _ _ _ h => h) (by rfl) hS ?_
    simp only [pk17, Act.put, List.setIfInBounds_toArray, List.set_cons_zero, List.set_cons_succ]
    refine tk_skip (i := 18) (oi := pk18) rfl (by kernel_rfl) (by kernel_rfl) (by kernel_rfl) (fun _ _ _ h => h) (by rfl) hS ?_
    simp only [pk18, Act.put, List.setIfInBounds_toArray, List.set_cons_zero, List.set_cons_succ]
    refine tk_skip (i := 19) (oi := pk19) rfl (by kernel_rfl) (by kernel_rfl) (by kernel_rfl) (fun _ _ _ h => h) (by rfl) hS ?_
    simp only [pk19, Act.put, List.setIfInBounds_toArray, List.set_cons_zero, List.set_cons_succ]
    refine tk_skip (i := 20) (oi := pk20) rfl (by kernel_rfl) (by kernel_rfl) (by kernel_rfl) (fun _ _ _ h => h) (by rfl) hS ?_
    simp only [pk20, Act.put, List.setIfInBounds_toArray, List.set_cons_zero, List.set_cons_succ]
    refine tk_skip (i := 21) (oi := pk21) rfl (by kernel_rfl) (by kernel_rfl) (by kernel_rfl) (fun _ _ _ h => h) (by rfl) hS ?_
    simp only [pk21, Act.put, List.setIfInBounds_toArray, List.set_cons_zero, List.set_cons_succ]
    refine tk_skip (i := 22) (oi := pk22) rfl (by kernel_rfl) (by kernel_rfl) (by kernel_rfl) (fun _ _ _ h => h) (by rfl) hS ?_
    simp only [pk22, Act.put, List.setIfInBounds_toArray, List.set_cons_zero, List.set_cons_succ]
    refine tk_skip (i := 23) (oi := pk23) rfl (by kernel_rfl) (by kernel_rfl) (by kernel_rfl) (fun _ _ _ h => h) (by rfl) hS ?_
    simp only [pk23, Act.put, List.setIfInBounds_toArray, List.set_cons_zero, List.set_cons_succ]
    refine tk_pure (i := 24) (oi := pk24) rfl (by kernel_rfl) (by kernel_rfl) (by kernel_rfl) (fun _ _ _ h => h) (by rfl) hS (fun w9 => by simp only [pk24]; go_simp; (try with_reducible rfl)) ?_
    simp only [pk24, Act.put, List.setIfInBounds_toArray, List.set_cons_zero, List.set_cons_succ]
    refine tk_pure (i := 25) (oi := pk25) rfl (by kernel_rfl) (by kernel_rfl) (by kernel_rfl) (fun _ _ _ h => h) (by rfl) hS (fun w9 => by simp only [pk25]; go_simp; (try with_reducible rfl)) ?_
    simp only [pk25, Act.put, List.setIfInBounds_toArray, List.set_cons_zero, List.set_cons_succ]
    refine tk_skip (i := 26) (oi := pk26) rfl (by kernel_rfl) (by kernel_rfl) (by kernel_rfl) (fun _ _ _ h => h) (by rfl) hS ?_
    simp only [pk26, Act.put, List.setIfInBounds_toArray, List.set_cons_zero, List.set_cons_succ]
    refine tk_skip (i := 27) (oi := pk27) rfl (by kernel_rfl) (by kernel_rfl) (by kernel_rfl) (fun _ _ _ h => h) (by rfl) hS ?_
    simp only [pk27, Act.put, List.setIfInBounds_toArray, List.set_cons_zero, List.set_cons_succ]
    refine tk_skip (i := 28) (oi := pk28) rfl (by kernel_rfl) (by kernel_rfl) (by kernel_rfl) (fun _ _ _ h => h) (by rfl) hS ?_
    simp only [pk28, Act.put, List.setIfInBounds_toArray, List.set_cons_zero, List.set_cons_succ]
    refine tk_skip (i := 29) (oi := pk29) rfl (by kernel_rfl) (by kernel_rfl) (by kernel_rfl) (fun _ _ _ h => h) (by rfl) hS ?_
    simp only [pk29, Act.put, List.setIfInBounds_toArray, List.set_cons_zero, List.set_cons_succ]
    refine tk_skip (i := 30) (oi := pk30) rfl (by kernel_rfl) (by kernel_rfl) (by kernel_rfl) (fun _ _ _ h => h) (by rfl) hS ?_
    simp only [pk30, Act.put, List.setIfInBounds_toArray, List.set_cons_zero, List.set_cons_succ]
    refine tk_skip (i := 31) (oi := pk31) rfl (by kernel_rfl) (by kernel_rfl) (by kernel_rfl) (fun _ _ _ h => h) (by rfl) hS ?_
    simp only [pk31, Act.put, List.setIfInBounds_toArray, List.set_cons_zero, List.set_cons_succ]
    refine tk_skip (i := 32) (oi := pk32) rfl (by kernel_rfl) (by kernel_rfl) (by kernel_rfl) (fun _ _ _ h => h) (by rfl) hS ?_
    simp only [pk32, Act.put, List.setIfInBounds_toArray, List.set_cons_zero, List.set_cons_succ]
    refine tk_skip (i := 33) (oi := pk33) rfl (by kernel_rfl) (by kernel_rfl) (by kernel_rfl) (fun _ _ _ h => h) (by rfl) hS ?_
    simp only [pk33, Act.put, List.setIfInBounds_toArray, List.set_cons_zero, List.set_cons_succ]
    refine tk_skip (i := 34) (oi := pk34) rfl (by kernel_rfl) (by kernel_rfl) (by kernel_rfl) (fun _ _ _ h => h) (by rfl) hS ?_
    simp only [pk34, Act.put, List.setIfInBounds_toArray, List.set_cons_zero, List.set_cons_succ]
    refine tk_pure (i := 35) (oi := pk35) rfl (by kernel_rfl) (by kernel_rfl) (by kernel_rfl) (fun _ _ _ h => h) (by rfl) hS (fun w9 => by simp only [pk35]; go_simp; (try with_reducible rfl)) ?_
    simp only [pk35, Act.put, List.setIfInBounds_toArray, List.set_cons_zero, List.set_cons_succ]
    refine tk_pure (i := 36) (oi := pk36) rfl (by kernel_rfl) (by kernel_rfl) (by kernel_rfl) (fun _ _ _ h => h) (by rfl) hS (fun w9 => by simp only [pk36]; go_simp; (try with_reducible rfl)) ?_
    simp only [pk36, Act.put, List.setIfInBounds_toArray, List.set_cons_zero, List.set_cons_succ]
    refine wpAnyH_done (by kernel_rfl) ?_ _
    go_wp2
    go_returns
    exact ⟨ret_b (by simp only [Hd.placesB, ez.out, *]; rfl), z.trans (hS.below.mono z.size)⟩
  exact AllReadyH.nil
set_option maxHeartbeats 32000000 in
theorem iPlacesB (p s l c k z0 : Int) (h : Hd) (ho : ok p s l c k = true) (ez : Hid (zF p s l c = z0)) (zb : 0 ≤ z0 ∧ z0 ≤ 100000) (e1 : inB h.for_ 0 (p - 1) = true) (e2 : allUp (z0 - 1) [h.addr] = false) (w : World) : Calls Tryz.prog 102 #[.agg h.ps.toArray, .agg #[.int .i64 p, .int .i64 s, .int .i64 l, .int .i64 c, .int .i64 k]] w fun e w' => e = .returned (.bool (h.placesB p s l c)) ∧ Below w.heap.size w w' := by
  have h' := ok_iff.1 ho
  have eS : Hid (vSize p s l c k = z0) := by rw [← ez.out]; unfold vSize; rw [ho]; rfl
  have eB : Hid (vBlocks p s l c k = s + l) := by unfold vBlocks; rw [ho]; rfl
  have wz : Hid (IntKind.i64.wrap (z0 - 1) = z0 - 1) := by show _ = _; rw [IntKind.wrap_i64]; omega
  have wb : Hid (IntKind.i64.wrap (s + l + 1) = s + l + 1) := by show _ = _; rw [IntKind.wrap_i64]; omega
  have wp : Hid (IntKind.i64.wrap (IntKind.i64.wrap (2 * p) - 1) = 2 * p - 1) := by show _ = _; rw [IntKind.wrap_i64, IntKind.wrap_i64]; omega
  have wq : Hid (IntKind.i64.wrap (2 * p - 1) = 2 * p - 1) := by show _ = _; rw [IntKind.wrap_i64]; omega
  go_enter Tryz.func102, Tryz.ntmps102
  go_upto_region 1 with fail
  refine wp_at (fun W => At W w.heap.size h.ps.toArray 107 ∧ At W (w.heap.size + 1) #[.int .i64 p, .int .i64 s, .int .i64 l, .int .i64 c, .int .i64 k] 35 ∧ Below w.heap.size w W) (two_box w _ _ _ _) ?_
  rintro W ⟨A, P, z⟩
  have l11 : ∀ w', Cls W w' → (loadVar 2 ⟨w.heap.size, 11, none⟩).run Tryz.prog w' = .ok (.int .i64 h.for_) w' := ld_i A Tryz.underlying2 rfl
  have l17 : ∀ w', Cls W w' → (loadVar 2 ⟨w.heap.size, 17, none⟩).run Tryz.prog w' = .ok (.int .i64 h.addr) w' := ld_i A Tryz.underlying2 rfl
  have l29 : ∀ w', Cls W w' → (loadVar 2 ⟨w.heap.size, 29, none⟩).run Tryz.prog w' = .ok (.int .i64 h.index) w' := ld_i A Tryz.underlying2 rfl
  have l30 : ∀ w', Cls W w' → (loadVar 2 ⟨w.heap.size, 30, none⟩).run Tryz.prog w' = .ok (.int .i64 h.which) w' := ld_i A Tryz.underlying2 rfl
  have l0 : ∀ w', Cls W w' → (loadVar 2 ⟨w.heap.size + 1, 0, none⟩).run Tryz.prog w' = .ok (.int .i64 p) w' := ld_i P Tryz.underlying2 rfl
  have lp : ∀ w', Cls W w' → (loadVar 35 ⟨w.heap.size + 1, 0, none⟩).run Tryz.prog w' = .ok (.agg #[.int .i64 p, .int .i64 s, .int .i64 l, .int .i64 c, .int .i64 k]) w' := ld_agg (vs := [.int .i64 p, .int .i64 s, .int .i64 l, .int .i64 c, .int .i64 k]) P Tryz.underlying35 rfl (by kernel_rfl)
  refine wp_region_held_drew (S := Cls W) (by kernel_rfl) ⟨⟨rfl, rfl, rfl, Nat.le_refl _, fun _ _ => rfl⟩⟩ (fun hS => ?_)
  generalize W.drew = v0 at *
  refine tk_load (i := 0) (oi := pk0) rfl (by kernel_rfl) (by kernel_rfl) (by kernel_rfl) (fun _ _ _ h => h) (by rfl) _ _ _ rfl rfl (by assumption) hS ?_
  simp only [pk0, Act.put, List.setIfInBounds_toArray, List.set_cons_zero, List.set_cons_succ]
  refine tk_pure (i := 1) (oi := pk1) rfl (by kernel_rfl) (by kernel_rfl) (by kernel_rfl) (fun _ _ _ h => h) (by rfl) hS (fun w9 => by simp only [pk1]; go_simp; (try with_reducible rfl)) ?_
  simp only [pk1, Act.put, List.setIfInBounds_toArray, List.set_cons_zero, List.set_cons_succ]
  refine tk_pure (i := 2) (oi := pk2) rfl (by kernel_rfl) (by kernel_rfl) (by kernel_rfl) (fun _ _ _ h => h) (by rfl) hS (fun w9 => by simp only [pk2]; go_simp; (try with_reducible rfl)) ?_
  simp only [pk2, Act.put, List.setIfInBounds_toArray, List.set_cons_zero, List.set_cons_succ]
  refine tk_load (i := 3) (oi := pk3) rfl (by kernel_rfl) (by kernel_rfl) (by kernel_rfl) (fun _ _ _ h => h) (by rfl) _ _ _ rfl rfl (by assumption) hS ?_
  simp only [pk3, Act.put, List.setIfInBounds_toArray, List.set_cons_zero, List.set_cons_succ]
  refine wpAnyH_ready (rs := [4]) (by kernel_rfl) (by simp) ?_
  refine AllReadyH.cons (o := pk4) rfl (fun K hK => ?_) ?_
  · rw [if_pos (by rfl)]
    simp only [pk4]
    go_simp
    go_at_call 47
    refine (iHas p s l c k h.for_ ho _).mono ?_
    rintro e v1 ⟨rfl, hb⟩
    rw [e1]
    (go_wp2_with fail)
    have hS2 : Cls W v1 := ⟨hS.below.trans (hb.mono hS.below.size)⟩
    clear hb
    refine hK.out _ _ hS2 (fun hS => ?_)
    clear hK K
    (try simp only [pk4, Act.put, List.setIfInBounds_toArray, List.set_cons_zero, List.set_cons_succ])
    refine tk_pure (i := 5) (oi := pk5) rfl (by kernel_rfl) (by kernel_rfl) (by kernel_rfl) (fun _ _ _ h => h) (by rfl) hS (fun w9 => by simp only [pk5]; go_simp; (try with_reducible rfl)) ?_
    simp only [pk5, Act.put, List.setIfInBounds_toArray, List.set_cons_zero, List.set_cons_succ]
    refine tk_load (i := 6) (oi := pk6) rfl (by kernel_rfl) (by kernel_rfl) (by kernel_rfl) (fun _ _ _ h => h) (by rfl) _ _ _ rfl rfl (by assumption) hS ?_
    simp only [pk6, Act.put, List.setIfInBounds_toArray, List.set_cons_zero, List.set_cons_succ]
    refine tk_pure (i := 9) (oi := pk9) rfl (by kernel_rfl) (by kernel_rfl) (by kernel_rfl) (fun _ _ _ h => h) (by rfl) hS (fun w9 => by simp only [pk9]; go_simp; (try with_reducible rfl)) ?_
    simp only [pk9, Act.put, List.setIfInBounds_toArray, List.set_cons_zero, List.set_cons_succ]
    refine tk_pure (i := 10) (oi := pk10) rfl (by kernel_rfl) (by kernel_rfl) (by kernel_rfl) (fun _ _ _ h => h) (by rfl) hS (fun w9 => by simp only [pk10]; go_simp; (try with_reducible rfl)) ?_
    simp only [pk10, Act.put, List.setIfInBounds_toArray, List.set_cons_zero, List.set_cons_succ]
    refine tk_load (i := 11) (oi := pk11) rfl (by kernel_rfl) (by kernel_rfl) (by kernel_rfl) (fun _ _ _ h => h) (by rfl) _ _ _ rfl rfl (by assumption) hS ?_
    simp only [pk11, Act.put, List.setIfInBounds_toArray, List.set_cons_zero, List.set_cons_succ]
    refine wpAnyH_ready (rs := [7, 12]) (by kernel_rfl) (by simp) ?_
    refine AllReadyH.cons (o := pk7) rfl (fun K hK => ?_) ?_
    · rw [if_pos (by rfl)]
      simp only [pk7]
      go_simp
      go_at_call 92
      refine (iSize p s l c k _).mono ?_
      rintro e v2 ⟨rfl, hb⟩
      rw [eS.out]
      (go_wp2_with fail)
      have hS2 : Cls W v2 := ⟨hS.below.trans (hb.mono hS.below.size)⟩
      clear hb
      refine hK.out _ _ hS2 (fun hS => ?_)
      clear hK K
      (try simp only [pk7, Act.put, List.setIfInBounds_toArray, List.set_cons_zero, List.set_cons_succ])
      refine tk_pure (i := 8) (oi := pk8) rfl (by kernel_rfl) (by kernel_rfl) (by kernel_rfl) (fun _ _ _ h => h) (by rfl) hS (fun w9 => by simp only [pk8]; go_simp; (try with_reducible rfl)) ?_
      simp only [pk8, Act.put, List.setIfInBounds_toArray, List.set_cons_zero, List.set_cons_succ]
      refine wpAnyH_ready (rs := [12]) (by kernel_rfl) (by simp) ?_
      refine AllReadyH.cons (o := pk12) rfl (fun K hK => ?_) ?_
      · rw [if_pos (by rfl)]
        simp only [pk12]
        go_simp
        have sl1 : At (v2.alloc (.cells #[.int .i64 h.addr] 2)) v2.heap.size #[.int .i64 h.addr] 2 := At.new _ _ _
        have hb : Below v2.heap.size v2 (v2.alloc (.cells #[.int .i64 h.addr] 2)) := (Below.refl _ _).alloc (Nat.le_refl _) _
        generalize v2.alloc (.cells #[.int .i64 h.addr] 2) = v3 at *
        have hS2 : Cls W v3 := ⟨hS.below.trans (hb.mono hS.below.size)⟩
        clear hb
        refine hK.out _ _ hS2 (fun hS => ?_)
        clear hK K
        (try simp only [pk12, Act.put, List.setIfInBounds_toArray, List.set_cons_zero, List.set_cons_succ])
        refine wpAnyH_ready (rs := [13]) (by kernel_rfl) (by simp) ?_
        refine AllReadyH.cons (o := pk13) rfl (fun K hK => ?_) ?_
        · rw [if_pos (by rfl)]
          simp only [pk13]
          go_simp
          go_at_call 95
          refine (iUpTo _ _ 1 [h.addr] rfl (by omega) _ (slices_at sl1)).mono ?_
          rintro e v4 ⟨rfl, rfl⟩
          (try rw [wz.out]); (try rw [wq.out]); rw [e2]
          (go_wp2_with fail)
          have hS2 : Cls W v4 := hS
          refine hK.out _ _ hS2 (fun hS => ?_)
          clear hK K
          (try simp only [pk13, Act.put, List.setIfInBounds_toArray, List.set_cons_zero, List.set_cons_succ])
          refine tk_pure (i := 14) (oi := pk14) rfl (by kernel_rfl) (by kernel_rfl) (by kernel_rfl) (fun _ _ _ h => h) (by rfl) hS (fun w9 => by simp only [pk14]; go_simp; (try with_reducible rfl)) ?_
          simp only [pk14, Act.put, List.setIfInBounds_toArray, List.set_cons_zero, List.set_cons_succ]
          refine tk_pure (i := 15) (oi := pk15) rfl (by kernel_rfl) (by kernel_rfl) (by kernel_rfl) (fun _ _ _ h => h) (by rfl) hS (fun w9 => by simp only [pk15]; go_simp; (try with_reducible rfl)) ?_
          simp only [pk15, Act.put, List.setIfInBounds_toArray, List.set_cons_zero, List.set_cons_succ]
          refine tk_skip (i := 16) (oi := pk16) rfl (by kernel_rfl) (by kernel_rfl) (by kernel_rfl) (fun _ _ _ h => h) (by rfl) hS ?_
          simp only [pk16, Act.put, List.setIfInBounds_toArray, List.set_cons_zero, List.set_cons_succ]
          refine tk_skip (i := 17) (oi := pk17) rfl (by kernel_rfl) (by kernel_rfl) (by kernel_rfl) (fun _ _ _ h => h) (by rfl) hS ?_
          simp only [pk17, Act.put, List.setIfInBounds_toArray, List.set_cons_zero, List.set_cons_succ]
          refine tk_skip (i := 18) (oi := pk18) rfl (by kernel_rfl) (by kernel_rfl) (by kernel_rfl) (fun _ _ _ h => h) (by rfl) hS ?_
          simp only [pk18, Act.put, List.setIfInBounds_toArray, List.set_cons_zero, List.set_cons_succ]
          refine tk_skip (i := 19) (oi := pk19) rfl (by kernel_rfl) (by kernel_rfl) (by kernel_rfl) (fun _ _ _ h => h) (by rfl) hS ?_
          simp only [pk19, Act.put, List.setIfInBounds_toArray, List.set_cons_zero, List.set_cons_succ]
          refine tk_skip (i := 20) (oi := pk20) rfl (by kernel_rfl) (by kernel_rfl) (by kernel_rfl) (fun _ _ _ h => h) (by rfl) hS ?_
          simp only [pk20, Act.put, List.setIfInBounds_toArray, List.set_cons_zero, List.set_cons_succ]
          refine tk_skip (i := 21) (oi := pk21) rfl (by kernel_rfl) (by kernel_rfl) (by kernel_rfl) (fun _ _ _ h => h) (by rfl) hS ?_
          simp only [pk21, Act.put, List.setIfInBounds_toArray, List.set_cons_zero, List.set_cons_succ]
          refine tk_skip (i := 22) (oi := pk22) rfl (by kernel_rfl) (by kernel_rfl) (by kernel_rfl) (fun _ _ _ h => h) (by rfl) hS ?_
          simp only [pk22, Act.put, List.setIfInBounds_toArray, List.set_cons_zero, List.set_cons_succ]
          refine tk_skip (i := 23) (oi := pk23) rfl (by kernel_rfl) (by kernel_rfl) (by kernel_rfl) (fun _ _ _ h => h) (by rfl) hS ?_
          simp only [pk23, Act.put, List.setIfInBounds_toArray, List.set_cons_zero, List.set_cons_succ]
          refine tk_pure (i := 24) (oi := pk24) rfl (by kernel_rfl) (by kernel_rfl) (by kernel_rfl) (fun _ _ _ h => h) (by rfl) hS (fun w9 => by simp only [pk24]; go_simp; (try with_reducible rfl)) ?_
          simp only [pk24, Act.put, List.setIfInBounds_toArray, List.set_cons_zero, List.set_cons_succ]
          refine tk_pure (i := 25) (oi := pk25) rfl (by kernel_rfl) (by kernel_rfl) (by kernel_rfl) (fun _ _ _ h => h) (by rfl) hS (fun w9 => by simp only [pk25]; go_simp; (try with_reducible rfl)) ?_
          simp only [pk25, Act.put, List.setIfInBounds_toArray, List.set_cons_zero, List.set_cons_succ]
          refine tk_skip (i := 26) (oi := pk26) rfl (by kernel_rfl) (by kernel_rfl) (by kernel_rfl) (fun _ _ _ h => h) (by rfl) hS ?_
          simp only [pk26, Act.put, List.setIfInBounds_toArray, List.set_cons_zero, List.set_cons_succ]
          refine tk_skip (i := 27) (oi := pk27) rfl (by kernel_rfl) (by kernel_rfl) (by kernel_rfl) (fun _ _ _ h => h) (by rfl) hS ?_
          simp only [pk27, Act.put, List.setIfInBounds_toArray, List.set_cons_zero, List.set_cons_succ]
          refine tk_skip (i := 28) (oi := pk28) rfl (by kernel_rfl) (by kernel_rfl) (by kernel_rfl) (fun _ _ _ h => h) (by rfl) hS ?_
          simp only [pk28, Act.put, List.setIfInBounds_toArray, List.set_cons_zero, List.set_cons_succ]
          refine tk_skip (i := 29) (oi := pk29) rfl (by kernel_rfl) (by kernel_rfl) (by kernel_rfl) (fun _ _ _ h => h) (by rfl) hS ?_
          simp only [pk29, Act.put, List.setIfInBounds_toArray, List.set_cons_zero, List.set_cons_succ]
          refine tk_skip (i := 30) (oi := pk30) rfl (by kernel_rfl) (by kernel_rfl) (by kernel_rfl) (fun _ _ _ h => h) (by rfl) hS ?_
          simp only [pk30, Act.put, List.setIfInBounds_toArray, List.set_cons_zero, List.set_cons_succ]
          refine tk_skip (i := 31) (oi := pk31) rfl (by kernel_rfl) (by kernel_rfl) (by kernel_rfl) (fun _ _ _ h => h) (by rfl) hS ?_
          simp only [pk31, Act.put, List.setIfInBounds_toArray, List.set_cons_zero, List.set_cons_succ]
          refine tk_skip (i := 32) (oi := pk32) rfl (by kernel_rfl) (by kernel_rfl) (by kernel_rfl) (fun _ _ _ h => h) (by rfl) hS ?_
          simp only [pk32, Act.put, List.setIfInBounds_toArray, List.set_cons_zero, List.set_cons_succ]
          refine tk_skip (i := 33) (oi := pk33) rfl (by kernel_rfl) (by kernel_rfl) (by kernel_rfl) (fun _ _ _ h => h) (by rfl) hS ?_
          simp only [pk33, Act.put, List.setIfInBounds_toArray, List.set_cons_zero, List.set_cons_succ]
          refine tk_skip (i := 34) (oi := pk34) rfl (by kernel_rfl) (by kernel_rfl) (by kernel_rfl) (fun _ _ _ h => h) (by rfl) hS ?_
          simp only [pk34, Act.put, List.setIfInBounds_toArray, List.set_cons_zero, List.set_cons_succ]
          refine tk_pure (i := 35) (oi := pk35) rfl (by kernel_rfl) (by kernel_rfl) (by kernel_rfl) (fun _ _ _ h => h) (by rfl) hS (fun w9 => by simp only [pk35]; go_simp; (try with_reducible rfl)) ?_
          simp only [pk35, Act.put, List.setIfInBounds_toArray, List.set_cons_zero, List.set_cons_succ]
          refine tk_pure (i := 36) (oi := pk36) rfl (by kernel_rfl) (by kernel_rfl) (by kernel_rfl) (fun _ _ _ h => h) (by rfl) hS (fun w9 => by simp only [pk36]; go_simp; (try with_reducible rfl)) ?_
          simp only [pk36, Act.put, List.setIfInBounds_toArray, List.set_cons_zero, List.set_cons_succ]
          refine wpAnyH_done (by kernel_rfl) ?_ _
          go_wp2
          go_returns
          exact ⟨ret_b (by simp only [Hd.placesB, ez.out, *]; rfl), z.trans (hS.below.mono z.size)⟩
        exact AllReadyH.nil
      exact AllReadyH.nil
    refine AllReadyH.cons (o := pk12) rfl (fun K hK => ?_) ?_
    · rw [if_pos (by rfl)]
      simp only [pk12]
      go_simp
      have sl1 : At (v1.alloc (.cells #[.int .i64 h.addr] 2)) v1.heap.size #[.int .i64 h.addr] 2 := At.new _ _ _
      have hb : Below v1.heap.size v1 (v1.alloc (.cells #[.int .i64 h.addr] 2)) := (Below.refl _ _).alloc (Nat.le_refl _) _
      generalize v1.alloc (.cells #[.int .i64 h.addr] 2) = v2 at *
      have hS2 : Cls W v2 := ⟨hS.below.trans (hb.mono hS.below.size)⟩
      clear hb
      refine hK.out _ _ hS2 (fun hS => ?_)
      clear hK K
      (try simp only [pk12, Act.put, List.setIfInBounds_toArray, List.set_cons_zero, List.set_cons_succ])
      refine wpAnyH_ready (rs := [7]) (by kernel_rfl) (by simp) ?_
      refine AllReadyH.cons (o := pk7) rfl (fun K hK => ?_) ?_
      · rw [if_pos (by rfl)]
        simp only [pk7]
        go_simp
        go_at_call 92
        refine (iSize p s l c k _).mono ?_
        rintro e v3 ⟨rfl, hb⟩
        rw [eS.out]
        (go_wp2_with fail)
        replace sl1 := sl1.keep hb
        have hS2 : Cls W v3 := ⟨hS.below.trans (hb.mono hS.below.size)⟩
        clear hb
        refine hK.out _ _ hS2 (fun hS => ?_)
        clear hK K
        (try simp only [pk7, Act.put, List.setIfInBounds_toArray, List.set_cons_zero, List.set_cons_succ])
        refine tk_pure (i := 8) (oi := pk8) rfl (by kernel_rfl) (by kernel_rfl) (by kernel_rfl) (fun _ _ _ h => h) (by rfl) hS (fun w9 => by simp only [pk8]; go_simp; (try with_reducible rfl)) ?_
        simp only [pk8, Act.put, List.setIfInBounds_toArray, List.set_cons_zero, List.set_cons_succ]
        refine wpAnyH_ready (rs := [13]) (by kernel_rfl) (by simp) ?_
        refine AllReadyH.cons (o := pk13) rfl (fun K hK => ?_) ?_
        · rw [if_pos (by rfl)]
          simp only [pk13]
          go_simp
          go_at_call 95
          refine (iUpTo _ _ 1 [h.addr] rfl (by omega) _ (slices_at sl1)).mono ?_
          rintro e v4 ⟨rfl, rfl⟩
          (try rw [wz.out]); (try rw [wq.out]); rw [e2]
          (go_wp2_with fail)
          have hS2 : Cls W v4 := hS
          refine hK.out _ _ hS2 (fun hS => ?_)
          clear hK K
          (try simp only [pk13, Act.put, List.setIfInBounds_toArray, List.set_cons_zero, List.set_cons_succ])
          refine tk_pure (i := 14) (oi := pk14) rfl (by kernel_rfl) (by kernel_rfl) (by kernel_rfl) (fun _ _ _ h => h) (by rfl) hS (fun w9 => by simp only [pk14]; go_simp; (try with_reducible rfl)) ?_
          simp only [pk14, Act.put, List.setIfInBounds_toArray, List.set_cons_zero, List.set_cons_succ]
          refine tk_pure (i := 15) (oi := pk15) rfl (by kernel_rfl) (by kernel_rfl) (by kernel_rfl) (fun _ _ _ h => h) (by rfl) hS (fun w9 => by simp only [pk15]; go_simp; (try with_reducible rfl)) ?_
          simp only [pk15, Act.put, List.setIfInBounds_toArray, List.set_cons_zero, List.set_cons_succ]
          refine tk_skip (i := 16) (oi := pk16) rfl (by kernel_rfl) (by kernel_rfl) (by kernel_rfl) (fun _ _ _ h => h) (by rfl) hS ?_
          simp only [pk16, Act.put, List.setIfInBounds_toArray, List.set_cons_zero, List.set_cons_succ]
          refine tk_skip (i := 17) (oi := pk17) rfl (by kernel_rfl) (by kernel_rfl) (by kernel_rfl) (fun _ _ _ h => h) (by rfl) hS ?_
          simp only [pk17, Act.put, List.setIfInBounds_toArray, List.set_cons_zero, List.set_cons_succ]
          refine tk_skip (i := 18) (oi := pk18) rfl (by kernel_rfl) (by kernel_rfl) (by kernel_rfl) (fun _ _ _ h => h) (by rfl) hS ?_
          simp only [pk18, Act.put, List.setIfInBounds_toArray, List.set_cons_zero, List.set_cons_succ]
          refine tk_skip (i := 19) (oi := pk19) rfl (by kernel_rfl) (by kernel_rfl) (by kernel_rfl) (fun _ _ _ h => h) (by rfl) hS ?_
          simp only [pk19, Act.put, List.setIfInBounds_toArray, List.set_cons_zero, List.set_cons_succ]
          refine tk_skip (i := 20) (oi := pk20) rfl (by kernel_rfl) (by kernel_rfl) (by kernel_rfl) (fun _ _ _ h => h) (by rfl) hS ?_
          simp only [pk20, Act.put, List.setIfInBounds_toArray, List.set_cons_zero, List.set_cons_succ]
          refine tk_skip (i := 21) (oi := pk21) rfl (by kernel_rfl) (by kernel_rfl) (by kernel_rfl) (fun _ _ _ h => h) (by rfl) hS ?_
          simp only [pk21, Act.put, List.setIfInBounds_toArray, List.set_cons_zero, List.set_cons_succ]
          refine tk_skip (i := 22) (oi := pk22) rfl (by kernel_rfl) (by kernel_rfl) (by kernel_rfl) (fun _ _ _ h => h) (by rfl) hS ?_
          simp only [pk22, Act.put, List.setIfInBounds_toArray, List.set_cons_zero, List.set_cons_succ]
          refine tk_skip (i := 23) (oi := pk23) rfl (by kernel_rfl) (by kernel_rfl) (by kernel_rfl) (fun _ _ _ h => h) (by rfl) hS ?_
          simp only [pk23, Act.put, List.setIfInBounds_toArray, List.set_cons_zero, List.set_cons_succ]
          refine tk_pure (i := 24) (oi := pk24) rfl (by kernel_rfl) (by kernel_rfl) (by kernel_rfl) (fun _ _ _ h => h) (by rfl) hS (fun w9 => by simp only [pk24]; go_simp; (try with_reducible rfl)) ?_
          simp only [pk24, Act.put, List.setIfInBounds_toArray, List.set_cons_zero, List.set_cons_succ]
          refine tk_pure (i := 25) (oi := pk25) rfl (by kernel_rfl) (by kernel_rfl) (by kernel_rfl) (fun _ _ _ h => h) (by rfl) hS (fun w9 => by simp only [pk25]; go_simp; (try with_reducible rfl)) ?_
          simp only [pk25, Act.put, List.setIfInBounds_toArray, List.set_cons_zero, List.set_cons_succ]
          refine tk_skip (i := 26) (oi := pk26) rfl (by kernel_rfl) (by kernel_rfl) (by kernel_rfl) (fun _ _ _ h => h) (by rfl) hS ?_
          simp only [pk26, Act.put, List.setIfInBounds_toArray, List.set_cons_zero, List.set_cons_succ]
          refine tk_skip (i := 27) (oi := pk27) rfl (by kernel_rfl) (by kernel_rfl) (by kernel_rfl) (fun _ _ _ h => h) (by rfl) hS ?_
          simp only [pk27, Act.put, List.setIfInBounds_toArray, List.set_cons_zero, List.set_cons_succ]
          refine tk_skip (i := 28) (oi := pk28) rfl (by kernel_rfl) (by kernel_rfl) (by kernel_rfl) (fun _ _ _ h => h) (by rfl) hS ?_
          simp only [pk28, Act.put, List.setIfInBounds_toArray, List.set_cons_zero, List.set_cons_succ]
          refine tk_skip (i := 29) (oi := pk29) rfl (by kernel_rfl) (by kernel_rfl) (by kernel_rfl) (fun _ _ _ h => h) (by rfl) hS ?_
          simp only [pk29, Act.put, List.setIfInBounds_toArray, List.set_cons_zero, List.set_cons_succ]
          refine tk_skip (i := 30) (oi := pk30) rfl (by kernel_rfl) (by kernel_rfl) (by kernel_rfl) (fun _ _ _ h => h) (by rfl) hS ?_
          simp only [pk30, Act.put, List.setIfInBounds_toArray, List.set_cons_zero, List.set_cons_succ]
          refine tk_skip (i := 31) (oi := pk31) rfl (by kernel_rfl) (by kernel_rfl) (by kernel_rfl) (fun _ _ _ h => h) (by rfl) hS ?_
          simp only [pk31, Act.put, List.setIfInBounds_toArray, List.set_cons_zero, List.set_cons_succ]
          refine tk_skip (i := 32) (oi := pk32) rfl (by kernel_rfl) (by kernel_rfl) (by kernel_rfl) (fun _ _ _ h => h) (by rfl) hS ?_
          simp only [pk32, Act.put, List.setIfInBounds_toArray, List.set_cons_zero, List.set_cons_succ]
          refine tk_skip (i := 33) (oi := pk33) rfl (by kernel_rfl) (by kernel_rfl) (by kernel_rfl) (fun _ _ _ h => h) (by rfl) hS ?_
          simp only [pk33, Act.put, List.setIfInBounds_toArray, List.set_cons_zero, List.set_cons_succ]
          refine tk_skip (i := 34) (oi := pk34) rfl (by kernel_rfl) (by kernel_rfl) (by kernel_rfl) (fun _ _ _ h => h) (by rfl) hS ?_
          simp only [pk34, Act.put, List.setIfInBounds_toArray, List.set_cons_zero, List.set_cons_succ]
          refine tk_pure (i := 35) (oi := pk35) rfl (by kernel_rfl) (by kernel_rfl) (by kernel_rfl) (fun _ _ _ h => h) (by rfl) hS (fun w9 => by simp only [pk35]; go_simp; (try with_reducible rfl)) ?_
          simp only [pk35, Act.put, List.setIfInBounds_toArray, List.set_cons_zero, List.set_cons_succ]
          refine tk_pure (i := 36) (oi := pk36) rfl (by kernel_rfl) (by kernel_rfl) (by kernel_rfl) (fun _ _ _ h => h) (by rfl) hS (fun w9 => by simp only [pk36]; go_simp; (try with_reducible rfl)) ?_
          simp only [pk36, Act.put, List.setIfInBounds_toArray, List.set_cons_zero, List.set_cons_succ]
          refine wpAnyH_done (by kernel_rfl) ?_ _
          go_wp2
          go_returns
          exact ⟨ret_b (by simp only [Hd.placesB, ez.out, *]; rfl), z.trans (hS.below.mono z.size)⟩
        exact AllReadyH.nil
      exact AllReadyH.nil
    exact AllReadyH.nil
  exact AllReadyH.nil
set_option maxHeartbeats 32000000 in
theorem iPlacesC (p s l c k z0 : Int) (h : Hd) (ho : ok p s l c k = true) (ez : Hid (zF p s l c = z0)) (zb : 0 ≤ z0 ∧ z0 ≤ 100000) (e1 : inB h.for_ 0 (p - 1) = true) (e2 : allUp (z0 - 1) [h.addr] = true) (e3 : allUp (s + l + 1) [h.index] = false) (w : World) : Calls Tryz.prog 102 #[.agg h.ps.toArray, .agg #[.int .i64 p, .int .i64 s, .int .i64 l, .int .i64 c, .int .i64 k]] w fun e w' => e = .returned (.bool (h.placesB p s l c)) ∧ Below w.heap.size w w' := by
  have h' := ok_iff.1 ho
  have eS : Hid (vSize p s l c k = z0) := by rw [← ez.out]; unfold vSize; rw [ho]; rfl
  have eB : Hid (vBlocks p s l c k = s + l) := by unfold vBlocks; rw [ho]; rfl
  have wz : Hid (IntKind.i64.wrap (z0 - 1) = z0 - 1) := by show _ = _; rw [IntKind.wrap_i64]; omega
  have wb : Hid (IntKind.i64.wrap (s + l + 1) = s + l + 1) := by show _ = _; rw [IntKind.wrap_i64]; omega
  have wp : Hid (IntKind.i64.wrap (IntKind.i64.wrap (2 * p) - 1) = 2 * p - 1) := by show _ = _; rw [IntKind.wrap_i64, IntKind.wrap_i64]; omega
  have wq : Hid (IntKind.i64.wrap (2 * p - 1) = 2 * p - 1) := by show _ = _; rw [IntKind.wrap_i64]; omega
  go_enter Tryz.func102, Tryz.ntmps102
  go_upto_region 1 with fail
  refine wp_at (fun W => At W w.heap.size h.ps.toArray 107 ∧ At W (w.heap.size + 1) #[.int .i64 p, .int .i64 s, .int .i64 l, .int .i64 c, .int .i64 k] 35 ∧ Below w.heap.size w W) (two_box w _ _ _ _) ?_
  rintro W ⟨A, P, z⟩
  have l11 : ∀ w', Cls W w' → (loadVar 2 ⟨w.heap.size, 11, none⟩).run Tryz.prog w' = .ok (.int .i64 h.for_) w' := ld_i A Tryz.underlying2 rfl
  have l17 : ∀ w', Cls W w' → (loadVar 2 ⟨w.heap.size, 17, none⟩).run Tryz.prog w' = .ok (.int .i64 h.addr) w' := ld_i A Tryz.underlying2 rfl
  have l29 : ∀ w', Cls W w' → (loadVar 2 ⟨w.heap.size, 29, none⟩).run Tryz.prog w' = .ok (.int .i64 h.index) w' := ld_i A Tryz.underlying2 rfl
  have l30 : ∀ w', Cls W w' → (loadVar 2 ⟨w.heap.size, 30, none⟩).run Tryz.prog w' = .ok (.int .i64 h.which) w' := ld_i A Tryz.underlying2 rfl
  have l0 : ∀ w', Cls W w' → (loadVar 2 ⟨w.heap.size + 1, 0, none⟩).run Tryz.prog w' = .ok (.int .i64 p) w' := ld_i P Tryz.underlying2 rfl
  have lp : ∀ w', Cls W w' → (loadVar 35 ⟨w.heap.size + 1, 0, none⟩).run Tryz.prog w' = .ok (.agg #[.int .i64 p, .int .i64 s, .int .i64 l, .int .i64 c, .int .i64 k]) w' := ld_agg (vs := [.int .i64 p, .int .i64 s, .int .i64 l, .int .i64 c, .int .i64 k]) P Tryz.underlying35 rfl (by kernel_rfl)
  refine wp_region_held_drew (S := Cls W) (by kernel_rfl) ⟨⟨rfl, rfl, rfl, Nat.le_refl _, fun _ _ => rfl⟩⟩ (fun hS => ?_)
  generalize W.drew = v0 at *
  refine tk_load (i := 0) (oi := pk0) rfl (by kernel_rfl) (by kernel_rfl) (by kernel_rfl) (fun _ _ _ h => h) (by rfl) _ _ _ rfl rfl (by assumption) hS ?_
  simp only [pk0, Act.put, List.setIfInBounds_toArray, List.set_cons_zero, List.set_cons_succ]
  refine tk_pure (i := 1) (oi := pk1) rfl (by kernel_rfl) (by kernel_rfl) (by kernel_rfl) (fun _ _ _ h => h) (by rfl) hS (fun w9 => by simp only [pk1]; go_simp; (try with_reducible rfl)) ?_
  simp only [pk1, Act.put, List.setIfInBounds_toArray, List.set_cons_zero, List.set_cons_succ]
  refine tk_pure (i := 2) (oi := pk2) rfl (by kernel_rfl) (by kernel_rfl) (by kernel_rfl) (fun _ _ _ h => h) (by rfl) hS (fun w9 => by simp only [pk2]; go_simp; (try with_reducible rfl)) ?_
  simp only [pk2, Act.put, List.setIfInBounds_toArray, List.set_cons_zero, List.set_cons_succ]
  refine tk_load (i := 3) (oi := pk3) rfl (by kernel_rfl) (by kernel_rfl) (by kernel_rfl) (fun _ _ _ h => h) (by rfl) _ _ _ rfl rfl (by assumption) hS ?_
  simp only [pk3, Act.put, List.setIfInBounds_toArray, List.set_cons_zero, List.set_cons_succ]
  refine wpAnyH_ready (rs := [4]) (by kernel_rfl) (by simp) ?_
  refine AllReadyH.cons (o := pk4) rfl (fun K hK => ?_) ?_
  · rw [if_pos (by rfl)]
    simp only [pk4]
    go_simp
    go_at_call 47
    refine (iHas p s l c k h.for_ ho _).mono ?_
    rintro e v1 ⟨rfl, hb⟩
    rw [e1]
    (go_wp2_with fail)
    have hS2 : Cls W v1 := ⟨hS.below.trans (hb.mono hS.below.size)⟩
    clear hb
    refine hK.out _ _ hS2 (fun hS => ?_)
    clear hK K
    (try simp only [pk4, Act.put, List.setIfInBounds_toArray, List.set_cons_zero, List.set_cons_succ])
    refine tk_pure (i := 5) (oi := pk5) rfl (by kernel_rfl) (by kernel_rfl) (by kernel_rfl) (fun _ _ _ h => h) (by rfl) hS (fun w9 => by simp only [pk5]; go_simp; (try with_reducible rfl)) ?_
    simp only [pk5, Act.put, List.setIfInBounds_toArray, List.set_cons_zero, List.set_cons_succ]
    refine tk_load (i := 6) (oi := pk6) rfl (by kernel_rfl) (by kernel_rfl) (by kernel_rfl) (fun _ _ _ h => h) (by rfl) _ _ _ rfl rfl (by assumption) hS ?_
    simp only [pk6, Act.put, List.setIfInBounds_toArray, List.set_cons_zero, List.set_cons_succ]
    refine tk_pure (i := 9) (oi := pk9) rfl (by kernel_rfl) (by kernel_rfl) (by kernel_rfl) (fun _ _ _ h => h) (by rfl) hS (fun w9 => by simp only [pk9]; go_simp; (try with_reducible rfl)) ?_
    simp only [pk9, Act.put, List.setIfInBounds_toArray, List.set_cons_zero, List.set_cons_succ]
    refine tk_pure (i := 10) (oi := pk10) rfl (by kernel_rfl) (by kernel_rfl) (by kernel_rfl) (fun _ _ _ h => h) (by rfl) hS (fun w9 => by simp only [pk10]; go_simp; (try with_reducible rfl)) ?_
    simp only [pk10, Act.put, List.setIfInBounds_toArray, List.set_cons_zero, List.set_cons_succ]
    refine tk_load (i := 11) (oi := pk11) rfl (by kernel_rfl) (by kernel_rfl) (by kernel_rfl) (fun _ _ _ h => h) (by rfl) _ _ _ rfl rfl (by assumption) hS ?_
    simp only [pk11, Act.put, List.setIfInBounds_toArray, List.set_cons_zero, List.set_cons_succ]
    refine wpAnyH_ready (rs := [7, 12]) (by kernel_rfl) (by simp) ?_
    refine AllReadyH.cons (o := pk7) rfl (fun K hK => ?_) ?_
    · rw [if_pos (by rfl)]
      simp only [pk7]
      go_simp
      go_at_call 92
      refine (iSize p s l c k _).mono ?_
      rintro e v2 ⟨rfl, hb⟩
      rw [eS.out]
      (go_wp2_with fail)
      have hS2 : Cls W v2 := ⟨hS.below.trans (hb.mono hS.below.size)⟩
      clear hb
      refine hK.out _ _ hS2 (fun hS => ?_)
      clear hK K
      (try simp only [pk7, Act.put, List.setIfInBounds_toArray, List.set_cons_zero, List.set_cons_succ])
      refine tk_pure (i := 8) (oi := pk8) rfl (by kernel_rfl) (by kernel_rfl) (by kernel_rfl) (fun _ _ _ h => h) (by rfl) hS (fun w9 => by simp only [pk8]; go_simp; (try with_reducible rfl)) ?_
      simp only [pk8, Act.put, List.setIfInBounds_toArray, List.set_cons_zero, List.set_cons_succ]
      refine wpAnyH_ready (rs := [12]) (by kernel_rfl) (by simp) ?_
      refine AllReadyH.cons (o := pk12) rfl (fun K hK => ?_) ?_
      · rw [if_pos (by rfl)]
        simp only [pk12]
        go_simp
        have sl1 : At (v2.alloc (.cells #[.int .i64 h.addr] 2)) v2.heap.size #[.int .i64 h.addr] 2 := At.new _ _ _
        have hb : Below v2.heap.size v2 (v2.alloc (.cells #[.int .i64 h.addr] 2)) := (Below.refl _ _).alloc (Nat.le_refl _) _
        generalize v2.alloc (.cells #[.int .i64 h.addr] 2) = v3 at *
        have hS2 : Cls W v3 := ⟨hS.below.trans (hb.mono hS.below.size)⟩
        clear hb
        refine hK.out _ _ hS2 (fun hS => ?_)
        clear hK K
        (try simp only [pk12, Act.put, List.setIfInBounds_toArray, List.set_cons_zero, List.set_cons_succ])
        refine wpAnyH_ready (rs := [13]) (by kernel_rfl) (by simp) ?_
        refine AllReadyH.cons (o := pk13) rfl (fun K hK => ?_) ?_
        · rw [if_pos (by rfl)]
          simp only [pk13]
          go_simp
          go_at_call 95
          refine (iUpTo _ _ 1 [h.addr] rfl (by omega) _ (slices_at sl1)).mono ?_
          rintro e v4 ⟨rfl, rfl⟩
          (try rw [wz.out]); (try rw [wq.out]); rw [e2]
          (go_wp2_with fail)
          have hS2 : Cls W v4 := hS
          refine hK.out _ _ hS2 (fun hS => ?_)
          clear hK K
          (try simp only [pk13, Act.put, List.setIfInBounds_toArray, List.set_cons_zero, List.set_cons_succ])
          refine tk_pure (i := 14) (oi := pk14) rfl (by kernel_rfl) (by kernel_rfl) (by kernel_rfl) (fun _ _ _ h => h) (by rfl) hS (fun w9 => by simp only [pk14]; go_simp; (try with_reducible rfl)) ?_
          simp only [pk14, Act.put, List.setIfInBounds_toArray, List.set_cons_zero, List.set_cons_succ]
          refine tk_pure (i := 15) (oi := pk15) rfl (by kernel_rfl) (by kernel_rfl) (by kernel_rfl) (fun _ _ _ h => h) (by rfl) hS (fun w9 => by simp only [pk15]; go_simp; (try with_reducible rfl)) ?_
          simp only [pk15, Act.put, List.setIfInBounds_toArray, List.set_cons_zero, List.set_cons_succ]
          refine tk_load (i := 16) (oi := pk16) rfl (by kernel_rfl) (by kernel_rfl) (by kernel_rfl) (fun _ _ _ h => h) (by rfl) _ _ _ rfl rfl (by assumption) hS ?_
          simp only [pk16, Act.put, List.setIfInBounds_toArray, List.set_cons_zero, List.set_cons_succ]
          refine tk_pure (i := 19) (oi := pk19) rfl (by kernel_rfl) (by kernel_rfl) (by kernel_rfl) (fun _ _ _ h => h) (by rfl) hS (fun w9 => by simp only [pk19]; go_simp; (try with_reducible rfl)) ?_
          simp only [pk19, Act.put, List.setIfInBounds_toArray, List.set_cons_zero, List.set_cons_succ]
          refine tk_pure (i := 20) (oi := pk20) rfl (by kernel_rfl) (by kernel_rfl) (by kernel_rfl) (fun _ _ _ h => h) (by rfl) hS (fun w9 => by simp only [pk20]; go_simp; (try with_reducible rfl)) ?_
          simp only [pk20, Act.put, List.setIfInBounds_toArray, List.set_cons_zero, List.set_cons_succ]
          refine tk_load (i := 21) (oi := pk21) rfl (by kernel_rfl) (by kernel_rfl) (by kernel_rfl) (fun _ _ _ h => h) (by rfl) _ _ _ rfl rfl (by assumption) hS ?_
          simp only [pk21, Act.put, List.setIfInBounds_toArray, List.set_cons_zero, List.set_cons_succ]
          refine wpAnyH_ready (rs := [17, 22]) (by kernel_rfl) (by simp) ?_
          refine AllReadyH.cons (o := pk17) rfl (fun K hK => ?_) ?_
          · rw [if_pos (by rfl)]
            simp only [pk17]
            go_simp
            go_at_call 133
            refine (iBlocks p s l c k _).mono ?_
            rintro e v5 ⟨rfl, hb⟩
            rw [eB.out]
            (go_wp2_with fail)
            replace sl1 := sl1.keep hb
            have hS2 : Cls W v5 := ⟨hS.below.trans (hb.mono hS.below.size)⟩
            clear hb
            refine hK.out _ _ hS2 (fun hS => ?_)
            clear hK K
            (try simp only [pk17, Act.put, List.setIfInBounds_toArray, List.set_cons_zero, List.set_cons_succ])
            refine tk_pure (i := 18) (oi := pk18) rfl (by kernel_rfl) (by kernel_rfl) (by kernel_rfl) (fun _ _ _ h => h) (by rfl) hS (fun w9 => by simp only [pk18]; go_simp; (try with_reducible rfl)) ?_
            simp only [pk18, Act.put, List.setIfInBounds_toArray, List.set_cons_zero, List.set_cons_succ]
            refine wpAnyH_ready (rs := [22]) (by kernel_rfl) (by simp) ?_
            refine AllReadyH.cons (o := pk22) rfl (fun K hK => ?_) ?_
            · rw [if_pos (by rfl)]
              simp only [pk22]
              go_simp
              have sl2 : At (v5.alloc (.cells #[.int .i64 h.index] 2)) v5.heap.size #[.int .i64 h.index] 2 := At.new _ _ _
              have hb : Below v5.heap.size v5 (v5.alloc (.cells #[.int .i64 h.index] 2)) := (Below.refl _ _).alloc (Nat.le_refl _) _
              generalize v5.alloc (.cells #[.int .i64 h.index] 2) = v6 at *
              replace sl1 := sl1.keep hb
              have hS2 : Cls W v6 := ⟨hS.below.trans (hb.mono hS.below.size)⟩
              clear hb
              refine hK.out _ _ hS2 (fun hS => ?_)
              clear hK K
              (try simp only [pk22, Act.put, List.setIfInBounds_toArray, List.set_cons_zero, List.set_cons_succ])
              refine wpAnyH_ready (rs := [23]) (by kernel_rfl) (by simp) ?_
              refine AllReadyH.cons (o := pk23) rfl (fun K hK => ?_) ?_
              · rw [if_pos (by rfl)]
                simp only [pk23]
                go_simp
                go_at_call 95
                refine (iUpTo _ _ 1 [h.index] rfl (by omega) _ (slices_at sl2)).mono ?_
                rintro e v7 ⟨rfl, rfl⟩
                (try rw [wb.out]); (try rw [wq.out]); rw [e3]
                (go_wp2_with fail)
                have hS2 : Cls W v7 := hS
                refine hK.out _ _ hS2 (fun hS => ?_)
                clear hK K
                (try simp only [pk23, Act.put, List.setIfInBounds_toArray, List.set_cons_zero, List.set_cons_succ])
                refine tk_pure (i := 24) (oi := pk24) rfl (by kernel_rfl) (by kernel_rfl) (by kernel_rfl) (fun _ _ _ h => h) (by rfl) hS (fun w9 => by simp only [pk24]; go_simp; (try with_reducible rfl)) ?_
                simp only [pk24, Act.put, List.setIfInBounds_toArray, List.set_cons_zero, List.set_cons_succ]
                refine tk_pure (i := 25) (oi := pk25) rfl (by kernel_rfl) (by kernel_rfl) (by kernel_rfl) (fun _ _ _ h => h) (by rfl) hS (fun w9 => by simp only [pk25]; go_simp; (try with_reducible rfl)) ?_
                simp only [pk25, Act.put, List.setIfInBounds_toArray, List.set_cons_zero, List.set_cons_succ]
                refine tk_skip (i := 26) (oi := pk26) rfl (by kernel_rfl) (by kernel_rfl) (by kernel_rfl) (fun _ _ _ h => h) (by rfl) hS ?_
                simp only [pk26, Act.put, List.setIfInBounds_toArray, List.set_cons_zero, List.set_cons_succ]
                refine tk_skip (i := 27) (oi := pk27) rfl (by kernel_rfl) (by kernel_rfl) (by kernel_rfl) (fun _ _ _ h => h) (by rfl) hS ?_
                simp only [pk27, Act.put, List.setIfInBounds_toArray, List.set_cons_zero, List.set_cons_succ]
                refine tk_skip (i := 28) (oi := pk28) rfl (by kernel_rfl) (by kernel_rfl) (by kernel_rfl) (fun _ _ _ h => h) (by rfl) hS ?_
                simp only [pk28, Act.put, List.setIfInBounds_toArray, List.set_cons_zero, List.set_cons_succ]
                refine tk_skip (i := 29) (oi := pk29) rfl (by kernel_rfl) (by kernel_rfl) (by kernel_rfl) (fun _ _ _ h => h) (by rfl) hS ?_
                simp only [pk29, Act.put, List.setIfInBounds_toArray, List.set_cons_zero, List.set_cons_succ]
                refine tk_skip (i := 30) (oi := pk30) rfl (by kernel_rfl) (by kernel_rfl) (by kernel_rfl) (fun _ _ _ h => h) (by rfl) hS ?_
                simp only [pk30, Act.put, List.setIfInBounds_toArray, List.set_cons_zero, List.set_cons_succ]
                refine tk_skip (i := 31) (oi := pk31) rfl (by kernel_rfl) (by kernel_rfl) (by kernel_rfl) (fun _ _ _ h => h) (by rfl) hS ?_
                simp only [pk31, Act.put, List.setIfInBounds_toArray, List.set_cons_zero, List.set_cons_succ]
                refine tk_skip (i := 32) (oi := pk32) rfl (by kernel_rfl) (by kernel_rfl) (by kernel_rfl) (fun _ _ _ h => h) (by rfl) hS ?_
                simp only [pk32, Act.put, List.setIfInBounds_toArray, List.set_cons_zero, List.set_cons_succ]
                refine tk_skip (i := 33) (oi := pk33) rfl (by kernel_rfl) (by kernel_rfl) (by kernel_rfl) (fun _ _ _ h => h) (by rfl) hS ?_
                simp only [pk33, Act.put, List.setIfInBounds_toArray, List.set_cons_zero, List.set_cons_succ]
                refine tk_skip (i := 34) (oi := pk34) rfl (by kernel_rfl) (by kernel_rfl) (by kernel_rfl) (fun _ _ _ h => h) (by rfl) hS ?_
                simp only [pk34, Act.put, List.setIfInBounds_toArray, List.set_cons_zero, List.set_cons_succ]
                refine tk_pure (i := 35) (oi := pk35) rfl (by kernel_rfl) (by kernel_rfl) (by kernel_rfl) (fun _ _ _ h => h) (by rfl) hS (fun w9 => by simp only [pk35]; go_simp; (try with_reducible rfl)) ?_
                simp only [pk35, Act.put, List.setIfInBounds_toArray, List.set_cons_zero, List.set_cons_succ]
                refine tk_pure (i := 36) (oi := pk36) rfl (by kernel_rfl) (by kernel_rfl) (by kernel_rfl) (fun _ _ _ h => h) (by rfl) hS (fun w9 => by simp only [pk36]; go_simp; (try with_reducible rfl)) ?_
                simp only [pk36, Act.put, List.setIfInBounds_toArray, List.set_cons_zero, List.set_cons_succ]
                refine wpAnyH_done (by kernel_rfl) ?_ _
                go_wp2
                go_returns
                exact ⟨ret_b (by simp only [Hd.placesB, ez.out, *]; rfl), z.trans (hS.below.mono z.size)⟩
              exact AllReadyH.nil
            exact AllReadyH.nil
          refine AllReadyH.cons (o := pk22) rfl (fun K hK => ?_) ?_
          · rw [if_pos (by rfl)]
            simp only [pk22]
            go_simp
            have sl2 : At (v4.alloc (.cells #[.int .i64 h.index] 2)) v4.heap.size #[.int .i64 h.index] 2 := At.new _ _ _
            have hb : Below v4.heap.size v4 (v4.alloc (.cells #[.int .i64 h.index] 2)) := (Below.refl _ _).alloc (Nat.le_refl _) _
            generalize v4.alloc (.cells #[.int .i64 h.index] 2) = v5 at *
            replace sl1 := sl1.keep hb
            have hS2 : Cls W v5 := ⟨hS.below.trans (hb.mono hS.below.size)⟩
            clear hb
            refine hK.out _ _ hS2 (fun hS => ?_)
            clear hK K
            (try simp only [pk22, Act.put, List.setIfInBounds_toArray, List.set_cons_zero, List.set_cons_succ])
            refine wpAnyH_ready (rs := [17]) (by kernel_rfl) (by simp) ?_
            refine AllReadyH.cons (o := pk17) rfl (fun K hK => ?_) ?_
            · rw [if_pos (by rfl)]
              simp only [pk17]
              go_simp
              go_at_call 133
              refine (iBlocks p s l c k _).mono ?_
              rintro e v6 ⟨rfl, hb⟩
              rw [eB.out]
              (go_wp2_with fail)
              replace sl1 := sl1.keep hb
              replace sl2 := sl2.keep hb
              have hS2 : Cls W v6 := ⟨hS.below.trans (hb.mono hS.below.size)⟩
              clear hb
              refine hK.out _ _ hS2 (fun hS => ?_)
              clear hK K
              (try simp only [pk17, Act.put, List.setIfInBounds_toArray, List.set_cons_zero, List.set_cons_succ])
              refine tk_pure (i := 18) (oi := pk18) rfl (by kernel_rfl) (by kernel_rfl) (by kernel_rfl) (fun _ _ _ h => h) (by rfl) hS (fun w9 => by simp only [pk18]; go_simp; (try with_reducible rfl)) ?_
              simp only [pk18, Act.put, List.setIfInBounds_toArray, List.set_cons_zero, List.set_cons_succ]
              refine wpAnyH_ready (rs := [23]) (by kernel_rfl) (by simp) ?_
              refine AllReadyH.cons (o := pk23) rfl (fun K hK => ?_) ?_
              · rw [if_pos (by rfl)]
                simp only [pk23]
                go_simp
                go_at_call 95
                refine (iUpTo _ _ 1 [h.index] rfl (by omega) _ (slices_at sl2)).mono ?_
                rintro e v7 ⟨rfl, rfl⟩
                (try rw [wb.out]); (try rw [wq.out]); rw [e3]
                (go_wp2_with fail)
                have hS2 : Cls W v7 := hS
                refine hK.out _ _ hS2 (fun hS => ?_)
                clear hK K
                (try simp only [pk23, Act.put, List.setIfInBounds_toArray, List.set_cons_zero, List.set_cons_succ])
                refine tk_pure (i := 24) (oi := pk24) rfl (by kernel_rfl) (by kernel_rfl) (by kernel_rfl) (fun _ _ _ h => h) (by rfl) hS (fun w9 => by simp only [pk24]; go_simp; (try with_reducible rfl)) ?_
                simp only [pk24, Act.put, List.setIfInBounds_toArray, List.set_cons_zero, List.set_cons_succ]
                refine tk_pure (i := 25) (oi := pk25) rfl (by kernel_rfl) (by kernel_rfl) (by kernel_rfl) (fun _ _ _ h => h) (by rfl) hS (fun w9 => by simp only [pk25]; go_simp; (try with_reducible rfl)) ?_
                simp only [pk25, Act.put, List.setIfInBounds_toArray, List.set_cons_zero, List.set_cons_succ]
                refine tk_skip (i := 26) (oi := pk26) rfl (by kernel_rfl) (by kernel_rfl) (by kernel_rfl) (fun _ _ _ h => h) (by rfl) hS ?_
                simp only [pk26, Act.put, List.setIfInBounds_toArray, List.set_cons_zero, List.set_cons_succ]
                refine tk_skip (i := 27) (oi := pk27) rfl (by kernel_rfl) (by kernel_rfl) (by kernel_rfl) (fun _ _ _ h => h) (by rfl) hS ?_
                simp only [pk27, Act.put, List.setIfInBounds_toArray, List.set_cons_zero, List.set_cons_succ]
                refine tk_skip (i := 28) (oi := pk28) rfl (by kernel_rfl) (by kernel_rfl) (by kernel_rfl) (fun _ _ _ h => h) (by rfl) hS ?_
                simp only [pk28, Act.put, List.setIfInBounds_toArray, List.set_cons_zero, List.set_cons_succ]
                refine tk_skip (i := 29) (oi := pk29) rfl (by kernel_rfl) (by kernel_rfl) (by kernel_rfl) (fun _ _ _ h => h) (by rfl) hS ?_
                simp only [pk29, Act.put, List.setIfInBounds_toArray, List.set_cons_zero, List.set_cons_succ]
                refine tk_skip (i := 30) (oi := pk30) rfl (by kernel_rfl) (by kernel_rfl) (by kernel_rfl) (fun _ _ _ h => h) (by rfl) hS ?_
                simp only [pk30, Act.put, List.setIfInBounds_toArray, List.set_cons_zero, List.set_cons_succ]
                refine tk_skip (i := 31) (oi := pk31) rfl (by kernel_rfl) (by kernel_rfl) (by kernel_rfl) (fun _ _ _ h => h) (by rfl) hS ?_
                simp only [pk31, Act.put, List.setIfInBounds_toArray, List.set_cons_zero, List.set_cons_succ]
                refine tk_skip (i := 32) (oi := pk32) rfl (by kernel_rfl) (by kernel_rfl) (by kernel_rfl) (fun _ _ _ h => h) (by rfl) hS ?_
                simp only [pk32, Act.put, List.setIfInBounds_toArray, List.set_cons_zero, List.set_cons_succ]
                refine tk_skip (i := 33) (oi := pk33) rfl (by kernel_rfl) (by kernel_rfl) (by kernel_rfl) (fun _ _ _ h => h) (by rfl) hS ?_
                simp only [pk33, Act.put, List.setIfInBounds_toArray, List.set_cons_zero, List.set_cons_succ]
                refine tk_skip (i := 34) (oi := pk34) rfl (by kernel_rfl) (by kernel_rfl) (by kernel_rfl) (fun _ _ _ h => h) (by rfl) hS ?_
                simp only [pk34, Act.put, List.setIfInBounds_toArray, List.set_cons_zero, List.set_cons_succ]
                refine tk_pure (i := 35) (oi := pk35) rfl (by kernel_rfl) (by kernel_rfl) (by kernel_rfl) (fun _ _ _ h => h) (by rfl) hS (fun w9 => by simp only [pk35]; go_simp; (try with_reducible rfl)) ?_
                simp only [pk35, Act.put, List.setIfInBounds_toArray, List.set_cons_zero, List.set_cons_succ]
                refine tk_pure (i := 36) (oi := pk36) rfl (by kernel_rfl) (by kernel_rfl) (by kernel_rfl) (fun _ _ _ h => h) (by rfl) hS (fun w9 => by simp only [pk36]; go_simp; (try with_reducible rfl)) ?_
                simp only [pk36, Act.put, List.setIfInBounds_toArray, List.set_cons_zero, List.set_cons_succ]
                refine wpAnyH_done (by kernel_rfl) ?_ _
                go_wp2
                go_returns
                exact ⟨ret_b (by simp only [Hd.placesB, ez.out, *]; rfl), z.trans (hS.below.mono z.size)⟩
              exact AllReadyH.nil
            exact AllReadyH.nil
          exact AllReadyH.nil
        exact AllReadyH.nil
      exact AllReadyH.nil
    refine AllReadyH.cons (o := pk12) rfl (fun K hK => ?_) ?_
    · rw [if_pos (by rfl)]
      simp only [pk12]
      go_simp
      have sl1 : At (v1.alloc (.cells #[.int .i64 h.addr] 2)) v1.heap.size #[.int .i64 h.addr] 2 := At.new _ _ _
      have hb : Below v1.heap.size v1 (v1.alloc (.cells #[.int .i64 h.addr] 2)) := (Below.refl _ _).alloc (Nat.le_refl _) _
      generalize v1.alloc (.cells #[.int .i64 h.addr] 2) = v2 at *
      have hS2 : Cls W v2 := ⟨hS.below.trans (hb.mono hS.below.size)⟩
      clear hb
      refine hK.out _ _ hS2 (fun hS => ?_)
      clear hK K
      (try simp only [pk12, Act.put, List.setIfInBounds_toArray, List.set_cons_zero, List.set_cons_succ])
      refine wpAnyH_ready (rs := [7]) (by kernel_rfl) (by simp) ?_
      refine AllReadyH.cons (o := pk7) rfl (fun K hK => ?_) ?_
      · rw [if_pos (by rfl)]
        simp only [pk7]
        go_simp
        go_at_call 92
        refine (iSize p s l c k _).mono ?_
        rintro e v3 ⟨rfl, hb⟩
        rw [eS.out]
        (go_wp2_with fail)
        replace sl1 := sl1.keep hb
        have hS2 : Cls W v3 := ⟨hS.below.trans (hb.mono hS.below.size)⟩
        clear hb
        refine hK.out _ _ hS2 (fun hS => ?_)
        clear hK K
        (try simp only [pk7, Act.put, List.setIfInBounds_toArray, List.set_cons_zero, List.set_cons_succ])
        refine tk_pure (i := 8) (oi := pk8) rfl (by kernel_rfl) (by kernel_rfl) (by kernel_rfl) (fun _ _ _ h => h) (by rfl) hS (fun w9 => by simp only [pk8]; go_simp; (try with_reducible rfl)) ?_
        simp only [pk8, Act.put, List.setIfInBounds_toArray, List.set_cons_zero, List.set_cons_succ]
        refine wpAnyH_ready (rs := [13]) (by kernel_rfl) (by simp) ?_
        refine AllReadyH.cons (o := pk13) rfl (fun K hK => ?_) ?_
        · rw [if_pos (by rfl)]
          simp only [pk13]
          go_simp
          go_at_call 95
          refine (iUpTo _ _ 1 [h.addr] rfl (by omega) _ (slices_at sl1)).mono ?_
          rintro e v4 ⟨rfl, rfl⟩
          (try rw [wz.out]); (try rw [wq.out]); rw [e2]
          (go_wp2_with fail)
          have hS2 : Cls W v4 := hS
          refine hK.out _ _ hS2 (fun hS => ?_)
          clear hK K
          (try simp only [pk13, Act.put, List.setIfInBounds_toArray, List.set_cons_zero, List.set_cons_succ])
          refine tk_pure (i := 14) (oi := pk14) rfl (by kernel_rfl) (by kernel_rfl) (by kernel_rfl) (fun _ _ _ h => h) (by rfl) hS (fun w9 => by simp only [pk14]; go_simp; (try with_reducible rfl)) ?_
          simp only [pk14, Act.put, List.setIfInBounds_toArray, List.set_cons_zero, List.set_cons_succ]
          refine tk_pure (i := 15) (oi := pk15) rfl (by kernel_rfl) (by kernel_rfl) (by kernel_rfl) (fun _ _ _ h => h) (by rfl) hS (fun w9 => by simp only [pk15]; go_simp; (try with_reducible rfl)) ?_
          simp only [pk15, Act.put, List.setIfInBounds_toArray, List.set_cons_zero, List.set_cons_succ]
          refine tk_load (i := 16) (oi := pk16) rfl (by kernel_rfl) (by kernel_rfl) (by kernel_rfl) (fun _ _ _ h => h) (by rfl) _ _ _ rfl rfl (by assumption) hS ?_
          simp only [pk16, Act.put, List.setIfInBounds_toArray, List.set_cons_zero, List.set_cons_succ]
          refine tk_pure (i := 19) (oi := pk19) rfl (by kernel_rfl) (by kernel_rfl) (by kernel_rfl) (fun _ _ _ h => h) (by rfl) hS (fun w9 => by simp only [pk19]; go_simp; (try with_reducible rfl)) ?_
          simp only [pk19, Act.put, List.setIfInBounds_toArray, List.set_cons_zero, List.set_cons_succ]
          refine tk_pure (i := 20) (oi := pk20) rfl (by kernel_rfl) (by kernel_rfl) (by kernel_rfl) (fun _ _ _ h => h) (by rfl) hS (fun w9 => by simp only [pk20]; go_simp; (try with_reducible rfl)) ?_
          simp only [pk20, Act.put, List.setIfInBounds_toArray, List.set_cons_zero, List.set_cons_succ]
          refine tk_load (i := 21) (oi := pk21) rfl (by kernel_rfl) (by kernel_rfl) (by kernel_rfl) (fun _ _ _ h => h) (by rfl) _ _ _ rfl rfl (by assumption) hS ?_
          simp only [pk21, Act.put, List.setIfInBounds_toArray, List.set_cons_zero, List.set_cons_succ]
          refine wpAnyH_ready (rs := [17, 22]) (by kernel_rfl) (by simp) ?_
          refine AllReadyH.cons (o := pk17) rfl (fun K hK => ?_) ?_
          · rw [if_pos (by rfl)]
            simp only [pk17]
            go_simp
            go_at_call 133
            refine (iBlocks p s l c k _).mono ?_
            rintro e v5 ⟨rfl, hb⟩
            rw [eB.out]
            (go_wp2_with fail)
            replace sl1 := sl1.keep hb
            have hS2 : Cls W v5 := ⟨hS.below.trans (hb.mono hS.below.size)⟩
            clear hb
            refine hK.out _ _ hS2 (fun hS => ?_)
            clear hK K
            (try simp only [pk17, Act.put, List.setIfInBounds_toArray, List.set_cons_zero, List.set_cons_succ])
            refine tk_pure (i := 18) (oi := pk18) rfl (by kernel_rfl) (by kernel_rfl) (by kernel_rfl) (fun _ _ _ h => h) (by rfl) hS (fun w9 => by simp only [pk18]; go_simp; (try with_reducible rfl)) ?_
            simp only [pk18, Act.put, List.setIfInBounds_toArray, List.set_cons_zero, List.set_cons_succ]
            refine wpAnyH_ready (rs := [22]) (by kernel_rfl) (by simp) ?_
            refine AllReadyH.cons (o := pk22) rfl (fun K hK => ?_) ?_
            · rw [if_pos (by rfl)]
              simp only [pk22]
              go_simp
              have sl2 : At (v5.alloc (.cells #[.int .i64 h.index] 2)) v5.heap.size #[.int .i64 h.index] 2 := At.new _ _ _
              have hb : Below v5.heap.size v5 (v5.alloc (.cells #[.int .i64 h.index] 2)) := (Below.refl _ _).alloc (Nat.le_refl _) _
              generalize v5.alloc (.cells #[.int .i64 h.index] 2) = v6 at *
              replace sl1 := sl1.keep hb
              have hS2 : Cls W v6 := ⟨hS.below.trans (hb.mono hS.below.size)⟩
              clear hb
              refine hK.out _ _ hS2 (fun hS => ?_)
              clear hK K
              (try simp only [pk22, Act.put, List.setIfInBounds_toArray, List.set_cons_zero, List.set_cons_succ])
              refine wpAnyH_ready (rs := [23]) (by kernel_rfl) (by simp) ?_
              refine AllReadyH.cons (o := pk23) rfl (fun K hK => ?_) ?_
              · rw [if_pos (by rfl)]
                simp only [pk23]
                go_simp
                go_at_call 95
                refine (iUpTo _ _ 1 [h.index] rfl (by omega) _ (slices_at sl2)).mono ?_
                rintro e v7 ⟨rfl, rfl⟩
                (try rw [wb.out]); (try rw [wq.out]); rw [e3]
                (go_wp2_with fail)
                have hS2 : Cls W v7 := hS
                refine hK.out _ _ hS2 (fun hS => ?_)
                clear hK K
                (try simp only [pk23, Act.put, List.setIfInBounds_toArray, List.set_cons_zero, List.set_cons_succ])
                refine tk_pure (i := 24) (oi := pk24) rfl (by kernel_rfl) (by kernel_rfl) (by kernel_rfl) (fun _ _ _ h => h) (by rfl) hS (fun w9 => by simp only [pk24]; go_simp; (try with_reducible rfl)) ?_
                simp only [pk24, Act.put, List.setIfInBounds_toArray, List.set_cons_zero, List.set_cons_succ]
                refine tk_pure (i := 25) (oi := pk25) rfl (by kernel_rfl) (by kernel_rfl) (by kernel_rfl) (fun _ _ _ h => h) (by rfl) hS (fun w9 => by simp only [pk25]; go_simp; (try with_reducible rfl)) ?_
                simp only [pk25, Act.put, List.setIfInBounds_toArray, List.set_cons_zero, List.set_cons_succ]
                refine tk_skip (i := 26) (oi := pk26) rfl (by kernel_rfl) (by kernel_rfl) (by kernel_rfl) (fun _ _ _ h => h) (by rfl) hS ?_
                simp only [pk26, Act.put, List.setIfInBounds_toArray, List.set_cons_zero, List.set_cons_succ]
                refine tk_skip (i := 27) (oi := pk27) rfl (by kernel_rfl) (by kernel_rfl) (by kernel_rfl) (fun _ _ _ h => h) (by rfl) hS ?_
                simp only [pk27, Act.put, List.setIfInBounds_toArray, List.set_cons_zero, List.set_cons_succ]
                refine tk_skip (i := 28) (oi := pk28) rfl (by kernel_rfl) (by kernel_rfl) (by kernel_rfl) (fun _ _ _ h => h) (by rfl) hS ?_
                simp only [pk28, Act.put, List.setIfInBounds_toArray, List.set_cons_zero, List.set_cons_succ]
                refine tk_skip (i := 29) (oi := pk29) rfl (by kernel_rfl) (by kernel_rfl) (by kernel_rfl) (fun _ _ _ h => h) (by rfl) hS ?_
                simp only [pk29, Act.put, List.setIfInBounds_toArray, List.set_cons_zero, List.set_cons_succ]
                refine tk_skip (i := 30) (oi := pk30) rfl (by kernel_rfl) (by kernel_rfl) (by kernel_rfl) (fun _ _ _ h => h) (by rfl) hS ?_
                simp only [pk30, Act.put, List.setIfInBounds_toArray, List.set_cons_zero, List.set_cons_succ]
                refine tk_skip (i := 31) (oi := pk31) rfl (by kernel_rfl) (by kernel_rfl) (by kernel_rfl) (fun _ _ _ h => h) (by rfl) hS ?_
                simp only [pk31, Act.put, List.setIfInBounds_toArray, List.set_cons_zero, List.set_cons_succ]
                refine tk_skip (i := 32) (oi := pk32) rfl (by kernel_rfl) (by kernel_rfl) (by kernel_rfl) (fun _ _ _ h => h) (by rfl) hS ?_
                simp only [pk32, Act.put, List.setIfInBounds_toArray, List.set_cons_zero, List.set_cons_succ]
                refine tk_skip (i := 33) (oi := pk33) rfl (by kernel_rfl) (by kernel_rfl) (by kernel_rfl) (fun _ _ _ h => h) (by rfl) hS ?_
                simp only [pk33, Act.put, List.setIfInBounds_toArray, List.set_cons_zero, List.set_cons_succ]
                refine tk_skip (i := 34) (oi := pk34) rfl (by kernel_rfl) (by kernel_rfl) (by kernel_rfl) (fun _ _ _ h => h) (by rfl) hS ?_
                simp only [pk34, Act.put, List.setIfInBounds_toArray, List.set_cons_zero, List.set_cons_succ]
                refine tk_pure (i := 35) (oi := pk35) rfl (by kernel_rfl) (by kernel_rfl) (by kernel_rfl) (fun _ _ _ h => h) (by rfl) hS (fun w9 => by simp only [pk35]; go_simp; (try with_reducible rfl)) ?_
                simp only [pk35, Act.put, List.setIfInBounds_toArray, List.set_cons_zero, List.set_cons_succ]
                refine tk_pure (i := 36) (oi := pk36) rfl (by kernel_rfl) (by kernel_rfl) (by kernel_rfl) (fun _ _ _ h => h) (by rfl) hS (fun w9 => by simp only [pk36]; go_simp; (try with_reducible rfl)) ?_
                simp only [pk36, Act.put, List.setIfInBounds_toArray, List.set_cons_zero, List.set_cons_succ]
                refine wpAnyH_done (by kernel_rfl) ?_ _
                go_wp2
                go_returns
                exact ⟨ret_b (by simp only [Hd.placesB, ez.out, *]; rfl), z.trans (hS.below.mono z.size)⟩
              exact AllReadyH.nil
            exact AllReadyH.nil
          refine AllReadyH.cons (o := pk22) rfl (fun K hK => ?_) ?_
          · rw [if_pos (by rfl)]
            simp only [pk22]
            go_simp
            have sl2 : At (v4.alloc (.cells #[.int .i64 h.index] 2)) v4.heap.size #[.int .i64 h.index] 2 := At.new _ _ _
            have hb : Below v4.heap.size v4 (v4.alloc (.cells #[.int .i64 h.index] 2)) := (Below.refl _ _).alloc (Nat.le_refl _) _
            generalize v4.alloc (.cells #[.int .i64 h.index] 2) = v5 at *
            replace sl1 := sl1.keep hb
            have hS2 : Cls W v5 := ⟨hS.below.trans (hb.mono hS.below.size)⟩
            clear hb
            refine hK.out _ _ hS2 (fun hS => ?_)
            clear hK K
            (try simp only [pk22, Act.put, List.setIfInBounds_toArray, List.set_cons_zero, List.set_cons_succ])
            refine wpAnyH_ready (rs := [17]) (by kernel_rfl) (by simp) ?_
            refine AllReadyH.cons (o := pk17) rfl (fun K hK => ?_) ?_
            · rw [if_pos (by rfl)]
              simp only [pk17]
              go_simp
              go_at_call 133
              refine (iBlocks p s l c k _).mono ?_
              rintro e v6 ⟨rfl, hb⟩
              rw [eB.out]
              (go_wp2_with fail)
              replace sl1 := sl1.keep hb
              replace sl2 := sl2.keep hb
              have hS2 : Cls W v6 := ⟨hS.below.trans (hb.mono hS.below.size)⟩
              clear hb
              refine hK.out _ _ hS2 (fun hS => ?_)
              clear hK K
              (try simp only [pk17, Act.put, List.setIfInBounds_toArray, List.set_cons_zero, List.set_cons_succ])
              refine tk_pure (i := 18) (oi := pk18) rfl (by kernel_rfl) (by kernel_rfl) (by kernel_rfl) (fun _ _ _ h => h) (by rfl) hS (fun w9 => by simp only [pk18]; go_simp; (try with_reducible rfl)) ?_
              simp only [pk18, Act.put, List.setIfInBounds_toArray, List.set_cons_zero, List.set_cons_succ]
              refine wpAnyH_ready (rs := [23]) (by kernel_rfl) (by simp) ?_
              refine AllReadyH.cons (o := pk23) rfl (fun K hK => ?_) ?_
              · rw [if_pos (by rfl)]
                simp only [pk23]
                go_simp
                go_at_call 95
                refine (iUpTo _ _ 1 [h.index] rfl (by omega) _ (slices_at sl2)).mono ?_
                rintro e v7 ⟨rfl, rfl⟩
                (try rw [wb.out]); (try rw [wq.out]); rw [e3]
                (go_wp2_with fail)
                have hS2 : Cls W v7 := hS
                refine hK.out _ _ hS2 (fun hS => ?_)
                clear hK K
                (try simp only [pk23, Act.put, List.setIfInBounds_toArray, List.set_cons_zero, List.set_cons_succ])
                refine tk_pure (i := 24) (oi := pk24) rfl (by kernel_rfl) (by kernel_rfl) (by kernel_rfl) (fun _ _ _ h => h) (by rfl) hS (fun w9 => by simp only [pk24]; go_simp; (try with_reducible rfl)) ?_
                simp only [pk24, Act.put, List.setIfInBounds_toArray, List.set_cons_zero, List.set_cons_succ]
                refine tk_pure (i := 25) (oi := pk25) rfl (by kernel_rfl) (by kernel_rfl) (by kernel_rfl) (fun _ _ _ h => h) (by rfl) hS (fun w9 => by simp only [pk25]; go_simp; (try with_reducible rfl)) ?_
                simp only [pk25, Act.put, List.setIfInBounds_toArray, List.set_cons_zero, List.set_cons_succ]
                refine tk_skip (i := 26) (oi := pk26) rfl (by kernel_rfl) (by kernel_rfl) (by kernel_rfl) (fun _ _ _ h => h) (by rfl) hS ?_
                simp only [pk26, Act.put, List.setIfInBounds_toArray, List.set_cons_zero, List.set_cons_succ]
                refine tk_skip (i := 27) (oi := pk27) rfl (by kernel_rfl) (by kernel_rfl) (by kernel_rfl) (fun _ _ _ h => h) (by rfl) hS ?_
                simp only [pk27, Act.put, List.setIfInBounds_toArray, List.set_cons_zero, List.set_cons_succ]
                refine tk_skip (i := 28) (oi := pk28) rfl (by kernel_rfl) (by kernel_rfl) (by kernel_rfl) (fun _ _ _ h => h) (by rfl) hS ?_
                simp only [pk28, Act.put, List.setIfInBounds_toArray, List.set_cons_zero, List.set_cons_succ]
                refine tk_skip (i := 29) (oi := pk29) rfl (by kernel_rfl) (by kernel_rfl) (by kernel_rfl) (fun _ _ _ h => h) (by rfl) hS ?_
                simp only [pk29, Act.put, List.setIfInBounds_toArray, List.set_cons_zero, List.set_cons_succ]
                refine tk_skip (i := 30) (oi := pk30) rfl (by kernel_rfl) (by kernel_rfl) (by kernel_rfl) (fun _ _ _ h => h) (by rfl) hS ?_
                simp only [pk30, Act.put, List.setIfInBounds_toArray, List.set_cons_zero, List.set_cons_succ]
                refine tk_skip (i := 31) (oi := pk31) rfl (by kernel_rfl) (by kernel_rfl) (by kernel_rfl) (fun _ _ _ h => h) (by rfl) hS ?_
                simp only [pk31, Act.put, List.setIfInBounds_toArray, List.set_cons_zero, List.set_cons_succ]
                refine tk_skip (i := 32) (oi := pk32) rfl (by kernel_rfl) (by kernel_rfl) (by kernel_rfl) (fun _ _ _ h => h) (by rfl) hS ?_
                simp only [pk32, Act.put, List.setIfInBounds_toArray, List.set_cons_zero, List.set_cons_succ]
                refine tk_skip (i := 33) (oi := pk33) rfl (by kernel_rfl) (by kernel_rfl) (by kernel_rfl) (fun _ _ _ h => h) (by rfl) hS ?_
                simp only [pk33, Act.put, List.setIfInBounds_toArray, List.set_cons_zero, List.set_cons_succ]
                refine tk_skip (i := 34) (oi := pk34) rfl (by kernel_rfl) (by kernel_rfl) (by kernel_rfl) (fun _ _ _ h => h) (by rfl) hS ?_
                simp only [pk34, Act.put, List.setIfInBounds_toArray, List.set_cons_zero, List.set_cons_succ]
                refine tk_pure (i := 35) (oi := pk35) rfl (by kernel_rfl) (by kernel_rfl) (by kernel_rfl) (fun _ _ _ h => h) (by rfl) hS (fun w9 => by simp only [pk35]; go_simp; (try with_reducible rfl)) ?_
                simp only [pk35, Act.put, List.setIfInBounds_toArray, List.set_cons_zero, List.set_cons_succ]
                refine tk_pure (i := 36) (oi := pk36) rfl (by kernel_rfl) (by kernel_rfl) (by kernel_rfl) (fun _ _ _ h => h) (by rfl) hS (fun w9 => by simp only [pk36]; go_simp; (try with_reducible rfl)) ?_
                simp only [pk36, Act.put, List.setIfInBounds_toArray, List.set_cons_zero, List.set_cons_succ]
                refine wpAnyH_done (by kernel_rfl) ?_ _
                go_wp2
                go_returns
                exact ⟨ret_b (by simp only [Hd.placesB, ez.out, *]; rfl), z.trans (hS.below.mono z.size)⟩
              exact AllReadyH.nil
            exact AllReadyH.nil
          exact AllReadyH.nil
        exact AllReadyH.nil
      exact AllReadyH.nil
    exact AllReadyH.nil
  exact AllReadyH.nil
set_option maxHeartbeats 32000000 in
theorem iPlacesD (p s l c k z0 : Int) (h : Hd) (ho : ok p s l c k = true) (ez : Hid (zF p s l c = z0)) (zb : 0 ≤ z0 ∧ z0 ≤ 100000) (e1 : inB h.for_ 0 (p - 1) = true) (e2 : allUp (z0 - 1) [h.addr] = true) (e3 : allUp (s + l + 1) [h.index] = true) (e4 : allUp (2 * p - 1) [h.which] = true) (w : World) : Calls Tryz.prog 102 #[.agg h.ps.toArray, .agg #[.int .i64 p, .int .i64 s, .int .i64 l, .int .i64 c, .int .i64 k]] w fun e w' => e = .returned (.bool (h.placesB p s l c)) ∧ Below w.heap.size w w' := by
  have h' := ok_iff.1 ho
  have eS : Hid (vSize p s l c k = z0) := by rw [← ez.out]; unfold vSize; rw [ho]; rfl
  have eB : Hid (vBlocks p s l c k = s + l) := by unfold vBlocks; rw [ho]; rfl
  have wz : Hid (IntKind.i64.wrap (z0 - 1) = z0 - 1) := by show _ = _; rw [IntKind.wrap_i64]; omega
  have wb : Hid (IntKind.i64.wrap (s + l + 1) = s + l + 1) := by show _ = _; rw [IntKind.wrap_i64]; omega
  have wp : Hid (IntKind.i64.wrap (IntKind.i64.wrap (2 * p) - 1) = 2 * p - 1) := by show _ = _; rw [IntKind.wrap_i64, IntKind.wrap_i64]; omega
  have wq : Hid (IntKind.i64.wrap (2 * p - 1) = 2 * p - 1) := by show _ = _; rw [IntKind.wrap_i64]; omega
  go_enter Tryz.func102, Tryz.ntmps102
  go_upto_region 1 with fail
  refine wp_at (fun W => At W w.heap.size h.ps.toArray 107 ∧ At W (w.heap.size + 1) #[.int .i64 p, .int .i64 s, .int .i64 l, .int .i64 c, .int .i64 k] 35 ∧ Below w.heap.size w W) (two_box w _ _ _ _) ?_
  rintro W ⟨A, P, z⟩
  have l11 : ∀ w', Cls W w' → (loadVar 2 ⟨w.heap.size, 11, none⟩).run Tryz.prog w' = .ok (.int .i64 h.for_) w' := ld_i A Tryz.underlying2 rfl
  have l17 : ∀ w', Cls W w' → (loadVar 2 ⟨w.heap.size, 17, none⟩).run Tryz.prog w' = .ok (.int .i64 h.addr) w' := ld_i A Tryz.underlying2 rfl
  have l29 : ∀ w', Cls W w' → (loadVar 2 ⟨w.heap.size, 29, none⟩).run Tryz.prog w' = .ok (.int .i64 h.index) w' := ld_i A Tryz.underlying2 rfl
  have l30 : ∀ w', Cls W w' → (loadVar 2 ⟨w.heap.size, 30, none⟩).run Tryz.prog w' = .ok (.int .i64 h.which) w' := ld_i A Tryz.underlying2 rfl
  have l0 : ∀ w', Cls W w' → (loadVar 2 ⟨w.heap.size + 1, 0, none⟩).run Tryz.prog w' = .ok (.int .i64 p) w' := ld_i P Tryz.underlying2 rfl
  have lp : ∀ w', Cls W w' → (loadVar 35 ⟨w.heap.size + 1, 0, none⟩).run Tryz.prog w' = .ok (.agg #[.int .i64 p, .int .i64 s, .int .i64 l, .int .i64 c, .int .i64 k]) w' := ld_agg (vs := [.int .i64 p, .int .i64 s, .int .i64 l, .int .i64 c, .int .i64 k]) P Tryz.underlying35 rfl (by kernel_rfl)
  refine wp_region_held_drew (S := Cls W) (by kernel_rfl) ⟨⟨rfl, rfl, rfl, Nat.le_refl _, fun _ _ => rfl⟩⟩ (fun hS => ?_)
  generalize W.drew = v0 at *
  refine tk_load (i := 0) (oi := pk0) rfl (by kernel_rfl) (by kernel_rfl) (by kernel_rfl) (fun _ _ _ h => h) (by rfl) _ _ _ rfl rfl (by assumption) hS ?_
  simp only [pk0, Act.put, List.setIfInBounds_toArray, List.set_cons_zero, List.set_cons_succ]
  refine tk_pure (i := 1) (oi := pk1) rfl (by kernel_rfl) (by kernel_rfl) (by kernel_rfl) (fun _ _ _ h => h) (by rfl) hS (fun w9 => by simp only [pk1]; go_simp; (try with_reducible rfl)) ?_
  simp only [pk1, Act.put, List.setIfInBounds_toArray, List.set_cons_zero, List.set_cons_succ]
  refine tk_pure (i := 2) (oi := pk2) rfl (by kernel_rfl) (by kernel_rfl) (by kernel_rfl) (fun _ _ _ h => h) (by rfl) hS (fun w9 => by simp only [pk2]; go_simp; (try with_reducible rfl)) ?_
  simp only [pk2, Act.put, List.setIfInBounds_toArray, List.set_cons_zero, List.set_cons_succ]
  refine tk_load (i := 3) (oi := pk3) rfl (by kernel_rfl) (by kernel_rfl) (by kernel_rfl) (fun _ _ _ h => h) (by rfl) _ _ _ rfl rfl (by assumption) hS ?_
  simp only [pk3, Act.put, List.setIfInBounds_toArray, List.set_cons_zero, List.set_cons_succ]
  refine wpAnyH_ready (rs := [4]) (by kernel_rfl) (by simp) ?_
  refine AllReadyH.cons (o := pk4) rfl (fun K hK => ?_) ?_
  · rw [if_pos (by rfl)]
    simp only [pk4]
    go_simp
    go_at_call 47
    refine (iHas p s l c k h.for_ ho _).mono ?_
    rintro e v1 ⟨rfl, hb⟩
    rw [e1]
    (go_wp2_with fail)
    have hS2 : Cls W v1 := ⟨hS.below.trans (hb.mono hS.below.size)⟩
    clear hb
    refine hK.out _ _ hS2 (fun hS => ?_)
    clear hK K
    (try simp only [pk4, Act.put, List.setIfInBounds_toArray, List.set_cons_zero, List.set_cons_succ])
    refine tk_pure (i := 5) (oi := pk5) rfl (by kernel_rfl) (by kernel_rfl) (by kernel_rfl) (fun _ _ _ h => h) (by rfl) hS (fun w9 => by simp only [pk5]; go_simp; (try with_reducible rfl)) ?_
    simp only [pk5, Act.put, List.setIfInBounds_toArray, List.set_cons_zero, List.set_cons_succ]
    refine tk_load (i := 6) (oi := pk6) rfl (by kernel_rfl) (by kernel_rfl) (by kernel_rfl) (fun _ _ _ h => h) (by rfl) _ _ _ rfl rfl (by assumption) hS ?_
    simp only [pk6, Act.put, List.setIfInBounds_toArray, List.set_cons_zero, List.set_cons_succ]
    refine tk_pure (i := 9) (oi := pk9) rfl (by kernel_rfl) (by kernel_rfl) (by kernel_rfl) (fun _ _ _ h => h) (by rfl) hS (fun w9 => by simp only [pk9]; go_simp; (try with_reducible rfl)) ?_
    simp only [pk9, Act.put, List.setIfInBounds_toArray, List.set_cons_zero, List.set_cons_succ]
    refine tk_pure (i := 10) (oi := pk10) rfl (by kernel_rfl) (by kernel_rfl) (by kernel_rfl) (fun _ _ _ h => h) (by rfl) hS (fun w9 => by simp only [pk10]; go_simp; (try with_reducible rfl)) ?_
    simp only [pk10, Act.put, List.setIfInBounds_toArray, List.set_cons_zero, List.set_cons_succ]
    refine tk_load (i := 11) (oi := pk11) rfl (by kernel_rfl) (by kernel_rfl) (by kernel_rfl) (fun _ _ _ h => h) (by rfl) _ _ _ rfl rfl (by assumption) hS ?_
    simp only [pk11, Act.put, List.setIfInBounds_toArray, List.set_cons_zero, List.set_cons_succ]
    refine wpAnyH_ready (rs := [7, 12]) (by kernel_rfl) (by simp) ?_
    refine AllReadyH.cons (o := pk7) rfl (fun K hK => ?_) ?_
    · rw [if_pos (by rfl)]
      simp only [pk7]
      go_simp
      go_at_call 92
      refine (iSize p s l c k _).mono ?_
      rintro e v2 ⟨rfl, hb⟩
      rw [eS.out]
      (go_wp2_with fail)
      have hS2 : Cls W v2 := ⟨hS.below.trans (hb.mono hS.below.size)⟩
      clear hb
      refine hK.out _ _ hS2 (fun hS => ?_)
      clear hK K
      (try simp only [pk7, Act.put, List.setIfInBounds_toArray, List.set_cons_zero, List.set_cons_succ])
      refine tk_pure (i := 8) (oi := pk8) rfl (by kernel_rfl) (by kernel_rfl) (by kernel_rfl) (fun _ _ _ h => h) (by rfl) hS (fun w9 => by simp only [pk8]; go_simp; (try with_reducible rfl)) ?_
      simp only [pk8, Act.put, List.setIfInBounds_toArray, List.set_cons_zero, List.set_cons_succ]
      refine wpAnyH_ready (rs := [12]) (by kernel_rfl) (by simp) ?_
      refine AllReadyH.cons (o := pk12) rfl (fun K hK => ?_) ?_
      · rw [if_pos (by rfl)]
        simp only [pk12]
        go_simp
        have sl1 : At (v2.alloc (.cells #[.int .i64 h.addr] 2)) v2.heap.size #[.int .i64 h.addr] 2 := At.new _ _ _
        have hb : Below v2.heap.size v2 (v2.alloc (.cells #[.int .i64 h.addr] 2)) := (Below.refl _ _).alloc (Nat.le_refl _) _
        generalize v2.alloc (.cells #[.int .i64 h.addr] 2) = v3 at *
        have hS2 : Cls W v3 := ⟨hS.below.trans (hb.mono hS.below.size)⟩
        clear hb
        refine hK.out _ _ hS2 (fun hS => ?_)
        clear hK K
        (try simp only [pk12, Act.put, List.setIfInBounds_toArray, List.set_cons_zero, List.set_cons_succ])
        refine wpAnyH_ready (rs := [13]) (by kernel_rfl) (by simp) ?_
        refine AllReadyH.cons (o := pk13) rfl (fun K hK => ?_) ?_
        · rw [if_pos (by rfl)]
          simp only [pk13]
          go_simp
          go_at_call 95
          refine (iUpTo _ _ 1 [h.addr] rfl (by omega) _ (slices_at sl1)).mono ?_
          rintro e v4 ⟨rfl, rfl⟩
          (try rw [wz.out]); (try rw [wq.out]); rw [e2]
          (go_wp2_with fail)
          have hS2 : Cls W v4 := hS
          refine hK.out _ _ hS2 (fun hS => ?_)
          clear hK K
          (try simp only [pk13, Act.put, List.setIfInBounds_toArray, List.set_cons_zero, List.set_cons_succ])
          refine tk_pure (i := 14) (oi := pk14) rfl (by kernel_rfl) (by kernel_rfl) (by kernel_rfl) (fun _ _ _ h => h) (by rfl) hS (fun w9 => by simp only [pk14]; go_simp; (try with_reducible rfl)) ?_
          simp only [pk14, Act.put, List.setIfInBounds_toArray, List.set_cons_zero, List.set_cons_succ]
          refine tk_pure (i := 15) (oi := pk15) rfl (by kernel_rfl) (by kernel_rfl) (by kernel_rfl) (fun _ _ _ h => h) (by rfl) hS (fun w9 => by simp only [pk15]; go_simp; (try with_reducible rfl)) ?_
          simp only [pk15, Act.put, List.setIfInBounds_toArray, List.set_cons_zero, List.set_cons_succ]
          refine tk_load (i := 16) (oi := pk16) rfl (by kernel_rfl) (by kernel_rfl) (by kernel_rfl) (fun _ _ _ h => h) (by rfl) _ _ _ rfl rfl (by assumption) hS ?_
          simp only [pk16, Act.put, List.setIfInBounds_toArray, List.set_cons_zero, List.set_cons_succ]
          refine tk_pure (i := 19) (oi := pk19) rfl (by kernel_rfl) (by kernel_rfl) (by kernel_rfl) (fun _ _ _ h => h) (by rfl) hS (fun w9 => by simp only [pk19]; go_simp; (try with_reducible rfl)) ?_
          simp only [pk19, Act.put, List.setIfInBounds_toArray, List.set_cons_zero, List.set_cons_succ]
          refine tk_pure (i := 20) (oi := pk20) rfl (by kernel_rfl) (by kernel_rfl) (by kernel_rfl) (fun _ _ _ h => h) (by rfl) hS (fun w9 => by simp only [pk20]; go_simp; (try with_reducible rfl)) ?_
          simp only [pk20, Act.put, List.setIfInBounds_toArray, List.set_cons_zero, List.set_cons_succ]
          refine tk_load (i := 21) (oi := pk21) rfl (by kernel_rfl) (by kernel_rfl) (by kernel_rfl) (fun _ _ _ h => h) (by rfl) _ _ _ rfl rfl (by assumption) hS ?_
          simp only [pk21, Act.put, List.setIfInBounds_toArray, List.set_cons_zero, List.set_cons_succ]
          refine wpAnyH_ready (rs := [17, 22]) (by kernel_rfl) (by simp) ?_
          refine AllReadyH.cons (o := pk17) rfl (fun K hK => ?_) ?_
          · rw [if_pos (by rfl)]
            simp only [pk17]
            go_simp
            go_at_call 133
            refine (iBlocks p s l c k _).mono ?_
            rintro e v5 ⟨rfl, hb⟩
            rw [eB.out]
            (go_wp2_with fail)
            replace sl1 := sl1.keep hb
            have hS2 : Cls W v5 := ⟨hS.below.trans (hb.mono hS.below.size)⟩
            clear hb
            refine hK.out _ _ hS2 (fun hS => ?_)
            clear hK K
            (try simp only [pk17, Act.put, List.setIfInBounds_toArray, List.set_cons_zero, List.set_cons_succ])
            refine tk_pure (i := 18) (oi := pk18) rfl (by kernel_rfl) (by kernel_rfl) (by kernel_rfl) (fun _ _ _ h => h) (by rfl) hS (fun w9 => by simp only [pk18]; go_simp; (try with_reducible rfl)) ?_
            simp only [pk18, Act.put, List.setIfInBounds_toArray, List.set_cons_zero, List.set_cons_succ]
            refine wpAnyH_ready (rs := [22]) (by kernel_rfl) (by simp) ?_
            refine AllReadyH.cons (o := pk22) rfl (fun K hK => ?_) ?_
            · rw [if_pos (by rfl)]
              simp only [pk22]
              go_simp
              have sl2 : At (v5.alloc (.cells #[.int .i64 h.index] 2)) v5.heap.size #[.int .i64 h.index] 2 := At.new _ _ _
              have hb : Below v5.heap.size v5 (v5.alloc (.cells #[.int .i64 h.index] 2)) := (Below.refl _ _).alloc (Nat.le_refl _) _
              generalize v5.alloc (.cells #[.int .i64 h.index] 2) = v6 at *
              replace sl1 := sl1.keep hb
              have hS2 : Cls W v6 := ⟨hS.below.trans (hb.mono hS.below.size)⟩
              clear hb
              refine hK.out _ _ hS2 (fun hS => ?_)
              clear hK K
              (try simp only [pk22, Act.put, List.setIfInBounds_toArray, List.set_cons_zero, List.set_cons_succ])
              refine wpAnyH_ready (rs := [23]) (by kernel_rfl) (by simp) ?_
              refine AllReadyH.cons (o := pk23) rfl (fun K hK => ?_) ?_
              · rw [if_pos (by rfl)]
                simp only [pk23]
                go_simp
                go_at_call 95
                refine (iUpTo _ _ 1 [h.index] rfl (by omega) _ (slices_at sl2)).mono ?_
                rintro e v7 ⟨rfl, rfl⟩
                (try rw [wb.out]); (try rw [wq.out]); rw [e3]
                (go_wp2_with fail)
                have hS2 : Cls W v7 := hS
                refine hK.out _ _ hS2 (fun hS => ?_)
                clear hK K
                (try simp only [pk23, Act.put, List.setIfInBounds_toArray, List.set_cons_zero, List.set_cons_succ])
                refine tk_pure (i := 24) (oi := pk24) rfl (by kernel_rfl) (by kernel_rfl) (by kernel_rfl) (fun _ _ _ h => h) (by rfl) hS (fun w9 => by simp only [pk24]; go_simp; (try with_reducible rfl)) ?_
                simp only [pk24, Act.put, List.setIfInBounds_toArray, List.set_cons_zero, List.set_cons_succ]
                refine tk_pure (i := 25) (oi := pk25) rfl (by kernel_rfl) (by kernel_rfl) (by kernel_rfl) (fun _ _ _ h => h) (by rfl) hS (fun w9 => by simp only [pk25]; go_simp; (try with_reducible rfl)) ?_
                simp only [pk25, Act.put, List.setIfInBounds_toArray, List.set_cons_zero, List.set_cons_succ]
                refine tk_pure (i := 26) (oi := pk26) rfl (by kernel_rfl) (by kernel_rfl) (by kernel_rfl) (fun _ _ _ h => h) (by rfl) hS (fun w9 => by simp only [pk26]; go_simp; (try with_reducible rfl)) ?_
                simp only [pk26, Act.put, List.setIfInBounds_toArray, List.set_cons_zero, List.set_cons_succ]
                refine tk_load (i := 27) (oi := pk27) rfl (by kernel_rfl) (by kernel_rfl) (by kernel_rfl) (fun _ _ _ h => h) (by rfl) _ _ _ rfl rfl (by assumption) hS ?_
                simp only [pk27, Act.put, List.setIfInBounds_toArray, List.set_cons_zero, List.set_cons_succ]
                refine tk_pure (i := 28) (oi := pk28) rfl (by kernel_rfl) (by kernel_rfl) (by kernel_rfl) (fun _ _ _ h => h) (by rfl) hS (fun w9 => by simp only [pk28]; go_simp; (try with_reducible rfl)) ?_
                simp only [pk28, Act.put, List.setIfInBounds_toArray, List.set_cons_zero, List.set_cons_succ]
                refine tk_pure (i := 29) (oi := pk29) rfl (by kernel_rfl) (by kernel_rfl) (by kernel_rfl) (fun _ _ _ h => h) (by rfl) hS (fun w9 => by simp only [pk29]; go_simp; (try with_reducible rfl)) ?_
                simp only [pk29, Act.put, List.setIfInBounds_toArray, List.set_cons_zero, List.set_cons_succ]
                refine tk_pure (i := 30) (oi := pk30) rfl (by kernel_rfl) (by kernel_rfl) (by kernel_rfl) (fun _ _ _ h => h) (by rfl) hS (fun w9 => by simp only [pk30]; go_simp; (try with_reducible rfl)) ?_
                simp only [pk30, Act.put, List.setIfInBounds_toArray, List.set_cons_zero, List.set_cons_succ]
                refine tk_pure (i := 31) (oi := pk31) rfl (by kernel_rfl) (by kernel_rfl) (by kernel_rfl) (fun _ _ _ h => h) (by rfl) hS (fun w9 => by simp only [pk31]; go_simp; (try with_reducible rfl)) ?_
                simp only [pk31, Act.put, List.setIfInBounds_toArray, List.set_cons_zero, List.set_cons_succ]
                refine tk_load (i := 32) (oi := pk32) rfl (by kernel_rfl) (by kernel_rfl) (by kernel_rfl) (fun _ _ _ h => h) (by rfl) _ _ _ rfl rfl (by assumption) hS ?_
                simp only [pk32, Act.put, List.setIfInBounds_toArray, List.set_cons_zero, List.set_cons_succ]
                refine wpAnyH_ready (rs := [33]) (by kernel_rfl) (by simp) ?_
                refine AllReadyH.cons (o := pk33) rfl (fun K hK => ?_) ?_
                · rw [if_pos (by rfl)]
                  simp only [pk33]
                  go_simp
                  have sl3 : At (v7.alloc (.cells #[.int .i64 h.which] 2)) v7.heap.size #[.int .i64 h.which] 2 := At.new _ _ _
                  have hb : Below v7.heap.size v7 (v7.alloc (.cells #[.int .i64 h.which] 2)) := (Below.refl _ _).alloc (Nat.le_refl _) _
                  generalize v7.alloc (.cells #[.int .i64 h.which] 2) = v8 at *
                  replace sl1 := sl1.keep hb
                  replace sl2 := sl2.keep hb
                  have hS2 : Cls W v8 := ⟨hS.below.trans (hb.mono hS.below.size)⟩
                  clear hb
                  refine hK.out _ _ hS2 (fun hS => ?_)
                  clear hK K
                  (try simp only [pk33, Act.put, List.setIfInBounds_toArray, List.set_cons_zero, List.set_cons_succ])
                  refine wpAnyH_ready (rs := [34]) (by kernel_rfl) (by simp) ?_
                  refine AllReadyH.cons (o := pk34) rfl (fun K hK => ?_) ?_
                  · rw [if_pos (by rfl)]
                    simp only [pk34]
                    go_simp
                    go_at_call 95
                    refine (iUpTo _ _ 1 [h.which] rfl (by omega) _ (slices_at sl3)).mono ?_
                    rintro e v9 ⟨rfl, rfl⟩
                    (try rw [wp.out]); (try rw [wq.out]); rw [e4]
                    (go_wp2_with fail)
                    have hS2 : Cls W v9 := hS
                    refine hK.out _ _ hS2 (fun hS => ?_)
                    clear hK K
                    (try simp only [pk34, Act.put, List.setIfInBounds_toArray, List.set_cons_zero, List.set_cons_succ])
                    refine tk_pure (i := 35) (oi := pk35) rfl (by kernel_rfl) (by kernel_rfl) (by kernel_rfl) (fun _ _ _ h => h) (by rfl) hS (fun w9 => by simp only [pk35]; go_simp; (try with_reducible rfl)) ?_
                    simp only [pk35, Act.put, List.setIfInBounds_toArray, List.set_cons_zero, List.set_cons_succ]
                    refine tk_pure (i := 36) (oi := pk36) rfl (by kernel_rfl) (by kernel_rfl) (by kernel_rfl) (fun _ _ _ h => h) (by rfl) hS (fun w9 => by simp only [pk36]; go_simp; (try with_reducible rfl)) ?_
                    simp only [pk36, Act.put, List.setIfInBounds_toArray, List.set_cons_zero, List.set_cons_succ]
                    refine wpAnyH_done (by kernel_rfl) ?_ _
                    go_wp2
                    go_returns
                    exact ⟨ret_b (by simp only [Hd.placesB, ez.out, *]; rfl), z.trans (hS.below.mono z.size)⟩
                  exact AllReadyH.nil
                exact AllReadyH.nil
              exact AllReadyH.nil
            exact AllReadyH.nil
          refine AllReadyH.cons (o := pk22) rfl (fun K hK => ?_) ?_
          · rw [if_pos (by rfl)]
            simp only [pk22]
            go_simp
            have sl2 : At (v4.alloc (.cells #[.int .i64 h.index] 2)) v4.heap.size #[.int .i64 h.index] 2 := At.new _ _ _
            have hb : Below v4.heap.size v4 (v4.alloc (.cells #[.int .i64 h.index] 2)) := (Below.refl _ _).alloc (Nat.le_refl _) _
            generalize v4.alloc (.cells #[.int .i64 h.index] 2) = v5 at *
            replace sl1 := sl1.keep hb
            have hS2 : Cls W v5 := ⟨hS.below.trans (hb.mono hS.below.size)⟩
            clear hb
            refine hK.out _ _ hS2 (fun hS => ?_)
            clear hK K
            (try simp only [pk22, Act.put, List.setIfInBounds_toArray, List.set_cons_zero, List.set_cons_succ])
            refine wpAnyH_ready (rs := [17]) (by kernel_rfl) (by simp) ?_
            refine AllReadyH.cons (o := pk17) rfl (fun K hK => ?_) ?_
            · rw [if_pos (by rfl)]
              simp only [pk17]
              go_simp
              go_at_call 133
              refine (iBlocks p s l c k _).mono ?_
              rintro e v6 ⟨rfl, hb⟩
              rw [eB.out]
              (go_wp2_with fail)
              replace sl1 := sl1.keep hb
              replace sl2 := sl2.keep hb
              have hS2 : Cls W v6 := ⟨hS.below.trans (hb.mono hS.below.size)⟩
              clear hb
              refine hK.out _ _ hS2 (fun hS => ?_)
              clear hK K
              (try simp only [pk17, Act.put, List.setIfInBounds_toArray, List.set_cons_zero, List.set_cons_succ])
              refine tk_pure (i := 18) (oi := pk18) rfl (by kernel_rfl) (by kernel_rfl) (by kernel_rfl) (fun _ _ _ h => h) (by rfl) hS (fun w9 => by simp only [pk18]; go_simp; (try with_reducible rfl)) ?_
              simp only [pk18, Act.put, List.setIfInBounds_toArray, List.set_cons_zero, List.set_cons_succ]
              refine wpAnyH_ready (rs := [23]) (by kernel_rfl) (by simp) ?_
              refine AllReadyH.cons (o := pk23) rfl (fun K hK => ?_) ?_
              · rw [if_pos (by rfl)]
                simp only [pk23]
                go_simp
                go_at_call 95
                refine (iUpTo _ _ 1 [h.index] rfl (by omega) _ (slices_at sl2)).mono ?_
                rintro e v7 ⟨rfl, rfl⟩
                (try rw [wb.out]); (try rw [wq.out]); rw [e3]
                (go_wp2_with fail)
                have hS2 : Cls W v7 := hS
                refine hK.out _ _ hS2 (fun hS => ?_)
                clear hK K
                (try simp only [pk23, Act.put, List.setIfInBounds_toArray, List.set_cons_zero, List.set_cons_succ])
                refine tk_pure (i := 24) (oi := pk24) rfl (by kernel_rfl) (by kernel_rfl) (by kernel_rfl) (fun _ _ _ h => h) (by rfl) hS (fun w9 => by simp only [pk24]; go_simp; (try with_reducible rfl)) ?_
                simp only [pk24, Act.put, List.setIfInBounds_toArray, List.set_cons_zero, List.set_cons_succ]
                refine tk_pure (i := 25) (oi := pk25) rfl (by kernel_rfl) (by kernel_rfl) (by kernel_rfl) (fun _ _ _ h => h) (by rfl) hS (fun w9 => by simp only [pk25]; go_simp; (try with_reducible rfl)) ?_
                simp only [pk25, Act.put, List.setIfInBounds_toArray, List.set_cons_zero, List.set_cons_succ]
                refine tk_pure (i := 26) (oi := pk26) rfl (by kernel_rfl) (by kernel_rfl) (by kernel_rfl) (fun _ _ _ h => h) (by rfl) hS (fun w9 => by simp only [pk26]; go_simp; (try with_reducible rfl)) ?_
                simp only [pk26, Act.put, List.setIfInBounds_toArray, List.set_cons_zero, List.set_cons_succ]
                refine tk_load (i := 27) (oi := pk27) rfl (by kernel_rfl) (by kernel_rfl) (by kernel_rfl) (fun _ _ _ h => h) (by rfl) _ _ _ rfl rfl (by assumption) hS ?_
                simp only [pk27, Act.put, List.setIfInBounds_toArray, List.set_cons_zero, List.set_cons_succ]
                refine tk_pure (i := 28) (oi := pk28) rfl (by kernel_rfl) (by kernel_rfl) (by kernel_rfl) (fun _ _ _ h => h) (by rfl) hS (fun w9 => by simp only [pk28]; go_simp; (try with_reducible rfl)) ?_
                simp only [pk28, Act.put, List.setIfInBounds_toArray, List.set_cons_zero, List.set_cons_succ]
                refine tk_pure (i := 29) (oi := pk29) rfl (by kernel_rfl) (by kernel_rfl) (by kernel_rfl) (fun _ _ _ h => h) (by rfl) hS (fun w9 => by simp only [pk29]; go_simp; (try with_reducible rfl)) ?_
                simp only [pk29, Act.put, List.setIfInBounds_toArray, List.set_cons_zero, List.set_cons_succ]
                refine tk_pure (i := 30) (oi := pk30) rfl (by kernel_rfl) (by kernel_rfl) (by kernel_rfl) (fun _ _ _ h => h) (by rfl) hS (fun w9 => by simp only [pk30]; go_simp; (try with_reducible rfl)) ?_
                simp only [pk30, Act.put, List.setIfInBounds_toArray, List.set_cons_zero, List.set_cons_succ]
                refine tk_pure (i := 31) (oi := pk31) rfl (by kernel_rfl) (by kernel_rfl) (by kernel_rfl) (fun _ _ _ h => h) (by rfl) hS (fun w9 => by simp only [pk31]; go_simp; (try with_reducible rfl)) ?_
                simp only [pk31, Act.put, List.setIfInBounds_toArray, List.set_cons_zero, List.set_cons_succ]
                refine tk_load (i := 32) (oi := pk32) rfl (by kernel_rfl) (by kernel_rfl) (by kernel_rfl) (fun _ _ _ h => h) (by rfl) _ _ _ rfl rfl (by assumption) hS ?_
                simp only [pk32, Act.put, List.setIfInBounds_toArray, List.set_cons_zero, List.set_cons_succ]
                refine wpAnyH_ready (rs := [33]) (by kernel_rfl) (by simp) ?_
                refine AllReadyH.cons (o := pk33) rfl (fun K hK => ?_) ?_
                · rw [if_pos (by rfl)]
                  simp only [pk33]
                  go_simp
                  have sl3 : At (v7.alloc (.cells #[.int .i64 h.which] 2)) v7.heap.size #[.int .i64 h.which] 2 := At.new _ _ _
                  have hb : Below v7.heap.size v7 (v7.alloc (.cells #[.int .i64 h.which] 2)) := (Below.refl _ _).alloc (Nat.le_refl _) _
                  generalize v7.alloc (.cells #[.int .i64 h.which] 2) = v8 at *
                  replace sl1 := sl1.keep hb
                  replace sl2 := sl2.keep hb
                  have hS2 : Cls W v8 := ⟨hS.below.trans (hb.mono hS.below.size)⟩
                  clear hb
                  refine hK.out _ _ hS2 (fun hS => ?_)
                  clear hK K
                  (try simp only [pk33, Act.put, List.setIfInBounds_toArray, List.set_cons_zero, List.set_cons_succ])
                  refine wpAnyH_ready (rs := [34]) (by kernel_rfl) (by simp) ?_
                  refine AllReadyH.cons (o := pk34) rfl (fun K hK => ?_) ?_
                  · rw [if_pos (by rfl)]
                    simp only [pk34]
                    go_simp
                    go_at_call 95
                    refine (iUpTo _ _ 1 [h.which] rfl (by omega) _ (slices_at sl3)).mono ?_
                    rintro e v9 ⟨rfl, rfl⟩
                    (try rw [wp.out]); (try rw [wq.out]); rw [e4]
                    (go_wp2_with fail)
                    have hS2 : Cls W v9 := hS
                    refine hK.out _ _ hS2 (fun hS => ?_)
                    clear hK K
                    (try simp only [pk34, Act.put, List.setIfInBounds_toArray, List.set_cons_zero, List.set_cons_succ])
                    refine tk_pure (i := 35) (oi := pk35) rfl (by kernel_rfl) (by kernel_rfl) (by kernel_rfl) (fun _ _ _ h => h) (by rfl) hS (fun w9 => by simp only [pk35]; go_simp; (try with_reducible rfl)) ?_
                    simp only [pk35, Act.put, List.setIfInBounds_toArray, List.set_cons_zero, List.set_cons_succ]
                    refine tk_pure (i := 36) (oi := pk36) rfl (by kernel_rfl) (by kernel_rfl) (by kernel_rfl) (fun _ _ _ h => h) (by rfl) hS (fun w9 => by simp only [pk36]; go_simp; (try with_reducible rfl)) ?_
                    simp only [pk36, Act.put, List.setIfInBounds_toArray, List.set_cons_zero, List.set_cons_succ]
                    refine wpAnyH_done (by kernel_rfl) ?_ _
                    go_wp2
                    go_returns
                    exact ⟨ret_b (by simp only [Hd.placesB, ez.out, *]; rfl), z.trans (hS.below.mono z.size)⟩
                  exact AllReadyH.nil
                exact AllReadyH.nil
              exact AllReadyH.nil
            exact AllReadyH.nil
          exact AllReadyH.nil
        exact AllReadyH.nil
      exact AllReadyH.nil
    refine AllReadyH.cons (o := pk12) rfl (fun K hK => ?_) ?_
    · rw [if_pos (by rfl)]
      simp only [pk12]
      go_simp
      have sl1 : At (v1.alloc (.cells #[.int .i64 h.addr] 2)) v1.heap.size #[.int .i64 h.addr] 2 := At.new _ _ _
      have hb : Below v1.heap.size v1 (v1.alloc (.cells #[.int .i64 h.addr] 2)) := (Below.refl _ _).alloc (Nat.le_refl _) _
      generalize v1.alloc (.cells #[.int .i64 h.addr] 2) = v2 at *
      have hS2 : Cls W v2 := ⟨hS.below.trans (hb.mono hS.below.size)⟩
      clear hb
      refine hK.out _ _ hS2 (fun hS => ?_)
      clear hK K
      (try simp only [pk12, Act.put, List.setIfInBounds_toArray, List.set_cons_zero, List.set_cons_succ])
      refine wpAnyH_ready (rs := [7]) (by kernel_rfl) (by simp) ?_
      refine AllReadyH.cons (o := pk7) rfl (fun K hK => ?_) ?_
      · rw [if_pos (by rfl)]
        simp only [pk7]
        go_simp
        go_at_call 92
        refine (iSize p s l c k _).mono ?_
        rintro e v3 ⟨rfl, hb⟩
        rw [eS.out]
        (go_wp2_with fail)
        replace sl1 := sl1.keep hb
        have hS2 : Cls W v3 := ⟨hS.below.trans (hb.mono hS.below.size)⟩
        clear hb
        refine hK.out _ _ hS2 (fun hS => ?_)
        clear hK K
        (try simp only [pk7, Act.put, List.setIfInBounds_toArray, List.set_cons_zero, List.set_cons_succ])
        refine tk_pure (i := 8) (oi := pk8) rfl (by kernel_rfl) (by kernel_rfl) (by kernel_rfl) (fun _ _ _ h => h) (by rfl) hS (fun w9 => by simp only [pk8]; go_simp; (try with_reducible rfl)) ?_
        simp only [pk8, Act.put, List.setIfInBounds_toArray, List.set_cons_zero, List.set_cons_succ]
        refine wpAnyH_ready (rs := [13]) (by kernel_rfl) (by simp) ?_
        refine AllReadyH.cons (o := pk13) rfl (fun K hK => ?_) ?_
        · rw [if_pos (by rfl)]
          simp only [pk13]
          go_simp
          go_at_call 95
          refine (iUpTo _ _ 1 [h.addr] rfl (by omega) _ (slices_at sl1)).mono ?_
          rintro e v4 ⟨rfl, rfl⟩
          (try rw [wz.out]); (try rw [wq.out]); rw [e2]
          (go_wp2_with fail)
          have hS2 : Cls W v4 := hS
          refine hK.out _ _ hS2 (fun hS => ?_)
          clear hK K
          (try simp only [pk13, Act.put, List.setIfInBounds_toArray, List.set_cons_zero, List.set_cons_succ])
          refine tk_pure (i := 14) (oi := pk14) rfl (by kernel_rfl) (by kernel_rfl) (by kernel_rfl) (fun _ _ _ h => h) (by rfl) hS (fun w9 => by simp only [pk14]; go_simp; (try with_reducible rfl)) ?_
          simp only [pk14, Act.put, List.setIfInBounds_toArray, List.set_cons_zero, List.set_cons_succ]
          refine tk_pure (i := 15) (oi := pk15) rfl (by kernel_rfl) (by kernel_rfl) (by kernel_rfl) (fun _ _ _ h => h) (by rfl) hS (fun w9 => by simp only [pk15]; go_simp; (try with_reducible rfl)) ?_
          simp only [pk15, Act.put, List.setIfInBounds_toArray, List.set_cons_zero, List.set_cons_succ]
          refine tk_load (i := 16) (oi := pk16) rfl (by kernel_rfl) (by kernel_rfl) (by kernel_rfl) (fun _ _ _ h => h) (by rfl) _ _ _ rfl rfl (by assumption) hS ?_
          simp only [pk16, Act.put, List.setIfInBounds_toArray, List.set_cons_zero, List.set_cons_succ]
          refine tk_pure (i := 19) (oi := pk19) rfl (by kernel_rfl) (by kernel_rfl) (by kernel_rfl) (fun _ _ _ h => h) (by rfl) hS (fun w9 => by simp only [pk19]; go_simp; (try with_reducible rfl)) ?_
          simp only [pk19, Act.put, List.setIfInBounds_toArray, List.set_cons_zero, List.set_cons_succ]
          refine tk_pure (i := 20) (oi := pk20) rfl (by kernel_rfl) (by kernel_rfl) (by kernel_rfl) (fun _ _ _ h => h) (by rfl) hS (fun w9 => by simp only [pk20]; go_simp; (try with_reducible rfl)) ?_
          simp only [pk20, Act.put, List.setIfInBounds_toArray, List.set_cons_zero, List.set_cons_succ]
          refine tk_load (i := 21) (oi := pk21) rfl (by kernel_rfl) (by kernel_rfl) (by kernel_rfl) (fun _ _ _ h => h) (by rfl) _ _ _ rfl rfl (by assumption) hS ?_
          simp only [pk21, Act.put, List.setIfInBounds_toArray, List.set_cons_zero, List.set_cons_succ]
          refine wpAnyH_ready (rs := [17, 22]) (by kernel_rfl) (by simp) ?_
          refine AllReadyH.cons (o := pk17) rfl (fun K hK => ?_) ?_
          · rw [if_pos (by rfl)]
            simp only [pk17]
            go_simp
            go_at_call 133
            refine (iBlocks p s l c k _).mono ?_
            rintro e v5 ⟨rfl, hb⟩
            rw [eB.out]
            (go_wp2_with fail)
            replace sl1 := sl1.keep hb
            have hS2 : Cls W v5 := ⟨hS.below.trans (hb.mono hS.below.size)⟩
            clear hb
            refine hK.out _ _ hS2 (fun hS => ?_)
            clear hK K
            (try simp only [pk17, Act.put, List.setIfInBounds_toArray, List.set_cons_zero, List.set_cons_succ])
            refine tk_pure (i := 18) (oi := pk18) rfl (by kernel_rfl) (by kernel_rfl) (by kernel_rfl) (fun _ _ _ h => h) (by rfl) hS (fun w9 => by simp only [pk18]; go_simp; (try with_reducible rfl)) ?_
            simp only [pk18, Act.put, List.setIfInBounds_toArray, List.set_cons_zero, List.set_cons_succ]
            refine wpAnyH_ready (rs := [22]) (by kernel_rfl) (by simp) ?_
            refine AllReadyH.cons (o := pk22) rfl (fun K hK => ?_) ?_
            · rw [if_pos (by rfl)]
              simp only [pk22]
              go_simp
              have sl2 : At (v5.alloc (.cells #[.int .i64 h.index] 2)) v5.heap.size #[.int .i64 h.index] 2 := At.new _ _ _
              have hb : Below v5.heap.size v5 (v5.alloc (.cells #[.int .i64 h.index] 2)) := (Below.refl _ _).alloc (Nat.le_refl _) _
              generalize v5.alloc (.cells #[.int .i64 h.index] 2) = v6 at *
              replace sl1 := sl1.keep hb
              have hS2 : Cls W v6 := ⟨hS.below.trans (hb.mono hS.below.size)⟩
              clear hb
              refine hK.out _ _ hS2 (fun hS => ?_)
              clear hK K
              (try simp only [pk22, Act.put, List.setIfInBounds_toArray, List.set_cons_zero, List.set_cons_succ])
              refine wpAnyH_ready (rs := [23]) (by kernel_rfl) (by simp) ?_
              refine AllReadyH.cons (o := pk23) rfl (fun K hK => ?_) ?_
              · rw [if_pos (by rfl)]
                simp only [pk23]
                go_simp
                go_at_call 95
                refine (iUpTo _ _ 1 [h.index] rfl (by omega) _ (slices_at sl2)).mono ?_
                rintro e v7 ⟨rfl, rfl⟩
                (try rw [wb.out]); (try rw [wq.out]); rw [e3]
                (go_wp2_with fail)
                have hS2 : Cls W v7 := hS
                refine hK.out _ _ hS2 (fun hS => ?_)
                clear hK K
                (try simp only [pk23, Act.put, List.setIfInBounds_toArray, List.set_cons_zero, List.set_cons_succ])
                refine tk_pure (i := 24) (oi := pk24) rfl (by kernel_rfl) (by kernel_rfl) (by kernel_rfl) (fun _ _ _ h => h) (by rfl) hS (fun w9 => by simp only [pk24]; go_simp; (try with_reducible rfl)) ?_
                simp only [pk24, Act.put, List.setIfInBounds_toArray, List.set_cons_zero, List.set_cons_succ]
                refine tk_pure (i := 25) (oi := pk25) rfl (by kernel_rfl) (by kernel_rfl) (by kernel_rfl) (fun _ _ _ h => h) (by rfl) hS (fun w9 => by simp only [pk25]; go_simp; (try with_reducible rfl)) ?_
                simp only [pk25, Act.put, List.setIfInBounds_toArray, List.set_cons_zero, List.set_cons_succ]
                refine tk_pure (i := 26) (oi := pk26) rfl (by kernel_rfl) (by kernel_rfl) (by kernel_rfl) (fun _ _ _ h => h) (by rfl) hS (fun w9 => by simp only [pk26]; go_simp; (try with_reducible rfl)) ?_
                simp only [pk26, Act.put, List.setIfInBounds_toArray, List.set_cons_zero, List.set_cons_succ]
                refine tk_load (i := 27) (oi := pk27) rfl (by kernel_rfl) (by kernel_rfl) (by kernel_rfl) (fun _ _ _ h => h) (by rfl) _ _ _ rfl rfl (by assumption) hS ?_
                simp only [pk27, Act.put, List.setIfInBounds_toArray, List.set_cons_zero, List.set_cons_succ]
                refine tk_pure (i := 28) (oi := pk28) rfl (by kernel_rfl) (by kernel_rfl) (by kernel_rfl) (fun _ _ _ h => h) (by rfl) hS (fun w9 => by simp only [pk28]; go_simp; (try with_reducible rfl)) ?_
                simp only [pk28, Act.put, List.setIfInBounds_toArray, List.set_cons_zero, List.set_cons_succ]
                refine tk_pure (i := 29) (oi := pk29) rfl (by kernel_rfl) (by kernel_rfl) (by kernel_rfl) (fun _ _ _ h => h) (by rfl) hS (fun w9 => by simp only [pk29]; go_simp; (try with_reducible rfl)) ?_
                simp only [pk29, Act.put, List.setIfInBounds_toArray, List.set_cons_zero, List.set_cons_succ]
                refine tk_pure (i := 30) (oi := pk30) rfl (by kernel_rfl) (by kernel_rfl) (by kernel_rfl) (fun _ _ _ h => h) (by rfl) hS (fun w9 => by simp only [pk30]; go_simp; (try with_reducible rfl)) ?_
                simp only [pk30, Act.put, List.setIfInBounds_toArray, List.set_cons_zero, List.set_cons_succ]
                refine tk_pure (i := 31) (oi := pk31) rfl (by kernel_rfl) (by kernel_rfl) (by kernel_rfl) (fun _ _ _ h => h) (by rfl) hS (fun w9 => by simp only [pk31]; go_simp; (try with_reducible rfl)) ?_
                simp only [pk31, Act.put, List.setIfInBounds_toArray, List.set_cons_zero, List.set_cons_succ]
                refine tk_load (i := 32) (oi := pk32) rfl (by kernel_rfl) (by kernel_rfl) (by kernel_rfl) (fun _ _ _ h => h) (by rfl) _ _ _ rfl rfl (by assumption) hS ?_
                simp only [pk32, Act.put, List.setIfInBounds_toArray, List.set_cons_zero, List.set_cons_succ]
                refine wpAnyH_ready (rs := [33]) (by kernel_rfl) (by simp) ?_
                refine AllReadyH.cons (o := pk33) rfl (fun K hK => ?_) ?_
                · rw [if_pos (by rfl)]
                  simp only [pk33]
                  go_simp
                  have sl3 : At (v7.alloc (.cells #[.int .i64 h.which] 2)) v7.heap.size #[.int .i64 h.which] 2 := At.new _ _ _
                  have hb : Below v7.heap.size v7 (v7.alloc (.cells #[.int .i64 h.which] 2)) := (Below.refl _ _).alloc (Nat.le_refl _) _
                  generalize v7.alloc (.cells #[.int .i64 h.which] 2) = v8 at *
                  replace sl1 := sl1.keep hb
                  replace sl2 := sl2.keep hb
                  have hS2 : Cls W v8 := ⟨hS.below.trans (hb.mono hS.below.size)⟩
                  clear hb
                  refine hK.out _ _ hS2 (fun hS => ?_)
                  clear hK K
                  (try simp only [pk33, Act.put, List.setIfInBounds_toArray, List.set_cons_zero, List.set_cons_succ])
                  refine wpAnyH_ready (rs := [34]) (by kernel_rfl) (by simp) ?_
                  refine AllReadyH.cons (o := pk34) rfl (fun K hK => ?_) ?_
                  · rw [if_pos (by rfl)]
                    simp only [pk34]
                    go_simp
                    go_at_call 95
                    refine (iUpTo _ _ 1 [h.which] rfl (by omega) _ (slices_at sl3)).mono ?_
                    rintro e v9 ⟨rfl, rfl⟩
                    (try rw [wp.out]); (try rw [wq.out]); rw [e4]
                    (go_wp2_with fail)
                    have hS2 : Cls W v9 := hS
                    refine hK.out _ _ hS2 (fun hS => ?_)
                    clear hK K
                    (try simp only [pk34, Act.put, List.setIfInBounds_toArray, List.set_cons_zero, List.set_cons_succ])
                    refine tk_pure (i := 35) (oi := pk35) rfl (by kernel_rfl) (by kernel_rfl) (by kernel_rfl) (fun _ _ _ h => h) (by rfl) hS (fun w9 => by simp only [pk35]; go_simp; (try with_reducible rfl)) ?_
                    simp only [pk35, Act.put, List.setIfInBounds_toArray, List.set_cons_zero, List.set_cons_succ]
                    refine tk_pure (i := 36) (oi := pk36) rfl (by kernel_rfl) (by kernel_rfl) (by kernel_rfl) (fun _ _ _ h => h) (by rfl) hS (fun w9 => by simp only [pk36]; go_simp; (try with_reducible rfl)) ?_
                    simp only [pk36, Act.put, List.setIfInBounds_toArray, List.set_cons_zero, List.set_cons_succ]
                    refine wpAnyH_done (by kernel_rfl) ?_ _
                    go_wp2
                    go_returns
                    exact ⟨ret_b (by simp only [Hd.placesB, ez.out, *]; rfl), z.trans (hS.below.mono z.size)⟩
                  exact AllReadyH.nil
                exact AllReadyH.nil
              exact AllReadyH.nil
            exact AllReadyH.nil
          refine AllReadyH.cons (o := pk22) rfl (fun K hK => ?_) ?_
          · rw [if_pos (by rfl)]
            simp only [pk22]
            go_simp
            have sl2 : At (v4.alloc (.cells #[.int .i64 h.index] 2)) v4.heap.size #[.int .i64 h.index] 2 := At.new _ _ _
            have hb : Below v4.heap.size v4 (v4.alloc (.cells #[.int .i64 h.index] 2)) := (Below.refl _ _).alloc (Nat.le_refl _) _
            generalize v4.alloc (.cells #[.int .i64 h.index] 2) = v5 at *
            replace sl1 := sl1.keep hb
            have hS2 : Cls W v5 := ⟨hS.below.trans (hb.mono hS.below.size)⟩
            clear hb
            refine hK.out _ _ hS2 (fun hS => ?_)
            clear hK K
            (try simp only [pk22, Act.put, List.setIfInBounds_toArray, List.set_cons_zero, List.set_cons_succ])
            refine wpAnyH_ready (rs := [17]) (by kernel_rfl) (by simp) ?_
            refine AllReadyH.cons (o := pk17) rfl (fun K hK => ?_) ?_
            · rw [if_pos (by rfl)]
              simp only [pk17]
              go_simp
              go_at_call 133
              refine (iBlocks p s l c k _).mono ?_
              rintro e v6 ⟨rfl, hb⟩
              rw [eB.out]
              (go_wp2_with fail)
              replace sl1 := sl1.keep hb
              replace sl2 := sl2.keep hb
              have hS2 : Cls W v6 := ⟨hS.below.trans (hb.mono hS.below.size)⟩
              clear hb
              refine hK.out _ _ hS2 (fun hS => ?_)
              clear hK K
              (try simp only [pk17, Act.put, List.setIfInBounds_toArray, List.set_cons_zero, List.set_cons_succ])
              refine tk_pure (i := 18) (oi := pk18) rfl (by kernel_rfl) (by kernel_rfl) (by kernel_rfl) (fun _ _ _ h => h) (by rfl) hS (fun w9 => by simp only [pk18]; go_simp; (try with_reducible rfl)) ?_
              simp only [pk18, Act.put, List.setIfInBounds_toArray, List.set_cons_zero, List.set_cons_succ]
              refine wpAnyH_ready (rs := [23]) (by kernel_rfl) (by simp) ?_
              refine AllReadyH.cons (o := pk23) rfl (fun K hK => ?_) ?_
              · rw [if_pos (by rfl)]
                simp only [pk23]
                go_simp
                go_at_call 95
                refine (iUpTo _ _ 1 [h.index] rfl (by omega) _ (slices_at sl2)).mono ?_
                rintro e v7 ⟨rfl, rfl⟩
                (try rw [wb.out]); (try rw [wq.out]); rw [e3]
                (go_wp2_with fail)
                have hS2 : Cls W v7 := hS
                refine hK.out _ _ hS2 (fun hS => ?_)
                clear hK K
                (try simp only [pk23, Act.put, List.setIfInBounds_toArray, List.set_cons_zero, List.set_cons_succ])
                refine tk_pure (i := 24) (oi := pk24) rfl (by kernel_rfl) (by kernel_rfl) (by kernel_rfl) (fun _ _ _ h => h) (by rfl) hS (fun w9 => by simp only [pk24]; go_simp; (try with_reducible rfl)) ?_
                simp only [pk24, Act.put, List.setIfInBounds_toArray, List.set_cons_zero, List.set_cons_succ]
                refine tk_pure (i := 25) (oi := pk25) rfl (by kernel_rfl) (by kernel_rfl) (by kernel_rfl) (fun _ _ _ h => h) (by rfl) hS (fun w9 => by simp only [pk25]; go_simp; (try with_reducible rfl)) ?_
                simp only [pk25, Act.put, List.setIfInBounds_toArray, List.set_cons_zero, List.set_cons_succ]
                refine tk_pure (i := 26) (oi := pk26) rfl (by kernel_rfl) (by kernel_rfl) (by kernel_rfl) (fun _ _ _ h => h) (by rfl) hS (fun w9 => by simp only [pk26]; go_simp; (try with_reducible rfl)) ?_
                simp only [pk26, Act.put, List.setIfInBounds_toArray, List.set_cons_zero, List.set_cons_succ]
                refine tk_load (i := 27) (oi := pk27) rfl (by kernel_rfl) (by kernel_rfl) (by kernel_rfl) (fun _ _ _ h => h) (by rfl) _ _ _ rfl rfl (by assumption) hS ?_
                simp only [pk27, Act.put, List.setIfInBounds_toArray, List.set_cons_zero, List.set_cons_succ]
                refine tk_pure (i := 28) (oi := pk28) rfl (by kernel_rfl) (by kernel_rfl) (by kernel_rfl) (fun _ _ _ h => h) (by rfl) hS (fun w9 => by simp only [pk28]; go_simp; (try with_reducible rfl)) ?_
                simp only [pk28, Act.put, List.setIfInBounds_toArray, List.set_cons_zero, List.set_cons_succ]
                refine tk_pure (i := 29) (oi := pk29) rfl (by kernel_rfl) (by kernel_rfl) (by kernel_rfl) (fun _ _ _ h => h) (by rfl) hS (fun w9 => by simp only [pk29]; go_simp; (try with_reducible rfl)) ?_
                simp only [pk29, Act.put, List.setIfInBounds_toArray, List.set_cons_zero, List.set_cons_succ]
                refine tk_pure (i := 30) (oi := pk30) rfl (by kernel_rfl) (by kernel_rfl) (by kernel_rfl) (fun _ _ _ h => h) (by rfl) hS (fun w9 => by simp only [pk30]; go_simp; (try with_reducible rfl)) ?_
                simp only [pk30, Act.put, List.setIfInBounds_toArray, List.set_cons_zero, List.set_cons_succ]
                refine tk_pure (i := 31) (oi := pk31) rfl (by kernel_rfl) (by kernel_rfl) (by kernel_rfl) (fun _ _ _ h => h) (by rfl) hS (fun w9 => by simp only [pk31]; go_simp; (try with_reducible rfl)) ?_
                simp only [pk31, Act.put, List.setIfInBounds_toArray, List.set_cons_zero, List.set_cons_succ]
                refine tk_load (i := 32) (oi := pk32) rfl (by kernel_rfl) (by kernel_rfl) (by kernel_rfl) (fun _ _ _ h => h) (by rfl) _ _ _ rfl rfl (by assumption) hS ?_
                simp only [pk32, Act.put, List.setIfInBounds_toArray, List.set_cons_zero, List.set_cons_succ]
                refine wpAnyH_ready (rs := [33]) (by kernel_rfl) (by simp) ?_
                refine AllReadyH.cons (o := pk33) rfl (fun K hK => ?_) ?_
                · rw [if_pos (by rfl)]
                  simp only [pk33]
                  go_simp
                  have sl3 : At (v7.alloc (.cells #[.int .i64 h.which] 2)) v7.heap.size #[.int .i64 h.which] 2 := At.new _ _ _
                  have hb : Below v7.heap.size v7 (v7.alloc (.cells #[.int .i64 h.which] 2)) := (Below.refl _ _).alloc (Nat.le_refl _) _
                  generalize v7.alloc (.cells #[.int .i64 h.which] 2) = v8 at *
                  replace sl1 := sl1.keep hb
                  replace sl2 := sl2.keep hb
                  have hS2 : Cls W v8 := ⟨hS.below.trans (hb.mono hS.below.size)⟩
                  clear hb
                  refine hK.out _ _ hS2 (fun hS => ?_)
                  clear hK K
                  (try simp only [pk33, Act.put, List.setIfInBounds_toArray, List.set_cons_zero, List.set_cons_succ])
                  refine wpAnyH_ready (rs := [34]) (by kernel_rfl) (by simp) ?_
                  refine AllReadyH.cons (o := pk34) rfl (fun K hK => ?_) ?_
                  · rw [if_pos (by rfl)]
                    simp only [pk34]
                    go_simp
                    go_at_call 95
                    refine (iUpTo _ _ 1 [h.which] rfl (by omega) _ (slices_at sl3)).mono ?_
                    rintro e v9 ⟨rfl, rfl⟩
                    (try rw [wp.out]); (try rw [wq.out]); rw [e4]
                    (go_wp2_with fail)
                    have hS2 : Cls W v9 := hS
                    refine hK.out _ _ hS2 (fun hS => ?_)
                    clear hK K
                    (try simp only [pk34, Act.put, List.setIfInBounds_toArray, List.set_cons_zero, List.set_cons_succ])
                    refine tk_pure (i := 35) (oi := pk35) rfl (by kernel_rfl) (by kernel_rfl) (by kernel_rfl) (fun _ _ _ h => h) (by rfl) hS (fun w9 => by simp only [pk35]; go_simp; (try with_reducible rfl)) ?_
                    simp only [pk35, Act.put, List.setIfInBounds_toArray, List.set_cons_zero, List.set_cons_succ]
                    refine tk_pure (i := 36) (oi := pk36) rfl (by kernel_rfl) (by kernel_rfl) (by kernel_rfl) (fun _ _ _ h => h) (by rfl) hS (fun w9 => by simp only [pk36]; go_simp; (try with_reducible rfl)) ?_
                    simp only [pk36, Act.put, List.setIfInBounds_toArray, List.set_cons_zero, List.set_cons_succ]
                    refine wpAnyH_done (by kernel_rfl) ?_ _
                    go_wp2
                    go_returns
                    exact ⟨ret_b (by simp only [Hd.placesB, ez.out, *]; rfl), z.trans (hS.below.mono z.size)⟩
                  exact AllReadyH.nil
                exact AllReadyH.nil
              exact AllReadyH.nil
            exact AllReadyH.nil
          exact AllReadyH.nil
        exact AllReadyH.nil
      exact AllReadyH.nil
    exact AllReadyH.nil
  exact AllReadyH.nil
set_option maxHeartbeats 32000000 in
theorem iPlacesE (p s l c k z0 : Int) (h : Hd) (ho : ok p s l c k = true) (ez : Hid (zF p s l c = z0)) (zb : 0 ≤ z0 ∧ z0 ≤ 100000) (e1 : inB h.for_ 0 (p - 1) = true) (e2 : allUp (z0 - 1) [h.addr] = true) (e3 : allUp (s + l + 1) [h.index] = true) (e4 : allUp (2 * p - 1) [h.which] = false) (w : World) : Calls Tryz.prog 102 #[.agg h.ps.toArray, .agg #[.int .i64 p, .int .i64 s, .int .i64 l, .int .i64 c, .int .i64 k]] w fun e w' => e = .returned (.bool (h.placesB p s l c)) ∧ Below w.heap.size w w' := by
  have h' := ok_iff.1 ho
  have eS : Hid (vSize p s l c k = z0) := by rw [← ez.out]; unfold vSize; rw [ho]; rfl
  have eB : Hid (vBlocks p s l c k = s + l) := by unfold vBlocks; rw [ho]; rfl
  have wz : Hid (IntKind.i64.wrap (z0 - 1) = z0 - 1) := by show _ = _; rw [IntKind.wrap_i64]; omega
  have wb : Hid (IntKind.i64.wrap (s + l + 1) = s + l + 1) := by show _ = _; rw [IntKind.wrap_i64]; omega
  have wp : Hid (IntKind.i64.wrap (IntKind.i64.wrap (2 * p) - 1) = 2 * p - 1) := by show _ = _; rw [IntKind.wrap_i64, IntKind.wrap_i64]; omega
  have wq : Hid (IntKind.i64.wrap (2 * p - 1) = 2 * p - 1) := by show _ = _; rw [IntKind.wrap_i64]; omega
  go_enter Tryz.func102, Tryz.ntmps102
  go_upto_region 1 with fail
  refine wp_at (fun W => At W w.heap.size h.ps.toArray 107 ∧ At W (w.heap.size + 1) #[.int .i64 p, .int .i64 s, .int .i64 l, .int .i64 c, .int .i64 k] 35 ∧ Below w.heap.size w W) (two_box w _ _ _ _) ?_
  rintro W ⟨A, P, z⟩
  have l11 : ∀ w', Cls W w' → (loadVar 2 ⟨w.heap.size, 11, none⟩).run Tryz.prog w' = .ok (.int .i64 h.for_) w' := ld_i A Tryz.underlying2 rfl
  have l17 : ∀ w', Cls W w' → (loadVar 2 ⟨w.heap.size, 17, none⟩).run Tryz.prog w' = .ok (.int .i64 h.addr) w' := ld_i A Tryz.underlying2 rfl
  have l29 : ∀ w', Cls W w' → (loadVar 2 ⟨w.heap.size, 29, none⟩).run Tryz.prog w' = .ok (.int .i64 h.index) w' := ld_i A Tryz.underlying2 rfl
  have l30 : ∀ w', Cls W w' → (loadVar 2 ⟨w.heap.size, 30, none⟩).run Tryz.prog w' = .ok (.int .i64 h.which) w' := ld_i A Tryz.underlying2 rfl
  have l0 : ∀ w', Cls W w' → (loadVar 2 ⟨w.heap.size + 1, 0, none⟩).run Tryz.prog w' = .ok (.int .i64 p) w' := ld_i P Tryz.underlying2 rfl
  have lp : ∀ w', Cls W w' → (loadVar 35 ⟨w.heap.size + 1, 0, none⟩).run Tryz.prog w' = .ok (.agg #[.int .i64 p, .int .i64 s, .int .i64 l, .int .i64 c, .int .i64 k]) w' := ld_agg (vs := [.int .i64 p, .int .i64 s, .int .i64 l, .int .i64 c, .int .i64 k]) P Tryz.underlying35 rfl (by kernel_rfl)
  refine wp_region_held_drew (S := Cls W) (by kernel_rfl) ⟨⟨rfl, rfl, rfl, Nat.le_refl _, fun _ _ => rfl⟩⟩ (fun hS => ?_)
  generalize W.drew = v0 at *
  refine tk_load (i := 0) (oi := pk0) rfl (by kernel_rfl) (by kernel_rfl) (by kernel_rfl) (fun _ _ _ h => h) (by rfl) _ _ _ rfl rfl (by assumption) hS ?_
  simp only [pk0, Act.put, List.setIfInBounds_toArray, List.set_cons_zero, List.set_cons_succ]
  refine tk_pure (i := 1) (oi := pk1) rfl (by kernel_rfl) (by kernel_rfl) (by kernel_rfl) (fun _ _ _ h => h) (by rfl) hS (fun w9 => by simp only [pk1]; go_simp; (try with_reducible rfl)) ?_
  simp only [pk1, Act.put, List.setIfInBounds_toArray, List.set_cons_zero, List.set_cons_succ]
  refine tk_pure (i := 2) (oi := pk2) rfl (by kernel_rfl) (by kernel_rfl) (by kernel_rfl) (fun _ _ _ h => h) (by rfl) hS (fun w9 => by simp only [pk2]; go_simp; (try with_reducible rfl)) ?_
  simp only [pk2, Act.put, List.setIfInBounds_toArray, List.set_cons_zero, List.set_cons_succ]
  refine tk_load (i := 3) (oi := pk3) rfl (by kernel_rfl) (by kernel_rfl) (by kernel_rfl) (fun _ _ _ h => h) (by rfl) _ _ _ rfl rfl (by assumption) hS ?_
  simp only [pk3, Act.put, List.setIfInBounds_toArray, List.set_cons_zero, List.set_cons_succ]
  refine wpAnyH_ready (rs := [4]) (by kernel_rfl) (by simp) ?_
  refine AllReadyH.cons (o := pk4) rfl (fun K hK => ?_) ?_
  · rw [if_pos (by rfl)]
    simp only [pk4]
    go_simp
    go_at_call 47
    refine (iHas p s l c k h.for_ ho _).mono ?_
    rintro e v1 ⟨rfl, hb⟩
    rw [e1]
    (go_wp2_with fail)
    have hS2 : Cls W v1 := ⟨hS.below.trans (hb.mono hS.below.size)⟩
    clear hb
    refine hK.out _ _ hS2 (fun hS => ?_)
    clear hK K
    (try simp only [pk4, Act.put, List.setIfInBounds_toArray, List.set_cons_zero, List.set_cons_succ])
    refine tk_pure (i := 5) (oi := pk5) rfl (by kernel_rfl) (by kernel_rfl) (by kernel_rfl) (fun _ _ _ h => h) (by rfl) hS (fun w9 => by simp only [pk5]; go_simp; (try with_reducible rfl)) ?_
    simp only [pk5, Act.put, List.setIfInBounds_toArray, List.set_cons_zero, List.set_cons_succ]
    refine tk_load (i := 6) (oi := pk6) rfl (by kernel_rfl) (by kernel_rfl) (by kernel_rfl) (fun _ _ _ h => h) (by rfl) _ _ _ rfl rfl (by assumption) hS ?_
    simp only [pk6, Act.put, List.setIfInBounds_toArray, List.set_cons_zero, List.set_cons_succ]
    refine tk_pure (i := 9) (oi := pk9) rfl (by kernel_rfl) (by kernel_rfl) (by kernel_rfl) (fun _ _ _ h => h) (by rfl) hS (fun w9 => by simp only [pk9]; go_simp; (try with_reducible rfl)) ?_
    simp only [pk9, Act.put, List.setIfInBounds_toArray, List.set_cons_zero, List.set_cons_succ]
    refine tk_pure (i := 10) (oi := pk10) rfl (by kernel_rfl) (by kernel_rfl) (by kernel_rfl) (fun _ _ _ h => h) (by rfl) hS (fun w9 => by simp only [pk10]; go_simp; (try with_reducible rfl)) ?_
    simp only [pk10, Act.put, List.setIfInBounds_toArray, List.set_cons_zero, List.set_cons_succ]
    refine tk_load (i := 11) (oi := pk11) rfl (by kernel_rfl) (by kernel_rfl) (by kernel_rfl) (fun _ _ _ h => h) (by rfl) _ _ _ rfl rfl (by assumption) hS ?_
    simp only [pk11, Act.put, List.setIfInBounds_toArray, List.set_cons_zero, List.set_cons_succ]
    refine wpAnyH_ready (rs := [7, 12]) (by kernel_rfl) (by simp) ?_
    refine AllReadyH.cons (o := pk7) rfl (fun K hK => ?_) ?_
    · rw [if_pos (by rfl)]
      simp only [pk7]
      go_simp
      go_at_call 92
      refine (iSize p s l c k _).mono ?_
      rintro e v2 ⟨rfl, hb⟩
      rw [eS.out]
      (go_wp2_with fail)
      have hS2 : Cls W v2 := ⟨hS.below.trans (hb.mono hS.below.size)⟩
      clear hb
      refine hK.out _ _ hS2 (fun hS => ?_)
      clear hK K
      (try simp only [pk7, Act.put, List.setIfInBounds_toArray, List.set_cons_zero, List.set_cons_succ])
      refine tk_pure (i := 8) (oi := pk8) rfl (by kernel_rfl) (by kernel_rfl) (by kernel_rfl) (fun _ _ _ h => h) (by rfl) hS (fun w9 => by simp only [pk8]; go_simp; (try with_reducible rfl)) ?_
      simp only [pk8, Act.put, List.setIfInBounds_toArray, List.set_cons_zero, List.set_cons_succ]
      refine wpAnyH_ready (rs := [12]) (by kernel_rfl) (by simp) ?_
      refine AllReadyH.cons (o := pk12) rfl (fun K hK => ?_) ?_
      · rw [if_pos (by rfl)]
        simp only [pk12]
        go_simp
        have sl1 : At (v2.alloc (.cells #[.int .i64 h.addr] 2)) v2.heap.size #[.int .i64 h.addr] 2 := At.new _ _ _
        have hb : Below v2.heap.size v2 (v2.alloc (.cells #[.int .i64 h.addr] 2)) := (Below.refl _ _).alloc (Nat.le_refl _) _
        generalize v2.alloc (.cells #[.int .i64 h.addr] 2) = v3 at *
        have hS2 : Cls W v3 := ⟨hS.below.trans (hb.mono hS.below.size)⟩
        clear hb
        refine hK.out _ _ hS2 (fun hS => ?_)
        clear hK K
        (try simp only [pk12, Act.put, List.setIfInBounds_toArray, List.set_cons_zero, List.set_cons_succ])
        refine wpAnyH_ready (rs := [13]) (by kernel_rfl) (by simp) ?_
        refine AllReadyH.cons (o := pk13) rfl (fun K hK => ?_) ?_
        · rw [if_pos (by rfl)]
          simp only [pk13]
          go_simp
          go_at_call 95
          refine (iUpTo _ _ 1 [h.addr] rfl (by omega) _ (slices_at sl1)).mono ?_
          rintro e v4 ⟨rfl, rfl⟩
          (try rw [wz.out]); (try rw [wq.out]); rw [e2]
          (go_wp2_with fail)
          have hS2 : Cls W v4 := hS
          refine hK.out _ _ hS2 (fun hS => ?_)
          clear hK K
          (try simp only [pk13, Act.put, List.setIfInBounds_toArray, List.set_cons_zero, List.set_cons_succ])
          refine tk_pure (i := 14) (oi := pk14) rfl (by kernel_rfl) (by kernel_rfl) (by kernel_rfl) (fun _ _ _ h => h) (by rfl) hS (fun w9 => by simp only [pk14]; go_simp; (try with_reducible rfl)) ?_
          simp only [pk14, Act.put, List.setIfInBounds_toArray, List.set_cons_zero, List.set_cons_succ]
          refine tk_pure (i := 15) (oi := pk15) rfl (by kernel_rfl) (by kernel_rfl) (by kernel_rfl) (fun _ _ _ h => h) (by rfl) hS (fun w9 => by simp only [pk15]; go_simp; (try with_reducible rfl)) ?_
          simp only [pk15, Act.put, List.setIfInBounds_toArray, List.set_cons_zero, List.set_cons_succ]
          refine tk_load (i := 16) (oi := pk16) rfl (by kernel_rfl) (by kernel_rfl) (by kernel_rfl) (fun _ _ _ h => h) (by rfl) _ _ _ rfl rfl (by assumption) hS ?_
          simp only [pk16, Act.put, List.setIfInBounds_toArray, List.set_cons_zero, List.set_cons_succ]
          refine tk_pure (i := 19) (oi := pk19) rfl (by kernel_rfl) (by kernel_rfl) (by kernel_rfl) (fun _ _ _ h => h) (by rfl) hS (fun w9 => by simp only [pk19]; go_simp; (try with_reducible rfl)) ?_
          simp only [pk19, Act.put, List.setIfInBounds_toArray, List.set_cons_zero, List.set_cons_succ]
          refine tk_pure (i := 20) (oi := pk20) rfl (by kernel_rfl) (by kernel_rfl) (by kernel_rfl) (fun _ _ _ h => h) (by rfl) hS (fun w9 => by simp only [pk20]; go_simp; (try with_reducible rfl)) ?_
          simp only [pk20, Act.put, List.setIfInBounds_toArray, List.set_cons_zero, List.set_cons_succ]
          refine tk_load (i := 21) (oi := pk21) rfl (by kernel_rfl) (by kernel_rfl) (by kernel_rfl) (fun _ _ _ h => h) (by rfl) _ _ _ rfl rfl (by assumption) hS ?_
          simp only [pk21, Act.put, List.setIfInBounds_toArray, List.set_cons_zero, List.set_cons_succ]
          refine wpAnyH_ready (rs := [17, 22]) (by kernel_rfl) (by simp) ?_
          refine AllReadyH.cons (o := pk17) rfl (fun K hK => ?_) ?_
          · rw [if_pos (by rfl)]
            simp only [pk17]
            go_simp
            go_at_call 133
            refine (iBlocks p s l c k _).mono ?_
            rintro e v5 ⟨rfl, hb⟩
            rw [eB.out]
            (go_wp2_with fail)
            replace sl1 := sl1.keep hb
            have hS2 : Cls W v5 := ⟨hS.below.trans (hb.mono hS.below.size)⟩
            clear hb
            refine hK.out _ _ hS2 (fun hS => ?_)
            clear hK K
            (try simp only [pk17, Act.put, List.setIfInBounds_toArray, List.set_cons_zero, List.set_cons_succ])
            refine tk_pure (i := 18) (oi := pk18) rfl (by kernel_rfl) (by kernel_rfl) (by kernel_rfl) (fun _ _ _ h => h) (by rfl) hS (fun w9 => by simp only [pk18]; go_simp; (try with_reducible rfl)) ?_
            simp only [pk18, Act.put, List.setIfInBounds_toArray, List.set_cons_zero, List.set_cons_succ]
            refine wpAnyH_ready (rs := [22]) (by kernel_rfl) (by simp) ?_
            refine AllReadyH.cons (o := pk22) rfl (fun K hK => ?_) ?_
            · rw [if_pos (by rfl)]
              simp only [pk22]
              go_simp
              have sl2 : At (v5.alloc (.cells #[.int .i64 h.index] 2)) v5.heap.size #[.int .i64 h.index] 2 := At.new _ _ _
              have hb : Below v5.heap.size v5 (v5.alloc (.cells #[.int .i64 h.index] 2)) := (Below.refl _ _).alloc (Nat.le_refl _) _
              generalize v5.alloc (.cells #[.int .i64 h.index] 2) = v6 at *
              replace sl1 := sl1.keep hb
              have hS2 : Cls W v6 := ⟨hS.below.trans (hb.mono hS.below.size)⟩
              clear hb
              refine hK.out _ _ hS2 (fun hS => ?_)
              clear hK K
              (try simp only [pk22, Act.put, List.setIfInBounds_toArray, List.set_cons_zero, List.set_cons_succ])
              refine wpAnyH_ready (rs := [23]) (by kernel_rfl) (by simp) ?_
              refine AllReadyH.cons (o := pk23) rfl (fun K hK => ?_) ?_
              · rw [if_pos (by rfl)]
                simp only [pk23]
                go_simp
                go_at_call 95
                refine (iUpTo _ _ 1 [h.index] rfl (by omega) _ (slices_at sl2)).mono ?_
                rintro e v7 ⟨rfl, rfl⟩
                (try rw [wb.out]); (try rw [wq.out]); rw [e3]
                (go_wp2_with fail)
                have hS2 : Cls W v7 := hS
                refine hK.out _ _ hS2 (fun hS => ?_)
                clear hK K
                (try simp only [pk23, Act.put, List.setIfInBounds_toArray, List.set_cons_zero, List.set_cons_succ])
                refine tk_pure (i := 24) (oi := pk24) rfl (by kernel_rfl) (by kernel_rfl) (by kernel_rfl) (fun _ _ _ h => h) (by rfl) hS (fun w9 => by simp only [pk24]; go_simp; (try with_reducible rfl)) ?_
                simp only [pk24, Act.put, List.setIfInBounds_toArray, List.set_cons_zero, List.set_cons_succ]
                refine tk_pure (i := 25) (oi := pk25) rfl (by kernel_rfl) (by kernel_rfl) (by kernel_rfl) (fun _ _ _ h => h) (by rfl) hS (fun w9 => by simp only [pk25]; go_simp; (try with_reducible rfl)) ?_
                simp only [pk25, Act.put, List.setIfInBounds_toArray, List.set_cons_zero, List.set_cons_succ]
                refine tk_pure (i := 26) (oi := pk26) rfl (by kernel_rfl) (by kernel_rfl) (by kernel_rfl) (fun _ _ _ h => h) (by rfl) hS (fun w9 => by simp only [pk26]; go_simp; (try with_reducible rfl)) ?_
                simp only [pk26, Act.put, List.setIfInBounds_toArray, List.set_cons_zero, List.set_cons_succ]
                refine tk_load (i := 27) (oi := pk27) rfl (by kernel_rfl) (by kernel_rfl) (by kernel_rfl) (fun _ _ _ h => h) (by rfl) _ _ _ rfl rfl (by assumption) hS ?_
                simp only [pk27, Act.put, List.setIfInBounds_toArray, List.set_cons_zero, List.set_cons_succ]
                refine tk_pure (i := 28) (oi := pk28) rfl (by kernel_rfl) (by kernel_rfl) (by kernel_rfl) (fun _ _ _ h => h) (by rfl) hS (fun w9 => by simp only [pk28]; go_simp; (try with_reducible rfl)) ?_
                simp only [pk28, Act.put, List.setIfInBounds_toArray, List.set_cons_zero, List.set_cons_succ]
                refine tk_pure (i := 29) (oi := pk29) rfl (by kernel_rfl) (by kernel_rfl) (by kernel_rfl) (fun _ _ _ h => h) (by rfl) hS (fun w9 => by simp only [pk29]; go_simp; (try with_reducible rfl)) ?_
                simp only [pk29, Act.put, List.setIfInBounds_toArray, List.set_cons_zero, List.set_cons_succ]
                refine tk_pure (i := 30) (oi := pk30) rfl (by kernel_rfl) (by kernel_rfl) (by kernel_rfl) (fun _ _ _ h => h) (by rfl) hS (fun w9 => by simp only [pk30]; go_simp; (try with_reducible rfl)) ?_
                simp only [pk30, Act.put, List.setIfInBounds_toArray, List.set_cons_zero, List.set_cons_succ]
                refine tk_pure (i := 31) (oi := pk31) rfl (by kernel_rfl) (by kernel_rfl) (by kernel_rfl) (fun _ _ _ h => h) (by rfl) hS (fun w9 => by simp only [pk31]; go_simp; (try with_reducible rfl)) ?_
                simp only [pk31, Act.put, List.setIfInBounds_toArray, List.set_cons_zero, List.set_cons_succ]
                refine tk_load (i := 32) (oi := pk32) rfl (by kernel_rfl) (by kernel_rfl) (by kernel_rfl) (fun _ _ _ h => h) (by rfl) _ _ _ rfl rfl (by assumption) hS ?_
                simp only [pk32, Act.put, List.setIfInBounds_toArray, List.set_cons_zero, List.set_cons_succ]
                refine wpAnyH_ready (rs := [33]) (by kernel_rfl) (by simp) ?_
                refine AllReadyH.cons (o := pk33) rfl (fun K hK => ?_) ?_
                · rw [if_pos (by rfl)]
                  simp only [pk33]
                  go_simp
                  have sl3 : At (v7.alloc (.cells #[.int .i64 h.which] 2)) v7.heap.size #[.int .i64 h.which] 2 := At.new _ _ _
                  have hb : Below v7.heap.size v7 (v7.alloc (.cells #[.int .i64 h.which] 2)) := (Below.refl _ _).alloc (Nat.le_refl _) _
                  generalize v7.alloc (.cells #[.int .i64 h.which] 2) = v8 at *
                  replace sl1 := sl1.keep hb
                  replace sl2 := sl2.keep hb
                  have hS2 : Cls W v8 := ⟨hS.below.trans (hb.mono hS.below.size)⟩
                  clear hb
                  refine hK.out _ _ hS2 (fun hS => ?_)
                  clear hK K
                  (try simp only [pk33, Act.put, List.setIfInBounds_toArray, List.set_cons_zero, List.set_cons_succ])
                  refine wpAnyH_ready (rs := [34]) (by kernel_rfl) (by simp) ?_
                  refine AllReadyH.cons (o := pk34) rfl (fun K hK => ?_) ?_
                  · rw [if_pos (by rfl)]
                    simp only [pk34]
                    go_simp
                    go_at_call 95
                    refine (iUpTo _ _ 1 [h.which] rfl (by omega) _ (slices_at sl3)).mono ?_
                    rintro e v9 ⟨rfl, rfl⟩
                    (try rw [wp.out]); (try rw [wq.out]); rw [e4]
                    (go_wp2_with fail)
                    have hS2 : Cls W v9 := hS
                    refine hK.out _ _ hS2 (fun hS => ?_)
                    clear hK K
                    (try simp only [pk34, Act.put, List.setIfInBounds_toArray, List.set_cons_zero, List.set_cons_succ])
                    refine tk_pure (i := 35) (oi := pk35) rfl (by kernel_rfl) (by kernel_rfl) (by kernel_rfl) (fun _ _ _ h => h) (by rfl) hS (fun w9 => by simp only [pk35]; go_simp; (try with_reducible rfl)) ?_
                    simp only [pk35, Act.put, List.setIfInBounds_toArray, List.set_cons_zero, List.set_cons_succ]
                    refine tk_pure (i := 36) (oi := pk36) rfl (by kernel_rfl) (by kernel_rfl) (by kernel_rfl) (fun _ _ _ h => h) (by rfl) hS (fun w9 => by simp only [pk36]; go_simp; (try with_reducible rfl)) ?_
                    simp only [pk36, Act.put, List.setIfInBounds_toArray, List.set_cons_zero, List.set_cons_succ]
                    refine wpAnyH_done (by kernel_rfl) ?_ _
                    go_wp2
                    go_returns
                    exact ⟨ret_b (by simp only [Hd.placesB, ez.out, *]; rfl), z.trans (hS.below.mono z.size)⟩
                  exact AllReadyH.nil
                exact AllReadyH.nil
              exact AllReadyH.nil
            exact AllReadyH.nil
          refine AllReadyH.cons (o := pk22) rfl (fun K hK => ?_) ?_
          · rw [if_pos (by rfl)]
            simp only [pk22]
            go_simp
            have sl2 : At (v4.alloc (.cells #[.int .i64 h.index] 2)) v4.heap.size #[.int .i64 h.index] 2 := At.new _ _ _
            have hb : Below v4.heap.size v4 (v4.alloc (.cells #[.int .i64 h.index] 2)) := (Below.refl _ _).alloc (Nat.le_refl _) _
            generalize v4.alloc (.cells #[.int .i64 h.index] 2) = v5 at *
            replace sl1 := sl1.keep hb
            have hS2 : Cls W v5 := ⟨hS.below.trans (hb.mono hS.below.size)⟩
            clear hb
            refine hK.out _ _ hS2 (fun hS => ?_)
            clear hK K
            (try simp only [pk22, Act.put, List.setIfInBounds_toArray, List.set_cons_zero, List.set_cons_succ])
            refine wpAnyH_ready (rs := [17]) (by kernel_rfl) (by simp) ?_
            refine AllReadyH.cons (o := pk17) rfl (fun K hK => ?_) ?_
            · rw [if_pos (by rfl)]
              simp only [pk17]
              go_simp
              go_at_call 133
              refine (iBlocks p s l c k _).mono ?_
              rintro e v6 ⟨rfl, hb⟩
              rw [eB.out]
              (go_wp2_with fail)
              replace sl1 := sl1.keep hb
              replace sl2 := sl2.keep hb
              have hS2 : Cls W v6 := ⟨hS.below.trans (hb.mono hS.below.size)⟩
              clear hb
              refine hK.out _ _ hS2 (fun hS => ?_)
              clear hK K
              (try simp only [pk17, Act.put, List.setIfInBounds_toArray, List.set_cons_zero, List.set_cons_succ])
              refine tk_pure (i := 18) (oi := pk18) rfl (by kernel_rfl) (by kernel_rfl) (by kernel_rfl) (fun _ _ _ h => h) (by rfl) hS (fun w9 => by simp only [pk18]; go_simp; (try with_reducible rfl)) ?_
              simp only [pk18, Act.put, List.setIfInBounds_toArray, List.set_cons_zero, List.set_cons_succ]
              refine wpAnyH_ready (rs := [23]) (by kernel_rfl) (by simp) ?_
              refine AllReadyH.cons (o := pk23) rfl (fun K hK => ?_) ?_
              · rw [if_pos (by rfl)]
                simp only [pk23]
                go_simp
                go_at_call 95
                refine (iUpTo _ _ 1 [h.index] rfl (by omega) _ (slices_at sl2)).mono ?_
                rintro e v7 ⟨rfl, rfl⟩
                (try rw [wb.out]); (try rw [wq.out]); rw [e3]
                (go_wp2_with fail)
                have hS2 : Cls W v7 := hS
                refine hK.out _ _ hS2 (fun hS => ?_)
                clear hK K
                (try simp only [pk23, Act.put, List.setIfInBounds_toArray, List.set_cons_zero, List.set_cons_succ])
                refine tk_pure (i := 24) (oi := pk24) rfl (by kernel_rfl) (by kernel_rfl) (by kernel_rfl) (fun _ _ _ h => h) (by rfl) hS (fun w9 => by simp only [pk24]; go_simp; (try with_reducible rfl)) ?_
                simp only [pk24, Act.put, List.setIfInBounds_toArray, List.set_cons_zero, List.set_cons_succ]
                refine tk_pure (i := 25) (oi := pk25) rfl (by kernel_rfl) (by kernel_rfl) (by kernel_rfl) (fun _ _ _ h => h) (by rfl) hS (fun w9 => by simp only [pk25]; go_simp; (try with_reducible rfl)) ?_
                simp only [pk25, Act.put, List.setIfInBounds_toArray, List.set_cons_zero, List.set_cons_succ]
                refine tk_pure (i := 26) (oi := pk26) rfl (by kernel_rfl) (by kernel_rfl) (by kernel_rfl) (fun _ _ _ h => h) (by rfl) hS (fun w9 => by simp only [pk26]; go_simp; (try with_reducible rfl)) ?_
                simp only [pk26, Act.put, List.setIfInBounds_toArray, List.set_cons_zero, List.set_cons_succ]
                refine tk_load (i := 27) (oi := pk27) rfl (by kernel_rfl) (by kernel_rfl) (by kernel_rfl) (fun _ _ _ h => h) (by rfl) _ _ _ rfl rfl (by assumption) hS ?_
                simp only [pk27, Act.put, List.setIfInBounds_toArray, List.set_cons_zero, List.set_cons_succ]
                refine tk_pure (i := 28) (oi := pk28) rfl (by kernel_rfl) (by kernel_rfl) (by kernel_rfl) (fun _ _ _ h => h) (by rfl) hS (fun w9 => by simp only [pk28]; go_simp; (try with_reducible rfl)) ?_
                simp only [pk28, Act.put, List.setIfInBounds_toArray, List.set_cons_zero, List.set_cons_succ]
                refine tk_pure (i := 29) (oi := pk29) rfl (by kernel_rfl) (by kernel_rfl) (by kernel_rfl) (fun _ _ _ h => h) (by rfl) hS (fun w9 => by simp only [pk29]; go_simp; (try with_reducible rfl)) ?_
                simp only [pk29, Act.put, List.setIfInBounds_toArray, List.set_cons_zero, List.set_cons_succ]
                refine tk_pure (i := 30) (oi := pk30) rfl (by kernel_rfl) (by kernel_rfl) (by kernel_rfl) (fun _ _ _ h => h) (by rfl) hS (fun w9 => by simp only [pk30]; go_simp; (try with_reducible rfl)) ?_
                simp only [pk30, Act.put, List.setIfInBounds_toArray, List.set_cons_zero, List.set_cons_succ]
                refine tk_pure (i := 31) (oi := pk31) rfl (by kernel_rfl) (by kernel_rfl) (by kernel_rfl) (fun _ _ _ h => h) (by rfl) hS (fun w9 => by simp only [pk31]; go_simp; (try with_reducible rfl)) ?_
                simp only [pk31, Act.put, List.setIfInBounds_toArray, List.set_cons_zero, List.set_cons_succ]
                refine tk_load (i := 32) (oi := pk32) rfl (by kernel_rfl) (by kernel_rfl) (by kernel_rfl) (fun _ _ _ h => h) (by rfl) _ _ _ rfl rfl (by assumption) hS ?_
                simp only [pk32, Act.put, List.setIfInBounds_toArray, List.set_cons_zero, List.set_cons_succ]
                refine wpAnyH_ready (rs := [33]) (by kernel_rfl) (by simp) ?_
                refine AllReadyH.cons (o := pk33) rfl (fun K hK => ?_) ?_
                · rw [if_pos (by rfl)]
                  simp only [pk33]
                  go_simp
                  have sl3 : At (v7.alloc (.cells #[.int .i64 h.which] 2)) v7.heap.size #[.int .i64 h.which] 2 := At.new _ _ _
                  have hb : Below v7.heap.size v7 (v7.alloc (.cells #[.int .i64 h.which] 2)) := (Below.refl _ _).alloc (Nat.le_refl _) _
                  generalize v7.alloc (.cells #[.int .i64 h.which] 2) = v8 at *
                  replace sl1 := sl1.keep hb
                  replace sl2 := sl2.keep hb
                  have hS2 : Cls W v8 := ⟨hS.below.trans (hb.mono hS.below.size)⟩
                  clear hb
                  refine hK.out _ _ hS2 (fun hS => ?_)
                  clear hK K
                  (try simp only [pk33, Act.put, List.setIfInBounds_toArray, List.set_cons_zero, List.set_cons_succ])
                  refine wpAnyH_ready (rs := [34]) (by kernel_rfl) (by simp) ?_
                  refine AllReadyH.cons (o := pk34) rfl (fun K hK => ?_) ?_
                  · rw [if_pos (by rfl)]
                    simp only [pk34]
                    go_simp
                    go_at_call 95
                    refine (iUpTo _ _ 1 [h.which] rfl (by omega) _ (slices_at sl3)).mono ?_
                    rintro e v9 ⟨rfl, rfl⟩
                    (try rw [wp.out]); (try rw [wq.out]); rw [e4]
                    (go_wp2_with fail)
                    have hS2 : Cls W v9 := hS
                    refine hK.out _ _ hS2 (fun hS => ?_)
                    clear hK K
                    (try simp only [pk34, Act.put, List.setIfInBounds_toArray, List.set_cons_zero, List.set_cons_succ])
                    refine tk_pure (i := 35) (oi := pk35) rfl (by kernel_rfl) (by kernel_rfl) (by kernel_rfl) (fun _ _ _ h => h) (by rfl) hS (fun w9 => by simp only [pk35]; go_simp; (try with_reducible rfl)) ?_
                    simp only [pk35, Act.put, List.setIfInBounds_toArray, List.set_cons_zero, List.set_cons_succ]
                    refine tk_pure (i := 36) (oi := pk36) rfl (by kernel_rfl) (by kernel_rfl) (by kernel_rfl) (fun _ _ _ h => h) (by rfl) hS (fun w9 => by simp only [pk36]; go_simp; (try with_reducible rfl)) ?_
                    simp only [pk36, Act.put, List.setIfInBounds_toArray, List.set_cons_zero, List.set_cons_succ]
                    refine wpAnyH_done (by kernel_rfl) ?_ _
                    go_wp2
                    go_returns
                    exact ⟨ret_b (by simp only [Hd.placesB, ez.out, *]; rfl), z.trans (hS.below.mono z.size)⟩
                  exact AllReadyH.nil
                exact AllReadyH.nil
              exact AllReadyH.nil
            exact AllReadyH.nil
          exact AllReadyH.nil
        exact AllReadyH.nil
      exact AllReadyH.nil
    refine AllReadyH.cons (o := pk12) rfl (fun K hK => ?_) ?_
    · rw [if_pos (by rfl)]
      simp only [pk12]
      go_simp
      have sl1 : At (v1.alloc (.cells #[.int .i64 h.addr] 2)) v1.heap.size #[.int .i64 h.addr] 2 := At.new _ _ _
      have hb : Below v1.heap.size v1 (v1.alloc (.cells #[.int .i64 h.addr] 2)) := (Below.refl _ _).alloc (Nat.le_refl _) _
      generalize v1.alloc (.cells #[.int .i64 h.addr] 2) = v2 at *
      have hS2 : Cls W v2 := ⟨hS.below.trans (hb.mono hS.below.size)⟩
      clear hb
      refine hK.out _ _ hS2 (fun hS => ?_)
      clear hK K
      (try simp only [pk12, Act.put, List.setIfInBounds_toArray, List.set_cons_zero, List.set_cons_succ])
      refine wpAnyH_ready (rs := [7]) (by kernel_rfl) (by simp) ?_
      refine AllReadyH.cons (o := pk7) rfl (fun K hK => ?_) ?_
      · rw [if_pos (by rfl)]
        simp only [pk7]
        go_simp
        go_at_call 92
        refine (iSize p s l c k _).mono ?_
        rintro e v3 ⟨rfl, hb⟩
        rw [eS.out]
        (go_wp2_with fail)
        replace sl1 := sl1.keep hb
        have hS2 : Cls W v3 := ⟨hS.below.trans (hb.mono hS.below.size)⟩
        clear hb
        refine hK.out _ _ hS2 (fun hS => ?_)
        clear hK K
        (try simp only [pk7, Act.put, List.setIfInBounds_toArray, List.set_cons_zero, List.set_cons_succ])
        refine tk_pure (i := 8) (oi := pk8) rfl (by kernel_rfl) (by kernel_rfl) (by kernel_rfl) (fun _ _ _ h => h) (by rfl) hS (fun w9 => by simp only [pk8]; go_simp; (try with_reducible rfl)) ?_
        simp only [pk8, Act.put, List.setIfInBounds_toArray, List.set_cons_zero, List.set_cons_succ]
        refine wpAnyH_ready (rs := [13]) (by kernel_rfl) (by simp) ?_
        refine AllReadyH.cons (o := pk13) rfl (fun K hK => ?_) ?_
        · rw [if_pos (by rfl)]
          simp only [pk13]
          go_simp
          go_at_call 95
          refine (iUpTo _ _ 1 [h.addr] rfl (by omega) _ (slices_at sl1)).mono ?_
          rintro e v4 ⟨rfl, rfl⟩
          (try rw [wz.out]); (try rw [wq.out]); rw [e2]
          (go_wp2_with fail)
          have hS2 : Cls W v4 := hS
          refine hK.out _ _ hS2 (fun hS => ?_)
          clear hK K
          (try simp only [pk13, Act.put, List.setIfInBounds_toArray, List.set_cons_zero, List.set_cons_succ])
          refine tk_pure (i := 14) (oi := pk14) rfl (by kernel_rfl) (by kernel_rfl) (by kernel_rfl) (fun _ _ _ h => h) (by rfl) hS (fun w9 => by simp only [pk14]; go_simp; (try with_reducible rfl)) ?_
          simp only [pk14, Act.put, List.setIfInBounds_toArray, List.set_cons_zero, List.set_cons_succ]
          refine tk_pure (i := 15) (oi := pk15) rfl (by kernel_rfl) (by kernel_rfl) (by kernel_rfl) (fun _ _ _ h => h) (by rfl) hS (fun w9 => by simp only [pk15]; go_simp; (try with_reducible rfl)) ?_
          simp only [pk15, Act.put, List.setIfInBounds_toArray, List.set_cons_zero, List.set_cons_succ]
          refine tk_load (i := 16) (oi := pk16) rfl (by kernel_rfl) (by kernel_rfl) (by kernel_rfl) (fun _ _ _ h => h) (by rfl) _ _ _ rfl rfl (by assumption) hS ?_
          simp only [pk16, Act.put, List.setIfInBounds_toArray, List.set_cons_zero, List.set_cons_succ]
          refine tk_pure (i := 19) (oi := pk19) rfl (by kernel_rfl) (by kernel_rfl) (by kernel_rfl) (fun _ _ _ h => h) (by rfl) hS (fun w9 => by simp only [pk19]; go_simp; (try with_reducible rfl)) ?_
          simp only [pk19, Act.put, List.setIfInBounds_toArray, List.set_cons_zero, List.set_cons_succ]
          refine tk_pure (i := 20) (oi := pk20) rfl (by kernel_rfl) (by kernel_rfl) (by kernel_rfl) (fun _ _ _ h => h) (by rfl) hS (fun w9 => by simp only [pk20]; go_simp; (try with_reducible rfl)) ?_
          simp only [pk20, Act.put, List.setIfInBounds_toArray, List.set_cons_zero, List.set_cons_succ]
          refine tk_load (i := 21) (oi := pk21) rfl (by kernel_rfl) (by kernel_rfl) (by kernel_rfl) (fun _ _ _ h => h) (by rfl) _ _ _ rfl rfl (by assumption) hS ?_
          simp only [pk21, Act.put, List.setIfInBounds_toArray, List.set_cons_zero, List.set_cons_succ]
          refine wpAnyH_ready (rs := [17, 22]) (by kernel_rfl) (by simp) ?_
          refine AllReadyH.cons (o := pk17) rfl (fun K hK => ?_) ?_
          · rw [if_pos (by rfl)]
            simp only [pk17]
            go_simp
            go_at_call 133
            refine (iBlocks p s l c k _).mono ?_
            rintro e v5 ⟨rfl, hb⟩
            rw [eB.out]
            (go_wp2_with fail)
            replace sl1 := sl1.keep hb
            have hS2 : Cls W v5 := ⟨hS.below.trans (hb.mono hS.below.size)⟩
            clear hb
            refine hK.out _ _ hS2 (fun hS => ?_)
            clear hK K
            (try simp only [pk17, Act.put, List.setIfInBounds_toArray, List.set_cons_zero, List.set_cons_succ])
            refine tk_pure (i := 18) (oi := pk18) rfl (by kernel_rfl) (by kernel_rfl) (by kernel_rfl) (fun _ _ _ h => h) (by rfl) hS (fun w9 => by simp only [pk18]; go_simp; (try with_reducible rfl)) ?_
            simp only [pk18, Act.put, List.setIfInBounds_toArray, List.set_cons_zero, List.set_cons_succ]
            refine wpAnyH_ready (rs := [22]) (by kernel_rfl) (by simp) ?_
            refine AllReadyH.cons (o := pk22) rfl (fun K hK => ?_) ?_
            · rw [if_pos (by rfl)]
              simp only [pk22]
              go_simp
              have sl2 : At (v5.alloc (.cells #[.int .i64 h.index] 2)) v5.heap.size #[.int .i64 h.index] 2 := At.new _ _ _
              have hb : Below v5.heap.size v5 (v5.alloc (.cells #[.int .i64 h.index] 2)) := (Below.refl _ _).alloc (Nat.le_refl _) _
              generalize v5.alloc (.cells #[.int .i64 h.index] 2) = v6 at *
              replace sl1 := sl1.keep hb
              have hS2 : Cls W v6 := ⟨hS.below.trans (hb.mono hS.below.size)⟩
              clear hb
              refine hK.out _ _ hS2 (fun hS => ?_)
              clear hK K
              (try simp only [pk22, Act.put, List.setIfInBounds_toArray, List.set_cons_zero, List.set_cons_succ])
              refine wpAnyH_ready (rs := [23]) (by kernel_rfl) (by simp) ?_
              refine AllReadyH.cons (o := pk23) rfl (fun K hK => ?_) ?_
              · rw [if_pos (by rfl)]
                simp only [pk23]
                go_simp
                go_at_call 95
                refine (iUpTo _ _ 1 [h.index] rfl (by omega) _ (slices_at sl2)).mono ?_
                rintro e v7 ⟨rfl, rfl⟩
                (try rw [wb.out]); (try rw [wq.out]); rw [e3]
                (go_wp2_with fail)
                have hS2 : Cls W v7 := hS
                refine hK.out _ _ hS2 (fun hS => ?_)
                clear hK K
                (try simp only [pk23, Act.put, List.setIfInBounds_toArray, List.set_cons_zero, List.set_cons_succ])
                refine tk_pure (i := 24) (oi := pk24) rfl (by kernel_rfl) (by kernel_rfl) (by kernel_rfl) (fun _ _ _ h => h) (by rfl) hS (fun w9 => by simp only [pk24]; go_simp; (try with_reducible rfl)) ?_
                simp only [pk24, Act.put, List.setIfInBounds_toArray, List.set_cons_zero, List.set_cons_succ]
                refine tk_pure (i := 25) (oi := pk25) rfl (by kernel_rfl) (by kernel_rfl) (by kernel_rfl) (fun _ _ _ h => h) (by rfl) hS (fun w9 => by simp only [pk25]; go_simp; (try with_reducible rfl)) ?_
                simp only [pk25, Act.put, List.setIfInBounds_toArray, List.set_cons_zero, List.set_cons_succ]
                refine tk_pure (i := 26) (oi := pk26) rfl (by kernel_rfl) (by kernel_rfl) (by kernel_rfl) (fun _ _ _ h => h) (by rfl) hS (fun w9 => by simp only [pk26]; go_simp; (try with_reducible rfl)) ?_
                simp only [pk26, Act.put, List.setIfInBounds_toArray, List.set_cons_zero, List.set_cons_succ]
                refine tk_load (i := 27) (oi := pk27) rfl (by kernel_rfl) (by kernel_rfl) (by kernel_rfl) (fun _ _ _ h => h) (by rfl) _ _ _ rfl rfl (by assumption) hS ?_
                simp only [pk27, Act.put, List.setIfInBounds_toArray, List.set_cons_zero, List.set_cons_succ]
                refine tk_pure (i := 28) (oi := pk28) rfl (by kernel_rfl) (by kernel_rfl) (by kernel_rfl) (fun _ _ _ h => h) (by rfl) hS (fun w9 => by simp only [pk28]; go_simp; (try with_reducible rfl)) ?_
                simp only [pk28, Act.put, List.setIfInBounds_toArray, List.set_cons_zero, List.set_cons_succ]
                refine tk_pure (i := 29) (oi := pk29) rfl (by kernel_rfl) (by kernel_rfl) (by kernel_rfl) (fun _ _ _ h => h) (by rfl) hS (fun w9 => by simp only [pk29]; go_simp; (try with_reducible rfl)) ?_
                simp only [pk29, Act.put, List.setIfInBounds_toArray, List.set_cons_zero, List.set_cons_succ]
                refine tk_pure (i := 30) (oi := pk30) rfl (by kernel_rfl) (by kernel_rfl) (by kernel_rfl) (fun _ _ _ h => h) (by rfl) hS (fun w9 => by simp only [pk30]; go_simp; (try with_reducible rfl)) ?_
                simp only [pk30, Act.put, List.setIfInBounds_toArray, List.set_cons_zero, List.set_cons_succ]
                refine tk_pure (i := 31) (oi := pk31) rfl (by kernel_rfl) (by kernel_rfl) (by kernel_rfl) (fun _ _ _ h => h) (by rfl) hS (fun w9 => by simp only [pk31]; go_simp; (try with_reducible rfl)) ?_
                simp only [pk31, Act.put, List.setIfInBounds_toArray, List.set_cons_zero, List.set_cons_succ]
                refine tk_load (i := 32) (oi := pk32) rfl (by kernel_rfl) (by kernel_rfl) (by kernel_rfl) (fun _ _ _ h => h) (by rfl) _ _ _ rfl rfl (by assumption) hS ?_
                simp only [pk32, Act.put, List.setIfInBounds_toArray, List.set_cons_zero, List.set_cons_succ]
                refine wpAnyH_ready (rs := [33]) (by kernel_rfl) (by simp) ?_
                refine AllReadyH.cons (o := pk33) rfl (fun K hK => ?_) ?_
                · rw [if_pos (by rfl)]
                  simp only [pk33]
                  go_simp
                  have sl3 : At (v7.alloc (.cells #[.int .i64 h.which] 2)) v7.heap.size #[.int .i64 h.which] 2 := At.new _ _ _
                  have hb : Below v7.heap.size v7 (v7.alloc (.cells #[.int .i64 h.which] 2)) := (Below.refl _ _).alloc (Nat.le_refl _) _
                  generalize v7.alloc (.cells #[.int .i64 h.which] 2) = v8 at *
                  replace sl1 := sl1.keep hb
                  replace sl2 := sl2.keep hb
                  have hS2 : Cls W v8 := ⟨hS.below.trans (hb.mono hS.below.size)⟩
                  clear hb
                  refine hK.out _ _ hS2 (fun hS => ?_)
                  clear hK K
                  (try simp only [pk33, Act.put, List.setIfInBounds_toArray, List.set_cons_zero, List.set_cons_succ])
                  refine wpAnyH_ready (rs := [34]) (by kernel_rfl) (by simp) ?_
                  refine AllReadyH.cons (o := pk34) rfl (fun K hK => ?_) ?_
                  · rw [if_pos (by rfl)]
                    simp only [pk34]
                    go_simp
                    go_at_call 95
                    refine (iUpTo _ _ 1 [h.which] rfl (by omega) _ (slices_at sl3)).mono ?_
                    rintro e v9 ⟨rfl, rfl⟩
                    (try rw [wp.out]); (try rw [wq.out]); rw [e4]
                    (go_wp2_with fail)
                    have hS2 : Cls W v9 := hS
                    refine hK.out _ _ hS2 (fun hS => ?_)
                    clear hK K
                    (try simp only [pk34, Act.put, List.setIfInBounds_toArray, List.set_cons_zero, List.set_cons_succ])
                    refine tk_pure (i := 35) (oi := pk35) rfl (by kernel_rfl) (by kernel_rfl) (by kernel_rfl) (fun _ _ _ h => h) (by rfl) hS (fun w9 => by simp only [pk35]; go_simp; (try with_reducible rfl)) ?_
                    simp only [pk35, Act.put, List.setIfInBounds_toArray, List.set_cons_zero, List.set_cons_succ]
                    refine tk_pure (i := 36) (oi := pk36) rfl (by kernel_rfl) (by kernel_rfl) (by kernel_rfl) (fun _ _ _ h => h) (by rfl) hS (fun w9 => by simp only [pk36]; go_simp; (try with_reducible rfl)) ?_
                    simp only [pk36, Act.put, List.setIfInBounds_toArray, List.set_cons_zero, List.set_cons_succ]
                    refine wpAnyH_done (by kernel_rfl) ?_ _
                    go_wp2
                    go_returns
                    exact ⟨ret_b (by simp only [Hd.placesB, ez.out, *]; rfl), z.trans (hS.below.mono z.size)⟩
                  exact AllReadyH.nil
                exact AllReadyH.nil
              exact AllReadyH.nil
            exact AllReadyH.nil
          refine AllReadyH.cons (o := pk22) rfl (fun K hK => ?_) ?_
          · rw [if_pos (by rfl)]
            simp only [pk22]
            go_simp
            have sl2 : At (v4.alloc (.cells #[.int .i64 h.index] 2)) v4.heap.size #[.int .i64 h.index] 2 := At.new _ _ _
            have hb : Below v4.heap.size v4 (v4.alloc (.cells #[.int .i64 h.index] 2)) := (Below.refl _ _).alloc (Nat.le_refl _) _
            generalize v4.alloc (.cells #[.int .i64 h.index] 2) = v5 at *
            replace sl1 := sl1.keep hb
            have hS2 : Cls W v5 := ⟨hS.below.trans (hb.mono hS.below.size)⟩
            clear hb
            refine hK.out _ _ hS2 (fun hS => ?_)
            clear hK K
            (try simp only [pk22, Act.put, List.setIfInBounds_toArray, List.set_cons_zero, List.set_cons_succ])
            refine wpAnyH_ready (rs := [17]) (by kernel_rfl) (by simp) ?_
            refine AllReadyH.cons (o := pk17) rfl (fun K hK => ?_) ?_
            · rw [if_pos (by rfl)]
              simp only [pk17]
              go_simp
              go_at_call 133
              refine (iBlocks p s l c k _).mono ?_
              rintro e v6 ⟨rfl, hb⟩
              rw [eB.out]
              (go_wp2_with fail)
              replace sl1 := sl1.keep hb
              replace sl2 := sl2.keep hb
              have hS2 : Cls W v6 := ⟨hS.below.trans (hb.mono hS.below.size)⟩
              clear hb
              refine hK.out _ _ hS2 (fun hS => ?_)
              clear hK K
              (try simp only [pk17, Act.put, List.setIfInBounds_toArray, List.set_cons_zero, List.set_cons_succ])
              refine tk_pure (i := 18) (oi := pk18) rfl (by kernel_rfl) (by kernel_rfl) (by kernel_rfl) (fun _ _ _ h => h) (by rfl) hS (fun w9 => by simp only [pk18]; go_simp; (try with_reducible rfl)) ?_
              simp only [pk18, Act.put, List.setIfInBounds_toArray, List.set_cons_zero, List.set_cons_succ]
              refine wpAnyH_ready (rs := [23]) (by kernel_rfl) (by simp) ?_
              refine AllReadyH.cons (o := pk23) rfl (fun K hK => ?_) ?_
              · rw [if_pos (by rfl)]
                simp only [pk23]
                go_simp
                go_at_call 95
                refine (iUpTo _ _ 1 [h.index] rfl (by omega) _ (slices_at sl2)).mono ?_
                rintro e v7 ⟨rfl, rfl⟩
                (try rw [wb.out]); (try rw [wq.out]); rw [e3]
                (go_wp2_with fail)
                have hS2 : Cls W v7 := hS
                refine hK.out _ _ hS2 (fun hS => ?_)
                clear hK K
                (try simp only [pk23, Act.put, List.setIfInBounds_toArray, List.set_cons_zero, List.set_cons_succ])
                refine tk_pure (i := 24) (oi := pk24) rfl (by kernel_rfl) (by kernel_rfl) (by kernel_rfl) (fun _ _ _ h => h) (by rfl) hS (fun w9 => by simp only [pk24]; go_simp; (try with_reducible rfl)) ?_
                simp only [pk24, Act.put, List.setIfInBounds_toArray, List.set_cons_zero, List.set_cons_succ]
                refine tk_pure (i := 25) (oi := pk25) rfl (by kernel_rfl) (by kernel_rfl) (by kernel_rfl) (fun _ _ _ h => h) (by rfl) hS (fun w9 => by simp only [pk25]; go_simp; (try with_reducible rfl)) ?_
                simp only [pk25, Act.put, List.setIfInBounds_toArray, List.set_cons_zero, List.set_cons_succ]
                refine tk_pure (i := 26) (oi := pk26) rfl (by kernel_rfl) (by kernel_rfl) (by kernel_rfl) (fun _ _ _ h => h) (by rfl) hS (fun w9 => by simp only [pk26]; go_simp; (try with_reducible rfl)) ?_
                simp only [pk26, Act.put, List.setIfInBounds_toArray, List.set_cons_zero, List.set_cons_succ]
                refine tk_load (i := 27) (oi := pk27) rfl (by kernel_rfl) (by kernel_rfl) (by kernel_rfl) (fun _ _ _ h => h) (by rfl) _ _ _ rfl rfl (by assumption) hS ?_
                simp only [pk27, Act.put, List.setIfInBounds_toArray, List.set_cons_zero, List.set_cons_succ]
                refine tk_pure (i := 28) (oi := pk28) rfl (by kernel_rfl) (by kernel_rfl) (by kernel_rfl) (fun _ _ _ h => h) (by rfl) hS (fun w9 => by simp only [pk28]; go_simp; (try with_reducible rfl)) ?_
                simp only [pk28, Act.put, List.setIfInBounds_toArray, List.set_cons_zero, List.set_cons_succ]
                refine tk_pure (i := 29) (oi := pk29) rfl (by kernel_rfl) (by kernel_rfl) (by kernel_rfl) (fun _ _ _ h => h) (by rfl) hS (fun w9 => by simp only [pk29]; go_simp; (try with_reducible rfl)) ?_
                simp only [pk29, Act.put, List.setIfInBounds_toArray, List.set_cons_zero, List.set_cons_succ]
                refine tk_pure (i := 30) (oi := pk30) rfl (by kernel_rfl) (by kernel_rfl) (by kernel_rfl) (fun _ _ _ h => h) (by rfl) hS (fun w9 => by simp only [pk30]; go_simp; (try with_reducible rfl)) ?_
                simp only [pk30, Act.put, List.setIfInBounds_toArray, List.set_cons_zero, List.set_cons_succ]
                refine tk_pure (i := 31) (oi := pk31) rfl (by kernel_rfl) (by kernel_rfl) (by kernel_rfl) (fun _ _ _ h => h) (by rfl) hS (fun w9 => by simp only [pk31]; go_simp; (try with_reducible rfl)) ?_
                simp only [pk31, Act.put, List.setIfInBounds_toArray, List.set_cons_zero, List.set_cons_succ]
                refine tk_load (i := 32) (oi := pk32) rfl (by kernel_rfl) (by kernel_rfl) (by kernel_rfl) (fun _ _ _ h => h) (by rfl) _ _ _ rfl rfl (by assumption) hS ?_
                simp only [pk32, Act.put, List.setIfInBounds_toArray, List.set_cons_zero, List.set_cons_succ]
                refine wpAnyH_ready (rs := [33]) (by kernel_rfl) (by simp) ?_
                refine AllReadyH.cons (o := pk33) rfl (fun K hK => ?_) ?_
                · rw [if_pos (by rfl)]
                  simp only [pk33]
                  go_simp
                  have sl3 : At (v7.alloc (.cells #[.int .i64 h.which] 2)) v7.heap.size #[.int .i64 h.which] 2 := At.new _ _ _
                  have hb : Below v7.heap.size v7 (v7.alloc (.cells #[.int .i64 h.which] 2)) := (Below.refl _ _).alloc (Nat.le_refl _) _
                  generalize v7.alloc (.cells #[.int .i64 h.which] 2) = v8 at *
                  replace sl1 := sl1.keep hb
                  replace sl2 := sl2.keep hb
                  have hS2 : Cls W v8 := ⟨hS.below.trans (hb.mono hS.below.size)⟩
                  clear hb
                  refine hK.out _ _ hS2 (fun hS => ?_)
                  clear hK K
                  (try simp only [pk33, Act.put, List.setIfInBounds_toArray, List.set_cons_zero, List.set_cons_succ])
                  refine wpAnyH_ready (rs := [34]) (by kernel_rfl) (by simp) ?_
                  refine AllReadyH.cons (o := pk34) rfl (fun K hK => ?_) ?_
                  · rw [if_pos (by rfl)]
                    simp only [pk34]
                    go_simp
                    go_at_call 95
                    refine (iUpTo _ _ 1 [h.which] rfl (by omega) _ (slices_at sl3)).mono ?_
                    rintro e v9 ⟨rfl, rfl⟩
                    (try rw [wp.out]); (try rw [wq.out]); rw [e4]
                    (go_wp2_with fail)
                    have hS2 : Cls W v9 := hS
                    refine hK.out _ _ hS2 (fun hS => ?_)
                    clear hK K
                    (try simp only [pk34, Act.put, List.setIfInBounds_toArray, List.set_cons_zero, List.set_cons_succ])
                    refine tk_pure (i := 35) (oi := pk35) rfl (by kernel_rfl) (by kernel_rfl) (by kernel_rfl) (fun _ _ _ h => h) (by rfl) hS (fun w9 => by simp only [pk35]; go_simp; (try with_reducible rfl)) ?_
                    simp only [pk35, Act.put, List.setIfInBounds_toArray, List.set_cons_zero, List.set_cons_succ]
                    refine tk_pure (i := 36) (oi := pk36) rfl (by kernel_rfl) (by kernel_rfl) (by kernel_rfl) (fun _ _ _ h => h) (by rfl) hS (fun w9 => by simp only [pk36]; go_simp; (try with_reducible rfl)) ?_
                    simp only [pk36, Act.put, List.setIfInBounds_toArray, List.set_cons_zero, List.set_cons_succ]
                    refine wpAnyH_done (by kernel_rfl) ?_ _
                    go_wp2
                    go_returns
                    exact ⟨ret_b (by simp only [Hd.placesB, ez.out, *]; rfl), z.trans (hS.below.mono z.size)⟩
                  exact AllReadyH.nil
                exact AllReadyH.nil
              exact AllReadyH.nil
            exact AllReadyH.nil
          exact AllReadyH.nil
        exact AllReadyH.nil
      exact AllReadyH.nil
    exact AllReadyH.nil
  exact AllReadyH.nil
theorem iPlaces (p s l c k : Int) (h : Hd) (ho : ok p s l c k = true) (w : World) : Calls Tryz.prog 102 #[.agg h.ps.toArray, .agg #[.int .i64 p, .int .i64 s, .int .i64 l, .int .i64 c, .int .i64 k]] w fun e w' => e = .returned (.bool (h.placesB p s l c)) ∧ Below w.heap.size w w' := by
  have h' := ok_iff.1 ho
  obtain ⟨z0, ez⟩ : ∃ z0 : Int, Hid (zF p s l c = z0) := ⟨_, rfl⟩
  have zb : 0 ≤ z0 ∧ z0 ≤ 100000 := by
    have hq := sq_bd h'.1 h'.2.1
    rw [← ez.out]; unfold zF; (try unfold sF); (try unfold rF); (try unfold nF); omega
  cases e1 : inB h.for_ 0 (p - 1) with
  | false => exact iPlacesA p s l c k z0 h ho ez zb e1 w
  | true =>
    cases e2 : allUp (z0 - 1) [h.addr] with
    | false => exact iPlacesB p s l c k z0 h ho ez zb e1 e2 w
    | true =>
      cases e3 : allUp (s + l + 1) [h.index] with
      | false => exact iPlacesC p s l c k z0 h ho ez zb e1 e2 e3 w
      | true =>
        cases e4 : allUp (2 * p - 1) [h.which] with
        | true => exact iPlacesD p s l c k z0 h ho ez zb e1 e2 e3 e4 w
        | false => exact iPlacesE p s l c k z0 h ho ez zb e1 e2 e3 e4 w
end Go.Proofs.YtljpkgloegafnaaGreat
namespace Go.Proofs.YtljpkgloegafnaaGreat
open Go.RowKit
set_option maxRecDepth 100000
set_option linter.unusedVariables false
theorem newR {ops : Array Oper} {rest : List Oper} {op : Oper} {a : Act} {w : World} {Q : Exit → Act → World → Prop} {ty t : TypeId} {cs : Array Value} {vs : List Value} (hi : (Tryz.prog.info? ty).map (·.size) = some vs.length) (h1 : ∀ v ∈ vs, v.oneCell' = true) (hgd : op.guard = none) (x y : Operand) (ho : op.op = .store ty x y)
    (hx : a.eval x = .pointer (some ⟨w.heap.size, 0, none⟩)) (hy : a.eval y = .agg vs.toArray) (hs : cs.size = vs.length)
    (h : ∀ w', At w' w.heap.size vs.toArray t → Below w.heap.size w w' → wpList Tryz.prog ops Q rest (a.put op.dst undef) w') : wpList Tryz.prog ops Q (op :: rest) a (w.alloc (.cells cs t)) :=
  storeR hi h1 hgd x y ho w.heap.size hx hy (At.new w cs t) hs fun w' Z kk => h w' Z (((Below.refl _ _).alloc (Nat.le_refl _) _).trans (kk.below (Nat.le_refl _) (by simp)))
theorem sub_get (pre l post : List Value) (j : Nat) (v : Value) (hv : l[j]? = some v) : (pre ++ l ++ post).toArray[pre.length + j]? = some v := by
  have hj : j < l.length := (List.getElem?_eq_some_iff.1 hv).1
  simp only [List.getElem?_toArray, List.append_assoc]
  rw [List.getElem?_append_right (by omega), Nat.add_sub_cancel_left, List.getElem?_append_left hj, hv]
def Hd.tp (h : Hd) : List Value := [.bool h.up, .bool h.inn, .int .i64 h.life, .int .i64 h.at_, .int .i64 h.last, .int .i64 h.kept]
theorem Hd.in_cp (h : Hd) : ∀ j v, h.cp[j]? = some v → h.ps.toArray[6 + j]? = some v := fun j v hv => sub_get h.tp h.cp (h.sp ++ h.mp) j v hv
theorem Hd.in_sp (h : Hd) : ∀ j v, h.sp[j]? = some v → h.ps.toArray[17 + j]? = some v := fun j v hv => sub_get (h.tp ++ h.cp) h.sp h.mp j v hv
theorem Hd.in_mp (h : Hd) : ∀ j v, h.mp[j]? = some v → h.ps.toArray[27 + j]? = some v := fun j v hv => by
  have := sub_get (h.tp ++ h.cp ++ h.sp) h.mp [] j v hv
  rw [List.append_nil] at this
  exact this
theorem allUp_one {m x : Int} : allUp m [x] = inB x 0 m := by simp [allUp, inB]
theorem parts_eq (p s l c : Int) (h : Hd) (hl : inB h.life 0 65535 = true) : (h.aliveB && h.callB && h.swapB && h.mendB && h.placesB p s l c) = (decide (1 ≤ h.life) && h.own p && h.swap p s l c && h.was) := by
  rw [Bool.eq_iff_iff]
  unfold Hd.aliveB Hd.callB Hd.swapB Hd.mendB Hd.placesB Hd.own Hd.swap Hd.was
  simp only [inB, decide_eq_true_eq] at hl
  simp only [allUp, inB, List.all_cons, List.all_nil, Bool.and_true, Bool.and_eq_true, decide_eq_true_eq]
  constructor
  · intro hh
    repeat' apply And.intro
    all_goals omega
  · intro hh
    repeat' apply And.intro
    all_goals omega
set_option maxHeartbeats 8000000 in
theorem iHandOkN (p s l c k : Int) (h : Hd) (ho : ok p s l c k = false) (w : World) : Calls Tryz.prog 48 #[.agg #[.int .i64 p, .int .i64 s, .int .i64 l, .int .i64 c, .int .i64 k], .agg h.ar] w fun e w' => e = .returned (.bool false) ∧ Below w.heap.size w w' := by
  go_enter Tryz.func48, Tryz.ntmps48
  go_upto_region 1 with fail
  refine wp_at (fun W => At W w.heap.size #[.int .i64 p, .int .i64 s, .int .i64 l, .int .i64 c, .int .i64 k] 35 ∧ At W (w.heap.size + 1) h.ar 28 ∧ Below w.heap.size w W) (two_box w _ _ _ _) ?_
  rintro W ⟨P, A, z⟩
  obtain ⟨d0, d1, d2, d3, d4⟩ := P.five
  go_wp2_with (first
    | (go_at_call 94; refine (iPlanOk _ _ _ _ _ _).mono ?_; rintro e w1 ⟨rfl, hb⟩; rw [ho]; clear d0 d1 d2 d3 d4; replace P := P.keep hb; replace A := A.keep hb; replace z := z.trans (hb.mono z.size); clear hb; obtain ⟨d0, d1, d2, d3, d4⟩ := P.five; have c4 : World.cell? w1 ⟨w.heap.size + 1, 4, none⟩ = some (.int .i64 h.life) := A.cell 4; have c0 : World.cell? w1 ⟨w.heap.size + 1, 0, none⟩ = some (.bool h.up) := (A.cell 0).trans (by show some (Value.bool h.up) = _; rfl)))
  go_returns
  exact ⟨rfl, z⟩
set_option maxHeartbeats 8000000 in
theorem iHandOkL (p s l c k : Int) (h : Hd) (ho : ok p s l c k = true) (hl : allUp 65535 [h.life] = false) (w : World) : Calls Tryz.prog 48 #[.agg #[.int .i64 p, .int .i64 s, .int .i64 l, .int .i64 c, .int .i64 k], .agg h.ar] w fun e w' => e = .returned (.bool false) ∧ Below w.heap.size w w' := by
  go_enter Tryz.func48, Tryz.ntmps48
  go_upto_region 1 with fail
  refine wp_at (fun W => At W w.heap.size #[.int .i64 p, .int .i64 s, .int .i64 l, .int .i64 c, .int .i64 k] 35 ∧ At W (w.heap.size + 1) h.ar 28 ∧ Below w.heap.size w W) (two_box w _ _ _ _) ?_
  rintro W ⟨P, A, z⟩
  obtain ⟨d0, d1, d2, d3, d4⟩ := P.five
  go_wp2_with (first
    | (go_at_call 94; refine (iPlanOk _ _ _ _ _ _).mono ?_; rintro e w1 ⟨rfl, hb⟩; rw [ho]; clear d0 d1 d2 d3 d4; replace P := P.keep hb; replace A := A.keep hb; replace z := z.trans (hb.mono z.size); clear hb; obtain ⟨d0, d1, d2, d3, d4⟩ := P.five; have c4 : World.cell? w1 ⟨w.heap.size + 1, 4, none⟩ = some (.int .i64 h.life) := A.cell 4; have c0 : World.cell? w1 ⟨w.heap.size + 1, 0, none⟩ = some (.bool h.up) := (A.cell 0).trans (by show some (Value.bool h.up) = _; rfl))
    | (go_at_call 95; (with_reducible refine (iUpTo1 _ _ _ _).mono ?_); rintro e w1 ⟨rfl, hb⟩; rw [hl]; clear c4 c0; clear d0 d1 d2 d3 d4; replace P := P.keep hb; replace A := A.keep hb; replace z := z.trans (hb.mono z.size); clear hb; obtain ⟨d0, d1, d2, d3, d4⟩ := P.five; have c4 : World.cell? w1 ⟨w.heap.size + 1, 4, none⟩ = some (.int .i64 h.life) := A.cell 4; have c0 : World.cell? w1 ⟨w.heap.size + 1, 0, none⟩ = some (.bool h.up) := (A.cell 0).trans (by show some (Value.bool h.up) = _; rfl)))
  go_returns
  exact ⟨rfl, z⟩
set_option maxHeartbeats 8000000 in
theorem iHandOkD (p s l c k : Int) (h : Hd) (ho : ok p s l c k = true) (hl : allUp 65535 [h.life] = true) (hu : h.up = false) (w : World) : Calls Tryz.prog 48 #[.agg #[.int .i64 p, .int .i64 s, .int .i64 l, .int .i64 c, .int .i64 k], .agg h.ar] w fun e w' => e = .returned (.bool (h.same h.downed)) ∧ Below w.heap.size w w' := by
  go_enter Tryz.func48, Tryz.ntmps48
  go_upto_region 1 with fail
  refine wp_at (fun W => At W w.heap.size #[.int .i64 p, .int .i64 s, .int .i64 l, .int .i64 c, .int .i64 k] 35 ∧ At W (w.heap.size + 1) h.ar 28 ∧ Below w.heap.size w W) (two_box w _ _ _ _) ?_
  rintro W ⟨P, A, z⟩
  obtain ⟨d0, d1, d2, d3, d4⟩ := P.five
  go_upto_region 4 with (first
    | (go_at_call 94; refine (iPlanOk _ _ _ _ _ _).mono ?_; rintro e w1 ⟨rfl, hb⟩; rw [ho]; clear d0 d1 d2 d3 d4; replace P := P.keep hb; replace A := A.keep hb; replace z := z.trans (hb.mono z.size); clear hb; obtain ⟨d0, d1, d2, d3, d4⟩ := P.five; have c4 : World.cell? w1 ⟨w.heap.size + 1, 4, none⟩ = some (.int .i64 h.life) := A.cell 4; have c0 : World.cell? w1 ⟨w.heap.size + 1, 0, none⟩ = some (.bool false) := (A.cell 0).trans (by show some (Value.bool h.up) = _; rw [hu]))
    | (go_at_call 95; (with_reducible refine (iUpTo1 _ _ _ _).mono ?_); rintro e w1 ⟨rfl, hb⟩; rw [hl]; clear c4 c0; clear d0 d1 d2 d3 d4; replace P := P.keep hb; replace A := A.keep hb; replace z := z.trans (hb.mono z.size); clear hb; obtain ⟨d0, d1, d2, d3, d4⟩ := P.five; have c4 : World.cell? w1 ⟨w.heap.size + 1, 4, none⟩ = some (.int .i64 h.life) := A.cell 4; have c0 : World.cell? w1 ⟨w.heap.size + 1, 0, none⟩ = some (.bool false) := (A.cell 0).trans (by show some (Value.bool h.up) = _; rw [hu])))
  have lh : ∀ w', Cls w1 w' → (loadVar 28 ⟨w.heap.size + 1, 0, none⟩).run Tryz.prog w' = .ok (.agg h.ar) w' := ld_agg (vs := h.vs) A Tryz.underlying28 rfl (by kernel_rfl)
  refine wp_region_cls (by kernel_rfl) (by kernel_rfl) ?_
  repeat' (first
    | go_big_quiet_skip
    | (go_big_quiet_want; first
      | (refine q_load _ _ _ _ rfl rfl (by assumption) ?_; simp only [Act.put, List.setIfInBounds_toArray, List.set_cons_zero, List.set_cons_succ]; go_big_quiet_on)
      | (refine q_eqH (.tmp 19) (.tmp 21) rfl h h.downed rfl rfl ?_; simp only [Act.put, List.setIfInBounds_toArray, List.set_cons_zero, List.set_cons_succ]; go_big_quiet_on)
      | (go_big_quiet_op; first
        | go_big_quiet_on
        | (apply Exists.intro; refine ⟨fun w' hw' => ?_, ?_⟩
           · (first
             | (go_at_call 96; exact cls_below hw' (iDowned h _)))
           go_big_quiet_on))))
  refine wpQuiet_nil ?_
  intro w2 hw2
  go_wp2
  go_returns
  exact ⟨rfl, z.trans (hw2.below.mono z.size)⟩
set_option maxHeartbeats 16000000 in
theorem iHandOkU (p s l c k : Int) (h : Hd) (ho : ok p s l c k = true) (hl : allUp 65535 [h.life] = true) (hu : h.up = true) (w : World) : Calls Tryz.prog 48 #[.agg #[.int .i64 p, .int .i64 s, .int .i64 l, .int .i64 c, .int .i64 k], .agg h.ar] w fun e w' => e = .returned (.bool (h.aliveB && h.callB && h.swapB && h.mendB && h.placesB p s l c)) ∧ Below w.heap.size w w' := by
  go_enter Tryz.func48, Tryz.ntmps48
  go_upto_region 1 with fail
  refine wp_at (fun W => At W w.heap.size #[.int .i64 p, .int .i64 s, .int .i64 l, .int .i64 c, .int .i64 k] 35 ∧ At W (w.heap.size + 1) h.ar 28 ∧ Below w.heap.size w W) (two_box w _ _ _ _) ?_
  rintro W ⟨P, A, z⟩
  obtain ⟨d0, d1, d2, d3, d4⟩ := P.five
  go_upto_region 6 with (first
    | (go_at_call 94; refine (iPlanOk _ _ _ _ _ _).mono ?_; rintro e w1 ⟨rfl, hb⟩; rw [ho]; clear d0 d1 d2 d3 d4; replace P := P.keep hb; replace A := A.keep hb; replace z := z.trans (hb.mono z.size); clear hb; obtain ⟨d0, d1, d2, d3, d4⟩ := P.five; have c4 : World.cell? w1 ⟨w.heap.size + 1, 4, none⟩ = some (.int .i64 h.life) := A.cell 4; have c0 : World.cell? w1 ⟨w.heap.size + 1, 0, none⟩ = some (.bool true) := (A.cell 0).trans (by show some (Value.bool h.up) = _; rw [hu]))
    | (go_at_call 95; (with_reducible refine (iUpTo1 _ _ _ _).mono ?_); rintro e w1 ⟨rfl, hb⟩; rw [hl]; clear c4 c0; clear d0 d1 d2 d3 d4; replace P := P.keep hb; replace A := A.keep hb; replace z := z.trans (hb.mono z.size); clear hb; obtain ⟨d0, d1, d2, d3, d4⟩ := P.five; have c4 : World.cell? w1 ⟨w.heap.size + 1, 4, none⟩ = some (.int .i64 h.life) := A.cell 4; have c0 : World.cell? w1 ⟨w.heap.size + 1, 0, none⟩ = some (.bool true) := (A.cell 0).trans (by show some (Value.bool h.up) = _; rw [hu]))
    | (refine loadHl rfl (.tmp 3) rfl (w.heap.size + 1) h rfl A ?_)
    | (go_at_call 97; refine (iParts h _).mono ?_; rintro e w1 ⟨rfl, hb⟩; clear d0 d1 d2 d3 d4; replace P := P.keep hb; replace A := A.keep hb; replace z := z.trans (hb.mono z.size); clear hb; obtain ⟨d0, d1, d2, d3, d4⟩ := P.five; have c4 : World.cell? w1 ⟨w.heap.size + 1, 4, none⟩ = some (.int .i64 h.life) := A.cell 4; have c0 : World.cell? w1 ⟨w.heap.size + 1, 0, none⟩ = some (.bool true) := (A.cell 0).trans (by show some (Value.bool h.up) = _; rw [hu]))
    | (refine newR (vs := h.ps) (by kernel_rfl) h.ps_one rfl (.tmp 5) (.tmp 24) rfl rfl rfl rfl ?_; intro w2 Z hb; clear d0 d1 d2 d3 d4 c4 c0; replace P := P.keep hb; replace z := z.trans (hb.mono z.size); clear hb A; obtain ⟨d0, d1, d2, d3, d4⟩ := P.five))
  generalize w1.heap.size = b1 at *
  cases hm : h.mendB
  all_goals (go_wp2_with (first
    | (refine loadR h.ps Tryz.underlying107 rfl (by kernel_rfl) rfl (.tmp 5) rfl b1 0 rfl Z (fun j v hj => by rw [Nat.zero_add]; simpa using hj) ?_)
    | (refine loadR h.cp Tryz.underlying101 rfl (by kernel_rfl) rfl (.tmp 28) rfl b1 6 rfl Z h.in_cp ?_)
    | (refine loadR h.sp Tryz.underlying103 rfl (by kernel_rfl) rfl (.tmp 33) rfl b1 17 rfl Z h.in_sp ?_)
    | (refine loadR h.mp Tryz.underlying105 rfl (by kernel_rfl) rfl (.tmp 38) rfl b1 27 rfl Z h.in_mp ?_)
    | (go_at_call 98; refine (iAlive h _).mono ?_; rintro e w3 ⟨rfl, hb⟩; clear d0 d1 d2 d3 d4; replace P := P.keep hb; replace Z := Z.keep hb; replace z := z.trans (hb.mono z.size); clear hb; obtain ⟨d0, d1, d2, d3, d4⟩ := P.five)
    | (go_at_call 99; refine (iCall h _).mono ?_; rintro e w3 ⟨rfl, hb⟩; clear d0 d1 d2 d3 d4; replace P := P.keep hb; replace Z := Z.keep hb; replace z := z.trans (hb.mono z.size); clear hb; obtain ⟨d0, d1, d2, d3, d4⟩ := P.five)
    | (go_at_call 100; refine (iSwp h _).mono ?_; rintro e w3 ⟨rfl, hb⟩; clear d0 d1 d2 d3 d4; replace P := P.keep hb; replace Z := Z.keep hb; replace z := z.trans (hb.mono z.size); clear hb; obtain ⟨d0, d1, d2, d3, d4⟩ := P.five)
    | (go_at_call 101; refine (iMnd h _).mono ?_; rintro e w3 ⟨rfl, hb⟩; rw [hm]; clear d0 d1 d2 d3 d4; replace P := P.keep hb; replace Z := Z.keep hb; replace z := z.trans (hb.mono z.size); clear hb; obtain ⟨d0, d1, d2, d3, d4⟩ := P.five)
    | (go_at_call 102; refine (iPlaces p s l c k h ho _).mono ?_; rintro e w3 ⟨rfl, hb⟩; clear d0 d1 d2 d3 d4; replace P := P.keep hb; replace Z := Z.keep hb; replace z := z.trans (hb.mono z.size); clear hb; obtain ⟨d0, d1, d2, d3, d4⟩ := P.five)))
  all_goals go_returns
  all_goals refine ⟨ret_b ?_, z⟩
  all_goals simp_all
theorem iHandOk (p s l c k : Int) (h : Hd) (w : World) : Calls Tryz.prog 48 #[.agg #[.int .i64 p, .int .i64 s, .int .i64 l, .int .i64 c, .int .i64 k], .agg h.ar] w fun e w' => e = .returned (.bool (hOk p s l c k h)) ∧ Below w.heap.size w w' := by
  unfold hOk
  cases ho : ok p s l c k with
  | false => exact iHandOkN p s l c k h ho w
  | true =>
    cases hl : inB h.life 0 65535 with
    | false => exact iHandOkL p s l c k h ho (by rw [allUp_one]; exact hl) w
    | true =>
      cases hu : h.up with
      | false => exact iHandOkD p s l c k h ho (by rw [allUp_one]; exact hl) hu w
      | true =>
        have := iHandOkU p s l c k h ho (by rw [allUp_one]; exact hl) hu w
        rw [parts_eq p s l c h hl] at this
        exact this
end Go.Proofs.YtljpkgloegafnaaGreat
