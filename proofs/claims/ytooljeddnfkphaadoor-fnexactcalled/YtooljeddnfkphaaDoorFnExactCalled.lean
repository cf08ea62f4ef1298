/-
  At every argument Called answers as the specification; its arguments stay; the table of the calls is as the program lays it. No other condition.
-/
import Derived.Test.YtooljeddnfkphaaDoorRows
import Derived.Test.YtooljeddnfkphaaDoorCal9
import Derived.Test.YtooljeddnfkphaaDoorTie
import Derived.Test.YtooljeddnfkphaaDoorCards
import Derived.LaidMore
import Derived.OpenVars
import Derived.ChangeVars
import Derived.SevenTiedAt
import Derived.WalkKit
import Derived.ProofKit
import Derived.OpenShut
import Derived.ChangeOld
import Derived.Below
import Derived.Lib.SmallJoins
namespace Go.Proofs.YtooljeddnfkphaaDoor.fnExactCalled
open Go.ChangeShapes Go.WideShapes Go.ChangeAt Go.RowKit
set_option linter.unusedVariables false
def qa0 : Oper := { dst := some 20, op := Op.load 23 (Operand.tmp 7), type := 23, pos := "exact.go:2560", after := #[], guard := none }
def qa1 : Oper := { dst := some 21, op := Op.call { callee := Callee.value (Operand.func 8), args := #[Operand.tmp 20], argTypes := #[23] }, type := 25, pos := "exact.go:2560", after := #[{ on := 0, ground := Ground.data }], guard := none }
def qa2 : Oper := { dst := some 22, op := Op.move (Operand.tmp 1), type := 2, pos := "exact.go:2560", after := #[], guard := none }
def qa3 : Oper := { dst := some 23, op := Op.load 30 (Operand.tmp 9), type := 30, pos := "exact.go:2560", after := #[], guard := none }
def qa4 : Oper := { dst := some 24, op := Op.call { callee := Callee.value (Operand.func 11), args := #[Operand.tmp 23], argTypes := #[30] }, type := 31, pos := "exact.go:2560", after := #[{ on := 3, ground := Ground.data }, { on := 1, ground := Ground.chain }], guard := none }
def qa5 : Oper := { dst := some 25, op := Op.move (Operand.tmp 3), type := 2, pos := "exact.go:2560", after := #[], guard := none }
def qa6 : Oper := { dst := some 26, op := Op.move (Operand.tmp 4), type := 2, pos := "exact.go:2560", after := #[], guard := none }
def qa7 : Oper := { dst := some 27, op := Op.move (Operand.tmp 5), type := 2, pos := "exact.go:2560", after := #[], guard := none }
def qa8 : Oper := { dst := some 28, op := Op.move (Operand.tmp 6), type := 2, pos := "exact.go:2560", after := #[], guard := none }
def qa9 : Oper := { dst := some 29, op := Op.call { callee := Callee.value (Operand.func 10), args := #[Operand.tmp 21, Operand.tmp 22, Operand.tmp 24, Operand.tmp 25, Operand.tmp 26, Operand.tmp 27, Operand.tmp 28], argTypes := #[25, 2, 31, 2, 2, 2, 2] }, type := 32, pos := "exact.go:2560", after := #[{ on := 1, ground := Ground.data }, { on := 2, ground := Ground.data }, { on := 4, ground := Ground.data }, { on := 5, ground := Ground.data }, { on := 6, ground := Ground.data }, { on := 7, ground := Ground.data }, { on := 8, ground := Ground.data }, { on := 4, ground := Ground.chain }], guard := none }
def qa10 : Oper := { dst := some 19, op := Op.move (Operand.tmp 29), type := 32, pos := "exact.go:2560", after := #[{ on := 9, ground := Ground.data }], guard := none }
def qa11 : Oper := { dst := some 30, op := Op.extract (Operand.tmp 19) 0, type := 31, pos := "exact.go:2560", after := #[{ on := 10, ground := Ground.data }], guard := none }
def qa12 : Oper := { dst := some 31, op := Op.extract (Operand.tmp 19) 1, type := 2, pos := "exact.go:2560", after := #[{ on := 10, ground := Ground.data }, { on := 14, ground := Ground.gcOnly Departure.lateStores }], guard := none }
def qa13 : Oper := { dst := some 15, op := Op.alloc 31, type := 0, pos := "exact.go:2560", after := #[], guard := none }
def qa14 : Oper := { dst := none, op := Op.store 31 (Operand.tmp 15) (Operand.tmp 30), type := 0, pos := "exact.go:2560", after := #[{ on := 13, ground := Ground.data }, { on := 11, ground := Ground.data }, { on := 9, ground := Ground.chain }, { on := 0, ground := Ground.phase }, { on := 1, ground := Ground.phase }, { on := 2, ground := Ground.phase }, { on := 3, ground := Ground.phase }, { on := 4, ground := Ground.phase }, { on := 5, ground := Ground.phase }, { on := 6, ground := Ground.phase }, { on := 7, ground := Ground.phase }, { on := 8, ground := Ground.phase }, { on := 9, ground := Ground.phase }, { on := 10, ground := Ground.phase }, { on := 11, ground := Ground.phase }, { on := 12, ground := Ground.textOnly Departure.lateStores }, { on := 13, ground := Ground.phase }], guard := none }
def qa15 : Oper := { dst := some 16, op := Op.assign (Operand.tmp 31), type := 2, pos := "exact.go:2560", after := #[{ on := 12, ground := Ground.data }, { on := 14, ground := Ground.chain }, { on := 0, ground := Ground.phase }, { on := 1, ground := Ground.phase }, { on := 2, ground := Ground.phase }, { on := 3, ground := Ground.phase }, { on := 4, ground := Ground.phase }, { on := 5, ground := Ground.phase }, { on := 6, ground := Ground.phase }, { on := 7, ground := Ground.phase }, { on := 8, ground := Ground.phase }, { on := 9, ground := Ground.phase }, { on := 10, ground := Ground.phase }, { on := 11, ground := Ground.phase }, { on := 12, ground := Ground.phase }, { on := 13, ground := Ground.phase }, { on := 14, ground := Ground.phase }], guard := none }
def qb0 : Oper := { dst := some 33, op := Op.load 23 (Operand.tmp 7), type := 23, pos := "exact.go:2561", after := #[], guard := none }
def qb1 : Oper := { dst := some 34, op := Op.call { callee := Callee.value (Operand.func 8), args := #[Operand.tmp 33], argTypes := #[23] }, type := 25, pos := "exact.go:2561", after := #[{ on := 0, ground := Ground.data }], guard := none }
def qb2 : Oper := { dst := some 35, op := Op.move (Operand.tmp 1), type := 2, pos := "exact.go:2561", after := #[], guard := none }
def qb3 : Oper := { dst := some 36, op := Op.load 30 (Operand.tmp 9), type := 30, pos := "exact.go:2561", after := #[], guard := none }
def qb4 : Oper := { dst := some 37, op := Op.call { callee := Callee.value (Operand.func 11), args := #[Operand.tmp 36], argTypes := #[30] }, type := 31, pos := "exact.go:2561", after := #[{ on := 3, ground := Ground.data }, { on := 1, ground := Ground.chain }], guard := none }
def qb5 : Oper := { dst := some 38, op := Op.move (Operand.tmp 3), type := 2, pos := "exact.go:2561", after := #[], guard := none }
def qb6 : Oper := { dst := some 39, op := Op.move (Operand.tmp 4), type := 2, pos := "exact.go:2561", after := #[], guard := none }
def qb7 : Oper := { dst := some 40, op := Op.move (Operand.tmp 5), type := 2, pos := "exact.go:2561", after := #[], guard := none }
def qb8 : Oper := { dst := some 41, op := Op.move (Operand.tmp 6), type := 2, pos := "exact.go:2561", after := #[], guard := none }
def qb9 : Oper := { dst := some 42, op := Op.call { callee := Callee.value (Operand.func 12), args := #[Operand.tmp 34, Operand.tmp 35, Operand.tmp 37, Operand.tmp 38, Operand.tmp 39, Operand.tmp 40, Operand.tmp 41], argTypes := #[25, 2, 31, 2, 2, 2, 2] }, type := 32, pos := "exact.go:2561", after := #[{ on := 1, ground := Ground.data }, { on := 2, ground := Ground.data }, { on := 4, ground := Ground.data }, { on := 5, ground := Ground.data }, { on := 6, ground := Ground.data }, { on := 7, ground := Ground.data }, { on := 8, ground := Ground.data }, { on := 4, ground := Ground.chain }], guard := none }
def qb10 : Oper := { dst := some 32, op := Op.move (Operand.tmp 42), type := 32, pos := "exact.go:2561", after := #[{ on := 9, ground := Ground.data }], guard := none }
def qb11 : Oper := { dst := some 43, op := Op.extract (Operand.tmp 32) 0, type := 31, pos := "exact.go:2561", after := #[{ on := 10, ground := Ground.data }], guard := none }
def qb12 : Oper := { dst := some 44, op := Op.extract (Operand.tmp 32) 1, type := 2, pos := "exact.go:2561", after := #[{ on := 10, ground := Ground.data }, { on := 14, ground := Ground.gcOnly Departure.lateStores }], guard := none }
def qb13 : Oper := { dst := some 17, op := Op.alloc 31, type := 0, pos := "exact.go:2561", after := #[], guard := none }
def qb14 : Oper := { dst := none, op := Op.store 31 (Operand.tmp 17) (Operand.tmp 43), type := 0, pos := "exact.go:2561", after := #[{ on := 13, ground := Ground.data }, { on := 11, ground := Ground.data }, { on := 9, ground := Ground.chain }, { on := 0, ground := Ground.phase }, { on := 1, ground := Ground.phase }, { on := 2, ground := Ground.phase }, { on := 3, ground := Ground.phase }, { on := 4, ground := Ground.phase }, { on := 5, ground := Ground.phase }, { on := 6, ground := Ground.phase }, { on := 7, ground := Ground.phase }, { on := 8, ground := Ground.phase }, { on := 9, ground := Ground.phase }, { on := 10, ground := Ground.phase }, { on := 11, ground := Ground.phase }, { on := 12, ground := Ground.textOnly Departure.lateStores }, { on := 13, ground := Ground.phase }], guard := none }
def qb15 : Oper := { dst := some 18, op := Op.assign (Operand.tmp 44), type := 2, pos := "exact.go:2561", after := #[{ on := 12, ground := Ground.data }, { on := 14, ground := Ground.chain }, { on := 0, ground := Ground.phase }, { on := 1, ground := Ground.phase }, { on := 2, ground := Ground.phase }, { on := 3, ground := Ground.phase }, { on := 4, ground := Ground.phase }, { on := 5, ground := Ground.phase }, { on := 6, ground := Ground.phase }, { on := 7, ground := Ground.phase }, { on := 8, ground := Ground.phase }, { on := 9, ground := Ground.phase }, { on := 10, ground := Ground.phase }, { on := 11, ground := Ground.phase }, { on := 12, ground := Ground.phase }, { on := 13, ground := Ground.phase }, { on := 14, ground := Ground.phase }], guard := none }
theorem any_at {P : Program} {md : Region.Mode} {ops : Array Oper} {Q : Exit → Act → World → Prop} {S : World → Prop} {fuel : Nat} {listed : Array Bool} {a : Act} {W : World} (R : World → Prop) (r : R W) (h : ∀ w, R w → wpAnyH P md ops Q S fuel listed a w) : wpAnyH P md ops Q S fuel listed a W := h W r
theorem wp_storeH {o : Oper} {a : Act} {w : World} {K : Act → World → Prop} {Q : Exit → Act → World → Prop} (x y : Operand) (ho : o.op = .store 31 x y) (b : Nat) (k : Hd) (hx : a.eval x = .pointer (some ⟨b, 0, none⟩)) (hy : a.eval y = .agg k.ar) {cs : Array Value} {t : TypeId} (Z : At w b cs t) (hs : cs.size = 36)
    (h : ∀ w', At w' b k.ar t → Kept b w w' → K (a.put o.dst undef) w') : o.wp Tryd.prog a w K Q :=
  wp_store_mid 31 x y ho b 0 k.ar hx hy (by rw [k.sz]; exact Z.there 0 36 (by omega)) (by rw [k.sz]; exact infoH) (all_oneCell_toArray k.one) (h _ (Z.fillAll (by rw [hs]; rfl)) (kept_setCells b _ 0 w))
theorem tabKept {w w' : World} {b B : Nat} (h : Tab w) (kk : Kept b w w') (hb : B ≤ b) (hB : 0 < B) : Tab w' :=
  ⟨Nat.lt_of_lt_of_le h.pos kk.size, fun i r hr j v hj => (World.cell?_of_block (w := w) (kk.block 0 h.pos (by omega))).trans (h.is i r hr j v hj)⟩
set_option maxHeartbeats 32000000 in
theorem walk (p s l c k : Int) (b0 : -9223372036854775808 ≤ p ∧ p ≤ 9223372036854775807) (b1 : -9223372036854775808 ≤ s ∧ s ≤ 9223372036854775807) (b2 : -9223372036854775808 ≤ l ∧ l ≤ 9223372036854775807) (b3 : -9223372036854775808 ≤ c ∧ c ≤ 9223372036854775807) (b4 : -9223372036854775808 ≤ k ∧ k ≤ 9223372036854775807) (slot : Int) (_ : -9223372036854775808 ≤ slot) (_ : slot ≤ 9223372036854775807) (h : Hd) (code : Int) (_ : -9223372036854775808 ≤ code) (_ : code ≤ 9223372036854775807) (a : Int) (_ : -9223372036854775808 ≤ a) (_ : a ≤ 9223372036854775807) (b : Int) (_ : -9223372036854775808 ≤ b) (_ : b ≤ 9223372036854775807) (d : Int) (_ : -9223372036854775808 ≤ d) (_ : d ≤ 9223372036854775807) (w : World) (T0 : Tab w) :
    Calls Tryd.prog 4 #[.agg #[.int .i64 p, .int .i64 s, .int .i64 l, .int .i64 c, .int .i64 k], .int .i64 slot, .agg h.ar, .int .i64 code, .int .i64 a, .int .i64 b, .int .i64 d] w fun e w' => e = .returned (.bool true) ∧ Below w.heap.size w w' := by
  clear b0 b1 b2 b3 b4
  obtain ⟨kh, hk⟩ : ∃ q, Hid (caH p s l c k slot h code a b d = q) := ⟨_, rfl⟩
  obtain ⟨cd, hcd⟩ : ∃ q, Hid (cdOf p s l c k slot h code a b d = q) := ⟨_, rfl⟩
  go_enter Tryd.func4, Tryd.ntmps4
  go_upto_region 1 with fail
  refine wp_at (fun W => At W w.heap.size #[.int .i64 p, .int .i64 s, .int .i64 l, .int .i64 c, .int .i64 k] 23 ∧ At W (w.heap.size + 1) h.ar 30 ∧ Below w.heap.size w W) (two_box w _ _ _ _) ?_
  rintro W ⟨P, A, z⟩
  have T := T0.keep z
  clear T0
  go_cut [15, 16] from 19 (fun x y wc => ∃ b1 : Nat, x = .pointer (some ⟨b1, 0, none⟩) ∧ y = .int .i64 cd ∧ At wc b1 kh.ar 31 ∧ At wc w.heap.size #[.int .i64 p, .int .i64 s, .int .i64 l, .int .i64 c, .int .i64 k] 23 ∧ At wc (w.heap.size + 1) h.ar 30 ∧ Tab wc ∧ Below w.heap.size w wc)
  case first =>
    have lp : ∀ w', Cls W w' → (loadVar 23 ⟨w.heap.size, 0, none⟩).run Tryd.prog w' = .ok (.agg #[.int .i64 p, .int .i64 s, .int .i64 l, .int .i64 c, .int .i64 k]) w' := ld_agg (vs := [.int .i64 p, .int .i64 s, .int .i64 l, .int .i64 c, .int .i64 k]) P Tryd.underlying23 rfl (by kernel_rfl)
    have lh : ∀ w', Cls W w' → (loadVar 30 ⟨w.heap.size + 1, 0, none⟩).run Tryd.prog w' = .ok (.agg h.ar) w' := ld_agg (vs := h.vs) A Tryd.underlying30 rfl (by kernel_rfl)
    refine wp_region_held_drew (S := Cls W) (by kernel_rfl) ⟨⟨rfl, rfl, rfl, Nat.le_refl _, fun _ _ => rfl⟩⟩ (fun hS => ?_)
    replace T := T.keep (show Below W.heap.size W W.drew from ⟨rfl, rfl, rfl, Nat.le_refl _, fun _ _ => rfl⟩)
    generalize W.drew = v0 at *
    refine tk_load (i := 0) (oi := qa0) rfl (by kernel_rfl) (by kernel_rfl) (by kernel_rfl) (fun _ _ _ h => h) (by rfl) _ _ _ rfl rfl (by assumption) hS ?_
    simp only [qa0, Act.put, List.setIfInBounds_toArray, List.set_cons_zero, List.set_cons_succ]
    refine tk_pure (i := 2) (oi := qa2) rfl (by kernel_rfl) (by kernel_rfl) (by kernel_rfl) (fun _ _ _ h => h) (by rfl) hS (fun w9 => by simp only [qa2]; go_simp; (try with_reducible rfl)) ?_
    simp only [qa2, Act.put, List.setIfInBounds_toArray, List.set_cons_zero, List.set_cons_succ]
    refine tk_load (i := 3) (oi := qa3) rfl (by kernel_rfl) (by kernel_rfl) (by kernel_rfl) (fun _ _ _ h => h) (by rfl) _ _ _ rfl rfl (by assumption) hS ?_
    simp only [qa3, Act.put, List.setIfInBounds_toArray, List.set_cons_zero, List.set_cons_succ]
    refine tk_pure (i := 5) (oi := qa5) rfl (by kernel_rfl) (by kernel_rfl) (by kernel_rfl) (fun _ _ _ h => h) (by rfl) hS (fun w9 => by simp only [qa5]; go_simp; (try with_reducible rfl)) ?_
    simp only [qa5, Act.put, List.setIfInBounds_toArray, List.set_cons_zero, List.set_cons_succ]
    refine tk_pure (i := 6) (oi := qa6) rfl (by kernel_rfl) (by kernel_rfl) (by kernel_rfl) (fun _ _ _ h => h) (by rfl) hS (fun w9 => by simp only [qa6]; go_simp; (try with_reducible rfl)) ?_
    simp only [qa6, Act.put, List.setIfInBounds_toArray, List.set_cons_zero, List.set_cons_succ]
    refine tk_pure (i := 7) (oi := qa7) rfl (by kernel_rfl) (by kernel_rfl) (by kernel_rfl) (fun _ _ _ h => h) (by rfl) hS (fun w9 => by simp only [qa7]; go_simp; (try with_reducible rfl)) ?_
    simp only [qa7, Act.put, List.setIfInBounds_toArray, List.set_cons_zero, List.set_cons_succ]
    refine tk_pure (i := 8) (oi := qa8) rfl (by kernel_rfl) (by kernel_rfl) (by kernel_rfl) (fun _ _ _ h => h) (by rfl) hS (fun w9 => by simp only [qa8]; go_simp; (try with_reducible rfl)) ?_
    simp only [qa8, Act.put, List.setIfInBounds_toArray, List.set_cons_zero, List.set_cons_succ]
    refine wpAnyH_ready (rs := [1, 13]) (by kernel_rfl) (by simp) ?_
    refine AllReadyH.cons (o := qa1) rfl (fun K hK => ?_) ?_
    · rw [if_pos (by rfl)]
      simp only [qa1]
      go_simp
      go_at_call 8
      refine (toP p s l c k _).mono ?_
      rintro e v1 ⟨rfl, hb⟩
      (go_wp2_with fail)
      replace T := T.keep hb
      have hS2 : Cls W v1 := ⟨hS.below.trans (hb.mono hS.below.size)⟩
      clear hb
      refine hK.out _ _ hS2 (fun hS => ?_)
      clear hK K
      (try simp only [qa1, Act.put, List.setIfInBounds_toArray, List.set_cons_zero, List.set_cons_succ])
      refine wpAnyH_ready (rs := [4, 13]) (by kernel_rfl) (by simp) ?_
      refine AllReadyH.cons (o := qa4) rfl (fun K hK => ?_) ?_
      · rw [if_pos (by rfl)]
        simp only [qa4]
        go_simp
        go_at_call 11
        refine (toH h _).mono ?_
        rintro e v2 ⟨rfl, hb⟩
        (go_wp2_with fail)
        replace T := T.keep hb
        have hS2 : Cls W v2 := ⟨hS.below.trans (hb.mono hS.below.size)⟩
        clear hb
        refine hK.out _ _ hS2 (fun hS => ?_)
        clear hK K
        (try simp only [qa4, Act.put, List.setIfInBounds_toArray, List.set_cons_zero, List.set_cons_succ])
        refine wpAnyH_ready (rs := [9, 13]) (by kernel_rfl) (by simp) ?_
        refine AllReadyH.cons (o := qa9) rfl (fun K hK => ?_) ?_
        · rw [if_pos (by rfl)]
          simp only [qa9]
          go_simp
          go_at_call 10
          refine (sCalled p s l c k slot h code a b d _).mono ?_
          rintro e v3 ⟨rfl, hb⟩
          rw [hk.out, hcd.out]
          (go_wp2_with fail)
          replace T := T.keep hb
          have hS2 : Cls W v3 := ⟨hS.below.trans (hb.mono hS.below.size)⟩
          clear hb
          refine hK.out _ _ hS2 (fun hS => ?_)
          clear hK K
          (try simp only [qa9, Act.put, List.setIfInBounds_toArray, List.set_cons_zero, List.set_cons_succ])
          refine tk_pure (i := 10) (oi := qa10) rfl (by kernel_rfl) (by kernel_rfl) (by kernel_rfl) (fun _ _ _ h => h) (by rfl) hS (fun w9 => by simp only [qa10]; go_simp; (try with_reducible rfl)) ?_
          simp only [qa10, Act.put, List.setIfInBounds_toArray, List.set_cons_zero, List.set_cons_succ]
          refine tk_pure (i := 11) (oi := qa11) rfl (by kernel_rfl) (by kernel_rfl) (by kernel_rfl) (fun _ _ _ h => h) (by rfl) hS (fun w9 => by simp only [qa11]; go_simp; (try with_reducible rfl)) ?_
          simp only [qa11, Act.put, List.setIfInBounds_toArray, List.set_cons_zero, List.set_cons_succ]
          refine tk_pure (i := 12) (oi := qa12) rfl (by kernel_rfl) (by kernel_rfl) (by kernel_rfl) (fun _ _ _ h => h) (by rfl) hS (fun w9 => by simp only [qa12]; go_simp; (try with_reducible rfl)) ?_
          simp only [qa12, Act.put, List.setIfInBounds_toArray, List.set_cons_zero, List.set_cons_succ]
          refine wpAnyH_ready (rs := [13]) (by kernel_rfl) (by simp) ?_
          refine AllReadyH.cons (o := qa13) rfl (fun K hK => ?_) ?_
          · rw [if_pos (by rfl)]
            simp only [qa13]
            go_simp
            have hzz : W.heap.size ≤ v3.heap.size := hS.below.size
            refine hK.out _ _ ⟨hS.below.trans (((Below.refl _ _).alloc (Nat.le_refl _) _).mono hS.below.size)⟩ (fun hS => ?_)
            clear hK K
            (try simp only [qa13, Act.put, List.setIfInBounds_toArray, List.set_cons_zero, List.set_cons_succ])
            refine any_at (fun x => At x v3.heap.size Hd.zero.ar 31 ∧ Below v3.heap.size v3 x ∧ Cls W x) ⟨At.new _ _ _, (Below.refl _ _).alloc (Nat.le_refl _) _, hS⟩ ?_
            have hz0 : W.heap.size ≤ v3.heap.size := hzz
            clear hS hzz
            rintro v4 ⟨al, hb, hS⟩
            replace T := T.keep hb
            have hge : W.heap.size ≤ v3.heap.size := hz0
            clear hb
            refine wpAnyH_ready (rs := [14]) (by kernel_rfl) (by simp) ?_
            refine AllReadyH.cons (o := qa14) rfl (fun K hK => ?_) ?_
            · rw [if_pos (by rfl)]
              refine wp_storeH (.tmp 15) (.tmp 30) rfl _ kh rfl rfl al rfl ?_
              intro v5 al2 kk
              replace T := tabKept T kk hge (Nat.lt_of_lt_of_le Nat.zero_lt_one (Nat.le_trans (Nat.succ_le_of_lt (Nat.lt_of_le_of_lt (Nat.zero_le _) P.lt)) (Nat.le_refl _)))
              have hS2 : Cls W v5 := ⟨hS.below.trans (kk.below hge hS.below.size)⟩
              refine hK.out _ _ hS2 (fun hS => ?_)
              clear hK K
              simp only [qa14, Act.put]
              refine tk_pure (i := 15) (oi := qa15) rfl (by kernel_rfl) (by kernel_rfl) (by kernel_rfl) (fun _ _ _ h => h) (by rfl) hS (fun w9 => by simp only [qa15]; go_simp; (try with_reducible rfl)) ?_
              simp only [qa15, Act.put, List.setIfInBounds_toArray, List.set_cons_zero, List.set_cons_succ]
              refine wpAnyH_done (by kernel_rfl) ?_ _
              (go_wp2_with fail)
              go_meet
              case rel => exact ⟨_, rfl, rfl, al2, P.keep hS.below, A.keep hS.below, T, z.trans (hS.below.mono z.size)⟩
            exact AllReadyH.nil
          exact AllReadyH.nil
        refine AllReadyH.cons (o := qa13) rfl (fun K hK => ?_) ?_
        · rw [if_pos (by rfl)]
          simp only [qa13]
          go_simp
          have hzz : W.heap.size ≤ v2.heap.size := hS.below.size
          refine hK.out _ _ ⟨hS.below.trans (((Below.refl _ _).alloc (Nat.le_refl _) _).mono hS.below.size)⟩ (fun hS => ?_)
          clear hK K
          (try simp only [qa13, Act.put, List.setIfInBounds_toArray, List.set_cons_zero, List.set_cons_succ])
          refine any_at (fun x => At x v2.heap.size Hd.zero.ar 31 ∧ Below v2.heap.size v2 x ∧ Cls W x) ⟨At.new _ _ _, (Below.refl _ _).alloc (Nat.le_refl _) _, hS⟩ ?_
          have hz0 : W.heap.size ≤ v2.heap.size := hzz
          clear hS hzz
          rintro v3 ⟨al, hb, hS⟩
          replace T := T.keep hb
          have hge : W.heap.size ≤ v2.heap.size := hz0
          clear hb
          refine wpAnyH_ready (rs := [9]) (by kernel_rfl) (by simp) ?_
          refine AllReadyH.cons (o := qa9) rfl (fun K hK => ?_) ?_
          · rw [if_pos (by rfl)]
            simp only [qa9]
            go_simp
            go_at_call 10
            refine (sCalled p s l c k slot h code a b d _).mono ?_
            rintro e v4 ⟨rfl, hb⟩
            rw [hk.out, hcd.out]
            (go_wp2_with fail)
            replace al := al.keep hb
            replace T := T.keep hb
            have hS2 : Cls W v4 := ⟨hS.below.trans (hb.mono hS.below.size)⟩
            clear hb
            refine hK.out _ _ hS2 (fun hS => ?_)
            clear hK K
            (try simp only [qa9, Act.put, List.setIfInBounds_toArray, List.set_cons_zero, List.set_cons_succ])
            refine tk_pure (i := 10) (oi := qa10) rfl (by kernel_rfl) (by kernel_rfl) (by kernel_rfl) (fun _ _ _ h => h) (by rfl) hS (fun w9 => by simp only [qa10]; go_simp; (try with_reducible rfl)) ?_
            simp only [qa10, Act.put, List.setIfInBounds_toArray, List.set_cons_zero, List.set_cons_succ]
            refine tk_pure (i := 11) (oi := qa11) rfl (by kernel_rfl) (by kernel_rfl) (by kernel_rfl) (fun _ _ _ h => h) (by rfl) hS (fun w9 => by simp only [qa11]; go_simp; (try with_reducible rfl)) ?_
            simp only [qa11, Act.put, List.setIfInBounds_toArray, List.set_cons_zero, List.set_cons_succ]
            refine tk_pure (i := 12) (oi := qa12) rfl (by kernel_rfl) (by kernel_rfl) (by kernel_rfl) (fun _ _ _ h => h) (by rfl) hS (fun w9 => by simp only [qa12]; go_simp; (try with_reducible rfl)) ?_
            simp only [qa12, Act.put, List.setIfInBounds_toArray, List.set_cons_zero, List.set_cons_succ]
            refine wpAnyH_ready (rs := [14]) (by kernel_rfl) (by simp) ?_
            refine AllReadyH.cons (o := qa14) rfl (fun K hK => ?_) ?_
            · rw [if_pos (by rfl)]
              refine wp_storeH (.tmp 15) (.tmp 30) rfl _ kh rfl rfl al rfl ?_
              intro v5 al2 kk
              replace T := tabKept T kk hge (Nat.lt_of_lt_of_le Nat.zero_lt_one (Nat.le_trans (Nat.succ_le_of_lt (Nat.lt_of_le_of_lt (Nat.zero_le _) P.lt)) (Nat.le_refl _)))
              have hS2 : Cls W v5 := ⟨hS.below.trans (kk.below hge hS.below.size)⟩
              refine hK.out _ _ hS2 (fun hS => ?_)
              clear hK K
              simp only [qa14, Act.put]
              refine tk_pure (i := 15) (oi := qa15) rfl (by kernel_rfl) (by kernel_rfl) (by kernel_rfl) (fun _ _ _ h => h) (by rfl) hS (fun w9 => by simp only [qa15]; go_simp; (try with_reducible rfl)) ?_
              simp only [qa15, Act.put, List.setIfInBounds_toArray, List.set_cons_zero, List.set_cons_succ]
              refine wpAnyH_done (by kernel_rfl) ?_ _
              (go_wp2_with fail)
              go_meet
              case rel => exact ⟨_, rfl, rfl, al2, P.keep hS.below, A.keep hS.below, T, z.trans (hS.below.mono z.size)⟩
            exact AllReadyH.nil
          exact AllReadyH.nil
        exact AllReadyH.nil
      refine AllReadyH.cons (o := qa13) rfl (fun K hK => ?_) ?_
      · rw [if_pos (by rfl)]
        simp only [qa13]
        go_simp
        have hzz : W.heap.size ≤ v1.heap.size := hS.below.size
        refine hK.out _ _ ⟨hS.below.trans (((Below.refl _ _).alloc (Nat.le_refl _) _).mono hS.below.size)⟩ (fun hS => ?_)
        clear hK K
        (try simp only [qa13, Act.put, List.setIfInBounds_toArray, List.set_cons_zero, List.set_cons_succ])
        refine any_at (fun x => At x v1.heap.size Hd.zero.ar 31 ∧ Below v1.heap.size v1 x ∧ Cls W x) ⟨At.new _ _ _, (Below.refl _ _).alloc (Nat.le_refl _) _, hS⟩ ?_
        have hz0 : W.heap.size ≤ v1.heap.size := hzz
        clear hS hzz
        rintro v2 ⟨al, hb, hS⟩
        replace T := T.keep hb
        have hge : W.heap.size ≤ v1.heap.size := hz0
        clear hb
        refine wpAnyH_ready (rs := [4]) (by kernel_rfl) (by simp) ?_
        refine AllReadyH.cons (o := qa4) rfl (fun K hK => ?_) ?_
        · rw [if_pos (by rfl)]
          simp only [qa4]
          go_simp
          go_at_call 11
          refine (toH h _).mono ?_
          rintro e v3 ⟨rfl, hb⟩
          (go_wp2_with fail)
          replace al := al.keep hb
          replace T := T.keep hb
          have hS2 : Cls W v3 := ⟨hS.below.trans (hb.mono hS.below.size)⟩
          clear hb
          refine hK.out _ _ hS2 (fun hS => ?_)
          clear hK K
          (try simp only [qa4, Act.put, List.setIfInBounds_toArray, List.set_cons_zero, List.set_cons_succ])
          refine wpAnyH_ready (rs := [9]) (by kernel_rfl) (by simp) ?_
          refine AllReadyH.cons (o := qa9) rfl (fun K hK => ?_) ?_
          · rw [if_pos (by rfl)]
            simp only [qa9]
            go_simp
            go_at_call 10
            refine (sCalled p s l c k slot h code a b d _).mono ?_
            rintro e v4 ⟨rfl, hb⟩
            rw [hk.out, hcd.out]
            (go_wp2_with fail)
            replace al := al.keep hb
            replace T := T.keep hb
            have hS2 : Cls W v4 := ⟨hS.below.trans (hb.mono hS.below.size)⟩
            clear hb
            refine hK.out _ _ hS2 (fun hS => ?_)
            clear hK K
            (try simp only [qa9, Act.put, List.setIfInBounds_toArray, List.set_cons_zero, List.set_cons_succ])
            refine tk_pure (i := 10) (oi := qa10) rfl (by kernel_rfl) (by kernel_rfl) (by kernel_rfl) (fun _ _ _ h => h) (by rfl) hS (fun w9 => by simp only [qa10]; go_simp; (try with_reducible rfl)) ?_
            simp only [qa10, Act.put, List.setIfInBounds_toArray, List.set_cons_zero, List.set_cons_succ]
            refine tk_pure (i := 11) (oi := qa11) rfl (by kernel_rfl) (by kernel_rfl) (by kernel_rfl) (fun _ _ _ h => h) (by rfl) hS (fun w9 => by simp only [qa11]; go_simp; (try with_reducible rfl)) ?_
            simp only [qa11, Act.put, List.setIfInBounds_toArray, List.set_cons_zero, List.set_cons_succ]
            refine tk_pure (i := 12) (oi := qa12) rfl (by kernel_rfl) (by kernel_rfl) (by kernel_rfl) (fun _ _ _ h => h) (by rfl) hS (fun w9 => by simp only [qa12]; go_simp; (try with_reducible rfl)) ?_
            simp only [qa12, Act.put, List.setIfInBounds_toArray, List.set_cons_zero, List.set_cons_succ]
            refine wpAnyH_ready (rs := [14]) (by kernel_rfl) (by simp) ?_
            refine AllReadyH.cons (o := qa14) rfl (fun K hK => ?_) ?_
            · rw [if_pos (by rfl)]
              refine wp_storeH (.tmp 15) (.tmp 30) rfl _ kh rfl rfl al rfl ?_
              intro v5 al2 kk
              replace T := tabKept T kk hge (Nat.lt_of_lt_of_le Nat.zero_lt_one (Nat.le_trans (Nat.succ_le_of_lt (Nat.lt_of_le_of_lt (Nat.zero_le _) P.lt)) (Nat.le_refl _)))
              have hS2 : Cls W v5 := ⟨hS.below.trans (kk.below hge hS.below.size)⟩
              refine hK.out _ _ hS2 (fun hS => ?_)
              clear hK K
              simp only [qa14, Act.put]
              refine tk_pure (i := 15) (oi := qa15) rfl (by kernel_rfl) (by kernel_rfl) (by kernel_rfl) (fun _ _ _ h => h) (by rfl) hS (fun w9 => by simp only [qa15]; go_simp; (try with_reducible rfl)) ?_
              simp only [qa15, Act.put, List.setIfInBounds_toArray, List.set_cons_zero, List.set_cons_succ]
              refine wpAnyH_done (by kernel_rfl) ?_ _
              (go_wp2_with fail)
              go_meet
              case rel => exact ⟨_, rfl, rfl, al2, P.keep hS.below, A.keep hS.below, T, z.trans (hS.below.mono z.size)⟩
            exact AllReadyH.nil
          exact AllReadyH.nil
        exact AllReadyH.nil
      exact AllReadyH.nil
    refine AllReadyH.cons (o := qa13) rfl (fun K hK => ?_) ?_
    · rw [if_pos (by rfl)]
      simp only [qa13]
      go_simp
      have hzz : W.heap.size ≤ v0.heap.size := hS.below.size
      refine hK.out _ _ ⟨hS.below.trans (((Below.refl _ _).alloc (Nat.le_refl _) _).mono hS.below.size)⟩ (fun hS => ?_)
      clear hK K
      (try simp only [qa13, Act.put, List.setIfInBounds_toArray, List.set_cons_zero, List.set_cons_succ])
      refine any_at (fun x => At x v0.heap.size Hd.zero.ar 31 ∧ Below v0.heap.size v0 x ∧ Cls W x) ⟨At.new _ _ _, (Below.refl _ _).alloc (Nat.le_refl _) _, hS⟩ ?_
      have hz0 : W.heap.size ≤ v0.heap.size := hzz
      clear hS hzz
      rintro v1 ⟨al, hb, hS⟩
      replace T := T.keep hb
      have hge : W.heap.size ≤ v0.heap.size := hz0
      clear hb
      refine wpAnyH_ready (rs := [1]) (by kernel_rfl) (by simp) ?_
      refine AllReadyH.cons (o := qa1) rfl (fun K hK => ?_) ?_
      · rw [if_pos (by rfl)]
        simp only [qa1]
        go_simp
        go_at_call 8
        refine (toP p s l c k _).mono ?_
        rintro e v2 ⟨rfl, hb⟩
        (go_wp2_with fail)
        replace al := al.keep hb
        replace T := T.keep hb
        have hS2 : Cls W v2 := ⟨hS.below.trans (hb.mono hS.below.size)⟩
        clear hb
        refine hK.out _ _ hS2 (fun hS => ?_)
        clear hK K
        (try simp only [qa1, Act.put, List.setIfInBounds_toArray, List.set_cons_zero, List.set_cons_succ])
        refine wpAnyH_ready (rs := [4]) (by kernel_rfl) (by simp) ?_
        refine AllReadyH.cons (o := qa4) rfl (fun K hK => ?_) ?_
        · rw [if_pos (by rfl)]
          simp only [qa4]
          go_simp
          go_at_call 11
          refine (toH h _).mono ?_
          rintro e v3 ⟨rfl, hb⟩
          (go_wp2_with fail)
          replace al := al.keep hb
          replace T := T.keep hb
          have hS2 : Cls W v3 := ⟨hS.below.trans (hb.mono hS.below.size)⟩
          clear hb
          refine hK.out _ _ hS2 (fun hS => ?_)
          clear hK K
          (try simp only [qa4, Act.put, List.setIfInBounds_toArray, List.set_cons_zero, List.set_cons_succ])
          refine wpAnyH_ready (rs := [9]) (by kernel_rfl) (by simp) ?_
          refine AllReadyH.cons (o := qa9) rfl (fun K hK => ?_) ?_
          · rw [if_pos (by rfl)]
            simp only [qa9]
            go_simp
            go_at_call 10
            refine (sCalled p s l c k slot h code a b d _).mono ?_
            rintro e v4 ⟨rfl, hb⟩
            rw [hk.out, hcd.out]
            (go_wp2_with fail)
            replace al := al.keep hb
            replace T := T.keep hb
            have hS2 : Cls W v4 := ⟨hS.below.trans (hb.mono hS.below.size)⟩
            clear hb
            refine hK.out _ _ hS2 (fun hS => ?_)
            clear hK K
            (try simp only [qa9, Act.put, List.setIfInBounds_toArray, List.set_cons_zero, List.set_cons_succ])
            refine tk_pure (i := 10) (oi := qa10) rfl (by kernel_rfl) (by kernel_rfl) (by kernel_rfl) (fun _ _ _ h => h) (by rfl) hS (fun w9 => by simp only [qa10]; go_simp; (try with_reducible rfl)) ?_
            simp only [qa10, Act.put, List.setIfInBounds_toArray, List.set_cons_zero, List.set_cons_succ]
            refine tk_pure (i := 11) (oi := qa11) rfl (by kernel_rfl) (by kernel_rfl) (by kernel_rfl) (fun _ _ _ h => h) (by rfl) hS (fun w9 => by simp only [qa11]; go_simp; (try with_reducible rfl)) ?_
            simp only [qa11, Act.put, List.setIfInBounds_toArray, List.set_cons_zero, List.set_cons_succ]
            refine tk_pure (i := 12) (oi := qa12) rfl (by kernel_rfl) (by kernel_rfl) (by kernel_rfl) (fun _ _ _ h => h) (by rfl) hS (fun w9 => by simp only [qa12]; go_simp; (try with_reducible rfl)) ?_
            simp only [qa12, Act.put, List.setIfInBounds_toArray, List.set_cons_zero, List.set_cons_succ]
            refine wpAnyH_ready (rs := [14]) (by kernel_rfl) (by simp) ?_
            refine AllReadyH.cons (o := qa14) rfl (fun K hK => ?_) ?_
            · rw [if_pos (by rfl)]
              refine wp_storeH (.tmp 15) (.tmp 30) rfl _ kh rfl rfl al rfl ?_
              intro v5 al2 kk
              replace T := tabKept T kk hge (Nat.lt_of_lt_of_le Nat.zero_lt_one (Nat.le_trans (Nat.succ_le_of_lt (Nat.lt_of_le_of_lt (Nat.zero_le _) P.lt)) (Nat.le_refl _)))
              have hS2 : Cls W v5 := ⟨hS.below.trans (kk.below hge hS.below.size)⟩
              refine hK.out _ _ hS2 (fun hS => ?_)
              clear hK K
              simp only [qa14, Act.put]
              refine tk_pure (i := 15) (oi := qa15) rfl (by kernel_rfl) (by kernel_rfl) (by kernel_rfl) (fun _ _ _ h => h) (by rfl) hS (fun w9 => by simp only [qa15]; go_simp; (try with_reducible rfl)) ?_
              simp only [qa15, Act.put, List.setIfInBounds_toArray, List.set_cons_zero, List.set_cons_succ]
              refine wpAnyH_done (by kernel_rfl) ?_ _
              (go_wp2_with fail)
              go_meet
              case rel => exact ⟨_, rfl, rfl, al2, P.keep hS.below, A.keep hS.below, T, z.trans (hS.below.mono z.size)⟩
            exact AllReadyH.nil
          exact AllReadyH.nil
        exact AllReadyH.nil
      exact AllReadyH.nil
    exact AllReadyH.nil
  case rest =>
  clear P A T z
  obtain ⟨b1, rfl, rfl, G, P, A, T, z⟩ := hcut
  obtain ⟨W, rfl⟩ : ∃ W, W = wc := ⟨_, rfl⟩
  go_upto_region 2 with fail
  go_cut [17, 18] from 19 (fun x y wc => ∃ b2 : Nat, x = .pointer (some ⟨b2, 0, none⟩) ∧ y = .int .i64 cd ∧ At wc b2 kh.ar 31 ∧ At wc w.heap.size #[.int .i64 p, .int .i64 s, .int .i64 l, .int .i64 c, .int .i64 k] 23 ∧ At wc (w.heap.size + 1) h.ar 30 ∧ At wc b1 kh.ar 31 ∧ Tab wc ∧ Below w.heap.size w wc)
  case first =>
    have lp : ∀ w', Cls W w' → (loadVar 23 ⟨w.heap.size, 0, none⟩).run Tryd.prog w' = .ok (.agg #[.int .i64 p, .int .i64 s, .int .i64 l, .int .i64 c, .int .i64 k]) w' := ld_agg (vs := [.int .i64 p, .int .i64 s, .int .i64 l, .int .i64 c, .int .i64 k]) P Tryd.underlying23 rfl (by kernel_rfl)
    have lh : ∀ w', Cls W w' → (loadVar 30 ⟨w.heap.size + 1, 0, none⟩).run Tryd.prog w' = .ok (.agg h.ar) w' := ld_agg (vs := h.vs) A Tryd.underlying30 rfl (by kernel_rfl)
    refine wp_region_held_drew (S := Cls W) (by kernel_rfl) ⟨⟨rfl, rfl, rfl, Nat.le_refl _, fun _ _ => rfl⟩⟩ (fun hS => ?_)
    replace T := T.keep (show Below W.heap.size W W.drew from ⟨rfl, rfl, rfl, Nat.le_refl _, fun _ _ => rfl⟩)
    generalize W.drew = v0 at *
    refine tk_load (i := 0) (oi := qb0) rfl (by kernel_rfl) (by kernel_rfl) (by kernel_rfl) (fun _ _ _ h => h) (by rfl) _ _ _ rfl rfl (by assumption) hS ?_
    simp only [qb0, Act.put, List.setIfInBounds_toArray, List.set_cons_zero, List.set_cons_succ]
    refine tk_pure (i := 2) (oi := qb2) rfl (by kernel_rfl) (by kernel_rfl) (by kernel_rfl) (fun _ _ _ h => h) (by rfl) hS (fun w9 => by simp only [qb2]; go_simp; (try with_reducible rfl)) ?_
    simp only [qb2, Act.put, List.setIfInBounds_toArray, List.set_cons_zero, List.set_cons_succ]
    refine tk_load (i := 3) (oi := qb3) rfl (by kernel_rfl) (by kernel_rfl) (by kernel_rfl) (fun _ _ _ h => h) (by rfl) _ _ _ rfl rfl (by assumption) hS ?_
    simp only [qb3, Act.put, List.setIfInBounds_toArray, List.set_cons_zero, List.set_cons_succ]
    refine tk_pure (i := 5) (oi := qb5) rfl (by kernel_rfl) (by kernel_rfl) (by kernel_rfl) (fun _ _ _ h => h) (by rfl) hS (fun w9 => by simp only [qb5]; go_simp; (try with_reducible rfl)) ?_
    simp only [qb5, Act.put, List.setIfInBounds_toArray, List.set_cons_zero, List.set_cons_succ]
    refine tk_pure (i := 6) (oi := qb6) rfl (by kernel_rfl) (by kernel_rfl) (by kernel_rfl) (fun _ _ _ h => h) (by rfl) hS (fun w9 => by simp only [qb6]; go_simp; (try with_reducible rfl)) ?_
    simp only [qb6, Act.put, List.setIfInBounds_toArray, List.set_cons_zero, List.set_cons_succ]
    refine tk_pure (i := 7) (oi := qb7) rfl (by kernel_rfl) (by kernel_rfl) (by kernel_rfl) (fun _ _ _ h => h) (by rfl) hS (fun w9 => by simp only [qb7]; go_simp; (try with_reducible rfl)) ?_
    simp only [qb7, Act.put, List.setIfInBounds_toArray, List.set_cons_zero, List.set_cons_succ]
    refine tk_pure (i := 8) (oi := qb8) rfl (by kernel_rfl) (by kernel_rfl) (by kernel_rfl) (fun _ _ _ h => h) (by rfl) hS (fun w9 => by simp only [qb8]; go_simp; (try with_reducible rfl)) ?_
    simp only [qb8, Act.put, List.setIfInBounds_toArray, List.set_cons_zero, List.set_cons_succ]
    refine wpAnyH_ready (rs := [1, 13]) (by kernel_rfl) (by simp) ?_
    refine AllReadyH.cons (o := qb1) rfl (fun K hK => ?_) ?_
    · rw [if_pos (by rfl)]
      simp only [qb1]
      go_simp
      go_at_call 8
      refine (toP p s l c k _).mono ?_
      rintro e v1 ⟨rfl, hb⟩
      (go_wp2_with fail)
      replace T := T.keep hb
      have hS2 : Cls W v1 := ⟨hS.below.trans (hb.mono hS.below.size)⟩
      clear hb
      refine hK.out _ _ hS2 (fun hS => ?_)
      clear hK K
      (try simp only [qb1, Act.put, List.setIfInBounds_toArray, List.set_cons_zero, List.set_cons_succ])
      refine wpAnyH_ready (rs := [4, 13]) (by kernel_rfl) (by simp) ?_
      refine AllReadyH.cons (o := qb4) rfl (fun K hK => ?_) ?_
      · rw [if_pos (by rfl)]
        simp only [qb4]
        go_simp
        go_at_call 11
        refine (toH h _).mono ?_
        rintro e v2 ⟨rfl, hb⟩
        (go_wp2_with fail)
        replace T := T.keep hb
        have hS2 : Cls W v2 := ⟨hS.below.trans (hb.mono hS.below.size)⟩
        clear hb
        refine hK.out _ _ hS2 (fun hS => ?_)
        clear hK K
        (try simp only [qb4, Act.put, List.setIfInBounds_toArray, List.set_cons_zero, List.set_cons_succ])
        refine wpAnyH_ready (rs := [9, 13]) (by kernel_rfl) (by simp) ?_
        refine AllReadyH.cons (o := qb9) rfl (fun K hK => ?_) ?_
        · rw [if_pos (by rfl)]
          simp only [qb9]
          go_simp
          go_at_call 12
          refine (iCalled p s l c k slot h code a b d _ T).mono ?_
          rintro e v3 ⟨rfl, hb⟩
          rw [hk.out, hcd.out]
          (go_wp2_with fail)
          replace T := T.keep hb
          have hS2 : Cls W v3 := ⟨hS.below.trans (hb.mono hS.below.size)⟩
          clear hb
          refine hK.out _ _ hS2 (fun hS => ?_)
          clear hK K
          (try simp only [qb9, Act.put, List.setIfInBounds_toArray, List.set_cons_zero, List.set_cons_succ])
          refine tk_pure (i := 10) (oi := qb10) rfl (by kernel_rfl) (by kernel_rfl) (by kernel_rfl) (fun _ _ _ h => h) (by rfl) hS (fun w9 => by simp only [qb10]; go_simp; (try with_reducible rfl)) ?_
          simp only [qb10, Act.put, List.setIfInBounds_toArray, List.set_cons_zero, List.set_cons_succ]
          refine tk_pure (i := 11) (oi := qb11) rfl (by kernel_rfl) (by kernel_rfl) (by kernel_rfl) (fun _ _ _ h => h) (by rfl) hS (fun w9 => by simp only [qb11]; go_simp; (try with_reducible rfl)) ?_
          simp only [qb11, Act.put, List.setIfInBounds_toArray, List.set_cons_zero, List.set_cons_succ]
          refine tk_pure (i := 12) (oi := qb12) rfl (by kernel_rfl) (by kernel_rfl) (by kernel_rfl) (fun _ _ _ h => h) (by rfl) hS (fun w9 => by simp only [qb12]; go_simp; (try with_reducible rfl)) ?_
          simp only [qb12, Act.put, List.setIfInBounds_toArray, List.set_cons_zero, List.set_cons_succ]
          refine wpAnyH_ready (rs := [13]) (by kernel_rfl) (by simp) ?_
          refine AllReadyH.cons (o := qb13) rfl (fun K hK => ?_) ?_
          · rw [if_pos (by rfl)]
            simp only [qb13]
            go_simp
            have hzz : W.heap.size ≤ v3.heap.size := hS.below.size
            refine hK.out _ _ ⟨hS.below.trans (((Below.refl _ _).alloc (Nat.le_refl _) _).mono hS.below.size)⟩ (fun hS => ?_)
            clear hK K
            (try simp only [qb13, Act.put, List.setIfInBounds_toArray, List.set_cons_zero, List.set_cons_succ])
            refine any_at (fun x => At x v3.heap.size Hd.zero.ar 31 ∧ Below v3.heap.size v3 x ∧ Cls W x) ⟨At.new _ _ _, (Below.refl _ _).alloc (Nat.le_refl _) _, hS⟩ ?_
            have hz0 : W.heap.size ≤ v3.heap.size := hzz
            clear hS hzz
            rintro v4 ⟨al, hb, hS⟩
            replace T := T.keep hb
            have hge : W.heap.size ≤ v3.heap.size := hz0
            clear hb
            refine wpAnyH_ready (rs := [14]) (by kernel_rfl) (by simp) ?_
            refine AllReadyH.cons (o := qb14) rfl (fun K hK => ?_) ?_
            · rw [if_pos (by rfl)]
              refine wp_storeH (.tmp 17) (.tmp 43) rfl _ kh rfl rfl al rfl ?_
              intro v5 al2 kk
              replace T := tabKept T kk hge (Nat.lt_of_lt_of_le Nat.zero_lt_one (Nat.le_trans (Nat.succ_le_of_lt (Nat.lt_of_le_of_lt (Nat.zero_le _) P.lt)) (Nat.le_refl _)))
              have hS2 : Cls W v5 := ⟨hS.below.trans (kk.below hge hS.below.size)⟩
              refine hK.out _ _ hS2 (fun hS => ?_)
              clear hK K
              simp only [qb14, Act.put]
              refine tk_pure (i := 15) (oi := qb15) rfl (by kernel_rfl) (by kernel_rfl) (by kernel_rfl) (fun _ _ _ h => h) (by rfl) hS (fun w9 => by simp only [qb15]; go_simp; (try with_reducible rfl)) ?_
              simp only [qb15, Act.put, List.setIfInBounds_toArray, List.set_cons_zero, List.set_cons_succ]
              refine wpAnyH_done (by kernel_rfl) ?_ _
              (go_wp2_with fail)
              go_meet
              case rel => exact ⟨_, rfl, rfl, al2, P.keep hS.below, A.keep hS.below, G.keep hS.below, T, z.trans (hS.below.mono z.size)⟩
            exact AllReadyH.nil
          exact AllReadyH.nil
        refine AllReadyH.cons (o := qb13) rfl (fun K hK => ?_) ?_
        · rw [if_pos (by rfl)]
          simp only [qb13]
          go_simp
          have hzz : W.heap.size ≤ v2.heap.size := hS.below.size
          refine hK.out _ _ ⟨hS.below.trans (((Below.refl _ _).alloc (Nat.le_refl _) _).mono hS.below.size)⟩ (fun hS => ?_)
          clear hK K
          (try simp only [qb13, Act.put, List.setIfInBounds_toArray, List.set_cons_zero, List.set_cons_succ])
          refine any_at (fun x => At x v2.heap.size Hd.zero.ar 31 ∧ Below v2.heap.size v2 x ∧ Cls W x) ⟨At.new _ _ _, (Below.refl _ _).alloc (Nat.le_refl _) _, hS⟩ ?_
          have hz0 : W.heap.size ≤ v2.heap.size := hzz
          clear hS hzz
          rintro v3 ⟨al, hb, hS⟩
          replace T := T.keep hb
          have hge : W.heap.size ≤ v2.heap.size := hz0
          clear hb
          refine wpAnyH_ready (rs := [9]) (by kernel_rfl) (by simp) ?_
          refine AllReadyH.cons (o := qb9) rfl (fun K hK => ?_) ?_
          · rw [if_pos (by rfl)]
            simp only [qb9]
            go_simp
            go_at_call 12
            refine (iCalled p s l c k slot h code a b d _ T).mono ?_
            rintro e v4 ⟨rfl, hb⟩
            rw [hk.out, hcd.out]
            (go_wp2_with fail)
            replace al := al.keep hb
            replace T := T.keep hb
            have hS2 : Cls W v4 := ⟨hS.below.trans (hb.mono hS.below.size)⟩
            clear hb
            refine hK.out _ _ hS2 (fun hS => ?_)
            clear hK K
            (try simp only [qb9, Act.put, List.setIfInBounds_toArray, List.set_cons_zero, List.set_cons_succ])
            refine tk_pure (i := 10) (oi := qb10) rfl (by kernel_rfl) (by kernel_rfl) (by kernel_rfl) (fun _ _ _ h => h) (by rfl) hS (fun w9 => by simp only [qb10]; go_simp; (try with_reducible rfl)) ?_
            simp only [qb10, Act.put, List.setIfInBounds_toArray, List.set_cons_zero, List.set_cons_succ]
            refine tk_pure (i := 11) (oi := qb11) rfl (by kernel_rfl) (by kernel_rfl) (by kernel_rfl) (fun _ _ _ h => h) (by rfl) hS (fun w9 => by simp only [qb11]; go_simp; (try with_reducible rfl)) ?_
            simp only [qb11, Act.put, List.setIfInBounds_toArray, List.set_cons_zero, List.set_cons_succ]
            refine tk_pure (i := 12) (oi := qb12) rfl (by kernel_rfl) (by kernel_rfl) (by kernel_rfl) (fun _ _ _ h => h) (by rfl) hS (fun w9 => by simp only [qb12]; go_simp; (try with_reducible rfl)) ?_
            simp only [qb12, Act.put, List.setIfInBounds_toArray, List.set_cons_zero, List.set_cons_succ]
            refine wpAnyH_ready (rs := [14]) (by kernel_rfl) (by simp) ?_
            refine AllReadyH.cons (o := qb14) rfl (fun K hK => ?_) ?_
            · rw [if_pos (by rfl)]
              refine wp_storeH (.tmp 17) (.tmp 43) rfl _ kh rfl rfl al rfl ?_
              intro v5 al2 kk
              replace T := tabKept T kk hge (Nat.lt_of_lt_of_le Nat.zero_lt_one (Nat.le_trans (Nat.succ_le_of_lt (Nat.lt_of_le_of_lt (Nat.zero_le _) P.lt)) (Nat.le_refl _)))
              have hS2 : Cls W v5 := ⟨hS.below.trans (kk.below hge hS.below.size)⟩
              refine hK.out _ _ hS2 (fun hS => ?_)
              clear hK K
              simp only [qb14, Act.put]
              refine tk_pure (i := 15) (oi := qb15) rfl (by kernel_rfl) (by kernel_rfl) (by kernel_rfl) (fun _ _ _ h => h) (by rfl) hS (fun w9 => by simp only [qb15]; go_simp; (try with_reducible rfl)) ?_
              simp only [qb15, Act.put, List.setIfInBounds_toArray, List.set_cons_zero, List.set_cons_succ]
              refine wpAnyH_done (by kernel_rfl) ?_ _
              (go_wp2_with fail)
              go_meet
              case rel => exact ⟨_, rfl, rfl, al2, P.keep hS.below, A.keep hS.below, G.keep hS.below, T, z.trans (hS.below.mono z.size)⟩
            exact AllReadyH.nil
          exact AllReadyH.nil
        exact AllReadyH.nil
      refine AllReadyH.cons (o := qb13) rfl (fun K hK => ?_) ?_
      · rw [if_pos (by rfl)]
        simp only [qb13]
        go_simp
        have hzz : W.heap.size ≤ v1.heap.size := hS.below.size
        refine hK.out _ _ ⟨hS.below.trans (((Below.refl _ _).alloc (Nat.le_refl _) _).mono hS.below.size)⟩ (fun hS => ?_)
        clear hK K
        (try simp only [qb13, Act.put, List.setIfInBounds_toArray, List.set_cons_zero, List.set_cons_succ])
        refine any_at (fun x => At x v1.heap.size Hd.zero.ar 31 ∧ Below v1.heap.size v1 x ∧ Cls W x) ⟨At.new _ _ _, (Below.refl _ _).alloc (Nat.le_refl _) _, hS⟩ ?_
        have hz0 : W.heap.size ≤ v1.heap.size := hzz
        clear hS hzz
        rintro v2 ⟨al, hb, hS⟩
        replace T := T.keep hb
        have hge : W.heap.size ≤ v1.heap.size := hz0
        clear hb
        refine wpAnyH_ready (rs := [4]) (by kernel_rfl) (by simp) ?_
        refine AllReadyH.cons (o := qb4) rfl (fun K hK => ?_) ?_
        · rw [if_pos (by rfl)]
          simp only [qb4]
          go_simp
          go_at_call 11
          refine (toH h _).mono ?_
          rintro e v3 ⟨rfl, hb⟩
          (go_wp2_with fail)
          replace al := al.keep hb
          replace T := T.keep hb
          have hS2 : Cls W v3 := ⟨hS.below.trans (hb.mono hS.below.size)⟩
          clear hb
          refine hK.out _ _ hS2 (fun hS => ?_)
          clear hK K
          (try simp only [qb4, Act.put, List.setIfInBounds_toArray, List.set_cons_zero, List.set_cons_succ])
          refine wpAnyH_ready (rs := [9]) (by kernel_rfl) (by simp) ?_
          refine AllReadyH.cons (o := qb9) rfl (fun K hK => ?_) ?_
          · rw [if_pos (by rfl)]
            simp only [qb9]
            go_simp
            go_at_call 12
            refine (iCalled p s l c k slot h code a b d _ T).mono ?_
            rintro e v4 ⟨rfl, hb⟩
            rw [hk.out, hcd.out]
            (go_wp2_with fail)
            replace al := al.keep hb
            replace T := T.keep hb
            have hS2 : Cls W v4 := ⟨hS.below.trans (hb.mono hS.below.size)⟩
            clear hb
            refine hK.out _ _ hS2 (fun hS => ?_)
            clear hK K
            (try simp only [qb9, Act.put, List.setIfInBounds_toArray, List.set_cons_zero, List.set_cons_succ])
            refine tk_pure (i := 10) (oi := qb10) rfl (by kernel_rfl) (by kernel_rfl) (by kernel_rfl) (fun _ _ _ h => h) (by rfl) hS (fun w9 => by simp only [qb10]; go_simp; (try with_reducible rfl)) ?_
            simp only [qb10, Act.put, List.setIfInBounds_toArray, List.set_cons_zero, List.set_cons_succ]
            refine tk_pure (i := 11) (oi := qb11) rfl (by kernel_rfl) (by kernel_rfl) (by kernel_rfl) (fun _ _ _ h => h) (by rfl) hS (fun w9 => by simp only [qb11]; go_simp; (try with_reducible rfl)) ?_
            simp only [qb11, Act.put, List.setIfInBounds_toArray, List.set_cons_zero, List.set_cons_succ]
            refine tk_pure (i := 12) (oi := qb12) rfl (by kernel_rfl) (by kernel_rfl) (by kernel_rfl) (fun _ _ _ h => h) (by rfl) hS (fun w9 => by simp only [qb12]; go_simp; (try with_reducible rfl)) ?_
            simp only [qb12, Act.put, List.setIfInBounds_toArray, List.set_cons_zero, List.set_cons_succ]
            refine wpAnyH_ready (rs := [14]) (by kernel_rfl) (by simp) ?_
            refine AllReadyH.cons (o := qb14) rfl (fun K hK => ?_) ?_
            · rw [if_pos (by rfl)]
              refine wp_storeH (.tmp 17) (.tmp 43) rfl _ kh rfl rfl al rfl ?_
              intro v5 al2 kk
              replace T := tabKept T kk hge (Nat.lt_of_lt_of_le Nat.zero_lt_one (Nat.le_trans (Nat.succ_le_of_lt (Nat.lt_of_le_of_lt (Nat.zero_le _) P.lt)) (Nat.le_refl _)))
              have hS2 : Cls W v5 := ⟨hS.below.trans (kk.below hge hS.below.size)⟩
              refine hK.out _ _ hS2 (fun hS => ?_)
              clear hK K
              simp only [qb14, Act.put]
              refine tk_pure (i := 15) (oi := qb15) rfl (by kernel_rfl) (by kernel_rfl) (by kernel_rfl) (fun _ _ _ h => h) (by rfl) hS (fun w9 => by simp only [qb15]; go_simp; (try with_reducible rfl)) ?_
              simp only [qb15, Act.put, List.setIfInBounds_toArray, List.set_cons_zero, List.set_cons_succ]
              refine wpAnyH_done (by kernel_rfl) ?_ _
              (go_wp2_with fail)
              go_meet
              case rel => exact ⟨_, rfl, rfl, al2, P.keep hS.below, A.keep hS.below, G.keep hS.below, T, z.trans (hS.below.mono z.size)⟩
            exact AllReadyH.nil
          exact AllReadyH.nil
        exact AllReadyH.nil
      exact AllReadyH.nil
    refine AllReadyH.cons (o := qb13) rfl (fun K hK => ?_) ?_
    · rw [if_pos (by rfl)]
      simp only [qb13]
      go_simp
      have hzz : W.heap.size ≤ v0.heap.size := hS.below.size
      refine hK.out _ _ ⟨hS.below.trans (((Below.refl _ _).alloc (Nat.le_refl _) _).mono hS.below.size)⟩ (fun hS => ?_)
      clear hK K
      (try simp only [qb13, Act.put, List.setIfInBounds_toArray, List.set_cons_zero, List.set_cons_succ])
      refine any_at (fun x => At x v0.heap.size Hd.zero.ar 31 ∧ Below v0.heap.size v0 x ∧ Cls W x) ⟨At.new _ _ _, (Below.refl _ _).alloc (Nat.le_refl _) _, hS⟩ ?_
      have hz0 : W.heap.size ≤ v0.heap.size := hzz
      clear hS hzz
      rintro v1 ⟨al, hb, hS⟩
      replace T := T.keep hb
      have hge : W.heap.size ≤ v0.heap.size := hz0
      clear hb
      refine wpAnyH_ready (rs := [1]) (by kernel_rfl) (by simp) ?_
      refine AllReadyH.cons (o := qb1) rfl (fun K hK => ?_) ?_
      · rw [if_pos (by rfl)]
        simp only [qb1]
        go_simp
        go_at_call 8
        refine (toP p s l c k _).mono ?_
        rintro e v2 ⟨rfl, hb⟩
        (go_wp2_with fail)
        replace al := al.keep hb
        replace T := T.keep hb
        have hS2 : Cls W v2 := ⟨hS.below.trans (hb.mono hS.below.size)⟩
        clear hb
        refine hK.out _ _ hS2 (fun hS => ?_)
        clear hK K
        (try simp only [qb1, Act.put, List.setIfInBounds_toArray, List.set_cons_zero, List.set_cons_succ])
        refine wpAnyH_ready (rs := [4]) (by kernel_rfl) (by simp) ?_
        refine AllReadyH.cons (o := qb4) rfl (fun K hK => ?_) ?_
        · rw [if_pos (by rfl)]
          simp only [qb4]
          go_simp
          go_at_call 11
          refine (toH h _).mono ?_
          rintro e v3 ⟨rfl, hb⟩
          (go_wp2_with fail)
          replace al := al.keep hb
          replace T := T.keep hb
          have hS2 : Cls W v3 := ⟨hS.below.trans (hb.mono hS.below.size)⟩
          clear hb
          refine hK.out _ _ hS2 (fun hS => ?_)
          clear hK K
          (try simp only [qb4, Act.put, List.setIfInBounds_toArray, List.set_cons_zero, List.set_cons_succ])
          refine wpAnyH_ready (rs := [9]) (by kernel_rfl) (by simp) ?_
          refine AllReadyH.cons (o := qb9) rfl (fun K hK => ?_) ?_
          · rw [if_pos (by rfl)]
            simp only [qb9]
            go_simp
            go_at_call 12
            refine (iCalled p s l c k slot h code a b d _ T).mono ?_
            rintro e v4 ⟨rfl, hb⟩
            rw [hk.out, hcd.out]
            (go_wp2_with fail)
            replace al := al.keep hb
            replace T := T.keep hb
            have hS2 : Cls W v4 := ⟨hS.below.trans (hb.mono hS.below.size)⟩
            clear hb
            refine hK.out _ _ hS2 (fun hS => ?_)
            clear hK K
            (try simp only [qb9, Act.put, List.setIfInBounds_toArray, List.set_cons_zero, List.set_cons_succ])
            refine tk_pure (i := 10) (oi := qb10) rfl (by kernel_rfl) (by kernel_rfl) (by kernel_rfl) (fun _ _ _ h => h) (by rfl) hS (fun w9 => by simp only [qb10]; go_simp; (try with_reducible rfl)) ?_
            simp only [qb10, Act.put, List.setIfInBounds_toArray, List.set_cons_zero, List.set_cons_succ]
            refine tk_pure (i := 11) (oi := qb11) rfl (by kernel_rfl) (by kernel_rfl) (by kernel_rfl) (fun _ _ _ h => h) (by rfl) hS (fun w9 => by simp only [qb11]; go_simp; (try with_reducible rfl)) ?_
            simp only [qb11, Act.put, List.setIfInBounds_toArray, List.set_cons_zero, List.set_cons_succ]
            refine tk_pure (i := 12) (oi := qb12) rfl (by kernel_rfl) (by kernel_rfl) (by kernel_rfl) (fun _ _ _ h => h) (by rfl) hS (fun w9 => by simp only [qb12]; go_simp; (try with_reducible rfl)) ?_
            simp only [qb12, Act.put, List.setIfInBounds_toArray, List.set_cons_zero, List.set_cons_succ]
            refine wpAnyH_ready (rs := [14]) (by kernel_rfl) (by simp) ?_
            refine AllReadyH.cons (o := qb14) rfl (fun K hK => ?_) ?_
            · rw [if_pos (by rfl)]
              refine wp_storeH (.tmp 17) (.tmp 43) rfl _ kh rfl rfl al rfl ?_
              intro v5 al2 kk
              replace T := tabKept T kk hge (Nat.lt_of_lt_of_le Nat.zero_lt_one (Nat.le_trans (Nat.succ_le_of_lt (Nat.lt_of_le_of_lt (Nat.zero_le _) P.lt)) (Nat.le_refl _)))
              have hS2 : Cls W v5 := ⟨hS.below.trans (kk.below hge hS.below.size)⟩
              refine hK.out _ _ hS2 (fun hS => ?_)
              clear hK K
              simp only [qb14, Act.put]
              refine tk_pure (i := 15) (oi := qb15) rfl (by kernel_rfl) (by kernel_rfl) (by kernel_rfl) (fun _ _ _ h => h) (by rfl) hS (fun w9 => by simp only [qb15]; go_simp; (try with_reducible rfl)) ?_
              simp only [qb15, Act.put, List.setIfInBounds_toArray, List.set_cons_zero, List.set_cons_succ]
              refine wpAnyH_done (by kernel_rfl) ?_ _
              (go_wp2_with fail)
              go_meet
              case rel => exact ⟨_, rfl, rfl, al2, P.keep hS.below, A.keep hS.below, G.keep hS.below, T, z.trans (hS.below.mono z.size)⟩
            exact AllReadyH.nil
          exact AllReadyH.nil
        exact AllReadyH.nil
      exact AllReadyH.nil
    exact AllReadyH.nil
  case rest =>
  clear P A T z G
  obtain ⟨b2, rfl, rfl, G2, P, A, G, T, z⟩ := hcut
  go_wp2_with (first
    | (refine loadHl rfl (.tmp 17) rfl b2 kh rfl G2 ?_)
    | (refine loadHl rfl (.tmp 15) rfl b1 kh rfl G ?_)
    | (go_at_call 13; refine (eqH kh _).mono ?_; rintro e w7 ⟨rfl, hb⟩; replace z := z.trans (hb.mono z.size); clear hb))
  all_goals go_ret
  all_goals exact ⟨rfl, z⟩
theorem own : ownKnob Tryd.prog.godebug = none := by kernel_rfl
theorem laidOut : laidOutB Tryd.prog = true := by kernel_rfl
theorem door_met (os : Os) (args : Array Value) : laidMetH Tryd.prog Rows.fnExactCalledRow.laid ((World.doorLaid Tryd.prog 400 os).forCall (fun _ _ => 0) ⟨#[], args, []⟩).memory :=
  laidMetH_of_parts3 (fuel := 8) (laidMet_of_run' 8 (by kernel_rfl) (by kernel_rfl)) (by kernel_rfl) (by kernel_rfl)
set_option maxRecDepth 100000 in
theorem lifted (os : Os) (started : os.Started) (H : Type) (enc : TypeId × Value → H) :
    ReturnsInHanded {} Tryd.checked os 4 .any (fun w args => (Rows.fnExactCalledSpec.pre enc Tryd.prog Tryd.f4 [] false w args ∧ laidMetH Tryd.prog Rows.fnExactCalledRow.laid w) ∧ sizedMet enc Tryd.prog Tryd.f4 (OpenSpec.ofChange Rows.fnExactCalledSpec) false w args) (Rows.fnExactCalledSpec.post enc Tryd.prog Tryd.f4 false true false false) := by
  refine returnsInHanded_of_change_and (C := Tryd.checked) (X := fun w _ => laidMetH Tryd.prog Rows.fnExactCalledRow.laid w) (fun _ _ _ hh h => h.of_heap hh) own started (by kernel_rfl) Tryd.func4
    (ChangeSpec.witness_shaped (enc := enc) (C := Tryd.checked) (os := os) (X := fun w _ => laidMetH Tryd.prog Rows.fnExactCalledRow.laid w) false (World.doorLaid Tryd.prog 400 os) #[.agg #[.int .i64 0, .int .i64 0, .int .i64 0, .int .i64 0, .int .i64 0], .int .i64 0, .agg #[.bool false, .bool false, .bool false, .bool false, .int .i64 0, .int .i64 0, .int .i64 0, .int .i64 0, .int .i64 0, .int .i64 0, .int .i64 0, .int .i64 0, .int .i64 0, .int .i64 0, .int .i64 0, .int .u64 0, .int .u64 0, .int .i64 0, .int .i64 0, .int .i64 0, .int .i64 0, .int .i64 0, .int .i64 0, .int .i64 0, .int .i64 0, .int .i64 0, .int .i64 0, .int .i64 0, .int .i64 0, .int .i64 0, .int .i64 0, .int .i64 0, .int .i64 0, .int .i64 0, .int .i64 0, .int .i64 0], .int .i64 0, .int .i64 0, .int .i64 0, .int .i64 0] 8 rfl (World.shaped_of_RefB (by kernel_rfl) (by kernel_rfl)) (by kernel_rfl) (by kernel_rfl) (by kernel_rfl) (door_met os _)) ?_
  intro W base args ds gs before hval0 hW _ _ hL _
  have hT : Tab W := tab_of hL
  have hval : ∀ (j : Nat) t v, Tryd.f4.params[j]? = some t → args[j]? = some v → Value.okWide Tryd.prog W .any base t v := hval0
  have hW' := hW
  obtain ⟨p, q, hA0, hV, rfl, hfz, hnd⟩ := hW
  have hA : DataW.TrodAll enc Tryd.prog W 0 (fun _ => true) true Tryd.f4.params.toList args.toList ds p := hA0
  rw [Tryd.params4] at hA hval
  obtain ⟨v0, vs0, d0, ds0, p0, q0, hargs, rfl, rfl, h0, r0⟩ := trodAll_cons hA
  obtain ⟨v1, vs1, d1, ds1, p1, q1, rfl, rfl, rfl, h1, r1⟩ := trodAll_cons r0
  obtain ⟨v2, vs2, d2, ds2, p2, q2, rfl, rfl, rfl, h2, r2⟩ := trodAll_cons r1
  obtain ⟨v3, vs3, d3, ds3, p3, q3, rfl, rfl, rfl, h3, r3⟩ := trodAll_cons r2
  obtain ⟨v4, vs4, d4, ds4, p4, q4, rfl, rfl, rfl, h4, r4⟩ := trodAll_cons r3
  obtain ⟨v5, vs5, d5, ds5, p5, q5, rfl, rfl, rfl, h5, r5⟩ := trodAll_cons r4
  obtain ⟨v6, vs6, d6, ds6, p6, q6, rfl, rfl, rfl, h6, r6⟩ := trodAll_cons r5
  obtain ⟨rfl, rfl, rfl⟩ := trodAll_nil r6
  obtain rfl : args = #[v0, v1, v2, v3, v4, v5, v6] := by cases args; simp_all
  obtain ⟨_, _, _, _, g1, _, rfl, -, -, -, -, -⟩ := trodVars_one hV
  have k0 := h0
  have lt0 : ∀ x ∈ p0, x.block < W.heap.size := by obtain ⟨m, hm⟩ := k0; exact DataW.trod_lt m _ _ _ hm
  obtain ⟨zs0, hl0, hv0, bd0⟩ := open_i64s Tryd.underlying23 (by kernel_rfl) (by kernel_rfl) (i64Fields_of (by kernel_rfl)) (hval 0 23 v0 rfl rfl) h0
  obtain ⟨n0_0, n0_1, n0_2, n0_3, n0_4, rfl, rfl⟩ := agg5 (hl0.trans rfl) hv0
  have b0_0 := bd0 n0_0 (by simp)
  have b0_1 := bd0 n0_1 (by simp)
  have b0_2 := bd0 n0_2 (by simp)
  have b0_3 := bd0 n0_3 (by simp)
  have b0_4 := bd0 n0_4 (by simp)
  have k1 := h1
  have lt1 : ∀ x ∈ p1, x.block < W.heap.size := by obtain ⟨m, hm⟩ := k1; exact DataW.trod_lt m _ _ _ hm
  obtain ⟨a1, rfl, rfl, rfl, w1⟩ := open_int Tryd.underlying2 (hval 1 2 v1 rfl rfl) h1
  have b1 := bounds_i64 w1
  have k2 := h2
  have lt2 : ∀ x ∈ p2, x.block < W.heap.size := by obtain ⟨m, hm⟩ := k2; exact DataW.trod_lt m _ _ _ hm
  obtain ⟨cs2, hz2, hv2, hb2, hu2, hi2⟩ := open_mixed Tryd.underlying30 (by kernel_rfl) (by kernel_rfl) (by kernel_rfl) (hval 2 30 v2 rfl rfl) h2
  obtain ⟨hd2, rfl⟩ := hand_of (hz2.trans rfl) hv2 hb2 hu2 hi2
  have k3 := h3
  have lt3 : ∀ x ∈ p3, x.block < W.heap.size := by obtain ⟨m, hm⟩ := k3; exact DataW.trod_lt m _ _ _ hm
  obtain ⟨a3, rfl, rfl, rfl, w3⟩ := open_int Tryd.underlying2 (hval 3 2 v3 rfl rfl) h3
  have b3 := bounds_i64 w3
  have k4 := h4
  have lt4 : ∀ x ∈ p4, x.block < W.heap.size := by obtain ⟨m, hm⟩ := k4; exact DataW.trod_lt m _ _ _ hm
  obtain ⟨a4, rfl, rfl, rfl, w4⟩ := open_int Tryd.underlying2 (hval 4 2 v4 rfl rfl) h4
  have b4 := bounds_i64 w4
  have k5 := h5
  have lt5 : ∀ x ∈ p5, x.block < W.heap.size := by obtain ⟨m, hm⟩ := k5; exact DataW.trod_lt m _ _ _ hm
  obtain ⟨a5, rfl, rfl, rfl, w5⟩ := open_int Tryd.underlying2 (hval 5 2 v5 rfl rfl) h5
  have b5 := bounds_i64 w5
  have k6 := h6
  have lt6 : ∀ x ∈ p6, x.block < W.heap.size := by obtain ⟨m, hm⟩ := k6; exact DataW.trod_lt m _ _ _ hm
  obtain ⟨a6, rfl, rfl, rfl, w6⟩ := open_int Tryd.underlying2 (hval 6 2 v6 rfl rfl) h6
  have b6 := bounds_i64 w6
  clear hA0 hval0
  refine (walk n0_0 n0_1 n0_2 n0_3 n0_4 b0_0 b0_1 b0_2 b0_3 b0_4 a1 b1.1 b1.2 hd2 a3 b3.1 b3.2 a4 b4.1 b4.2 a5 b5.1 b5.2 a6 b6.1 b6.2 W hT).mono fun e W' ⟨he, bel⟩ => ?_
  subst he
  exact ⟨_, rfl, _, _, _, [], _, q, hW', trodAll_mk1 (shut_bool Tryd.underlying4 _), (trodAll_cons_mk (Below.trod laidOut (by kernel_rfl) (of_decide_eq_true (by kernel_rfl)) k0 bel lt0) (trodAll_cons_mk (Below.trod laidOut (by kernel_rfl) (of_decide_eq_true (by kernel_rfl)) k1 bel lt1) (trodAll_cons_mk (Below.trod laidOut (by kernel_rfl) (of_decide_eq_true (by kernel_rfl)) k2 bel lt2) (trodAll_cons_mk (Below.trod laidOut (by kernel_rfl) (of_decide_eq_true (by kernel_rfl)) k3 bel lt3) (trodAll_cons_mk (Below.trod laidOut (by kernel_rfl) (of_decide_eq_true (by kernel_rfl)) k4 bel lt4) (trodAll_cons_mk (Below.trod laidOut (by kernel_rfl) (of_decide_eq_true (by kernel_rfl)) k5 bel lt5) (trodAll_cons_mk (Below.trod laidOut (by kernel_rfl) (of_decide_eq_true (by kernel_rfl)) k6 bel lt6) trodAll_mk0))))))), bel.trodVars laidOut (by kernel_rfl) hV, bel.frame _, fun h => by cases h⟩

theorem over : Rows.fnExactCalledRow.holds Tryd.pinned (OpenSpec.ofChange Rows.fnExactCalledSpec) :=
  OpenClaim.holds_of_wide 4 Tryd.f4 rfl rfl rfl rfl rfl rfl rfl ⟨rfl, rfl, rfl, rfl, rfl⟩ rfl rfl rfl rfl rfl (by kernel_rfl) Tryd.func4 (by kernel_rfl)
    (of_decide_eq_true (by kernel_rfl)) (by unfold Func.isWrapper; first | (rw [if_pos (by decide +kernel)]; kernel_rfl) | (rw [if_neg (by decide +kernel)]; exact ⟨rfl, rfl⟩))
    (fun os started H enc _ => lifted os started H enc)
end Go.Proofs.YtooljeddnfkphaaDoor.fnExactCalled
namespace Go.Proofs.YtooljeddnfkphaaDoor
theorem fnExactCalled_holds : Rows.FnExactCalledCardSaid :=
  Claim7.holds_tied_plain_at .later [] [.data] true (true, "3ddbba69d75453e8ebdcc82602b6e950f2dd2c885e3312f33a2f525e7fb05687") false
    fnExactCalled.over (fun _ h => by cases h) (by kernel_rfl) (fun _ h => by cases h) fnExactCalled_row_tie rfl ⟨rfl, rfl⟩ (by kernel_rfl) rfl
    (fun f fn hf hfn => by
      obtain rfl : f = 4 := Option.some.inj ((show Tryd.prog.funcNamed "loop.example/g00650/laws.FnExactCalled" = some 4 by kernel_rfl).symm.trans hf) |>.symm
      obtain rfl : fn = Tryd.f4 := (Option.some.inj (Tryd.func4.symm.trans hfn)).symm
      exact ⟨by kernel_rfl, fun j t ht => by
        rw [Tryd.params4] at ht
        rcases j with _ | _ | _ | _ | _ | _ | _ | j
        · obtain rfl : t = 23 := by simpa using ht.symm
          exact (show Tryd.prog.wantsStandIn 23 = false by kernel_rfl)
        · obtain rfl : t = 2 := by simpa using ht.symm
          exact (show Tryd.prog.wantsStandIn 2 = false by kernel_rfl)
        · obtain rfl : t = 30 := by simpa using ht.symm
          exact (show Tryd.prog.wantsStandIn 30 = false by kernel_rfl)
        · obtain rfl : t = 2 := by simpa using ht.symm
          exact (show Tryd.prog.wantsStandIn 2 = false by kernel_rfl)
        · obtain rfl : t = 2 := by simpa using ht.symm
          exact (show Tryd.prog.wantsStandIn 2 = false by kernel_rfl)
        · obtain rfl : t = 2 := by simpa using ht.symm
          exact (show Tryd.prog.wantsStandIn 2 = false by kernel_rfl)
        · obtain rfl : t = 2 := by simpa using ht.symm
          exact (show Tryd.prog.wantsStandIn 2 = false by kernel_rfl)
        · simp at ht⟩)
    (by kernel_rfl)
#print axioms fnExactCalled_holds
end Go.Proofs.YtooljeddnfkphaaDoor
