/-
  At every argument QueueStep answers as the specification; its arguments stay; its answer owns its memory. No condition.
-/
import Derived.Test.YtgmoemjiffglbaaGreatMr
import Derived.Test.YtgmoemjiffglbaaGreatRows
import Derived.WalkKit
import Derived.ProofKit
import Derived.OpenShut
import Derived.ChangeOld
import Derived.Below
import Derived.Lib.SmallJoins
namespace Go.Proofs.YtgmoemjiffglbaaGreat.fnExactQueueStep
open Go.ChangeShapes Go.WideShapes Go.ChangeAt Go.RowKit
set_option linter.unusedVariables false
set_option maxRecDepth 100000
def qa0 : Oper := { dst := some 23, op := Op.load 23 (Operand.tmp 4), type := 23, pos := "exact.go:2742", after := #[], guard := none }
def qa1 : Oper := { dst := some 24, op := Op.call { callee := Callee.value (Operand.func 5), args := #[Operand.tmp 23], argTypes := #[23] }, type := 35, pos := "exact.go:2742", after := #[{ on := 0, ground := Ground.data }], guard := none }
def qa2 : Oper := { dst := some 25, op := Op.move (Operand.tmp 1), type := 24, pos := "exact.go:2742", after := #[], guard := none }
def qa3 : Oper := { dst := some 26, op := Op.call { callee := Callee.value (Operand.func 6), args := #[Operand.tmp 25], argTypes := #[24] }, type := 24, pos := "exact.go:2742", after := #[{ on := 2, ground := Ground.data }, { on := 1, ground := Ground.chain }], guard := none }
def qa4 : Oper := { dst := some 27, op := Op.move (Operand.tmp 2), type := 2, pos := "exact.go:2742", after := #[], guard := none }
def qa5 : Oper := { dst := some 28, op := Op.load 27 (Operand.tmp 7), type := 27, pos := "exact.go:2742", after := #[], guard := none }
def qa6 : Oper := { dst := some 29, op := Op.call { callee := Callee.value (Operand.func 7), args := #[Operand.tmp 28], argTypes := #[27] }, type := 28, pos := "exact.go:2742", after := #[{ on := 5, ground := Ground.data }, { on := 3, ground := Ground.chain }], guard := none }
def qa7 : Oper := { dst := some 30, op := Op.call { callee := Callee.value (Operand.func 4), args := #[Operand.tmp 24, Operand.tmp 26, Operand.tmp 27, Operand.tmp 29], argTypes := #[35, 24, 2, 28] }, type := 33, pos := "exact.go:2742", after := #[{ on := 1, ground := Ground.data }, { on := 3, ground := Ground.data }, { on := 4, ground := Ground.data }, { on := 6, ground := Ground.data }, { on := 6, ground := Ground.chain }], guard := none }
def qa8 : Oper := { dst := some 22, op := Op.move (Operand.tmp 30), type := 33, pos := "exact.go:2742", after := #[{ on := 7, ground := Ground.data }], guard := none }
def qa9 : Oper := { dst := some 31, op := Op.extract (Operand.tmp 22) 0, type := 32, pos := "exact.go:2742", after := #[{ on := 8, ground := Ground.data }], guard := none }
def qa10 : Oper := { dst := some 32, op := Op.extract (Operand.tmp 22) 1, type := 4, pos := "exact.go:2742", after := #[{ on := 8, ground := Ground.data }, { on := 12, ground := Ground.gcOnly Departure.lateStores }], guard := none }
def qa11 : Oper := { dst := some 9, op := Op.alloc 32, type := 0, pos := "exact.go:2742", after := #[], guard := none }
def qa12 : Oper := { dst := none, op := Op.store 32 (Operand.tmp 9) (Operand.tmp 31), type := 0, pos := "exact.go:2742", after := #[{ on := 11, ground := Ground.data }, { on := 9, ground := Ground.data }, { on := 7, ground := Ground.chain }, { on := 0, ground := Ground.phase }, { on := 1, ground := Ground.phase }, { on := 2, ground := Ground.phase }, { on := 3, ground := Ground.phase }, { on := 4, ground := Ground.phase }, { on := 5, ground := Ground.phase }, { on := 6, ground := Ground.phase }, { on := 7, ground := Ground.phase }, { on := 8, ground := Ground.phase }, { on := 9, ground := Ground.phase }, { on := 10, ground := Ground.textOnly Departure.lateStores }, { on := 11, ground := Ground.phase }], guard := none }
def qa13 : Oper := { dst := some 10, op := Op.assign (Operand.tmp 32), type := 4, pos := "exact.go:2742", after := #[{ on := 10, ground := Ground.data }, { on := 12, ground := Ground.chain }, { on := 0, ground := Ground.phase }, { on := 1, ground := Ground.phase }, { on := 2, ground := Ground.phase }, { on := 3, ground := Ground.phase }, { on := 4, ground := Ground.phase }, { on := 5, ground := Ground.phase }, { on := 6, ground := Ground.phase }, { on := 7, ground := Ground.phase }, { on := 8, ground := Ground.phase }, { on := 9, ground := Ground.phase }, { on := 10, ground := Ground.phase }, { on := 11, ground := Ground.phase }, { on := 12, ground := Ground.phase }], guard := none }
def qb0 : Oper := { dst := some 36, op := Op.load 23 (Operand.tmp 4), type := 23, pos := "exact.go:2744", after := #[], guard := none }
def qb1 : Oper := { dst := some 37, op := Op.call { callee := Callee.value (Operand.func 5), args := #[Operand.tmp 36], argTypes := #[23] }, type := 35, pos := "exact.go:2744", after := #[{ on := 0, ground := Ground.data }], guard := none }
def qb2 : Oper := { dst := some 38, op := Op.move (Operand.tmp 11), type := 24, pos := "exact.go:2744", after := #[], guard := none }
def qb3 : Oper := { dst := some 39, op := Op.move (Operand.tmp 2), type := 2, pos := "exact.go:2744", after := #[], guard := none }
def qb4 : Oper := { dst := some 40, op := Op.load 27 (Operand.tmp 7), type := 27, pos := "exact.go:2744", after := #[], guard := none }
def qb5 : Oper := { dst := some 41, op := Op.call { callee := Callee.value (Operand.func 7), args := #[Operand.tmp 40], argTypes := #[27] }, type := 28, pos := "exact.go:2744", after := #[{ on := 4, ground := Ground.data }, { on := 1, ground := Ground.chain }], guard := none }
def qb6 : Oper := { dst := some 42, op := Op.call { callee := Callee.value (Operand.func 8), args := #[Operand.tmp 37, Operand.tmp 38, Operand.tmp 39, Operand.tmp 41], argTypes := #[35, 24, 2, 28] }, type := 33, pos := "exact.go:2744", after := #[{ on := 1, ground := Ground.data }, { on := 2, ground := Ground.data }, { on := 3, ground := Ground.data }, { on := 5, ground := Ground.data }, { on := 5, ground := Ground.chain }], guard := none }
def qb7 : Oper := { dst := some 35, op := Op.move (Operand.tmp 42), type := 33, pos := "exact.go:2744", after := #[{ on := 6, ground := Ground.data }], guard := none }
def qb8 : Oper := { dst := some 43, op := Op.extract (Operand.tmp 35) 0, type := 32, pos := "exact.go:2744", after := #[{ on := 7, ground := Ground.data }], guard := none }
def qb9 : Oper := { dst := some 44, op := Op.extract (Operand.tmp 35) 1, type := 4, pos := "exact.go:2744", after := #[{ on := 7, ground := Ground.data }, { on := 11, ground := Ground.gcOnly Departure.lateStores }], guard := none }
def qb10 : Oper := { dst := some 12, op := Op.alloc 32, type := 0, pos := "exact.go:2744", after := #[], guard := none }
def qb11 : Oper := { dst := none, op := Op.store 32 (Operand.tmp 12) (Operand.tmp 43), type := 0, pos := "exact.go:2744", after := #[{ on := 10, ground := Ground.data }, { on := 8, ground := Ground.data }, { on := 6, ground := Ground.chain }, { on := 0, ground := Ground.phase }, { on := 1, ground := Ground.phase }, { on := 2, ground := Ground.phase }, { on := 3, ground := Ground.phase }, { on := 4, ground := Ground.phase }, { on := 5, ground := Ground.phase }, { on := 6, ground := Ground.phase }, { on := 7, ground := Ground.phase }, { on := 8, ground := Ground.phase }, { on := 9, ground := Ground.textOnly Departure.lateStores }, { on := 10, ground := Ground.phase }], guard := none }
def qb12 : Oper := { dst := some 13, op := Op.assign (Operand.tmp 44), type := 4, pos := "exact.go:2744", after := #[{ on := 9, ground := Ground.data }, { on := 11, ground := Ground.chain }, { on := 0, ground := Ground.phase }, { on := 1, ground := Ground.phase }, { on := 2, ground := Ground.phase }, { on := 3, ground := Ground.phase }, { on := 4, ground := Ground.phase }, { on := 5, ground := Ground.phase }, { on := 6, ground := Ground.phase }, { on := 7, ground := Ground.phase }, { on := 8, ground := Ground.phase }, { on := 9, ground := Ground.phase }, { on := 10, ground := Ground.phase }, { on := 11, ground := Ground.phase }], guard := none }
def qc0 : Oper := { dst := some 87, op := Op.load 23 (Operand.tmp 4), type := 23, pos := "exact.go:2766", after := #[], guard := none }
def qc1 : Oper := { dst := some 88, op := Op.call { callee := Callee.value (Operand.func 5), args := #[Operand.tmp 87], argTypes := #[23] }, type := 35, pos := "exact.go:2766", after := #[{ on := 0, ground := Ground.data }], guard := none }
def qc2 : Oper := { dst := some 89, op := Op.move (Operand.tmp 1), type := 24, pos := "exact.go:2766", after := #[], guard := none }
def qc3 : Oper := { dst := some 90, op := Op.call { callee := Callee.value (Operand.func 6), args := #[Operand.tmp 89], argTypes := #[24] }, type := 24, pos := "exact.go:2766", after := #[{ on := 2, ground := Ground.data }, { on := 1, ground := Ground.chain }], guard := none }
def qc4 : Oper := { dst := some 91, op := Op.move (Operand.tmp 2), type := 2, pos := "exact.go:2766", after := #[], guard := none }
def qc5 : Oper := { dst := some 92, op := Op.load 27 (Operand.tmp 7), type := 27, pos := "exact.go:2766", after := #[], guard := none }
def qc6 : Oper := { dst := some 93, op := Op.call { callee := Callee.value (Operand.func 7), args := #[Operand.tmp 92], argTypes := #[27] }, type := 28, pos := "exact.go:2766", after := #[{ on := 5, ground := Ground.data }, { on := 3, ground := Ground.chain }], guard := none }
def qc7 : Oper := { dst := some 94, op := Op.call { callee := Callee.value (Operand.func 8), args := #[Operand.tmp 88, Operand.tmp 90, Operand.tmp 91, Operand.tmp 93], argTypes := #[35, 24, 2, 28] }, type := 33, pos := "exact.go:2766", after := #[{ on := 1, ground := Ground.data }, { on := 3, ground := Ground.data }, { on := 4, ground := Ground.data }, { on := 6, ground := Ground.data }, { on := 6, ground := Ground.chain }], guard := none }
def qc8 : Oper := { dst := some 86, op := Op.move (Operand.tmp 94), type := 33, pos := "exact.go:2766", after := #[{ on := 7, ground := Ground.data }], guard := none }
def qc9 : Oper := { dst := some 95, op := Op.extract (Operand.tmp 86) 0, type := 32, pos := "exact.go:2766", after := #[{ on := 8, ground := Ground.data }], guard := none }
def qc10 : Oper := { dst := some 96, op := Op.extract (Operand.tmp 86) 1, type := 4, pos := "exact.go:2766", after := #[{ on := 8, ground := Ground.data }, { on := 12, ground := Ground.gcOnly Departure.lateStores }], guard := none }
def qc11 : Oper := { dst := some 17, op := Op.alloc 32, type := 0, pos := "exact.go:2766", after := #[], guard := none }
def qc12 : Oper := { dst := none, op := Op.store 32 (Operand.tmp 17) (Operand.tmp 95), type := 0, pos := "exact.go:2766", after := #[{ on := 11, ground := Ground.data }, { on := 9, ground := Ground.data }, { on := 7, ground := Ground.chain }, { on := 0, ground := Ground.phase }, { on := 1, ground := Ground.phase }, { on := 2, ground := Ground.phase }, { on := 3, ground := Ground.phase }, { on := 4, ground := Ground.phase }, { on := 5, ground := Ground.phase }, { on := 6, ground := Ground.phase }, { on := 7, ground := Ground.phase }, { on := 8, ground := Ground.phase }, { on := 9, ground := Ground.phase }, { on := 10, ground := Ground.textOnly Departure.lateStores }, { on := 11, ground := Ground.phase }], guard := none }
def qc13 : Oper := { dst := some 18, op := Op.assign (Operand.tmp 96), type := 4, pos := "exact.go:2766", after := #[{ on := 10, ground := Ground.data }, { on := 12, ground := Ground.chain }, { on := 0, ground := Ground.phase }, { on := 1, ground := Ground.phase }, { on := 2, ground := Ground.phase }, { on := 3, ground := Ground.phase }, { on := 4, ground := Ground.phase }, { on := 5, ground := Ground.phase }, { on := 6, ground := Ground.phase }, { on := 7, ground := Ground.phase }, { on := 8, ground := Ground.phase }, { on := 9, ground := Ground.phase }, { on := 10, ground := Ground.phase }, { on := 11, ground := Ground.phase }, { on := 12, ground := Ground.phase }], guard := none }
theorem any_at {P : Program} {md : Region.Mode} {ops : Array Oper} {Q : Exit → Act → World → Prop} {S : World → Prop} {fuel : Nat} {listed : Array Bool} {a : Act} {W : World} (R : World → Prop) (r : R W) (h : ∀ w, R w → wpAnyH P md ops Q S fuel listed a w) : wpAnyH P md ops Q S fuel listed a W := h W r
set_option maxHeartbeats 32000000 in
theorem walk (p s l c k : Int) (b0 : -9223372036854775808 ≤ p ∧ p ≤ 9223372036854775807) (b1 : -9223372036854775808 ≤ s ∧ s ≤ 9223372036854775807) (b2 : -9223372036854775808 ≤ l ∧ l ≤ 9223372036854775807) (b3 : -9223372036854775808 ≤ c ∧ c ≤ 9223372036854775807) (b4 : -9223372036854775808 ≤ k ∧ k ≤ 9223372036854775807) (a : Option Addr) (len cap : Nat) (zs : List Int) (me : Int) (m0 : -9223372036854775808 ≤ me) (m1 : me ≤ 9223372036854775807) (h : Hd) (hsn : 0 ≤ h.seen ∧ h.seen ≤ 18446744073709551615) (hpt : 0 ≤ h.put ∧ h.put ≤ 18446744073709551615) (w : World) (hr : IsRow .u64 w a len cap zs) :
    Calls Tryz.prog 3 #[.agg #[.int .i64 p, .int .i64 s, .int .i64 l, .int .i64 c, .int .i64 k], .slice a len cap, .int .i64 me, .agg h.ar] w fun e w' => e = .returned (.bool true) ∧ Below w.heap.size w w' := by
  obtain ⟨hs, hbd, hlen⟩ := hr.src
  clear hr b0 b1 b2 b3 b4
  by_cases hl : (1048576 : Int) < len
  · go_enter Tryz.func3, Tryz.ntmps3
    go_wp2
    go_ret
    exact ⟨rfl, by go_grown⟩
  have hn : len ≤ 1048576 := by omega
  generalize zs.take len = xs at hs hbd
  have hlo : ∀ b o, a = some ⟨b, o, none⟩ → 0 < len → b < w.heap.size := by
    rintro b o rfl h0
    rcases hs.2 with h1 | ⟨b', o', e, hl, _⟩
    · omega
    · cases e; exact hl
  obtain ⟨R, hR⟩ : ∃ q, Hid (ans11 p s l c k len xs me h = q) := ⟨_, rfl⟩
  have hRl : R.xs.length ≤ 1048576 := by
    have := ans11_len p s l c k len xs me h hs.1 hsn.1 hpt hbd
    rw [hR.out] at this
    omega
  have CS : Hid (∀ g cc w, Ws w g len cc xs → Calls Tryz.prog 4 #[.agg #[.int .i64 p, .int .i64 s, .int .i64 l, .int .i64 c, .int .i64 k], .slice (some ⟨g, 0, none⟩) len cc, .int .i64 me, .agg h.ar] w (OutR w R)) := by
    intro g cc w G
    rw [← hR.out]
    exact sQueS p s l c k g len cc xs me h w G (by omega) hsn hpt
  have CI : Hid (∀ g cc w, Ws w g len cc xs → Calls Tryz.prog 8 #[.agg #[.int .i64 p, .int .i64 s, .int .i64 l, .int .i64 c, .int .i64 k], .slice (some ⟨g, 0, none⟩) len cc, .int .i64 me, .agg h.ar] w (OutR w R)) := by
    intro g cc w G
    rw [← hR.out]
    exact iQueS p s l c k g len cc xs me h w G (by omega) hsn hpt
  clear hR hsn hpt m0 m1
  go_enter Tryz.func3, Tryz.ntmps3
  go_upto_region 1 with fail
  refine wp_at (fun W => At W w.heap.size #[.int .i64 p, .int .i64 s, .int .i64 l, .int .i64 c, .int .i64 k] 23 ∧ At W (w.heap.size + 1) h.ar 27 ∧ Below w.heap.size w W) (two_box w _ _ _ _) ?_
  rintro W ⟨P, A, z⟩
  replace hs := hs.keep z
  have hPW := A.lt
  go_upto_region 3 with fail
  go_cut [9, 10] from 19 (fun x y wc => ∃ (b : Nat) (a : Option Addr) (n c : Nat), x = .pointer (some ⟨b, 0, none⟩) ∧ y = .bool R.is ∧ DoneAt wc W.heap.size wc.heap.size b a n c R.xs R.h R.d ∧ Below W.heap.size W wc)
  case first =>
    have lp : ∀ w', Cls W w' → (loadVar 23 ⟨w.heap.size, 0, none⟩).run Tryz.prog w' = .ok (.agg #[.int .i64 p, .int .i64 s, .int .i64 l, .int .i64 c, .int .i64 k]) w' := ld_agg (vs := [.int .i64 p, .int .i64 s, .int .i64 l, .int .i64 c, .int .i64 k]) P Tryz.underlying23 rfl (by kernel_rfl)
    have lh : ∀ w', Cls W w' → (loadVar 27 ⟨w.heap.size + 1, 0, none⟩).run Tryz.prog w' = .ok (.agg h.ar) w' := ld_agg (vs := h.vs) A Tryz.underlying27 rfl (by kernel_rfl)
    refine wp_region_held_drew (S := Cls W) (by kernel_rfl) ⟨⟨rfl, rfl, rfl, Nat.le_refl _, fun _ _ => rfl⟩⟩ (fun hS => ?_)
    generalize W.drew = v0 at *
    refine tkL (i := 0) (oi := qa0) hS rfl rfl (by assumption) ?_
    simp only [qa0, Act.put, nzA, nzB, nzC]
    refine tkP (i := 2) (oi := qa2) hS (fun w9 => by simp only [qa2]; go_simp; (try with_reducible rfl)) ?_
    simp only [qa2, Act.put, nzA, nzB, nzC]
    refine tkP (i := 4) (oi := qa4) hS (fun w9 => by simp only [qa4]; go_simp; (try with_reducible rfl)) ?_
    simp only [qa4, Act.put, nzA, nzB, nzC]
    refine tkL (i := 5) (oi := qa5) hS rfl rfl (by assumption) ?_
    simp only [qa5, Act.put, nzA, nzB, nzC]
    refine wpAnyH_ready (rs := [1, 11]) (by kernel_rfl) (by simp) ?_
    refine AllReadyH.cons (o := qa1) rfl (fun K hK => ?_) ?_
    · rw [if_pos (by rfl)]
      simp only [qa1]
      go_simp
      go_at_call 5
      refine (toP p s l c k _).mono ?_
      rintro e v1 ⟨rfl, hb⟩
      (go_wp2_with fail)
      have hS2 : Cls W v1 := ⟨hS.below.trans (hb.mono hS.below.size)⟩
      clear hb
      refine hK.out _ _ hS2 (fun hS => ?_)
      clear hK K
      (try simp only [qa1, Act.put, nzA, nzB, nzC])
      refine wpAnyH_ready (rs := [3, 11]) (by kernel_rfl) (by simp) ?_
      refine AllReadyH.cons (o := qa3) rfl (fun K hK => ?_) ?_
      · rw [if_pos (by rfl)]
        simp only [qa3]
        go_simp
        go_at_call 6
        refine (toU _ _ _ xs _ (hs.keep hS.below) hbd hn).mono ?_
        rintro e v2 ⟨rfl, X, hb⟩
        (go_wp2_with fail)
        have hS2 : Cls W v2 := ⟨hS.below.trans (hb.mono hS.below.size)⟩
        clear hb
        refine hK.out _ _ hS2 (fun hS => ?_)
        clear hK K
        (try simp only [qa3, Act.put, nzA, nzB, nzC])
        refine wpAnyH_ready (rs := [6, 11]) (by kernel_rfl) (by simp) ?_
        refine AllReadyH.cons (o := qa6) rfl (fun K hK => ?_) ?_
        · rw [if_pos (by rfl)]
          simp only [qa6]
          go_simp
          go_at_call 7
          refine (toH h _).mono ?_
          rintro e v3 ⟨rfl, hb⟩
          (go_wp2_with fail)
          replace X := X.keep hb
          have hS2 : Cls W v3 := ⟨hS.below.trans (hb.mono hS.below.size)⟩
          clear hb
          refine hK.out _ _ hS2 (fun hS => ?_)
          clear hK K
          (try simp only [qa6, Act.put, nzA, nzB, nzC])
          refine wpAnyH_ready (rs := [7, 11]) (by kernel_rfl) (by simp) ?_
          refine AllReadyH.cons (o := qa7) rfl (fun K hK => ?_) ?_
          · rw [if_pos (by rfl)]
            simp only [qa7]
            go_simp
            go_at_call 4
            refine (CS.out _ _ _ X).mono ?_
            rintro e v4 ⟨ra, rn, rc, rfl, RR, hb⟩
            (go_wp2_with fail)
            replace RR := RR.mono hS.below.size
            have hS2 : Cls W v4 := ⟨hS.below.trans (hb.mono hS.below.size)⟩
            clear hb X
            refine hK.out _ _ hS2 (fun hS => ?_)
            clear hK K
            (try simp only [qa7, Act.put, nzA, nzB, nzC])
            refine tkP (i := 8) (oi := qa8) hS (fun w9 => by simp only [qa8]; go_simp; (try with_reducible rfl)) ?_
            simp only [qa8, Act.put, nzA, nzB, nzC]
            refine tkP (i := 9) (oi := qa9) hS (fun w9 => by simp only [qa9]; go_simp; (try with_reducible rfl)) ?_
            simp only [qa9, Act.put, nzA, nzB, nzC]
            refine tkP (i := 10) (oi := qa10) hS (fun w9 => by simp only [qa10]; go_simp; (try with_reducible rfl)) ?_
            simp only [qa10, Act.put, nzA, nzB, nzC]
            refine wpAnyH_ready (rs := [11]) (by kernel_rfl) (by simp) ?_
            refine AllReadyH.cons (o := qa11) rfl (fun K hK => ?_) ?_
            · rw [if_pos (by rfl)]
              simp only [qa11]
              go_simp
              have hzz : W.heap.size ≤ v4.heap.size := hS.below.size
              refine hK.out _ _ ⟨hS.below.trans (((Below.refl _ _).alloc (Nat.le_refl _) _).mono hS.below.size)⟩ (fun hS => ?_)
              clear hK K
              (try simp only [qa11, Act.put, nzA, nzB, nzC])
              refine any_at (fun x => At x v4.heap.size doneZ.toArray 32 ∧ Below v4.heap.size v4 x ∧ Cls W x) ⟨At.new _ _ _, (Below.refl _ _).alloc (Nat.le_refl _) _, hS⟩ ?_
              have hge : W.heap.size ≤ v4.heap.size := hzz
              clear hS hzz
              rintro v5 ⟨al, hb, hS⟩
              obtain ⟨ab, hab⟩ : ∃ q, Hid (v4.heap.size = q) := ⟨_, rfl⟩
              have hne : ∀ g, ra = some ⟨g, 0, none⟩ → g ≠ ab := fun g e => by have := (RR.bds g e).2; have := hab.out; omega
              replace RR := RR.keep hb
              rw [hab.out] at al hge
              rw [hab.out]
              clear hb hab
              refine wpAnyH_ready (rs := [12]) (by kernel_rfl) (by simp) ?_
              refine AllReadyH.cons (o := qa12) rfl (fun K hK => ?_) ?_
              · rw [if_pos (by rfl)]
                refine wp_storeDn (.tmp 9) (.tmp 31) rfl ab (.slice ra rn rc) R.h R.d RR.one rfl rfl al rfl ?_
                intro v6 al2 kk
                replace RR := RR.kept kk hne
                have hS2 : Cls W v6 := ⟨hS.below.trans (kk.below hge hS.below.size)⟩
                refine hK.out _ _ hS2 (fun hS => ?_)
                clear hK K
                simp only [qa12, Act.put]
                refine tkP (i := 13) (oi := qa13) hS (fun w9 => by simp only [qa13]; go_simp; (try with_reducible rfl)) ?_
                simp only [qa13, Act.put, nzA, nzB, nzC]
                refine wpAnyH_done (by kernel_rfl) ?_ _
                (go_wp2_with fail)
                go_meet
                case rel => exact ⟨ab, ra, rn, rc, rfl, rfl, ⟨al2, RR, hne, hge, al2.lt, fun g e => (RR.bds g e).2⟩, hS.below⟩
              exact AllReadyH.nil
            exact AllReadyH.nil
          refine AllReadyH.cons (o := qa11) rfl (fun K hK => ?_) ?_
          · rw [if_pos (by rfl)]
            simp only [qa11]
            go_simp
            have hzz : W.heap.size ≤ v3.heap.size := hS.below.size
            refine hK.out _ _ ⟨hS.below.trans (((Below.refl _ _).alloc (Nat.le_refl _) _).mono hS.below.size)⟩ (fun hS => ?_)
            clear hK K
            (try simp only [qa11, Act.put, nzA, nzB, nzC])
            refine any_at (fun x => At x v3.heap.size doneZ.toArray 32 ∧ Below v3.heap.size v3 x ∧ Cls W x) ⟨At.new _ _ _, (Below.refl _ _).alloc (Nat.le_refl _) _, hS⟩ ?_
            have hge : W.heap.size ≤ v3.heap.size := hzz
            clear hS hzz
            rintro v4 ⟨al, hb, hS⟩
            replace X := X.keep hb
            obtain ⟨ab, hab⟩ : ∃ q, Hid (v3.heap.size = q) := ⟨_, rfl⟩
            rw [hab.out] at al hge
            rw [hab.out]
            clear hb hab
            refine wpAnyH_ready (rs := [7]) (by kernel_rfl) (by simp) ?_
            refine AllReadyH.cons (o := qa7) rfl (fun K hK => ?_) ?_
            · rw [if_pos (by rfl)]
              simp only [qa7]
              go_simp
              go_at_call 4
              refine (CS.out _ _ _ X).mono ?_
              rintro e v5 ⟨ra, rn, rc, rfl, RR, hb⟩
              (go_wp2_with fail)
              have hal := al.lt
              have hne : ∀ g, ra = some ⟨g, 0, none⟩ → g ≠ ab := fun g e => by have := (RR.bds g e).1; omega
              replace al := al.keep hb
              replace RR := RR.mono hS.below.size
              have hS2 : Cls W v5 := ⟨hS.below.trans (hb.mono hS.below.size)⟩
              clear hb X
              refine hK.out _ _ hS2 (fun hS => ?_)
              clear hK K
              (try simp only [qa7, Act.put, nzA, nzB, nzC])
              refine tkP (i := 8) (oi := qa8) hS (fun w9 => by simp only [qa8]; go_simp; (try with_reducible rfl)) ?_
              simp only [qa8, Act.put, nzA, nzB, nzC]
              refine tkP (i := 9) (oi := qa9) hS (fun w9 => by simp only [qa9]; go_simp; (try with_reducible rfl)) ?_
              simp only [qa9, Act.put, nzA, nzB, nzC]
              refine tkP (i := 10) (oi := qa10) hS (fun w9 => by simp only [qa10]; go_simp; (try with_reducible rfl)) ?_
              simp only [qa10, Act.put, nzA, nzB, nzC]
              refine wpAnyH_ready (rs := [12]) (by kernel_rfl) (by simp) ?_
              refine AllReadyH.cons (o := qa12) rfl (fun K hK => ?_) ?_
              · rw [if_pos (by rfl)]
                refine wp_storeDn (.tmp 9) (.tmp 31) rfl ab (.slice ra rn rc) R.h R.d RR.one rfl rfl al rfl ?_
                intro v6 al2 kk
                replace RR := RR.kept kk hne
                have hS2 : Cls W v6 := ⟨hS.below.trans (kk.below hge hS.below.size)⟩
                refine hK.out _ _ hS2 (fun hS => ?_)
                clear hK K
                simp only [qa12, Act.put]
                refine tkP (i := 13) (oi := qa13) hS (fun w9 => by simp only [qa13]; go_simp; (try with_reducible rfl)) ?_
                simp only [qa13, Act.put, nzA, nzB, nzC]
                refine wpAnyH_done (by kernel_rfl) ?_ _
                (go_wp2_with fail)
                go_meet
                case rel => exact ⟨ab, ra, rn, rc, rfl, rfl, ⟨al2, RR, hne, hge, al2.lt, fun g e => (RR.bds g e).2⟩, hS.below⟩
              exact AllReadyH.nil
            exact AllReadyH.nil
          exact AllReadyH.nil
        refine AllReadyH.cons (o := qa11) rfl (fun K hK => ?_) ?_
        · rw [if_pos (by rfl)]
          simp only [qa11]
          go_simp
          have hzz : W.heap.size ≤ v2.heap.size := hS.below.size
          refine hK.out _ _ ⟨hS.below.trans (((Below.refl _ _).alloc (Nat.le_refl _) _).mono hS.below.size)⟩ (fun hS => ?_)
          clear hK K
          (try simp only [qa11, Act.put, nzA, nzB, nzC])
          refine any_at (fun x => At x v2.heap.size doneZ.toArray 32 ∧ Below v2.heap.size v2 x ∧ Cls W x) ⟨At.new _ _ _, (Below.refl _ _).alloc (Nat.le_refl _) _, hS⟩ ?_
          have hge : W.heap.size ≤ v2.heap.size := hzz
          clear hS hzz
          rintro v3 ⟨al, hb, hS⟩
          replace X := X.keep hb
          obtain ⟨ab, hab⟩ : ∃ q, Hid (v2.heap.size = q) := ⟨_, rfl⟩
          rw [hab.out] at al hge
          rw [hab.out]
          clear hb hab
          refine wpAnyH_ready (rs := [6]) (by kernel_rfl) (by simp) ?_
          refine AllReadyH.cons (o := qa6) rfl (fun K hK => ?_) ?_
          · rw [if_pos (by rfl)]
            simp only [qa6]
            go_simp
            go_at_call 7
            refine (toH h _).mono ?_
            rintro e v4 ⟨rfl, hb⟩
            (go_wp2_with fail)
            replace X := X.keep hb
            replace al := al.keep hb
            have hS2 : Cls W v4 := ⟨hS.below.trans (hb.mono hS.below.size)⟩
            clear hb
            refine hK.out _ _ hS2 (fun hS => ?_)
            clear hK K
            (try simp only [qa6, Act.put, nzA, nzB, nzC])
            refine wpAnyH_ready (rs := [7]) (by kernel_rfl) (by simp) ?_
            refine AllReadyH.cons (o := qa7) rfl (fun K hK => ?_) ?_
            · rw [if_pos (by rfl)]
              simp only [qa7]
              go_simp
              go_at_call 4
              refine (CS.out _ _ _ X).mono ?_
              rintro e v5 ⟨ra, rn, rc, rfl, RR, hb⟩
              (go_wp2_with fail)
              have hal := al.lt
              have hne : ∀ g, ra = some ⟨g, 0, none⟩ → g ≠ ab := fun g e => by have := (RR.bds g e).1; omega
              replace al := al.keep hb
              replace RR := RR.mono hS.below.size
              have hS2 : Cls W v5 := ⟨hS.below.trans (hb.mono hS.below.size)⟩
              clear hb X
              refine hK.out _ _ hS2 (fun hS => ?_)
              clear hK K
              (try simp only [qa7, Act.put, nzA, nzB, nzC])
              refine tkP (i := 8) (oi := qa8) hS (fun w9 => by simp only [qa8]; go_simp; (try with_reducible rfl)) ?_
              simp only [qa8, Act.put, nzA, nzB, nzC]
              refine tkP (i := 9) (oi := qa9) hS (fun w9 => by simp only [qa9]; go_simp; (try with_reducible rfl)) ?_
              simp only [qa9, Act.put, nzA, nzB, nzC]
              refine tkP (i := 10) (oi := qa10) hS (fun w9 => by simp only [qa10]; go_simp; (try with_reducible rfl)) ?_
              simp only [qa10, Act.put, nzA, nzB, nzC]
              refine wpAnyH_ready (rs := [12]) (by kernel_rfl) (by simp) ?_
              refine AllReadyH.cons (o := qa12) rfl (fun K hK => ?_) ?_
              · rw [if_pos (by rfl)]
                refine wp_storeDn (.tmp 9) (.tmp 31) rfl ab (.slice ra rn rc) R.h R.d RR.one rfl rfl al rfl ?_
                intro v6 al2 kk
                replace RR := RR.kept kk hne
                have hS2 : Cls W v6 := ⟨hS.below.trans (kk.below hge hS.below.size)⟩
                refine hK.out _ _ hS2 (fun hS => ?_)
                clear hK K
                simp only [qa12, Act.put]
                refine tkP (i := 13) (oi := qa13) hS (fun w9 => by simp only [qa13]; go_simp; (try with_reducible rfl)) ?_
                simp only [qa13, Act.put, nzA, nzB, nzC]
                refine wpAnyH_done (by kernel_rfl) ?_ _
                (go_wp2_with fail)
                go_meet
                case rel => exact ⟨ab, ra, rn, rc, rfl, rfl, ⟨al2, RR, hne, hge, al2.lt, fun g e => (RR.bds g e).2⟩, hS.below⟩
              exact AllReadyH.nil
            exact AllReadyH.nil
          exact AllReadyH.nil
        exact AllReadyH.nil
      refine AllReadyH.cons (o := qa11) rfl (fun K hK => ?_) ?_
      · rw [if_pos (by rfl)]
        simp only [qa11]
        go_simp
        have hzz : W.heap.size ≤ v1.heap.size := hS.below.size
        refine hK.out _ _ ⟨hS.below.trans (((Below.refl _ _).alloc (Nat.le_refl _) _).mono hS.below.size)⟩ (fun hS => ?_)
        clear hK K
        (try simp only [qa11, Act.put, nzA, nzB, nzC])
        refine any_at (fun x => At x v1.heap.size doneZ.toArray 32 ∧ Below v1.heap.size v1 x ∧ Cls W x) ⟨At.new _ _ _, (Below.refl _ _).alloc (Nat.le_refl _) _, hS⟩ ?_
        have hge : W.heap.size ≤ v1.heap.size := hzz
        clear hS hzz
        rintro v2 ⟨al, hb, hS⟩
        obtain ⟨ab, hab⟩ : ∃ q, Hid (v1.heap.size = q) := ⟨_, rfl⟩
        rw [hab.out] at al hge
        rw [hab.out]
        clear hb hab
        refine wpAnyH_ready (rs := [3]) (by kernel_rfl) (by simp) ?_
        refine AllReadyH.cons (o := qa3) rfl (fun K hK => ?_) ?_
        · rw [if_pos (by rfl)]
          simp only [qa3]
          go_simp
          go_at_call 6
          refine (toU _ _ _ xs _ (hs.keep hS.below) hbd hn).mono ?_
          rintro e v3 ⟨rfl, X, hb⟩
          (go_wp2_with fail)
          replace al := al.keep hb
          have hS2 : Cls W v3 := ⟨hS.below.trans (hb.mono hS.below.size)⟩
          clear hb
          refine hK.out _ _ hS2 (fun hS => ?_)
          clear hK K
          (try simp only [qa3, Act.put, nzA, nzB, nzC])
          refine wpAnyH_ready (rs := [6]) (by kernel_rfl) (by simp) ?_
          refine AllReadyH.cons (o := qa6) rfl (fun K hK => ?_) ?_
          · rw [if_pos (by rfl)]
            simp only [qa6]
            go_simp
            go_at_call 7
            refine (toH h _).mono ?_
            rintro e v4 ⟨rfl, hb⟩
            (go_wp2_with fail)
            replace X := X.keep hb
            replace al := al.keep hb
            have hS2 : Cls W v4 := ⟨hS.below.trans (hb.mono hS.below.size)⟩
            clear hb
            refine hK.out _ _ hS2 (fun hS => ?_)
            clear hK K
            (try simp only [qa6, Act.put, nzA, nzB, nzC])
            refine wpAnyH_ready (rs := [7]) (by kernel_rfl) (by simp) ?_
            refine AllReadyH.cons (o := qa7) rfl (fun K hK => ?_) ?_
            · rw [if_pos (by rfl)]
              simp only [qa7]
              go_simp
              go_at_call 4
              refine (CS.out _ _ _ X).mono ?_
              rintro e v5 ⟨ra, rn, rc, rfl, RR, hb⟩
              (go_wp2_with fail)
              have hal := al.lt
              have hne : ∀ g, ra = some ⟨g, 0, none⟩ → g ≠ ab := fun g e => by have := (RR.bds g e).1; omega
              replace al := al.keep hb
              replace RR := RR.mono hS.below.size
              have hS2 : Cls W v5 := ⟨hS.below.trans (hb.mono hS.below.size)⟩
              clear hb X
              refine hK.out _ _ hS2 (fun hS => ?_)
              clear hK K
              (try simp only [qa7, Act.put, nzA, nzB, nzC])
              refine tkP (i := 8) (oi := qa8) hS (fun w9 => by simp only [qa8]; go_simp; (try with_reducible rfl)) ?_
              simp only [qa8, Act.put, nzA, nzB, nzC]
              refine tkP (i := 9) (oi := qa9) hS (fun w9 => by simp only [qa9]; go_simp; (try with_reducible rfl)) ?_
              simp only [qa9, Act.put, nzA, nzB, nzC]
              refine tkP (i := 10) (oi := qa10) hS (fun w9 => by simp only [qa10]; go_simp; (try with_reducible rfl)) ?_
              simp only [qa10, Act.put, nzA, nzB, nzC]
              refine wpAnyH_ready (rs := [12]) (by kernel_rfl) (by simp) ?_
              refine AllReadyH.cons (o := qa12) rfl (fun K hK => ?_) ?_
              · rw [if_pos (by rfl)]
                refine wp_storeDn (.tmp 9) (.tmp 31) rfl ab (.slice ra rn rc) R.h R.d RR.one rfl rfl al rfl ?_
                intro v6 al2 kk
                replace RR := RR.kept kk hne
                have hS2 : Cls W v6 := ⟨hS.below.trans (kk.below hge hS.below.size)⟩
                refine hK.out _ _ hS2 (fun hS => ?_)
                clear hK K
                simp only [qa12, Act.put]
                refine tkP (i := 13) (oi := qa13) hS (fun w9 => by simp only [qa13]; go_simp; (try with_reducible rfl)) ?_
                simp only [qa13, Act.put, nzA, nzB, nzC]
                refine wpAnyH_done (by kernel_rfl) ?_ _
                (go_wp2_with fail)
                go_meet
                case rel => exact ⟨ab, ra, rn, rc, rfl, rfl, ⟨al2, RR, hne, hge, al2.lt, fun g e => (RR.bds g e).2⟩, hS.below⟩
              exact AllReadyH.nil
            exact AllReadyH.nil
          exact AllReadyH.nil
        exact AllReadyH.nil
      exact AllReadyH.nil
    refine AllReadyH.cons (o := qa11) rfl (fun K hK => ?_) ?_
    · rw [if_pos (by rfl)]
      simp only [qa11]
      go_simp
      have hzz : W.heap.size ≤ v0.heap.size := hS.below.size
      refine hK.out _ _ ⟨hS.below.trans (((Below.refl _ _).alloc (Nat.le_refl _) _).mono hS.below.size)⟩ (fun hS => ?_)
      clear hK K
      (try simp only [qa11, Act.put, nzA, nzB, nzC])
      refine any_at (fun x => At x v0.heap.size doneZ.toArray 32 ∧ Below v0.heap.size v0 x ∧ Cls W x) ⟨At.new _ _ _, (Below.refl _ _).alloc (Nat.le_refl _) _, hS⟩ ?_
      have hge : W.heap.size ≤ v0.heap.size := hzz
      clear hS hzz
      rintro v1 ⟨al, hb, hS⟩
      obtain ⟨ab, hab⟩ : ∃ q, Hid (v0.heap.size = q) := ⟨_, rfl⟩
      rw [hab.out] at al hge
      rw [hab.out]
      clear hb hab
      refine wpAnyH_ready (rs := [1]) (by kernel_rfl) (by simp) ?_
      refine AllReadyH.cons (o := qa1) rfl (fun K hK => ?_) ?_
      · rw [if_pos (by rfl)]
        simp only [qa1]
        go_simp
        go_at_call 5
        refine (toP p s l c k _).mono ?_
        rintro e v2 ⟨rfl, hb⟩
        (go_wp2_with fail)
        replace al := al.keep hb
        have hS2 : Cls W v2 := ⟨hS.below.trans (hb.mono hS.below.size)⟩
        clear hb
        refine hK.out _ _ hS2 (fun hS => ?_)
        clear hK K
        (try simp only [qa1, Act.put, nzA, nzB, nzC])
        refine wpAnyH_ready (rs := [3]) (by kernel_rfl) (by simp) ?_
        refine AllReadyH.cons (o := qa3) rfl (fun K hK => ?_) ?_
        · rw [if_pos (by rfl)]
          simp only [qa3]
          go_simp
          go_at_call 6
          refine (toU _ _ _ xs _ (hs.keep hS.below) hbd hn).mono ?_
          rintro e v3 ⟨rfl, X, hb⟩
          (go_wp2_with fail)
          replace al := al.keep hb
          have hS2 : Cls W v3 := ⟨hS.below.trans (hb.mono hS.below.size)⟩
          clear hb
          refine hK.out _ _ hS2 (fun hS => ?_)
          clear hK K
          (try simp only [qa3, Act.put, nzA, nzB, nzC])
          refine wpAnyH_ready (rs := [6]) (by kernel_rfl) (by simp) ?_
          refine AllReadyH.cons (o := qa6) rfl (fun K hK => ?_) ?_
          · rw [if_pos (by rfl)]
            simp only [qa6]
            go_simp
            go_at_call 7
            refine (toH h _).mono ?_
            rintro e v4 ⟨rfl, hb⟩
            (go_wp2_with fail)
            replace X := X.keep hb
            replace al := al.keep hb
            have hS2 : Cls W v4 := ⟨hS.below.trans (hb.mono hS.below.size)⟩
            clear hb
            refine hK.out _ _ hS2 (fun hS => ?_)
            clear hK K
            (try simp only [qa6, Act.put, nzA, nzB, nzC])
            refine wpAnyH_ready (rs := [7]) (by kernel_rfl) (by simp) ?_
            refine AllReadyH.cons (o := qa7) rfl (fun K hK => ?_) ?_
            · rw [if_pos (by rfl)]
              simp only [qa7]
              go_simp
              go_at_call 4
              refine (CS.out _ _ _ X).mono ?_
              rintro e v5 ⟨ra, rn, rc, rfl, RR, hb⟩
              (go_wp2_with fail)
              have hal := al.lt
              have hne : ∀ g, ra = some ⟨g, 0, none⟩ → g ≠ ab := fun g e => by have := (RR.bds g e).1; omega
              replace al := al.keep hb
              replace RR := RR.mono hS.below.size
              have hS2 : Cls W v5 := ⟨hS.below.trans (hb.mono hS.below.size)⟩
              clear hb X
              refine hK.out _ _ hS2 (fun hS => ?_)
              clear hK K
              (try simp only [qa7, Act.put, nzA, nzB, nzC])
              refine tkP (i := 8) (oi := qa8) hS (fun w9 => by simp only [qa8]; go_simp; (try with_reducible rfl)) ?_
              simp only [qa8, Act.put, nzA, nzB, nzC]
              refine tkP (i := 9) (oi := qa9) hS (fun w9 => by simp only [qa9]; go_simp; (try with_reducible rfl)) ?_
              simp only [qa9, Act.put, nzA, nzB, nzC]
              refine tkP (i := 10) (oi := qa10) hS (fun w9 => by simp only [qa10]; go_simp; (try with_reducible rfl)) ?_
              simp only [qa10, Act.put, nzA, nzB, nzC]
              refine wpAnyH_ready (rs := [12]) (by kernel_rfl) (by simp) ?_
              refine AllReadyH.cons (o := qa12) rfl (fun K hK => ?_) ?_
              · rw [if_pos (by rfl)]
                refine wp_storeDn (.tmp 9) (.tmp 31) rfl ab (.slice ra rn rc) R.h R.d RR.one rfl rfl al rfl ?_
                intro v6 al2 kk
                replace RR := RR.kept kk hne
                have hS2 : Cls W v6 := ⟨hS.below.trans (kk.below hge hS.below.size)⟩
                refine hK.out _ _ hS2 (fun hS => ?_)
                clear hK K
                simp only [qa12, Act.put]
                refine tkP (i := 13) (oi := qa13) hS (fun w9 => by simp only [qa13]; go_simp; (try with_reducible rfl)) ?_
                simp only [qa13, Act.put, nzA, nzB, nzC]
                refine wpAnyH_done (by kernel_rfl) ?_ _
                (go_wp2_with fail)
                go_meet
                case rel => exact ⟨ab, ra, rn, rc, rfl, rfl, ⟨al2, RR, hne, hge, al2.lt, fun g e => (RR.bds g e).2⟩, hS.below⟩
              exact AllReadyH.nil
            exact AllReadyH.nil
          exact AllReadyH.nil
        exact AllReadyH.nil
      exact AllReadyH.nil
    exact AllReadyH.nil
  case rest =>
  obtain ⟨b1, a1, n1, c1, rfl, rfl, D1, hb⟩ := hcut
  replace P := P.keep hb; replace A := A.keep hb; replace hs := hs.keep hb; replace z := z.trans (hb.mono z.size); clear hb
  have hW1 : w.heap.size + 1 < wc.heap.size := A.lt
  go_upto_region 5 with (go_at_call 6; refine (toU _ _ _ xs _ hs hbd hn).mono ?_; rintro e w2 ⟨rfl, X, hb⟩; replace D1 := D1.keep hb; replace P := P.keep hb; replace A := A.keep hb; replace hs := hs.keep hb; replace z := z.trans (hb.mono z.size); clear hb)
  obtain ⟨xg, hxg⟩ : ∃ q, Hid (wc.heap.size = q) := ⟨_, rfl⟩
  have hlo1 : w.heap.size + 1 < W.heap.size := hPW
  obtain ⟨lo1, hl1⟩ : ∃ q, Hid (W.heap.size = q) := ⟨_, rfl⟩
  rw [hxg.out] at X D1 hW1
  rw [hxg.out]
  rw [hl1.out] at D1 hlo1
  clear hxg hl1 hPW
  obtain ⟨W, rfl⟩ : ∃ W, W = w2 := ⟨_, rfl⟩
  have hXW := X.lt
  go_cut [12, 13] from 19 (fun x y wc => ∃ (b : Nat) (a : Option Addr) (n c : Nat), x = .pointer (some ⟨b, 0, none⟩) ∧ y = .bool R.is ∧ DoneAt wc W.heap.size wc.heap.size b a n c R.xs R.h R.d ∧ Below W.heap.size W wc)
  case first =>
    have lp : ∀ w', Cls W w' → (loadVar 23 ⟨w.heap.size, 0, none⟩).run Tryz.prog w' = .ok (.agg #[.int .i64 p, .int .i64 s, .int .i64 l, .int .i64 c, .int .i64 k]) w' := ld_agg (vs := [.int .i64 p, .int .i64 s, .int .i64 l, .int .i64 c, .int .i64 k]) P Tryz.underlying23 rfl (by kernel_rfl)
    have lh : ∀ w', Cls W w' → (loadVar 27 ⟨w.heap.size + 1, 0, none⟩).run Tryz.prog w' = .ok (.agg h.ar) w' := ld_agg (vs := h.vs) A Tryz.underlying27 rfl (by kernel_rfl)
    refine wp_region_held_drew (S := Cls W) (by kernel_rfl) ⟨⟨rfl, rfl, rfl, Nat.le_refl _, fun _ _ => rfl⟩⟩ (fun hS => ?_)
    replace X := X.keep (show Below W.heap.size W W.drew from ⟨rfl, rfl, rfl, Nat.le_refl _, fun _ _ => rfl⟩)
    generalize W.drew = v0 at *
    refine tkL (i := 0) (oi := qb0) hS rfl rfl (by assumption) ?_
    simp only [qb0, Act.put, nzA, nzB, nzC]
    refine tkP (i := 2) (oi := qb2) hS (fun w9 => by simp only [qb2]; go_simp; (try with_reducible rfl)) ?_
    simp only [qb2, Act.put, nzA, nzB, nzC]
    refine tkP (i := 3) (oi := qb3) hS (fun w9 => by simp only [qb3]; go_simp; (try with_reducible rfl)) ?_
    simp only [qb3, Act.put, nzA, nzB, nzC]
    refine tkL (i := 4) (oi := qb4) hS rfl rfl (by assumption) ?_
    simp only [qb4, Act.put, nzA, nzB, nzC]
    refine wpAnyH_ready (rs := [1, 10]) (by kernel_rfl) (by simp) ?_
    refine AllReadyH.cons (o := qb1) rfl (fun K hK => ?_) ?_
    · rw [if_pos (by rfl)]
      simp only [qb1]
      go_simp
      go_at_call 5
      refine (toP p s l c k _).mono ?_
      rintro e v1 ⟨rfl, hb⟩
      (go_wp2_with fail)
      replace X := X.keep hb
      have hS2 : Cls W v1 := ⟨hS.below.trans (hb.mono hS.below.size)⟩
      clear hb
      refine hK.out _ _ hS2 (fun hS => ?_)
      clear hK K
      (try simp only [qb1, Act.put, nzA, nzB, nzC])
      refine wpAnyH_ready (rs := [5, 10]) (by kernel_rfl) (by simp) ?_
      refine AllReadyH.cons (o := qb5) rfl (fun K hK => ?_) ?_
      · rw [if_pos (by rfl)]
        simp only [qb5]
        go_simp
        go_at_call 7
        refine (toH h _).mono ?_
        rintro e v2 ⟨rfl, hb⟩
        (go_wp2_with fail)
        replace X := X.keep hb
        have hS2 : Cls W v2 := ⟨hS.below.trans (hb.mono hS.below.size)⟩
        clear hb
        refine hK.out _ _ hS2 (fun hS => ?_)
        clear hK K
        (try simp only [qb5, Act.put, nzA, nzB, nzC])
        refine wpAnyH_ready (rs := [6, 10]) (by kernel_rfl) (by simp) ?_
        refine AllReadyH.cons (o := qb6) rfl (fun K hK => ?_) ?_
        · rw [if_pos (by rfl)]
          simp only [qb6]
          go_simp
          go_at_call 8
          refine (CI.out _ _ _ X).mono ?_
          rintro e v3 ⟨ra, rn, rc, rfl, RR, hb⟩
          (go_wp2_with fail)
          replace RR := RR.mono hS.below.size
          have hS2 : Cls W v3 := ⟨hS.below.trans (hb.mono hS.below.size)⟩
          clear hb X
          refine hK.out _ _ hS2 (fun hS => ?_)
          clear hK K
          (try simp only [qb6, Act.put, nzA, nzB, nzC])
          refine tkP (i := 7) (oi := qb7) hS (fun w9 => by simp only [qb7]; go_simp; (try with_reducible rfl)) ?_
          simp only [qb7, Act.put, nzA, nzB, nzC]
          refine tkP (i := 8) (oi := qb8) hS (fun w9 => by simp only [qb8]; go_simp; (try with_reducible rfl)) ?_
          simp only [qb8, Act.put, nzA, nzB, nzC]
          refine tkP (i := 9) (oi := qb9) hS (fun w9 => by simp only [qb9]; go_simp; (try with_reducible rfl)) ?_
          simp only [qb9, Act.put, nzA, nzB, nzC]
          refine wpAnyH_ready (rs := [10]) (by kernel_rfl) (by simp) ?_
          refine AllReadyH.cons (o := qb10) rfl (fun K hK => ?_) ?_
          · rw [if_pos (by rfl)]
            simp only [qb10]
            go_simp
            have hzz : W.heap.size ≤ v3.heap.size := hS.below.size
            refine hK.out _ _ ⟨hS.below.trans (((Below.refl _ _).alloc (Nat.le_refl _) _).mono hS.below.size)⟩ (fun hS => ?_)
            clear hK K
            (try simp only [qb10, Act.put, nzA, nzB, nzC])
            refine any_at (fun x => At x v3.heap.size doneZ.toArray 32 ∧ Below v3.heap.size v3 x ∧ Cls W x) ⟨At.new _ _ _, (Below.refl _ _).alloc (Nat.le_refl _) _, hS⟩ ?_
            have hge : W.heap.size ≤ v3.heap.size := hzz
            clear hS hzz
            rintro v4 ⟨al, hb, hS⟩
            obtain ⟨ab, hab⟩ : ∃ q, Hid (v3.heap.size = q) := ⟨_, rfl⟩
            have hne : ∀ g, ra = some ⟨g, 0, none⟩ → g ≠ ab := fun g e => by have := (RR.bds g e).2; have := hab.out; omega
            replace RR := RR.keep hb
            rw [hab.out] at al hge
            rw [hab.out]
            clear hb hab
            refine wpAnyH_ready (rs := [11]) (by kernel_rfl) (by simp) ?_
            refine AllReadyH.cons (o := qb11) rfl (fun K hK => ?_) ?_
            · rw [if_pos (by rfl)]
              refine wp_storeDn (.tmp 12) (.tmp 43) rfl ab (.slice ra rn rc) R.h R.d RR.one rfl rfl al rfl ?_
              intro v5 al2 kk
              replace RR := RR.kept kk hne
              have hS2 : Cls W v5 := ⟨hS.below.trans (kk.below hge hS.below.size)⟩
              refine hK.out _ _ hS2 (fun hS => ?_)
              clear hK K
              simp only [qb11, Act.put]
              refine tkP (i := 12) (oi := qb12) hS (fun w9 => by simp only [qb12]; go_simp; (try with_reducible rfl)) ?_
              simp only [qb12, Act.put, nzA, nzB, nzC]
              refine wpAnyH_done (by kernel_rfl) ?_ _
              (go_wp2_with fail)
              go_meet
              case rel => exact ⟨ab, ra, rn, rc, rfl, rfl, ⟨al2, RR, hne, hge, al2.lt, fun g e => (RR.bds g e).2⟩, hS.below⟩
            exact AllReadyH.nil
          exact AllReadyH.nil
        refine AllReadyH.cons (o := qb10) rfl (fun K hK => ?_) ?_
        · rw [if_pos (by rfl)]
          simp only [qb10]
          go_simp
          have hzz : W.heap.size ≤ v2.heap.size := hS.below.size
          refine hK.out _ _ ⟨hS.below.trans (((Below.refl _ _).alloc (Nat.le_refl _) _).mono hS.below.size)⟩ (fun hS => ?_)
          clear hK K
          (try simp only [qb10, Act.put, nzA, nzB, nzC])
          refine any_at (fun x => At x v2.heap.size doneZ.toArray 32 ∧ Below v2.heap.size v2 x ∧ Cls W x) ⟨At.new _ _ _, (Below.refl _ _).alloc (Nat.le_refl _) _, hS⟩ ?_
          have hge : W.heap.size ≤ v2.heap.size := hzz
          clear hS hzz
          rintro v3 ⟨al, hb, hS⟩
          replace X := X.keep hb
          obtain ⟨ab, hab⟩ : ∃ q, Hid (v2.heap.size = q) := ⟨_, rfl⟩
          rw [hab.out] at al hge
          rw [hab.out]
          clear hb hab
          refine wpAnyH_ready (rs := [6]) (by kernel_rfl) (by simp) ?_
          refine AllReadyH.cons (o := qb6) rfl (fun K hK => ?_) ?_
          · rw [if_pos (by rfl)]
            simp only [qb6]
            go_simp
            go_at_call 8
            refine (CI.out _ _ _ X).mono ?_
            rintro e v4 ⟨ra, rn, rc, rfl, RR, hb⟩
            (go_wp2_with fail)
            have hal := al.lt
            have hne : ∀ g, ra = some ⟨g, 0, none⟩ → g ≠ ab := fun g e => by have := (RR.bds g e).1; omega
            replace al := al.keep hb
            replace RR := RR.mono hS.below.size
            have hS2 : Cls W v4 := ⟨hS.below.trans (hb.mono hS.below.size)⟩
            clear hb X
            refine hK.out _ _ hS2 (fun hS => ?_)
            clear hK K
            (try simp only [qb6, Act.put, nzA, nzB, nzC])
            refine tkP (i := 7) (oi := qb7) hS (fun w9 => by simp only [qb7]; go_simp; (try with_reducible rfl)) ?_
            simp only [qb7, Act.put, nzA, nzB, nzC]
            refine tkP (i := 8) (oi := qb8) hS (fun w9 => by simp only [qb8]; go_simp; (try with_reducible rfl)) ?_
            simp only [qb8, Act.put, nzA, nzB, nzC]
            refine tkP (i := 9) (oi := qb9) hS (fun w9 => by simp only [qb9]; go_simp; (try with_reducible rfl)) ?_
            simp only [qb9, Act.put, nzA, nzB, nzC]
            refine wpAnyH_ready (rs := [11]) (by kernel_rfl) (by simp) ?_
            refine AllReadyH.cons (o := qb11) rfl (fun K hK => ?_) ?_
            · rw [if_pos (by rfl)]
              refine wp_storeDn (.tmp 12) (.tmp 43) rfl ab (.slice ra rn rc) R.h R.d RR.one rfl rfl al rfl ?_
              intro v5 al2 kk
              replace RR := RR.kept kk hne
              have hS2 : Cls W v5 := ⟨hS.below.trans (kk.below hge hS.below.size)⟩
              refine hK.out _ _ hS2 (fun hS => ?_)
              clear hK K
              simp only [qb11, Act.put]
              refine tkP (i := 12) (oi := qb12) hS (fun w9 => by simp only [qb12]; go_simp; (try with_reducible rfl)) ?_
              simp only [qb12, Act.put, nzA, nzB, nzC]
              refine wpAnyH_done (by kernel_rfl) ?_ _
              (go_wp2_with fail)
              go_meet
              case rel => exact ⟨ab, ra, rn, rc, rfl, rfl, ⟨al2, RR, hne, hge, al2.lt, fun g e => (RR.bds g e).2⟩, hS.below⟩
            exact AllReadyH.nil
          exact AllReadyH.nil
        exact AllReadyH.nil
      refine AllReadyH.cons (o := qb10) rfl (fun K hK => ?_) ?_
      · rw [if_pos (by rfl)]
        simp only [qb10]
        go_simp
        have hzz : W.heap.size ≤ v1.heap.size := hS.below.size
        refine hK.out _ _ ⟨hS.below.trans (((Below.refl _ _).alloc (Nat.le_refl _) _).mono hS.below.size)⟩ (fun hS => ?_)
        clear hK K
        (try simp only [qb10, Act.put, nzA, nzB, nzC])
        refine any_at (fun x => At x v1.heap.size doneZ.toArray 32 ∧ Below v1.heap.size v1 x ∧ Cls W x) ⟨At.new _ _ _, (Below.refl _ _).alloc (Nat.le_refl _) _, hS⟩ ?_
        have hge : W.heap.size ≤ v1.heap.size := hzz
        clear hS hzz
        rintro v2 ⟨al, hb, hS⟩
        replace X := X.keep hb
        obtain ⟨ab, hab⟩ : ∃ q, Hid (v1.heap.size = q) := ⟨_, rfl⟩
        rw [hab.out] at al hge
        rw [hab.out]
        clear hb hab
        refine wpAnyH_ready (rs := [5]) (by kernel_rfl) (by simp) ?_
        refine AllReadyH.cons (o := qb5) rfl (fun K hK => ?_) ?_
        · rw [if_pos (by rfl)]
          simp only [qb5]
          go_simp
          go_at_call 7
          refine (toH h _).mono ?_
          rintro e v3 ⟨rfl, hb⟩
          (go_wp2_with fail)
          replace X := X.keep hb
          replace al := al.keep hb
          have hS2 : Cls W v3 := ⟨hS.below.trans (hb.mono hS.below.size)⟩
          clear hb
          refine hK.out _ _ hS2 (fun hS => ?_)
          clear hK K
          (try simp only [qb5, Act.put, nzA, nzB, nzC])
          refine wpAnyH_ready (rs := [6]) (by kernel_rfl) (by simp) ?_
          refine AllReadyH.cons (o := qb6) rfl (fun K hK => ?_) ?_
          · rw [if_pos (by rfl)]
            simp only [qb6]
            go_simp
            go_at_call 8
            refine (CI.out _ _ _ X).mono ?_
            rintro e v4 ⟨ra, rn, rc, rfl, RR, hb⟩
            (go_wp2_with fail)
            have hal := al.lt
            have hne : ∀ g, ra = some ⟨g, 0, none⟩ → g ≠ ab := fun g e => by have := (RR.bds g e).1; omega
            replace al := al.keep hb
            replace RR := RR.mono hS.below.size
            have hS2 : Cls W v4 := ⟨hS.below.trans (hb.mono hS.below.size)⟩
            clear hb X
            refine hK.out _ _ hS2 (fun hS => ?_)
            clear hK K
            (try simp only [qb6, Act.put, nzA, nzB, nzC])
            refine tkP (i := 7) (oi := qb7) hS (fun w9 => by simp only [qb7]; go_simp; (try with_reducible rfl)) ?_
            simp only [qb7, Act.put, nzA, nzB, nzC]
            refine tkP (i := 8) (oi := qb8) hS (fun w9 => by simp only [qb8]; go_simp; (try with_reducible rfl)) ?_
            simp only [qb8, Act.put, nzA, nzB, nzC]
            refine tkP (i := 9) (oi := qb9) hS (fun w9 => by simp only [qb9]; go_simp; (try with_reducible rfl)) ?_
            simp only [qb9, Act.put, nzA, nzB, nzC]
            refine wpAnyH_ready (rs := [11]) (by kernel_rfl) (by simp) ?_
            refine AllReadyH.cons (o := qb11) rfl (fun K hK => ?_) ?_
            · rw [if_pos (by rfl)]
              refine wp_storeDn (.tmp 12) (.tmp 43) rfl ab (.slice ra rn rc) R.h R.d RR.one rfl rfl al rfl ?_
              intro v5 al2 kk
              replace RR := RR.kept kk hne
              have hS2 : Cls W v5 := ⟨hS.below.trans (kk.below hge hS.below.size)⟩
              refine hK.out _ _ hS2 (fun hS => ?_)
              clear hK K
              simp only [qb11, Act.put]
              refine tkP (i := 12) (oi := qb12) hS (fun w9 => by simp only [qb12]; go_simp; (try with_reducible rfl)) ?_
              simp only [qb12, Act.put, nzA, nzB, nzC]
              refine wpAnyH_done (by kernel_rfl) ?_ _
              (go_wp2_with fail)
              go_meet
              case rel => exact ⟨ab, ra, rn, rc, rfl, rfl, ⟨al2, RR, hne, hge, al2.lt, fun g e => (RR.bds g e).2⟩, hS.below⟩
            exact AllReadyH.nil
          exact AllReadyH.nil
        exact AllReadyH.nil
      exact AllReadyH.nil
    refine AllReadyH.cons (o := qb10) rfl (fun K hK => ?_) ?_
    · rw [if_pos (by rfl)]
      simp only [qb10]
      go_simp
      have hzz : W.heap.size ≤ v0.heap.size := hS.below.size
      refine hK.out _ _ ⟨hS.below.trans (((Below.refl _ _).alloc (Nat.le_refl _) _).mono hS.below.size)⟩ (fun hS => ?_)
      clear hK K
      (try simp only [qb10, Act.put, nzA, nzB, nzC])
      refine any_at (fun x => At x v0.heap.size doneZ.toArray 32 ∧ Below v0.heap.size v0 x ∧ Cls W x) ⟨At.new _ _ _, (Below.refl _ _).alloc (Nat.le_refl _) _, hS⟩ ?_
      have hge : W.heap.size ≤ v0.heap.size := hzz
      clear hS hzz
      rintro v1 ⟨al, hb, hS⟩
      replace X := X.keep hb
      obtain ⟨ab, hab⟩ : ∃ q, Hid (v0.heap.size = q) := ⟨_, rfl⟩
      rw [hab.out] at al hge
      rw [hab.out]
      clear hb hab
      refine wpAnyH_ready (rs := [1]) (by kernel_rfl) (by simp) ?_
      refine AllReadyH.cons (o := qb1) rfl (fun K hK => ?_) ?_
      · rw [if_pos (by rfl)]
        simp only [qb1]
        go_simp
        go_at_call 5
        refine (toP p s l c k _).mono ?_
        rintro e v2 ⟨rfl, hb⟩
        (go_wp2_with fail)
        replace X := X.keep hb
        replace al := al.keep hb
        have hS2 : Cls W v2 := ⟨hS.below.trans (hb.mono hS.below.size)⟩
        clear hb
        refine hK.out _ _ hS2 (fun hS => ?_)
        clear hK K
        (try simp only [qb1, Act.put, nzA, nzB, nzC])
        refine wpAnyH_ready (rs := [5]) (by kernel_rfl) (by simp) ?_
        refine AllReadyH.cons (o := qb5) rfl (fun K hK => ?_) ?_
        · rw [if_pos (by rfl)]
          simp only [qb5]
          go_simp
          go_at_call 7
          refine (toH h _).mono ?_
          rintro e v3 ⟨rfl, hb⟩
          (go_wp2_with fail)
          replace X := X.keep hb
          replace al := al.keep hb
          have hS2 : Cls W v3 := ⟨hS.below.trans (hb.mono hS.below.size)⟩
          clear hb
          refine hK.out _ _ hS2 (fun hS => ?_)
          clear hK K
          (try simp only [qb5, Act.put, nzA, nzB, nzC])
          refine wpAnyH_ready (rs := [6]) (by kernel_rfl) (by simp) ?_
          refine AllReadyH.cons (o := qb6) rfl (fun K hK => ?_) ?_
          · rw [if_pos (by rfl)]
            simp only [qb6]
            go_simp
            go_at_call 8
            refine (CI.out _ _ _ X).mono ?_
            rintro e v4 ⟨ra, rn, rc, rfl, RR, hb⟩
            (go_wp2_with fail)
            have hal := al.lt
            have hne : ∀ g, ra = some ⟨g, 0, none⟩ → g ≠ ab := fun g e => by have := (RR.bds g e).1; omega
            replace al := al.keep hb
            replace RR := RR.mono hS.below.size
            have hS2 : Cls W v4 := ⟨hS.below.trans (hb.mono hS.below.size)⟩
            clear hb X
            refine hK.out _ _ hS2 (fun hS => ?_)
            clear hK K
            (try simp only [qb6, Act.put, nzA, nzB, nzC])
            refine tkP (i := 7) (oi := qb7) hS (fun w9 => by simp only [qb7]; go_simp; (try with_reducible rfl)) ?_
            simp only [qb7, Act.put, nzA, nzB, nzC]
            refine tkP (i := 8) (oi := qb8) hS (fun w9 => by simp only [qb8]; go_simp; (try with_reducible rfl)) ?_
            simp only [qb8, Act.put, nzA, nzB, nzC]
            refine tkP (i := 9) (oi := qb9) hS (fun w9 => by simp only [qb9]; go_simp; (try with_reducible rfl)) ?_
            simp only [qb9, Act.put, nzA, nzB, nzC]
            refine wpAnyH_ready (rs := [11]) (by kernel_rfl) (by simp) ?_
            refine AllReadyH.cons (o := qb11) rfl (fun K hK => ?_) ?_
            · rw [if_pos (by rfl)]
              refine wp_storeDn (.tmp 12) (.tmp 43) rfl ab (.slice ra rn rc) R.h R.d RR.one rfl rfl al rfl ?_
              intro v5 al2 kk
              replace RR := RR.kept kk hne
              have hS2 : Cls W v5 := ⟨hS.below.trans (kk.below hge hS.below.size)⟩
              refine hK.out _ _ hS2 (fun hS => ?_)
              clear hK K
              simp only [qb11, Act.put]
              refine tkP (i := 12) (oi := qb12) hS (fun w9 => by simp only [qb12]; go_simp; (try with_reducible rfl)) ?_
              simp only [qb12, Act.put, nzA, nzB, nzC]
              refine wpAnyH_done (by kernel_rfl) ?_ _
              (go_wp2_with fail)
              go_meet
              case rel => exact ⟨ab, ra, rn, rc, rfl, rfl, ⟨al2, RR, hne, hge, al2.lt, fun g e => (RR.bds g e).2⟩, hS.below⟩
            exact AllReadyH.nil
          exact AllReadyH.nil
        exact AllReadyH.nil
      exact AllReadyH.nil
    exact AllReadyH.nil
  case rest =>
  obtain ⟨b2, a2, n2, c2, rfl, rfl, D2, hb⟩ := hcut
  replace X := X.keep hb; replace D1 := D1.keep hb; replace P := P.keep hb; replace A := A.keep hb; replace hs := hs.keep hb; replace z := z.trans (hb.mono z.size); clear hb
  obtain ⟨lo2, hl2⟩ : ∃ q, Hid (W.heap.size = q) := ⟨_, rfl⟩
  rw [hl2.out] at D2 hXW
  clear hl2
  obtain ⟨W, rfl⟩ : ∃ W, W = wc := ⟨_, rfl⟩
  obtain ⟨hi2, hh2⟩ : ∃ q, Hid (W.heap.size = q) := ⟨_, rfl⟩
  rw [hh2.out] at D2
  have hn1 : n1 ≤ 1048576 := by have := D1.r.len; omega
  have hn2 : n2 ≤ 1048576 := by have := D2.r.len; omega
  have hk1 : ¬ ((1 : Int) + len < 0) := by omega
  have hk2 : ¬ ((1 : Int) + n2 < 0) := by omega
  obtain ⟨tt, htt⟩ : ∃ q, Hid (R.is = q) := ⟨_, rfl⟩
  simp only [htt.out]
  have hz2 : hi2 ≤ W.heap.size := by have := hh2.out; omega
  clear hh2
  go_upto_region 8 with (first
    | (refine loadDone D2 (by rfl) (.tmp 12) rfl rfl ?_)
    | (refine loadDone D1 (by rfl) (.tmp 9) rfl rfl ?_)
    | (go_at_call 9; refine (eqDn _ _ _ _ _ _ R.xs R.h R.d _ D2.r.src D1.r.src (by omega) (by omega)).mono ?_; rintro e w3 ⟨rfl, hb⟩; have hz3 := Nat.le_trans hz2 hb.size; replace X := X.keep hb; replace D1 := D1.keep hb; replace D2 := D2.keep hb; replace P := P.keep hb; replace A := A.keep hb; replace hs := hs.keep hb; replace z := z.trans (hb.mono z.size); clear hb))
  go_upto_region 10 with (first
    | (go_at_call 6; refine (toU _ _ _ xs _ hs hbd hn).mono ?_; rintro e w4 ⟨rfl, Y, hb⟩; have hz4 := Nat.le_trans hz3 hb.size; replace X := X.keep hb; replace D1 := D1.keep hb; replace D2 := D2.keep hb; replace P := P.keep hb; replace A := A.keep hb; replace hs := hs.keep hb; replace z := z.trans (hb.mono z.size); clear hb)
    | (go_at_call 10; refine (eqU _ _ _ _ _ _ xs xs _ X.src Y.src (by omega) (by omega)).mono ?_; rintro e w5 ⟨rfl, hb⟩; rw [decide_eq_true rfl]; have hz5 := Nat.le_trans hz4 hb.size; replace X := X.keep hb; replace D1 := D1.keep hb; replace D2 := D2.keep hb; replace P := P.keep hb; replace A := A.keep hb; replace hs := hs.keep hb; replace z := z.trans (hb.mono z.size); clear hb))
  go_upto_region 12 with (go_at_call 11; refine (markU _ _ _ xs 1 _ X (by omega) (by omega) (by omega)).mono ?_; rintro e w6 ⟨rfl, X2, kk⟩)
  have hz6 := Nat.le_trans hz5 kk.size
  replace D1 := D1.kept kk (.inr (Nat.le_refl _))
  replace D2 := D2.kept kk (.inl hXW)
  replace P := P.kept kk (by omega)
  replace A := A.kept kk (by omega)
  replace hs := hs.kept (fun b o e h0 => by have := hlo b o e h0; omega) kk
  replace z := z.trans (kk.below (by omega) z.size)
  clear kk X X2
  go_upto_region 14 with (first
    | (refine loadDone D2 (by rfl) (.tmp 12) rfl rfl ?_)
    | (refine loadDone D1 (by rfl) (.tmp 9) rfl rfl ?_)
    | (go_at_call 9; refine (eqDn _ _ _ _ _ _ R.xs R.h R.d _ D2.r.src D1.r.src (by omega) (by omega)).mono ?_; rintro e w7 ⟨rfl, hb⟩; have hz7 := Nat.le_trans hz6 hb.size; replace D1 := D1.keep hb; replace D2 := D2.keep hb; replace P := P.keep hb; replace A := A.keep hb; replace hs := hs.keep hb; replace z := z.trans (hb.mono z.size); clear hb))
  go_upto_region 16 with (first
    | (refine loadDone D2 (by rfl) (.tmp 12) rfl rfl ?_)
    | (go_at_call 12; refine (markAt D2 1 (by omega) (by omega) (by omega)).mono ?_; rintro e w8 ⟨rfl, M2, rg⟩))
  have hz8 := Nat.le_trans hz7 rg.size
  replace D1 := D1.rng rg (.inl (Nat.le_of_lt hXW))
  replace P := P.rng rg (.inl (by omega))
  replace A := A.rng rg (.inl (by omega))
  replace hs := hs.rng rg (fun b o e h0 => by have := hlo b o e h0; omega)
  replace z := z.trans (rg.below (by omega) z.size)
  clear rg D2
  go_upto_region 22 with (first
    | (refine loadDone M2 (by rfl) (.tmp 12) rfl rfl ?_)
    | (go_at_call 13; refine (heldDn _ _ _ _ _ 1 _ M2.r.src (by omega) (by omega) (by omega)).mono ?_; rintro e w9 ⟨rfl, hb⟩; have hz9 := Nat.le_trans hz8 hb.size; replace D1 := D1.keep hb; replace M2 := M2.keep hb; replace P := P.keep hb; replace A := A.keep hb; replace hs := hs.keep hb; replace z := z.trans (hb.mono z.size); clear hb))
  obtain ⟨W, rfl⟩ : ∃ W, W = w9 := ⟨_, rfl⟩
  rw [← htt.out]
  go_cut [17, 18] from 19 (fun x y wc => ∃ (b : Nat) (a : Option Addr) (n c : Nat), x = .pointer (some ⟨b, 0, none⟩) ∧ y = .bool R.is ∧ DoneAt wc W.heap.size wc.heap.size b a n c R.xs R.h R.d ∧ Below W.heap.size W wc)
  case first =>
    have lp : ∀ w', Cls W w' → (loadVar 23 ⟨w.heap.size, 0, none⟩).run Tryz.prog w' = .ok (.agg #[.int .i64 p, .int .i64 s, .int .i64 l, .int .i64 c, .int .i64 k]) w' := ld_agg (vs := [.int .i64 p, .int .i64 s, .int .i64 l, .int .i64 c, .int .i64 k]) P Tryz.underlying23 rfl (by kernel_rfl)
    have lh : ∀ w', Cls W w' → (loadVar 27 ⟨w.heap.size + 1, 0, none⟩).run Tryz.prog w' = .ok (.agg h.ar) w' := ld_agg (vs := h.vs) A Tryz.underlying27 rfl (by kernel_rfl)
    refine wp_region_held_drew (S := Cls W) (by kernel_rfl) ⟨⟨rfl, rfl, rfl, Nat.le_refl _, fun _ _ => rfl⟩⟩ (fun hS => ?_)
    generalize W.drew = v0 at *
    refine tkL (i := 0) (oi := qc0) hS rfl rfl (by assumption) ?_
    simp only [qc0, Act.put, nzA, nzB, nzC]
    refine tkP (i := 2) (oi := qc2) hS (fun w9 => by simp only [qc2]; go_simp; (try with_reducible rfl)) ?_
    simp only [qc2, Act.put, nzA, nzB, nzC]
    refine tkP (i := 4) (oi := qc4) hS (fun w9 => by simp only [qc4]; go_simp; (try with_reducible rfl)) ?_
    simp only [qc4, Act.put, nzA, nzB, nzC]
    refine tkL (i := 5) (oi := qc5) hS rfl rfl (by assumption) ?_
    simp only [qc5, Act.put, nzA, nzB, nzC]
    refine wpAnyH_ready (rs := [1, 11]) (by kernel_rfl) (by simp) ?_
    refine AllReadyH.cons (o := qc1) rfl (fun K hK => ?_) ?_
    · rw [if_pos (by rfl)]
      simp only [qc1]
      go_simp
      go_at_call 5
      refine (toP p s l c k _).mono ?_
      rintro e v1 ⟨rfl, hb⟩
      (go_wp2_with fail)
      have hS2 : Cls W v1 := ⟨hS.below.trans (hb.mono hS.below.size)⟩
      clear hb
      refine hK.out _ _ hS2 (fun hS => ?_)
      clear hK K
      (try simp only [qc1, Act.put, nzA, nzB, nzC])
      refine wpAnyH_ready (rs := [3, 11]) (by kernel_rfl) (by simp) ?_
      refine AllReadyH.cons (o := qc3) rfl (fun K hK => ?_) ?_
      · rw [if_pos (by rfl)]
        simp only [qc3]
        go_simp
        go_at_call 6
        refine (toU _ _ _ xs _ (hs.keep hS.below) hbd hn).mono ?_
        rintro e v2 ⟨rfl, X, hb⟩
        (go_wp2_with fail)
        have hS2 : Cls W v2 := ⟨hS.below.trans (hb.mono hS.below.size)⟩
        clear hb
        refine hK.out _ _ hS2 (fun hS => ?_)
        clear hK K
        (try simp only [qc3, Act.put, nzA, nzB, nzC])
        refine wpAnyH_ready (rs := [6, 11]) (by kernel_rfl) (by simp) ?_
        refine AllReadyH.cons (o := qc6) rfl (fun K hK => ?_) ?_
        · rw [if_pos (by rfl)]
          simp only [qc6]
          go_simp
          go_at_call 7
          refine (toH h _).mono ?_
          rintro e v3 ⟨rfl, hb⟩
          (go_wp2_with fail)
          replace X := X.keep hb
          have hS2 : Cls W v3 := ⟨hS.below.trans (hb.mono hS.below.size)⟩
          clear hb
          refine hK.out _ _ hS2 (fun hS => ?_)
          clear hK K
          (try simp only [qc6, Act.put, nzA, nzB, nzC])
          refine wpAnyH_ready (rs := [7, 11]) (by kernel_rfl) (by simp) ?_
          refine AllReadyH.cons (o := qc7) rfl (fun K hK => ?_) ?_
          · rw [if_pos (by rfl)]
            simp only [qc7]
            go_simp
            go_at_call 8
            refine (CI.out _ _ _ X).mono ?_
            rintro e v4 ⟨ra, rn, rc, rfl, RR, hb⟩
            (go_wp2_with fail)
            replace RR := RR.mono hS.below.size
            have hS2 : Cls W v4 := ⟨hS.below.trans (hb.mono hS.below.size)⟩
            clear hb X
            refine hK.out _ _ hS2 (fun hS => ?_)
            clear hK K
            (try simp only [qc7, Act.put, nzA, nzB, nzC])
            refine tkP (i := 8) (oi := qc8) hS (fun w9 => by simp only [qc8]; go_simp; (try with_reducible rfl)) ?_
            simp only [qc8, Act.put, nzA, nzB, nzC]
            refine tkP (i := 9) (oi := qc9) hS (fun w9 => by simp only [qc9]; go_simp; (try with_reducible rfl)) ?_
            simp only [qc9, Act.put, nzA, nzB, nzC]
            refine tkP (i := 10) (oi := qc10) hS (fun w9 => by simp only [qc10]; go_simp; (try with_reducible rfl)) ?_
            simp only [qc10, Act.put, nzA, nzB, nzC]
            refine wpAnyH_ready (rs := [11]) (by kernel_rfl) (by simp) ?_
            refine AllReadyH.cons (o := qc11) rfl (fun K hK => ?_) ?_
            · rw [if_pos (by rfl)]
              simp only [qc11]
              go_simp
              have hzz : W.heap.size ≤ v4.heap.size := hS.below.size
              refine hK.out _ _ ⟨hS.below.trans (((Below.refl _ _).alloc (Nat.le_refl _) _).mono hS.below.size)⟩ (fun hS => ?_)
              clear hK K
              (try simp only [qc11, Act.put, nzA, nzB, nzC])
              refine any_at (fun x => At x v4.heap.size doneZ.toArray 32 ∧ Below v4.heap.size v4 x ∧ Cls W x) ⟨At.new _ _ _, (Below.refl _ _).alloc (Nat.le_refl _) _, hS⟩ ?_
              have hge : W.heap.size ≤ v4.heap.size := hzz
              clear hS hzz
              rintro v5 ⟨al, hb, hS⟩
              obtain ⟨ab, hab⟩ : ∃ q, Hid (v4.heap.size = q) := ⟨_, rfl⟩
              have hne : ∀ g, ra = some ⟨g, 0, none⟩ → g ≠ ab := fun g e => by have := (RR.bds g e).2; have := hab.out; omega
              replace RR := RR.keep hb
              rw [hab.out] at al hge
              rw [hab.out]
              clear hb hab
              refine wpAnyH_ready (rs := [12]) (by kernel_rfl) (by simp) ?_
              refine AllReadyH.cons (o := qc12) rfl (fun K hK => ?_) ?_
              · rw [if_pos (by rfl)]
                refine wp_storeDn (.tmp 17) (.tmp 95) rfl ab (.slice ra rn rc) R.h R.d RR.one rfl rfl al rfl ?_
                intro v6 al2 kk
                replace RR := RR.kept kk hne
                have hS2 : Cls W v6 := ⟨hS.below.trans (kk.below hge hS.below.size)⟩
                refine hK.out _ _ hS2 (fun hS => ?_)
                clear hK K
                simp only [qc12, Act.put]
                refine tkP (i := 13) (oi := qc13) hS (fun w9 => by simp only [qc13]; go_simp; (try with_reducible rfl)) ?_
                simp only [qc13, Act.put, nzA, nzB, nzC]
                refine wpAnyH_done (by kernel_rfl) ?_ _
                (go_wp2_with fail)
                go_meet
                case rel => exact ⟨ab, ra, rn, rc, rfl, rfl, ⟨al2, RR, hne, hge, al2.lt, fun g e => (RR.bds g e).2⟩, hS.below⟩
              exact AllReadyH.nil
            exact AllReadyH.nil
          refine AllReadyH.cons (o := qc11) rfl (fun K hK => ?_) ?_
          · rw [if_pos (by rfl)]
            simp only [qc11]
            go_simp
            have hzz : W.heap.size ≤ v3.heap.size := hS.below.size
            refine hK.out _ _ ⟨hS.below.trans (((Below.refl _ _).alloc (Nat.le_refl _) _).mono hS.below.size)⟩ (fun hS => ?_)
            clear hK K
            (try simp only [qc11, Act.put, nzA, nzB, nzC])
            refine any_at (fun x => At x v3.heap.size doneZ.toArray 32 ∧ Below v3.heap.size v3 x ∧ Cls W x) ⟨At.new _ _ _, (Below.refl _ _).alloc (Nat.le_refl _) _, hS⟩ ?_
            have hge : W.heap.size ≤ v3.heap.size := hzz
            clear hS hzz
            rintro v4 ⟨al, hb, hS⟩
            replace X := X.keep hb
            obtain ⟨ab, hab⟩ : ∃ q, Hid (v3.heap.size = q) := ⟨_, rfl⟩
            rw [hab.out] at al hge
            rw [hab.out]
            clear hb hab
            refine wpAnyH_ready (rs := [7]) (by kernel_rfl) (by simp) ?_
            refine AllReadyH.cons (o := qc7) rfl (fun K hK => ?_) ?_
            · rw [if_pos (by rfl)]
              simp only [qc7]
              go_simp
              go_at_call 8
              refine (CI.out _ _ _ X).mono ?_
              rintro e v5 ⟨ra, rn, rc, rfl, RR, hb⟩
              (go_wp2_with fail)
              have hal := al.lt
              have hne : ∀ g, ra = some ⟨g, 0, none⟩ → g ≠ ab := fun g e => by have := (RR.bds g e).1; omega
              replace al := al.keep hb
              replace RR := RR.mono hS.below.size
              have hS2 : Cls W v5 := ⟨hS.below.trans (hb.mono hS.below.size)⟩
              clear hb X
              refine hK.out _ _ hS2 (fun hS => ?_)
              clear hK K
              (try simp only [qc7, Act.put, nzA, nzB, nzC])
              refine tkP (i := 8) (oi := qc8) hS (fun w9 => by simp only [qc8]; go_simp; (try with_reducible rfl)) ?_
              simp only [qc8, Act.put, nzA, nzB, nzC]
              refine tkP (i := 9) (oi := qc9) hS (fun w9 => by simp only [qc9]; go_simp; (try with_reducible rfl)) ?_
              simp only [qc9, Act.put, nzA, nzB, nzC]
              refine tkP (i := 10) (oi := qc10) hS (fun w9 => by simp only [qc10]; go_simp; (try with_reducible rfl)) ?_
              simp only [qc10, Act.put, nzA, nzB, nzC]
              refine wpAnyH_ready (rs := [12]) (by kernel_rfl) (by simp) ?_
              refine AllReadyH.cons (o := qc12) rfl (fun K hK => ?_) ?_
              · rw [if_pos (by rfl)]
                refine wp_storeDn (.tmp 17) (.tmp 95) rfl ab (.slice ra rn rc) R.h R.d RR.one rfl rfl al rfl ?_
                intro v6 al2 kk
                replace RR := RR.kept kk hne
                have hS2 : Cls W v6 := ⟨hS.below.trans (kk.below hge hS.below.size)⟩
                refine hK.out _ _ hS2 (fun hS => ?_)
                clear hK K
                simp only [qc12, Act.put]
                refine tkP (i := 13) (oi := qc13) hS (fun w9 => by simp only [qc13]; go_simp; (try with_reducible rfl)) ?_
                simp only [qc13, Act.put, nzA, nzB, nzC]
                refine wpAnyH_done (by kernel_rfl) ?_ _
                (go_wp2_with fail)
                go_meet
                case rel => exact ⟨ab, ra, rn, rc, rfl, rfl, ⟨al2, RR, hne, hge, al2.lt, fun g e => (RR.bds g e).2⟩, hS.below⟩
              exact AllReadyH.nil
            exact AllReadyH.nil
          exact AllReadyH.nil
        refine AllReadyH.cons (o := qc11) rfl (fun K hK => ?_) ?_
        · rw [if_pos (by rfl)]
          simp only [qc11]
          go_simp
          have hzz : W.heap.size ≤ v2.heap.size := hS.below.size
          refine hK.out _ _ ⟨hS.below.trans (((Below.refl _ _).alloc (Nat.le_refl _) _).mono hS.below.size)⟩ (fun hS => ?_)
          clear hK K
          (try simp only [qc11, Act.put, nzA, nzB, nzC])
          refine any_at (fun x => At x v2.heap.size doneZ.toArray 32 ∧ Below v2.heap.size v2 x ∧ Cls W x) ⟨At.new _ _ _, (Below.refl _ _).alloc (Nat.le_refl _) _, hS⟩ ?_
          have hge : W.heap.size ≤ v2.heap.size := hzz
          clear hS hzz
          rintro v3 ⟨al, hb, hS⟩
          replace X := X.keep hb
          obtain ⟨ab, hab⟩ : ∃ q, Hid (v2.heap.size = q) := ⟨_, rfl⟩
          rw [hab.out] at al hge
          rw [hab.out]
          clear hb hab
          refine wpAnyH_ready (rs := [6]) (by kernel_rfl) (by simp) ?_
          refine AllReadyH.cons (o := qc6) rfl (fun K hK => ?_) ?_
          · rw [if_pos (by rfl)]
            simp only [qc6]
            go_simp
            go_at_call 7
            refine (toH h _).mono ?_
            rintro e v4 ⟨rfl, hb⟩
            (go_wp2_with fail)
            replace X := X.keep hb
            replace al := al.keep hb
            have hS2 : Cls W v4 := ⟨hS.below.trans (hb.mono hS.below.size)⟩
            clear hb
            refine hK.out _ _ hS2 (fun hS => ?_)
            clear hK K
            (try simp only [qc6, Act.put, nzA, nzB, nzC])
            refine wpAnyH_ready (rs := [7]) (by kernel_rfl) (by simp) ?_
            refine AllReadyH.cons (o := qc7) rfl (fun K hK => ?_) ?_
            · rw [if_pos (by rfl)]
              simp only [qc7]
              go_simp
              go_at_call 8
              refine (CI.out _ _ _ X).mono ?_
              rintro e v5 ⟨ra, rn, rc, rfl, RR, hb⟩
              (go_wp2_with fail)
              have hal := al.lt
              have hne : ∀ g, ra = some ⟨g, 0, none⟩ → g ≠ ab := fun g e => by have := (RR.bds g e).1; omega
              replace al := al.keep hb
              replace RR := RR.mono hS.below.size
              have hS2 : Cls W v5 := ⟨hS.below.trans (hb.mono hS.below.size)⟩
              clear hb X
              refine hK.out _ _ hS2 (fun hS => ?_)
              clear hK K
              (try simp only [qc7, Act.put, nzA, nzB, nzC])
              refine tkP (i := 8) (oi := qc8) hS (fun w9 => by simp only [qc8]; go_simp; (try with_reducible rfl)) ?_
              simp only [qc8, Act.put, nzA, nzB, nzC]
              refine tkP (i := 9) (oi := qc9) hS (fun w9 => by simp only [qc9]; go_simp; (try with_reducible rfl)) ?_
              simp only [qc9, Act.put, nzA, nzB, nzC]
              refine tkP (i := 10) (oi := qc10) hS (fun w9 => by simp only [qc10]; go_simp; (try with_reducible rfl)) ?_
              simp only [qc10, Act.put, nzA, nzB, nzC]
              refine wpAnyH_ready (rs := [12]) (by kernel_rfl) (by simp) ?_
              refine AllReadyH.cons (o := qc12) rfl (fun K hK => ?_) ?_
              · rw [if_pos (by rfl)]
                refine wp_storeDn (.tmp 17) (.tmp 95) rfl ab (.slice ra rn rc) R.h R.d RR.one rfl rfl al rfl ?_
                intro v6 al2 kk
                replace RR := RR.kept kk hne
                have hS2 : Cls W v6 := ⟨hS.below.trans (kk.below hge hS.below.size)⟩
                refine hK.out _ _ hS2 (fun hS => ?_)
                clear hK K
                simp only [qc12, Act.put]
                refine tkP (i := 13) (oi := qc13) hS (fun w9 => by simp only [qc13]; go_simp; (try with_reducible rfl)) ?_
                simp only [qc13, Act.put, nzA, nzB, nzC]
                refine wpAnyH_done (by kernel_rfl) ?_ _
                (go_wp2_with fail)
                go_meet
                case rel => exact ⟨ab, ra, rn, rc, rfl, rfl, ⟨al2, RR, hne, hge, al2.lt, fun g e => (RR.bds g e).2⟩, hS.below⟩
              exact AllReadyH.nil
            exact AllReadyH.nil
          exact AllReadyH.nil
        exact AllReadyH.nil
      refine AllReadyH.cons (o := qc11) rfl (fun K hK => ?_) ?_
      · rw [if_pos (by rfl)]
        simp only [qc11]
        go_simp
        have hzz : W.heap.size ≤ v1.heap.size := hS.below.size
        refine hK.out _ _ ⟨hS.below.trans (((Below.refl _ _).alloc (Nat.le_refl _) _).mono hS.below.size)⟩ (fun hS => ?_)
        clear hK K
        (try simp only [qc11, Act.put, nzA, nzB, nzC])
        refine any_at (fun x => At x v1.heap.size doneZ.toArray 32 ∧ Below v1.heap.size v1 x ∧ Cls W x) ⟨At.new _ _ _, (Below.refl _ _).alloc (Nat.le_refl _) _, hS⟩ ?_
        have hge : W.heap.size ≤ v1.heap.size := hzz
        clear hS hzz
        rintro v2 ⟨al, hb, hS⟩
        obtain ⟨ab, hab⟩ : ∃ q, Hid (v1.heap.size = q) := ⟨_, rfl⟩
        rw [hab.out] at al hge
        rw [hab.out]
        clear hb hab
        refine wpAnyH_ready (rs := [3]) (by kernel_rfl) (by simp) ?_
        refine AllReadyH.cons (o := qc3) rfl (fun K hK => ?_) ?_
        · rw [if_pos (by rfl)]
          simp only [qc3]
          go_simp
          go_at_call 6
          refine (toU _ _ _ xs _ (hs.keep hS.below) hbd hn).mono ?_
          rintro e v3 ⟨rfl, X, hb⟩
          (go_wp2_with fail)
          replace al := al.keep hb
          have hS2 : Cls W v3 := ⟨hS.below.trans (hb.mono hS.below.size)⟩
          clear hb
          refine hK.out _ _ hS2 (fun hS => ?_)
          clear hK K
          (try simp only [qc3, Act.put, nzA, nzB, nzC])
          refine wpAnyH_ready (rs := [6]) (by kernel_rfl) (by simp) ?_
          refine AllReadyH.cons (o := qc6) rfl (fun K hK => ?_) ?_
          · rw [if_pos (by rfl)]
            simp only [qc6]
            go_simp
            go_at_call 7
            refine (toH h _).mono ?_
            rintro e v4 ⟨rfl, hb⟩
            (go_wp2_with fail)
            replace X := X.keep hb
            replace al := al.keep hb
            have hS2 : Cls W v4 := ⟨hS.below.trans (hb.mono hS.below.size)⟩
            clear hb
            refine hK.out _ _ hS2 (fun hS => ?_)
            clear hK K
            (try simp only [qc6, Act.put, nzA, nzB, nzC])
            refine wpAnyH_ready (rs := [7]) (by kernel_rfl) (by simp) ?_
            refine AllReadyH.cons (o := qc7) rfl (fun K hK => ?_) ?_
            · rw [if_pos (by rfl)]
              simp only [qc7]
              go_simp
              go_at_call 8
              refine (CI.out _ _ _ X).mono ?_
              rintro e v5 ⟨ra, rn, rc, rfl, RR, hb⟩
              (go_wp2_with fail)
              have hal := al.lt
              have hne : ∀ g, ra = some ⟨g, 0, none⟩ → g ≠ ab := fun g e => by have := (RR.bds g e).1; omega
              replace al := al.keep hb
              replace RR := RR.mono hS.below.size
              have hS2 : Cls W v5 := ⟨hS.below.trans (hb.mono hS.below.size)⟩
              clear hb X
              refine hK.out _ _ hS2 (fun hS => ?_)
              clear hK K
              (try simp only [qc7, Act.put, nzA, nzB, nzC])
              refine tkP (i := 8) (oi := qc8) hS (fun w9 => by simp only [qc8]; go_simp; (try with_reducible rfl)) ?_
              simp only [qc8, Act.put, nzA, nzB, nzC]
              refine tkP (i := 9) (oi := qc9) hS (fun w9 => by simp only [qc9]; go_simp; (try with_reducible rfl)) ?_
              simp only [qc9, Act.put, nzA, nzB, nzC]
              refine tkP (i := 10) (oi := qc10) hS (fun w9 => by simp only [qc10]; go_simp; (try with_reducible rfl)) ?_
              simp only [qc10, Act.put, nzA, nzB, nzC]
              refine wpAnyH_ready (rs := [12]) (by kernel_rfl) (by simp) ?_
              refine AllReadyH.cons (o := qc12) rfl (fun K hK => ?_) ?_
              · rw [if_pos (by rfl)]
                refine wp_storeDn (.tmp 17) (.tmp 95) rfl ab (.slice ra rn rc) R.h R.d RR.one rfl rfl al rfl ?_
                intro v6 al2 kk
                replace RR := RR.kept kk hne
                have hS2 : Cls W v6 := ⟨hS.below.trans (kk.below hge hS.below.size)⟩
                refine hK.out _ _ hS2 (fun hS => ?_)
                clear hK K
                simp only [qc12, Act.put]
                refine tkP (i := 13) (oi := qc13) hS (fun w9 => by simp only [qc13]; go_simp; (try with_reducible rfl)) ?_
                simp only [qc13, Act.put, nzA, nzB, nzC]
                refine wpAnyH_done (by kernel_rfl) ?_ _
                (go_wp2_with fail)
                go_meet
                case rel => exact ⟨ab, ra, rn, rc, rfl, rfl, ⟨al2, RR, hne, hge, al2.lt, fun g e => (RR.bds g e).2⟩, hS.below⟩
              exact AllReadyH.nil
            exact AllReadyH.nil
          exact AllReadyH.nil
        exact AllReadyH.nil
      exact AllReadyH.nil
    refine AllReadyH.cons (o := qc11) rfl (fun K hK => ?_) ?_
    · rw [if_pos (by rfl)]
      simp only [qc11]
      go_simp
      have hzz : W.heap.size ≤ v0.heap.size := hS.below.size
      refine hK.out _ _ ⟨hS.below.trans (((Below.refl _ _).alloc (Nat.le_refl _) _).mono hS.below.size)⟩ (fun hS => ?_)
      clear hK K
      (try simp only [qc11, Act.put, nzA, nzB, nzC])
      refine any_at (fun x => At x v0.heap.size doneZ.toArray 32 ∧ Below v0.heap.size v0 x ∧ Cls W x) ⟨At.new _ _ _, (Below.refl _ _).alloc (Nat.le_refl _) _, hS⟩ ?_
      have hge : W.heap.size ≤ v0.heap.size := hzz
      clear hS hzz
      rintro v1 ⟨al, hb, hS⟩
      obtain ⟨ab, hab⟩ : ∃ q, Hid (v0.heap.size = q) := ⟨_, rfl⟩
      rw [hab.out] at al hge
      rw [hab.out]
      clear hb hab
      refine wpAnyH_ready (rs := [1]) (by kernel_rfl) (by simp) ?_
      refine AllReadyH.cons (o := qc1) rfl (fun K hK => ?_) ?_
      · rw [if_pos (by rfl)]
        simp only [qc1]
        go_simp
        go_at_call 5
        refine (toP p s l c k _).mono ?_
        rintro e v2 ⟨rfl, hb⟩
        (go_wp2_with fail)
        replace al := al.keep hb
        have hS2 : Cls W v2 := ⟨hS.below.trans (hb.mono hS.below.size)⟩
        clear hb
        refine hK.out _ _ hS2 (fun hS => ?_)
        clear hK K
        (try simp only [qc1, Act.put, nzA, nzB, nzC])
        refine wpAnyH_ready (rs := [3]) (by kernel_rfl) (by simp) ?_
        refine AllReadyH.cons (o := qc3) rfl (fun K hK => ?_) ?_
        · rw [if_pos (by rfl)]
          simp only [qc3]
          go_simp
          go_at_call 6
          refine (toU _ _ _ xs _ (hs.keep hS.below) hbd hn).mono ?_
          rintro e v3 ⟨rfl, X, hb⟩
          (go_wp2_with fail)
          replace al := al.keep hb
          have hS2 : Cls W v3 := ⟨hS.below.trans (hb.mono hS.below.size)⟩
          clear hb
          refine hK.out _ _ hS2 (fun hS => ?_)
          clear hK K
          (try simp only [qc3, Act.put, nzA, nzB, nzC])
          refine wpAnyH_ready (rs := [6]) (by kernel_rfl) (by simp) ?_
          refine AllReadyH.cons (o := qc6) rfl (fun K hK => ?_) ?_
          · rw [if_pos (by rfl)]
            simp only [qc6]
            go_simp
            go_at_call 7
            refine (toH h _).mono ?_
            rintro e v4 ⟨rfl, hb⟩
            (go_wp2_with fail)
            replace X := X.keep hb
            replace al := al.keep hb
            have hS2 : Cls W v4 := ⟨hS.below.trans (hb.mono hS.below.size)⟩
            clear hb
            refine hK.out _ _ hS2 (fun hS => ?_)
            clear hK K
            (try simp only [qc6, Act.put, nzA, nzB, nzC])
            refine wpAnyH_ready (rs := [7]) (by kernel_rfl) (by simp) ?_
            refine AllReadyH.cons (o := qc7) rfl (fun K hK => ?_) ?_
            · rw [if_pos (by rfl)]
              simp only [qc7]
              go_simp
              go_at_call 8
              refine (CI.out _ _ _ X).mono ?_
              rintro e v5 ⟨ra, rn, rc, rfl, RR, hb⟩
              (go_wp2_with fail)
              have hal := al.lt
              have hne : ∀ g, ra = some ⟨g, 0, none⟩ → g ≠ ab := fun g e => by have := (RR.bds g e).1; omega
              replace al := al.keep hb
              replace RR := RR.mono hS.below.size
              have hS2 : Cls W v5 := ⟨hS.below.trans (hb.mono hS.below.size)⟩
              clear hb X
              refine hK.out _ _ hS2 (fun hS => ?_)
              clear hK K
              (try simp only [qc7, Act.put, nzA, nzB, nzC])
              refine tkP (i := 8) (oi := qc8) hS (fun w9 => by simp only [qc8]; go_simp; (try with_reducible rfl)) ?_
              simp only [qc8, Act.put, nzA, nzB, nzC]
              refine tkP (i := 9) (oi := qc9) hS (fun w9 => by simp only [qc9]; go_simp; (try with_reducible rfl)) ?_
              simp only [qc9, Act.put, nzA, nzB, nzC]
              refine tkP (i := 10) (oi := qc10) hS (fun w9 => by simp only [qc10]; go_simp; (try with_reducible rfl)) ?_
              simp only [qc10, Act.put, nzA, nzB, nzC]
              refine wpAnyH_ready (rs := [12]) (by kernel_rfl) (by simp) ?_
              refine AllReadyH.cons (o := qc12) rfl (fun K hK => ?_) ?_
              · rw [if_pos (by rfl)]
                refine wp_storeDn (.tmp 17) (.tmp 95) rfl ab (.slice ra rn rc) R.h R.d RR.one rfl rfl al rfl ?_
                intro v6 al2 kk
                replace RR := RR.kept kk hne
                have hS2 : Cls W v6 := ⟨hS.below.trans (kk.below hge hS.below.size)⟩
                refine hK.out _ _ hS2 (fun hS => ?_)
                clear hK K
                simp only [qc12, Act.put]
                refine tkP (i := 13) (oi := qc13) hS (fun w9 => by simp only [qc13]; go_simp; (try with_reducible rfl)) ?_
                simp only [qc13, Act.put, nzA, nzB, nzC]
                refine wpAnyH_done (by kernel_rfl) ?_ _
                (go_wp2_with fail)
                go_meet
                case rel => exact ⟨ab, ra, rn, rc, rfl, rfl, ⟨al2, RR, hne, hge, al2.lt, fun g e => (RR.bds g e).2⟩, hS.below⟩
              exact AllReadyH.nil
            exact AllReadyH.nil
          exact AllReadyH.nil
        exact AllReadyH.nil
      exact AllReadyH.nil
    exact AllReadyH.nil
  case rest =>
  obtain ⟨b3, a3, n3, c3, rfl, rfl, D3, hb⟩ := hcut
  replace D1 := D1.keep hb; replace M2 := M2.keep hb; replace P := P.keep hb; replace A := A.keep hb; replace hs := hs.keep hb; replace z := z.trans (hb.mono z.size); clear hb
  have hn3 : n3 ≤ 1048576 := by have := D3.r.len; omega
  simp only [htt.out]
  go_wp2_with (first
    | (refine loadDone D3 (by rfl) (.tmp 17) rfl rfl ?_)
    | (refine loadDone D1 (by rfl) (.tmp 9) rfl rfl ?_)
    | (refine loadDone M2 (by rfl) (.tmp 12) rfl rfl ?_)
    | (go_at_call 9; refine (eqDn _ _ _ _ _ _ R.xs R.h R.d _ D3.r.src D1.r.src (by omega) (by omega)).mono ?_; rintro e w11 ⟨rfl, hb⟩; replace D1 := D1.keep hb; replace M2 := M2.keep hb; replace P := P.keep hb; replace A := A.keep hb; replace hs := hs.keep hb; replace z := z.trans (hb.mono z.size); clear hb)
    | (go_at_call 13; refine (heldDn _ _ _ _ _ 1 _ M2.r.src (by omega) (by omega) (by omega)).mono ?_; rintro e w12 ⟨rfl, hb⟩; replace z := z.trans (hb.mono z.size)))
  go_ret
  exact ⟨rfl, z⟩
theorem own : ownKnob Tryz.prog.godebug = none := by kernel_rfl
theorem laidOut : laidOutB Tryz.prog = true := by kernel_rfl
set_option maxRecDepth 100000 in
theorem lifted (os : Os) (started : os.Started) (H : Type) (enc : TypeId × Value → H) :
    ReturnsInHanded {} Tryz.checked os 3 .any (Rows.fnExactQueueStepSpec.pre6 enc Tryz.prog Tryz.f3 Rows.fnExactQueueStepRow.domain false) (Rows.fnExactQueueStepSpec.post enc Tryz.prog Tryz.f3 false true false false) := by
  refine returnsInHanded_of_change (C := Tryz.checked) own started (by kernel_rfl) Tryz.func3
    (ChangeSpec.witness6 (enc := enc) (C := Tryz.checked) false ⟨#[], #[.agg #[.int .i64 0, .int .i64 0, .int .i64 0, .int .i64 0, .int .i64 0], .slice none 0 0, .int .i64 0, .agg #[.bool false, .bool false, .bool false, .bool false, .int .i64 0, .int .i64 0, .int .i64 0, .int .i64 0, .int .i64 0, .int .i64 0, .int .i64 0, .int .i64 0, .int .i64 0, .int .i64 0, .int .i64 0, .int .u64 0, .int .u64 0, .int .i64 0, .int .i64 0, .int .i64 0, .int .i64 0, .int .i64 0, .int .i64 0, .int .i64 0, .int .i64 0, .int .i64 0, .int .i64 0, .int .i64 0, .int .i64 0, .int .i64 0, .int .i64 0, .int .i64 0, .int .i64 0, .int .i64 0, .int .i64 0, .int .i64 0]], []⟩ 8 (by kernel_rfl) (by kernel_rfl) (by kernel_rfl) (by kernel_rfl)) ?_
  intro W base args ds gs before hval0 hW hcnd _
  have hval : ∀ (j : Nat) t v, Tryz.f3.params[j]? = some t → args[j]? = some v → Value.okWide Tryz.prog W .any base t v := hval0
  have hW' := hW
  obtain ⟨p, q, hA0, hV, rfl, hfz, hnd⟩ := hW
  have hA : DataW.TrodAll enc Tryz.prog W 0 (fun _ => true) true Tryz.f3.params.toList args.toList ds p := hA0
  rw [Tryz.params3] at hA hval
  obtain ⟨v0, vs0, d0, ds0, p0, q0, hargs, rfl, rfl, h0, r0⟩ := trodAll_cons hA
  obtain ⟨v1, vs1, d1, ds1, p1, q1, rfl, rfl, rfl, h1, r1⟩ := trodAll_cons r0
  obtain ⟨v2, vs2, d2, ds2, p2, q2, rfl, rfl, rfl, h2, r2⟩ := trodAll_cons r1
  obtain ⟨v3, vs3, d3, ds3, p3, q3, rfl, rfl, rfl, h3, r3⟩ := trodAll_cons r2
  obtain ⟨rfl, rfl, rfl⟩ := trodAll_nil r3
  obtain rfl : args = #[v0, v1, v2, v3] := by cases args; simp_all
  obtain ⟨rfl, rfl⟩ := trodVars_none hV
  have k0 := h0
  have lt0 : ∀ x ∈ p0, x.block < W.heap.size := by obtain ⟨m, hm⟩ := k0; exact DataW.trod_lt m _ _ _ hm
  obtain ⟨zs0, hl0, hv0, bd0⟩ := open_i64s Tryz.underlying23 (by kernel_rfl) (by kernel_rfl) (i64Fields_of (by kernel_rfl)) (hval 0 23 v0 rfl rfl) h0
  obtain ⟨n0_0, n0_1, n0_2, n0_3, n0_4, rfl, rfl⟩ := agg5 (hl0.trans rfl) hv0
  have b0_0 := bd0 n0_0 (by simp)
  have b0_1 := bd0 n0_1 (by simp)
  have b0_2 := bd0 n0_2 (by simp)
  have b0_3 := bd0 n0_3 (by simp)
  have b0_4 := bd0 n0_4 (by simp)
  have k1 := h1
  have lt1 : ∀ x ∈ p1, x.block < W.heap.size := by obtain ⟨m, hm⟩ := k1; exact DataW.trod_lt m _ _ _ hm
  obtain ⟨a1, len1, cap1, rfl⟩ := okWide_slice Tryz.underlying24 (hval 1 24 v1 rfl rfl)
  obtain ⟨z1, w1⟩ : ∃ zs, IsRow .u64 W a1 len1 cap1 zs := by
    obtain ⟨fuel, hf⟩ := h1
    rcases open_ints Tryz.underlying24 Tryz.underlying25 (by kernel_rfl) hf with ⟨hcs, _⟩ | ⟨x, l, c, zs, hcs, _, hl, hm, hz, _, hcell, hwz⟩
    · simp [Value.cells] at hcs
      obtain ⟨rfl, rfl, rfl⟩ := hcs
      exact ⟨[], .inl ⟨rfl, rfl, rfl, rfl⟩⟩
    · simp [Value.cells] at hcs
      obtain ⟨rfl, rfl, rfl⟩ := hcs
      exact ⟨zs, .inr ⟨_, rfl, hl, hm, by simpa using hz, hcell, hwz⟩⟩
  have k2 := h2
  have lt2 : ∀ x ∈ p2, x.block < W.heap.size := by obtain ⟨m, hm⟩ := k2; exact DataW.trod_lt m _ _ _ hm
  obtain ⟨a2, rfl, rfl, rfl, w2⟩ := open_int Tryz.underlying2 (hval 2 2 v2 rfl rfl) h2
  have b2 := bounds_i64 w2
  have k3 := h3
  have lt3 : ∀ x ∈ p3, x.block < W.heap.size := by obtain ⟨m, hm⟩ := k3; exact DataW.trod_lt m _ _ _ hm
  obtain ⟨cs3, hz3, hv3, hb3, hu3, hi3⟩ := open_mixed2 Tryz.underlying27 (by kernel_rfl) (by kernel_rfl) (by kernel_rfl) (hval 3 27 v3 rfl rfl) h3
  obtain ⟨hd3, rfl, hsn3, hpt3⟩ := hand_of2 (hz3.trans rfl) hv3 hb3 hu3 hi3
  clear hA0 hval0
  refine (walk n0_0 n0_1 n0_2 n0_3 n0_4 b0_0 b0_1 b0_2 b0_3 b0_4 a1 len1 cap1 z1 a2 b2.1 b2.2 hd3 hsn3 hpt3 W w1).mono fun e W' ⟨he, bel⟩ => ?_
  subst he
  exact ⟨_, rfl, _, _, _, [], _, [], hW', trodAll_mk1 (shut_bool Tryz.underlying4 _), (trodAll_cons_mk (Below.trod laidOut (by kernel_rfl) (of_decide_eq_true (by kernel_rfl)) k0 bel lt0) (trodAll_cons_mk (Below.trod laidOut (by kernel_rfl) (of_decide_eq_true (by kernel_rfl)) k1 bel lt1) (trodAll_cons_mk (Below.trod laidOut (by kernel_rfl) (of_decide_eq_true (by kernel_rfl)) k2 bel lt2) (trodAll_cons_mk (Below.trod laidOut (by kernel_rfl) (of_decide_eq_true (by kernel_rfl)) k3 bel lt3) trodAll_mk0)))), rfl, bel.frame _, fun h => by cases h⟩

theorem over : Rows.fnExactQueueStepRow.holds Tryz.pinned (OpenSpec.ofChange Rows.fnExactQueueStepSpec) :=
  OpenClaim.holds_of_wide 3 Tryz.f3 rfl rfl rfl rfl rfl rfl rfl ⟨rfl, rfl, rfl, rfl, rfl⟩ rfl rfl rfl rfl rfl (by kernel_rfl) Tryz.func3 (by kernel_rfl)
    (of_decide_eq_true (by kernel_rfl)) (by unfold Func.isWrapper; first | (rw [if_pos (by decide +kernel)]; kernel_rfl) | (rw [if_neg (by decide +kernel)]; exact ⟨rfl, rfl⟩))
    (fun os started H enc _ => lifted os started H enc)
end Go.Proofs.YtgmoemjiffglbaaGreat.fnExactQueueStep
namespace Go.Proofs.YtgmoemjiffglbaaGreat
theorem fnExactQueueStep_holds : Rows.FnExactQueueStepSaid := fnExactQueueStep.over
#print axioms fnExactQueueStep_holds
end Go.Proofs.YtgmoemjiffglbaaGreat
