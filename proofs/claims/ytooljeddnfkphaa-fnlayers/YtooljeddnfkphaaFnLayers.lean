/-
  The chapters 8 to 15 tell 8, 12, 12, 16, 3, 3, 14 and 2 of the steps, in this order, whatever the code; nothing that was there is changed. No condition.
-/
import Derived.Test.YtooljeddnfkphaaRows
import Derived.Test.YtooljeddnfkphaaCode
import Derived.Test.YtooljeddnfkphaaLay
import Derived.WalkKit
import Derived.ProofKit
import Derived.OpenShut
import Derived.ChangeOld
import Derived.Below
import Derived.Lib.SmallJoins
namespace Go.Proofs.Ytooljeddnfkphaa.fnLayers
open Go.ChangeShapes Go.WideShapes Go.ChangeAt Go.RowKit
set_option linter.unusedVariables false
def sv (i : Int) : Int := if i = 0 then 1 else if i = 1 then 9 else if i = 2 then 21 else if i = 3 then 33 else if i = 4 then 49 else if i = 5 then 52 else if i = 6 then 55 else if i = 7 then 69 else 71
set_option maxHeartbeats 16000000 in
theorem walk (a : Option Addr) (len cap : Nat) (zs : List Int) (w : World) (hrow : IsRow .u8 w a len cap zs) :
    Calls Try.prog 5 #[.slice a len cap] w fun e w' => e = .returned (.bool true) ∧ Below w.heap.size w w' := by
  have hlen := hrow.small
  clear hrow
  by_cases hb : (4096 : Int) < len
  · have hb' : decide ((4096 : Int) < len) = true := decide_eq_true hb
    go_enter Try.func5, Try.ntmps5
    go_wp2_with (go_at_call 13; refine (big_any _ _ _ _ hlen).mono ?_; rintro e w1 ⟨rfl, rfl⟩; rw [hb'])
    go_ret
    exact ⟨rfl, Below.refl _ _⟩
  have hb' : decide ((4096 : Int) < len) = false := decide_eq_false hb
  go_enter Try.func5, Try.ntmps5
  go_upto_region 6 with (go_at_call 13; refine (big_any _ _ _ _ hlen).mono ?_; rintro e w1 ⟨rfl, hw⟩; rw [hw, hb']; clear hw)
  refine wp_at (fun W => At W w.heap.size #[.int .i64 8, .int .i64 12, .int .i64 12, .int .i64 16, .int .i64 3, .int .i64 3, .int .i64 14, .int .i64 2] 2 ∧ Below w.heap.size w W) ⟨At.new w _ _, (Below.refl _ _).alloc (Nat.le_refl _) _⟩ ?_
  rintro W ⟨A, z⟩
  go_loopg [4, 5] 8 (fun g x y wr => ∃ i : Int, 0 ≤ i ∧ i ≤ 8 ∧ (g : Int) = 8 - i ∧ x = .int .i64 (sv i) ∧ y = .int .i64 i ∧ wr = W)
  case atStart => exact ⟨0, by omega, by omega, by omega, rfl, rfl, rfl⟩
  case round =>
    obtain ⟨i, i1, i0, hg, rfl, rfl, rfl⟩ := hrel
    obtain ⟨wo, rfl⟩ : ∃ wo : World, wo = wr := ⟨_, rfl⟩
    have hc : i = 0 ∨ i = 1 ∨ i = 2 ∨ i = 3 ∨ i = 4 ∨ i = 5 ∨ i = 6 ∨ i = 7 ∨ i = 8 := by omega
    rcases hc with rfl | rfl | rfl | rfl | rfl | rfl | rfl | rfl | rfl
    all_goals (simp only [sv]; simp only [Int.reduceEq, if_true, if_false])
    · have c : wo.cell? ⟨w.heap.size, 0, none⟩ = some (.int .i64 8) := A.cell 0
      go_wp2
      go_loopg [4, 6] 8 (fun g x y wr => ∃ n : Int, 0 ≤ n ∧ n ≤ 8 ∧ (g : Int) = 8 - n ∧ x = .int .i64 (1 + n) ∧ y = .int .i64 n ∧ wr = wo)
      case atStart => exact ⟨0, by omega, by omega, by omega, rfl, rfl, rfl⟩
      case round =>
        obtain ⟨n, n1, n0, hg2, rfl, rfl, rfl⟩ := hrel
        by_cases hn : n < 8
        · have hl : layer (1 + n) = 8 := by unfold layer; (repeat' split) <;> omega
          go_wp2_with (go_at_call 14; refine (iLayer _ _).mono ?_; rintro e w1 ⟨rfl, rfl⟩; rw [hl])
          go_roundg (gk - 1)
          case measure => omega
          case rel => exact ⟨n + 1, by omega, by omega, by omega, by go_num, by go_num, rfl⟩
        · obtain rfl : n = 8 := by omega
          go_wp2
          go_roundg 7
          case measure => omega
          case rel => exact ⟨1, by omega, by omega, by omega, by first | rfl | go_num, by first | rfl | go_num, rfl⟩
    · have c : wo.cell? ⟨w.heap.size, 1, none⟩ = some (.int .i64 12) := A.cell 1
      go_wp2
      go_loopg [4, 6] 12 (fun g x y wr => ∃ n : Int, 0 ≤ n ∧ n ≤ 12 ∧ (g : Int) = 12 - n ∧ x = .int .i64 (9 + n) ∧ y = .int .i64 n ∧ wr = wo)
      case atStart => exact ⟨0, by omega, by omega, by omega, rfl, rfl, rfl⟩
      case round =>
        obtain ⟨n, n1, n0, hg2, rfl, rfl, rfl⟩ := hrel
        by_cases hn : n < 12
        · have hl : layer (9 + n) = 9 := by unfold layer; (repeat' split) <;> omega
          go_wp2_with (go_at_call 14; refine (iLayer _ _).mono ?_; rintro e w1 ⟨rfl, rfl⟩; rw [hl])
          go_roundg (gk - 1)
          case measure => omega
          case rel => exact ⟨n + 1, by omega, by omega, by omega, by go_num, by go_num, rfl⟩
        · obtain rfl : n = 12 := by omega
          go_wp2
          go_roundg 6
          case measure => omega
          case rel => exact ⟨2, by omega, by omega, by omega, by first | rfl | go_num, by first | rfl | go_num, rfl⟩
    · have c : wo.cell? ⟨w.heap.size, 2, none⟩ = some (.int .i64 12) := A.cell 2
      go_wp2
      go_loopg [4, 6] 12 (fun g x y wr => ∃ n : Int, 0 ≤ n ∧ n ≤ 12 ∧ (g : Int) = 12 - n ∧ x = .int .i64 (21 + n) ∧ y = .int .i64 n ∧ wr = wo)
      case atStart => exact ⟨0, by omega, by omega, by omega, rfl, rfl, rfl⟩
      case round =>
        obtain ⟨n, n1, n0, hg2, rfl, rfl, rfl⟩ := hrel
        by_cases hn : n < 12
        · have hl : layer (21 + n) = 10 := by unfold layer; (repeat' split) <;> omega
          go_wp2_with (go_at_call 14; refine (iLayer _ _).mono ?_; rintro e w1 ⟨rfl, rfl⟩; rw [hl])
          go_roundg (gk - 1)
          case measure => omega
          case rel => exact ⟨n + 1, by omega, by omega, by omega, by go_num, by go_num, rfl⟩
        · obtain rfl : n = 12 := by omega
          go_wp2
          go_roundg 5
          case measure => omega
          case rel => exact ⟨3, by omega, by omega, by omega, by first | rfl | go_num, by first | rfl | go_num, rfl⟩
    · have c : wo.cell? ⟨w.heap.size, 3, none⟩ = some (.int .i64 16) := A.cell 3
      go_wp2
      go_loopg [4, 6] 16 (fun g x y wr => ∃ n : Int, 0 ≤ n ∧ n ≤ 16 ∧ (g : Int) = 16 - n ∧ x = .int .i64 (33 + n) ∧ y = .int .i64 n ∧ wr = wo)
      case atStart => exact ⟨0, by omega, by omega, by omega, rfl, rfl, rfl⟩
      case round =>
        obtain ⟨n, n1, n0, hg2, rfl, rfl, rfl⟩ := hrel
        by_cases hn : n < 16
        · have hl : layer (33 + n) = 11 := by unfold layer; (repeat' split) <;> omega
          go_wp2_with (go_at_call 14; refine (iLayer _ _).mono ?_; rintro e w1 ⟨rfl, rfl⟩; rw [hl])
          go_roundg (gk - 1)
          case measure => omega
          case rel => exact ⟨n + 1, by omega, by omega, by omega, by go_num, by go_num, rfl⟩
        · obtain rfl : n = 16 := by omega
          go_wp2
          go_roundg 4
          case measure => omega
          case rel => exact ⟨4, by omega, by omega, by omega, by first | rfl | go_num, by first | rfl | go_num, rfl⟩
    · have c : wo.cell? ⟨w.heap.size, 4, none⟩ = some (.int .i64 3) := A.cell 4
      go_wp2
      go_loopg [4, 6] 3 (fun g x y wr => ∃ n : Int, 0 ≤ n ∧ n ≤ 3 ∧ (g : Int) = 3 - n ∧ x = .int .i64 (49 + n) ∧ y = .int .i64 n ∧ wr = wo)
      case atStart => exact ⟨0, by omega, by omega, by omega, rfl, rfl, rfl⟩
      case round =>
        obtain ⟨n, n1, n0, hg2, rfl, rfl, rfl⟩ := hrel
        by_cases hn : n < 3
        · have hl : layer (49 + n) = 12 := by unfold layer; (repeat' split) <;> omega
          go_wp2_with (go_at_call 14; refine (iLayer _ _).mono ?_; rintro e w1 ⟨rfl, rfl⟩; rw [hl])
          go_roundg (gk - 1)
          case measure => omega
          case rel => exact ⟨n + 1, by omega, by omega, by omega, by go_num, by go_num, rfl⟩
        · obtain rfl : n = 3 := by omega
          go_wp2
          go_roundg 3
          case measure => omega
          case rel => exact ⟨5, by omega, by omega, by omega, by first | rfl | go_num, by first | rfl | go_num, rfl⟩
    · have c : wo.cell? ⟨w.heap.size, 5, none⟩ = some (.int .i64 3) := A.cell 5
      go_wp2
      go_loopg [4, 6] 3 (fun g x y wr => ∃ n : Int, 0 ≤ n ∧ n ≤ 3 ∧ (g : Int) = 3 - n ∧ x = .int .i64 (52 + n) ∧ y = .int .i64 n ∧ wr = wo)
      case atStart => exact ⟨0, by omega, by omega, by omega, rfl, rfl, rfl⟩
      case round =>
        obtain ⟨n, n1, n0, hg2, rfl, rfl, rfl⟩ := hrel
        by_cases hn : n < 3
        · have hl : layer (52 + n) = 13 := by unfold layer; (repeat' split) <;> omega
          go_wp2_with (go_at_call 14; refine (iLayer _ _).mono ?_; rintro e w1 ⟨rfl, rfl⟩; rw [hl])
          go_roundg (gk - 1)
          case measure => omega
          case rel => exact ⟨n + 1, by omega, by omega, by omega, by go_num, by go_num, rfl⟩
        · obtain rfl : n = 3 := by omega
          go_wp2
          go_roundg 2
          case measure => omega
          case rel => exact ⟨6, by omega, by omega, by omega, by first | rfl | go_num, by first | rfl | go_num, rfl⟩
    · have c : wo.cell? ⟨w.heap.size, 6, none⟩ = some (.int .i64 14) := A.cell 6
      go_wp2
      go_loopg [4, 6] 14 (fun g x y wr => ∃ n : Int, 0 ≤ n ∧ n ≤ 14 ∧ (g : Int) = 14 - n ∧ x = .int .i64 (55 + n) ∧ y = .int .i64 n ∧ wr = wo)
      case atStart => exact ⟨0, by omega, by omega, by omega, rfl, rfl, rfl⟩
      case round =>
        obtain ⟨n, n1, n0, hg2, rfl, rfl, rfl⟩ := hrel
        by_cases hn : n < 14
        · have hl : layer (55 + n) = 14 := by unfold layer; (repeat' split) <;> omega
          go_wp2_with (go_at_call 14; refine (iLayer _ _).mono ?_; rintro e w1 ⟨rfl, rfl⟩; rw [hl])
          go_roundg (gk - 1)
          case measure => omega
          case rel => exact ⟨n + 1, by omega, by omega, by omega, by go_num, by go_num, rfl⟩
        · obtain rfl : n = 14 := by omega
          go_wp2
          go_roundg 1
          case measure => omega
          case rel => exact ⟨7, by omega, by omega, by omega, by first | rfl | go_num, by first | rfl | go_num, rfl⟩
    · have c : wo.cell? ⟨w.heap.size, 7, none⟩ = some (.int .i64 2) := A.cell 7
      go_wp2
      go_loopg [4, 6] 2 (fun g x y wr => ∃ n : Int, 0 ≤ n ∧ n ≤ 2 ∧ (g : Int) = 2 - n ∧ x = .int .i64 (69 + n) ∧ y = .int .i64 n ∧ wr = wo)
      case atStart => exact ⟨0, by omega, by omega, by omega, rfl, rfl, rfl⟩
      case round =>
        obtain ⟨n, n1, n0, hg2, rfl, rfl, rfl⟩ := hrel
        by_cases hn : n < 2
        · have hl : layer (69 + n) = 15 := by unfold layer; (repeat' split) <;> omega
          go_wp2_with (go_at_call 14; refine (iLayer _ _).mono ?_; rintro e w1 ⟨rfl, rfl⟩; rw [hl])
          go_roundg (gk - 1)
          case measure => omega
          case rel => exact ⟨n + 1, by omega, by omega, by omega, by go_num, by go_num, rfl⟩
        · obtain rfl : n = 2 := by omega
          go_wp2
          go_roundg 0
          case measure => omega
          case rel => exact ⟨8, by omega, by omega, by omega, by first | rfl | go_num, by first | rfl | go_num, rfl⟩
    · have h0 : layer 0 = 0 := rfl
      have h1 : layer 71 = -1 := rfl
      go_wp2_with (go_at_call 14; refine (iLayer _ _).mono ?_; rintro e w1 ⟨rfl, rfl⟩; first | rw [h0] | rw [h1])
      go_ret
      exact ⟨rfl, z⟩
theorem own : ownKnob Try.prog.godebug = none := by kernel_rfl
theorem laidOut : laidOutB Try.prog = true := by kernel_rfl
set_option maxRecDepth 100000 in
theorem lifted (os : Os) (started : os.Started) (H : Type) (enc : TypeId × Value → H) :
    ReturnsInHanded {} Try.checked os 5 .any (Rows.fnLayersSpec.pre6 enc Try.prog Try.f5 Rows.fnLayersRow.domain false) (Rows.fnLayersSpec.post enc Try.prog Try.f5 false true false false) := by
  refine returnsInHanded_of_change (C := Try.checked) own started (by kernel_rfl) Try.func5
    (ChangeSpec.witness6 (enc := enc) (C := Try.checked) false ⟨#[], #[.slice none 0 0], []⟩ 8 (by kernel_rfl) (by kernel_rfl) (by kernel_rfl) (by kernel_rfl)) ?_
  intro W base args ds gs before hval0 hW hcnd _
  have hval : ∀ (j : Nat) t v, Try.f5.params[j]? = some t → args[j]? = some v → Value.okWide Try.prog W .any base t v := hval0
  have hW' := hW
  obtain ⟨p, q, hA0, hV, rfl, hfz, hnd⟩ := hW
  have hA : DataW.TrodAll enc Try.prog W 0 (fun _ => true) true Try.f5.params.toList args.toList ds p := hA0
  rw [Try.params5] at hA hval
  obtain ⟨v0, vs0, d0, ds0, p0, q0, hargs, rfl, rfl, h0, r0⟩ := trodAll_cons hA
  obtain ⟨rfl, rfl, rfl⟩ := trodAll_nil r0
  obtain rfl : args = #[v0] := by cases args; simp_all
  obtain ⟨rfl, rfl⟩ := trodVars_none hV
  have k0 := h0
  have lt0 : ∀ x ∈ p0, x.block < W.heap.size := by obtain ⟨m, hm⟩ := k0; exact DataW.trod_lt m _ _ _ hm
  obtain ⟨a0, len0, cap0, rfl⟩ := okWide_slice Try.underlying37 (hval 0 37 v0 rfl rfl)
  obtain ⟨z0, w0⟩ : ∃ zs, IsRow .u8 W a0 len0 cap0 zs := by
    obtain ⟨fuel, hf⟩ := h0
    rcases open_ints Try.underlying37 Try.underlying5 (by kernel_rfl) hf with ⟨hcs, _⟩ | ⟨x, l, c, zs, hcs, _, hl, hm, hz, _, hcell, hwz⟩
    · simp [Value.cells] at hcs
      obtain ⟨rfl, rfl, rfl⟩ := hcs
      exact ⟨[], .inl ⟨rfl, rfl, rfl, rfl⟩⟩
    · simp [Value.cells] at hcs
      obtain ⟨rfl, rfl, rfl⟩ := hcs
      exact ⟨zs, .inr ⟨_, rfl, hl, hm, by simpa using hz, hcell, hwz⟩⟩
  clear hA0 hval0
  refine (walk a0 len0 cap0 z0 W w0).mono fun e W' ⟨he, bel⟩ => ?_
  subst he
  exact ⟨_, rfl, _, _, _, [], _, [], hW', trodAll_mk1 (shut_bool Try.underlying4 _), (trodAll_cons_mk (Below.trod laidOut (by kernel_rfl) (of_decide_eq_true (by kernel_rfl)) k0 bel lt0) trodAll_mk0), rfl, bel.frame _, fun h => by cases h⟩

theorem over : Rows.fnLayersRow.holds Try.pinned (OpenSpec.ofChange Rows.fnLayersSpec) :=
  OpenClaim.holds_of_wide 5 Try.f5 rfl rfl rfl rfl rfl rfl rfl ⟨rfl, rfl, rfl, rfl, rfl⟩ rfl rfl rfl rfl rfl (by kernel_rfl) Try.func5 (by kernel_rfl)
    (of_decide_eq_true (by kernel_rfl)) (by unfold Func.isWrapper; first | (rw [if_pos (by decide +kernel)]; kernel_rfl) | (rw [if_neg (by decide +kernel)]; exact ⟨rfl, rfl⟩))
    (fun os started H enc _ => lifted os started H enc)
end Go.Proofs.Ytooljeddnfkphaa.fnLayers
namespace Go.Proofs.Ytooljeddnfkphaa
theorem fnLayers_holds : Rows.FnLayersSaid := fnLayers.over
#print axioms fnLayers_holds
end Go.Proofs.Ytooljeddnfkphaa
