/-
  At every argument HandOk answers as the specification; its arguments stay. No condition.
-/
import Derived.Test.YtooljeddnfkphaaRows
import Derived.Test.YtooljeddnfkphaaHan12
import Derived.WalkKit
import Derived.ProofKit
import Derived.OpenShut
import Derived.ChangeOld
import Derived.Below
import Derived.Lib.SmallJoins
namespace Go.Proofs.Ytooljeddnfkphaa.fnExactHandOk
open Go.ChangeShapes Go.WideShapes Go.ChangeAt Go.RowKit
set_option linter.unusedVariables false
set_option maxHeartbeats 8000000 in
theorem walk (p s l c k : Int) (b0 : -9223372036854775808 ≤ p ∧ p ≤ 9223372036854775807) (b1 : -9223372036854775808 ≤ s ∧ s ≤ 9223372036854775807) (b2 : -9223372036854775808 ≤ l ∧ l ≤ 9223372036854775807) (b3 : -9223372036854775808 ≤ c ∧ c ≤ 9223372036854775807) (b4 : -9223372036854775808 ≤ k ∧ k ≤ 9223372036854775807) (h : Hd) (w : World) :
    Calls Try.prog 3 #[.agg #[.int .i64 p, .int .i64 s, .int .i64 l, .int .i64 c, .int .i64 k], .agg h.ar] w fun e w' => e = .returned (.bool true) ∧ Below w.heap.size w w' := by
  clear b0 b1 b2 b3 b4
  obtain ⟨v, hv⟩ : ∃ v : Bool, Hid (hOk p s l c k h = v) := ⟨_, rfl⟩
  go_enter Try.func3, Try.ntmps3
  go_upto_region 1 with fail
  refine wp_at (fun W => At W w.heap.size #[.int .i64 p, .int .i64 s, .int .i64 l, .int .i64 c, .int .i64 k] 23 ∧ At W (w.heap.size + 1) h.ar 26 ∧ Below w.heap.size w W) (two_box w _ _ _ _) ?_
  rintro W ⟨P, A, z⟩
  have lp : ∀ w', Cls W w' → (loadVar 23 ⟨w.heap.size, 0, none⟩).run Try.prog w' = .ok (.agg #[.int .i64 p, .int .i64 s, .int .i64 l, .int .i64 c, .int .i64 k]) w' := ld_agg (vs := [.int .i64 p, .int .i64 s, .int .i64 l, .int .i64 c, .int .i64 k]) P Try.underlying23 rfl (by kernel_rfl)
  have lh : ∀ w', Cls W w' → (loadVar 26 ⟨w.heap.size + 1, 0, none⟩).run Try.prog w' = .ok (.agg h.ar) w' := ld_agg (vs := h.vs) A Try.underlying26 rfl (by kernel_rfl)
  refine wp_region_cls (by kernel_rfl) (by kernel_rfl) ?_
  repeat' (first
    | go_big_quiet_skip
    | (go_big_quiet_want; first
      | (refine q_load _ _ _ _ rfl rfl (by assumption) ?_; simp only [Act.put, List.setIfInBounds_toArray, List.set_cons_zero, List.set_cons_succ]; go_big_quiet_on)
      | (go_big_quiet_op; first
        | go_big_quiet_on
        | (apply Exists.intro; refine ⟨fun w' hw' => ?_, ?_⟩
           · (first
             | (go_at_call 7; exact cls_below hw' (toP _ _ _ _ _ _))
             | (go_at_call 8; exact cls_below hw' (toH h _))
             | (go_at_call 6; have hq := sHandOk p s l c k h w'; rw [hv.out] at hq; exact cls_below hw' hq))
           go_big_quiet_on))))
  refine wpQuiet_nil ?_
  intro W2 hw
  replace P := P.keep hw.below
  replace A := A.keep hw.below
  replace z := z.trans (hw.below.mono z.size)
  clear hw lp lh
  go_upto_region 2 with fail
  have lp : ∀ w', Cls W2 w' → (loadVar 23 ⟨w.heap.size, 0, none⟩).run Try.prog w' = .ok (.agg #[.int .i64 p, .int .i64 s, .int .i64 l, .int .i64 c, .int .i64 k]) w' := ld_agg (vs := [.int .i64 p, .int .i64 s, .int .i64 l, .int .i64 c, .int .i64 k]) P Try.underlying23 rfl (by kernel_rfl)
  have lh : ∀ w', Cls W2 w' → (loadVar 26 ⟨w.heap.size + 1, 0, none⟩).run Try.prog w' = .ok (.agg h.ar) w' := ld_agg (vs := h.vs) A Try.underlying26 rfl (by kernel_rfl)
  refine wp_region_cls (by kernel_rfl) (by kernel_rfl) ?_
  repeat' (first
    | go_big_quiet_skip
    | (go_big_quiet_want; first
      | (refine q_load _ _ _ _ rfl rfl (by assumption) ?_; simp only [Act.put, List.setIfInBounds_toArray, List.set_cons_zero, List.set_cons_succ]; go_big_quiet_on)
      | (go_big_quiet_op; first
        | go_big_quiet_on
        | (apply Exists.intro; refine ⟨fun w' hw' => ?_, ?_⟩
           · (first
             | (go_at_call 7; exact cls_below hw' (toP _ _ _ _ _ _))
             | (go_at_call 8; exact cls_below hw' (toH h _))
             | (go_at_call 9; have hq := iHandOk p s l c k h w'; rw [hv.out] at hq; exact cls_below hw' hq))
           go_big_quiet_on))))
  refine wpQuiet_nil ?_
  intro W22 hw
  replace P := P.keep hw.below
  replace A := A.keep hw.below
  replace z := z.trans (hw.below.mono z.size)
  clear hw lp lh
  go_wp2
  all_goals go_returns
  all_goals exact ⟨by simp_all, z⟩
theorem own : ownKnob Try.prog.godebug = none := by kernel_rfl
theorem laidOut : laidOutB Try.prog = true := by kernel_rfl
set_option maxRecDepth 100000 in
theorem lifted (os : Os) (started : os.Started) (H : Type) (enc : TypeId × Value → H) :
    ReturnsInHanded {} Try.checked os 3 .any (Rows.fnExactHandOkSpec.pre6 enc Try.prog Try.f3 Rows.fnExactHandOkRow.domain false) (Rows.fnExactHandOkSpec.post enc Try.prog Try.f3 false true false false) := by
  refine returnsInHanded_of_change (C := Try.checked) own started (by kernel_rfl) Try.func3
    (ChangeSpec.witness6 (enc := enc) (C := Try.checked) false ⟨#[], #[.agg #[.int .i64 0, .int .i64 0, .int .i64 0, .int .i64 0, .int .i64 0], .agg #[.bool false, .bool false, .bool false, .bool false, .int .i64 0, .int .i64 0, .int .i64 0, .int .i64 0, .int .i64 0, .int .i64 0, .int .i64 0, .int .i64 0, .int .i64 0, .int .i64 0, .int .i64 0, .int .u64 0, .int .u64 0, .int .i64 0, .int .i64 0, .int .i64 0, .int .i64 0, .int .i64 0, .int .i64 0, .int .i64 0, .int .i64 0, .int .i64 0, .int .i64 0, .int .i64 0, .int .i64 0, .int .i64 0, .int .i64 0, .int .i64 0, .int .i64 0, .int .i64 0, .int .i64 0, .int .i64 0]], []⟩ 8 (by kernel_rfl) (by kernel_rfl) (by kernel_rfl) (by kernel_rfl)) ?_
  intro W base args ds gs before hval0 hW hcnd _
  have hval : ∀ (j : Nat) t v, Try.f3.params[j]? = some t → args[j]? = some v → Value.okWide Try.prog W .any base t v := hval0
  have hW' := hW
  obtain ⟨p, q, hA0, hV, rfl, hfz, hnd⟩ := hW
  have hA : DataW.TrodAll enc Try.prog W 0 (fun _ => true) true Try.f3.params.toList args.toList ds p := hA0
  rw [Try.params3] at hA hval
  obtain ⟨v0, vs0, d0, ds0, p0, q0, hargs, rfl, rfl, h0, r0⟩ := trodAll_cons hA
  obtain ⟨v1, vs1, d1, ds1, p1, q1, rfl, rfl, rfl, h1, r1⟩ := trodAll_cons r0
  obtain ⟨rfl, rfl, rfl⟩ := trodAll_nil r1
  obtain rfl : args = #[v0, v1] := by cases args; simp_all
  obtain ⟨rfl, rfl⟩ := trodVars_none hV
  have k0 := h0
  have lt0 : ∀ x ∈ p0, x.block < W.heap.size := by obtain ⟨m, hm⟩ := k0; exact DataW.trod_lt m _ _ _ hm
  obtain ⟨zs0, hl0, hv0, bd0⟩ := open_i64s Try.underlying23 (by kernel_rfl) (by kernel_rfl) (i64Fields_of (by kernel_rfl)) (hval 0 23 v0 rfl rfl) h0
  obtain ⟨n0_0, n0_1, n0_2, n0_3, n0_4, rfl, rfl⟩ := agg5 (hl0.trans rfl) hv0
  have b0_0 := bd0 n0_0 (by simp)
  have b0_1 := bd0 n0_1 (by simp)
  have b0_2 := bd0 n0_2 (by simp)
  have b0_3 := bd0 n0_3 (by simp)
  have b0_4 := bd0 n0_4 (by simp)
  have k1 := h1
  have lt1 : ∀ x ∈ p1, x.block < W.heap.size := by obtain ⟨m, hm⟩ := k1; exact DataW.trod_lt m _ _ _ hm
  obtain ⟨cs1, hz1, hv1, hb1, hu1, hi1⟩ := open_mixed Try.underlying26 (by kernel_rfl) (by kernel_rfl) (by kernel_rfl) (hval 1 26 v1 rfl rfl) h1
  obtain ⟨hd1, rfl⟩ := hand_of (hz1.trans rfl) hv1 hb1 hu1 hi1
  clear hA0 hval0
  refine (walk n0_0 n0_1 n0_2 n0_3 n0_4 b0_0 b0_1 b0_2 b0_3 b0_4 hd1 W).mono fun e W' ⟨he, bel⟩ => ?_
  subst he
  exact ⟨_, rfl, _, _, _, [], _, [], hW', trodAll_mk1 (shut_bool Try.underlying4 _), (trodAll_cons_mk (Below.trod laidOut (by kernel_rfl) (of_decide_eq_true (by kernel_rfl)) k0 bel lt0) (trodAll_cons_mk (Below.trod laidOut (by kernel_rfl) (of_decide_eq_true (by kernel_rfl)) k1 bel lt1) trodAll_mk0)), rfl, bel.frame _, fun h => by cases h⟩

theorem over : Rows.fnExactHandOkRow.holds Try.pinned (OpenSpec.ofChange Rows.fnExactHandOkSpec) :=
  OpenClaim.holds_of_wide 3 Try.f3 rfl rfl rfl rfl rfl rfl rfl ⟨rfl, rfl, rfl, rfl, rfl⟩ rfl rfl rfl rfl rfl (by kernel_rfl) Try.func3 (by kernel_rfl)
    (of_decide_eq_true (by kernel_rfl)) (by unfold Func.isWrapper; first | (rw [if_pos (by decide +kernel)]; kernel_rfl) | (rw [if_neg (by decide +kernel)]; exact ⟨rfl, rfl⟩))
    (fun os started H enc _ => lifted os started H enc)
end Go.Proofs.Ytooljeddnfkphaa.fnExactHandOk
namespace Go.Proofs.Ytooljeddnfkphaa
theorem fnExactHandOk_holds : Rows.FnExactHandOkSaid := fnExactHandOk.over
#print axioms fnExactHandOk_holds
end Go.Proofs.Ytooljeddnfkphaa
