/-
  At every argument the program says as the model does in which region a place lies; nothing that was there is changed. No condition.
-/
import Derived.Test.YteikophkacagoaaRows
import Derived.Test.YteikophkacagoaaPlan7
import Derived.Test.YteikophkacagoaaOpens
import Derived.WalkKit
import Derived.ProofKit
import Derived.OpenShut
import Derived.ChangeOld
import Derived.Below
import Derived.Lib.SmallJoins
namespace Go.Proofs.Yteikophkacagoaa.fnExactRegionOf
open Go.ChangeShapes Go.WideShapes Go.ChangeAt Go.RowKit
set_option linter.unusedVariables false
set_option maxHeartbeats 400000 in
theorem eqR (a b c : Int) (w : World) :
    Calls Try.prog 37 #[.agg #[.int .i64 a, .int .i64 b, .int .i64 c], .agg #[.int .i64 a, .int .i64 b, .int .i64 c]] w fun e w' => e = .returned (.bool true) ∧ Below w.heap.size w w' := by
  go_enter Try.func37, Try.ntmps37
  go_wp2
  go_returns
  exact ⟨rfl, by go_grown⟩
set_option maxHeartbeats 400000 in
theorem walk (p s l c k : Int) (b0 : -9223372036854775808 ≤ p ∧ p ≤ 9223372036854775807) (b1 : -9223372036854775808 ≤ s ∧ s ≤ 9223372036854775807) (b2 : -9223372036854775808 ≤ l ∧ l ≤ 9223372036854775807) (b3 : -9223372036854775808 ≤ c ∧ c ≤ 9223372036854775807) (b4 : -9223372036854775808 ≤ k ∧ k ≤ 9223372036854775807) (t : Int) (_ : -9223372036854775808 ≤ t) (_ : t ≤ 9223372036854775807) (w : World) :
    Calls Try.prog 13 #[.agg #[.int .i64 p, .int .i64 s, .int .i64 l, .int .i64 c, .int .i64 k], .int .i64 t] w fun e w' => e = .returned (.bool true) ∧ Below w.heap.size w w' := by
  generalize h1 : gK p s l c k t = v1
  generalize h2 : gI p s l c k t = v2
  generalize h3 : gX p s l c k t = v3
  clear b0 b1 b2 b3 b4
  go_enter Try.func13, Try.ntmps13
  go_wp2_with fail
  have B := Box5.new w (.int .i64 p) (.int .i64 s) (.int .i64 l) (.int .i64 c) (.int .i64 k) 41
  have z := (Below.refl w.heap.size w).alloc (Nat.le_refl _) (Obj.cells #[.int .i64 p, .int .i64 s, .int .i64 l, .int .i64 c, .int .i64 k] 41)
  refine (toP _ _ _ _ _ _).mono ?_
  rintro e w1 ⟨rfl, hb⟩
  replace B := B.keep hb
  replace z := z.trans (hb.mono z.size)
  clear hb
  go_wp2_with fail
  refine (sRegion _ _ _ _ _ _ _).mono ?_
  rintro e w2 ⟨rfl, hb⟩
  rw [h1, h2, h3]
  replace B := B.keep hb
  replace z := z.trans (hb.mono z.size)
  clear hb
  obtain ⟨c0, c1, c2, c3, c4⟩ := B.five
  have lt := B.lt
  have R := At.new w2 #[.int .i64 v1, .int .i64 v2, .int .i64 v3] 29
  have z2 := z.alloc z.size (Obj.cells #[.int .i64 v1, .int .i64 v2, .int .i64 v3] 29)
  go_wp2_with fail
  refine (toP _ _ _ _ _ _).mono ?_
  rintro e w3 ⟨rfl, hb⟩
  replace R := R.keep hb
  replace z := z2.trans (hb.mono z2.size)
  clear hb z2
  go_wp2_with fail
  refine (iRegion _ _ _ _ _ _ _).mono ?_
  rintro e w4 ⟨rfl, hb⟩
  rw [h1, h2, h3]
  replace R := R.keep hb
  replace z := z.trans (hb.mono z.size)
  clear hb
  have hlt := R.lt
  obtain ⟨d0, d1, d2, g0, g1, g2⟩ := R.three
  go_wp2_with fail
  refine (eqR _ _ _ _).mono ?_
  rintro e w5 ⟨rfl, hb⟩
  replace z := (z.alloc z.size _).trans (hb.mono (z.alloc z.size _).size)
  clear hb
  go_wp2
  go_returns
  exact ⟨rfl, z⟩
theorem own : ownKnob Try.prog.godebug = none := by kernel_rfl
theorem laidOut : laidOutB Try.prog = true := by kernel_rfl
set_option maxRecDepth 100000 in
theorem lifted (os : Os) (started : os.Started) (H : Type) (enc : TypeId × Value → H) :
    ReturnsInHanded {} Try.checked os 13 .any (Rows.fnExactRegionOfSpec.pre6 enc Try.prog Try.f13 Rows.fnExactRegionOfRow.domain false) (Rows.fnExactRegionOfSpec.post enc Try.prog Try.f13 false true false false) := by
  refine returnsInHanded_of_change (C := Try.checked) own started (by kernel_rfl) Try.func13
    (ChangeSpec.witness6 (enc := enc) (C := Try.checked) false ⟨#[], #[.agg #[.int .i64 0, .int .i64 0, .int .i64 0, .int .i64 0, .int .i64 0], .int .i64 0], []⟩ 8 (by kernel_rfl) (by kernel_rfl) (by kernel_rfl) (by kernel_rfl)) ?_
  intro W base args ds gs before hval0 hW hcnd _
  have hval : ∀ (j : Nat) t v, Try.f13.params[j]? = some t → args[j]? = some v → Value.okWide Try.prog W .any base t v := hval0
  have hW' := hW
  obtain ⟨p, q, hA0, hV, rfl, hfz, hnd⟩ := hW
  have hA : DataW.TrodAll enc Try.prog W 0 (fun _ => true) true Try.f13.params.toList args.toList ds p := hA0
  rw [Try.params13] at hA hval
  obtain ⟨v0, vs0, d0, ds0, p0, q0, hargs, rfl, rfl, h0, r0⟩ := trodAll_cons hA
  obtain ⟨v1, vs1, d1, ds1, p1, q1, rfl, rfl, rfl, h1, r1⟩ := trodAll_cons r0
  obtain ⟨rfl, rfl, rfl⟩ := trodAll_nil r1
  obtain rfl : args = #[v0, v1] := by cases args; simp_all
  obtain ⟨rfl, rfl⟩ := trodVars_none hV
  have k0 := h0
  have lt0 : ∀ x ∈ p0, x.block < W.heap.size := by obtain ⟨m, hm⟩ := k0; exact DataW.trod_lt m _ _ _ hm
  obtain ⟨zs0, hl0, hv0, bd0⟩ := open_i64s Try.underlying41 (by kernel_rfl) (by kernel_rfl) (i64Fields_of (by kernel_rfl)) (hval 0 41 v0 rfl rfl) h0
  obtain ⟨n0_0, n0_1, n0_2, n0_3, n0_4, rfl, rfl⟩ := agg5 (hl0.trans rfl) hv0
  have b0_0 := bd0 n0_0 (by simp)
  have b0_1 := bd0 n0_1 (by simp)
  have b0_2 := bd0 n0_2 (by simp)
  have b0_3 := bd0 n0_3 (by simp)
  have b0_4 := bd0 n0_4 (by simp)
  have k1 := h1
  have lt1 : ∀ x ∈ p1, x.block < W.heap.size := by obtain ⟨m, hm⟩ := k1; exact DataW.trod_lt m _ _ _ hm
  obtain ⟨a1, rfl, rfl, rfl, w1⟩ := open_int Try.underlying2 (hval 1 2 v1 rfl rfl) h1
  have b1 := bounds_i64 w1
  clear hA0 hval0
  refine (walk n0_0 n0_1 n0_2 n0_3 n0_4 b0_0 b0_1 b0_2 b0_3 b0_4 a1 b1.1 b1.2 W).mono fun e W' ⟨he, bel⟩ => ?_
  subst he
  exact ⟨_, rfl, _, _, _, [], _, [], hW', trodAll_mk1 (shut_bool Try.underlying4 _), (trodAll_cons_mk (Below.trod laidOut (by kernel_rfl) (of_decide_eq_true (by kernel_rfl)) k0 bel lt0) (trodAll_cons_mk (Below.trod laidOut (by kernel_rfl) (of_decide_eq_true (by kernel_rfl)) k1 bel lt1) trodAll_mk0)), rfl, bel.frame _, fun h => by cases h⟩

theorem over : Rows.fnExactRegionOfRow.holds Try.pinned (OpenSpec.ofChange Rows.fnExactRegionOfSpec) :=
  OpenClaim.holds_of_wide 13 Try.f13 rfl rfl rfl rfl rfl rfl rfl ⟨rfl, rfl, rfl, rfl, rfl⟩ rfl rfl rfl rfl rfl (by kernel_rfl) Try.func13 (by kernel_rfl)
    (of_decide_eq_true (by kernel_rfl)) (by unfold Func.isWrapper; first | (rw [if_pos (by decide +kernel)]; kernel_rfl) | (rw [if_neg (by decide +kernel)]; exact ⟨rfl, rfl⟩))
    (fun os started H enc _ => lifted os started H enc)
end Go.Proofs.Yteikophkacagoaa.fnExactRegionOf
namespace Go.Proofs.Yteikophkacagoaa
theorem fnExactRegionOf_holds : Rows.FnExactRegionOfSaid := fnExactRegionOf.over
#print axioms fnExactRegionOf_holds
end Go.Proofs.Yteikophkacagoaa
