/-
  At every word the program says as the model does whether it is right; nothing that was there is changed. No condition.
-/
import Derived.Test.YtkfmlamokcgcdaaRows
import Derived.Test.YtkfmlamokcgcdaaCore2
import Derived.Test.YtkfmlamokcgcdaaWOk
import Derived.WalkKit
import Derived.ProofKit
import Derived.OpenShut
import Derived.ChangeOld
import Derived.Below
import Derived.Lib.SmallJoins
namespace Go.Proofs.Ytkfmlamokcgcdaa.fnExactWordOk
open Go.ChangeShapes Go.WideShapes Go.ChangeAt Go.RowKit
set_option linter.unusedVariables false
set_option maxHeartbeats 400000 in
theorem walk (k p i s : Int) (w : World) :
    Calls Try.prog 5 #[.agg #[.int .i64 k, .int .i64 p, .int .i64 i, .int .i64 s]] w fun e w' => e = .returned (.bool true) ∧ Below w.heap.size w w' := by
  generalize hv : wOk k p i s = v
  go_enter Try.func5, Try.ntmps5
  go_wp2_with fail
  refine (toW _ _ _ _ _).mono ?_
  rintro e w1 ⟨rfl, hb1⟩
  have B1 := (Box4.new _ _ _ _ _ _).keep hb1
  have z1 : Below w.heap.size w w1 := (((Below.refl _ _).alloc (Nat.le_refl _) _)).trans (hb1.mono (by simp))
  clear hb1
  go_wp2_with fail
  refine (sWordOk _ _ _ _ _).mono ?_
  rintro e w2 ⟨rfl, hb2⟩
  rw [hv]
  have B2 := B1.keep hb2
  have z2 := z1.trans (hb2.mono z1.size)
  clear hb2 B1 z1
  have c0 := B2.c0
  have c1 := B2.c1
  have c2 := B2.c2
  have c3 := B2.c3
  go_wp2_with fail
  refine (toW _ _ _ _ _).mono ?_
  rintro e w3 ⟨rfl, hb3⟩
  have z3 := z2.trans (hb3.mono z2.size)
  go_wp2_with fail
  refine (iWordOk _ _ _ _ _).mono ?_
  rintro e w4 ⟨rfl, hb4⟩
  rw [hv]
  have z4 := z3.trans (hb4.mono z3.size)
  go_wp2
  go_returns
  exact ⟨rfl, z4⟩
theorem own : ownKnob Try.prog.godebug = none := by kernel_rfl
theorem laidOut : laidOutB Try.prog = true := by kernel_rfl
theorem cellslaws_Word : Try.prog.cellsOf 34 = 4 := by kernel_rfl
set_option maxRecDepth 100000 in
theorem lifted (os : Os) (started : os.Started) (H : Type) (enc : TypeId × Value → H) :
    ReturnsInHanded {} Try.checked os 5 .any (Rows.fnExactWordOkSpec.pre6 enc Try.prog Try.f5 Rows.fnExactWordOkRow.domain false) (Rows.fnExactWordOkSpec.post enc Try.prog Try.f5 false true false false) := by
  refine returnsInHanded_of_change (C := Try.checked) own started (by kernel_rfl) Try.func5
    (ChangeSpec.witness6 (enc := enc) (C := Try.checked) false ⟨#[], #[.agg #[.int .i64 0, .int .i64 0, .int .i64 0, .int .i64 0]], []⟩ 8 (by kernel_rfl) (by kernel_rfl) (by kernel_rfl) (by kernel_rfl)) ?_
  intro W base args ds gs before hval0 hW hcnd _
  have hval : ∀ (j : Nat) t v, Try.f5.params[j]? = some t → args[j]? = some v → Value.okWide Try.prog W .any base t v := hval0
  have hW' := hW
  obtain ⟨p, q, hA0, hV, rfl, hfz, hnd⟩ := hW
  have hA : DataW.TrodAll enc Try.prog W 0 (fun _ => true) true Try.f5.params.toList args.toList ds p := hA0
  rw [Try.params5] at hA hval
  obtain ⟨v0, vs0, d0, ds0, p0, q0, hargs, rfl, rfl, h0, r0⟩ := trodAll_cons hA
  obtain ⟨rfl, rfl, rfl⟩ := trodAll_nil r0
  obtain rfl : args = #[v0] := by cases args; simp_all
  obtain ⟨rfl, rfl⟩ := trodVars_none hV
  have k0 := h0
  have lt0 : ∀ x ∈ p0, x.block < W.heap.size := by obtain ⟨m, hm⟩ := k0; exact DataW.trod_lt m _ _ _ hm
  obtain ⟨c0_0, c0_1, c0_2, c0_3, y0_0, y0_1, y0_2, y0_3, m0, rfl, rfl, rfl, hy0_0, hy0_1, hy0_2, hy0_3⟩ := Go.Joins.open_agg4 Try.underlying34 (by kernel_rfl) cellslaws_Word (hval 0 34 v0 rfl rfl) h0
  obtain ⟨n0_0, e0_0, rfl, u0_0⟩ := DataW.trod_int Try.underlying2 hy0_0
  obtain ⟨n0_1, e0_1, rfl, u0_1⟩ := DataW.trod_int Try.underlying2 hy0_1
  obtain ⟨n0_2, e0_2, rfl, u0_2⟩ := DataW.trod_int Try.underlying2 hy0_2
  obtain ⟨n0_3, e0_3, rfl, u0_3⟩ := DataW.trod_int Try.underlying2 hy0_3
  simp at e0_0 e0_1 e0_2 e0_3
  subst e0_0 e0_1 e0_2 e0_3
  clear hA0 hval0
  refine (walk n0_0 n0_1 n0_2 n0_3 W).mono fun e W' ⟨he, bel⟩ => ?_
  subst he
  exact ⟨_, rfl, _, _, _, [], _, [], hW', trodAll_mk1 (shut_bool Try.underlying4 _), (trodAll_cons_mk (Below.trod laidOut (by kernel_rfl) (of_decide_eq_true (by kernel_rfl)) k0 bel lt0) trodAll_mk0), rfl, bel.frame _, fun h => by cases h⟩

theorem over : Rows.fnExactWordOkRow.holds Try.pinned (OpenSpec.ofChange Rows.fnExactWordOkSpec) :=
  OpenClaim.holds_of_wide 5 Try.f5 rfl rfl rfl rfl rfl rfl rfl ⟨rfl, rfl, rfl, rfl, rfl⟩ rfl rfl rfl rfl rfl (by kernel_rfl) Try.func5 (by kernel_rfl)
    (of_decide_eq_true (by kernel_rfl)) (by unfold Func.isWrapper; first | (rw [if_pos (by decide +kernel)]; kernel_rfl) | (rw [if_neg (by decide +kernel)]; exact ⟨rfl, rfl⟩))
    (fun os started H enc _ => lifted os started H enc)
end Go.Proofs.Ytkfmlamokcgcdaa.fnExactWordOk
namespace Go.Proofs.Ytkfmlamokcgcdaa
theorem fnExactWordOk_holds : Rows.FnExactWordOkSaid := fnExactWordOk.over
#print axioms fnExactWordOk_holds
end Go.Proofs.Ytkfmlamokcgcdaa
