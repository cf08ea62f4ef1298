/-
  At every argument Raised answers as the specification; its argument stays. No condition.
-/
import Derived.Test.YtooljeddnfkphaaRows
import Derived.Test.YtooljeddnfkphaaHan4
import Derived.WalkKit
import Derived.ProofKit
import Derived.OpenShut
import Derived.ChangeOld
import Derived.Below
import Derived.Lib.SmallJoins
namespace Go.Proofs.Ytooljeddnfkphaa.fnExactRaised
open Go.ChangeShapes Go.WideShapes Go.ChangeAt Go.RowKit
set_option linter.unusedVariables false
set_option maxHeartbeats 8000000 in
theorem walk (h : Hd) (w : World) :
    Calls Try.prog 4 #[.agg h.ar] w fun e w' => e = .returned (.bool true) ∧ Below w.heap.size w w' := by
  obtain ⟨k, hk⟩ : ∃ k : Hd, Hid (h.raised = k) := ⟨_, rfl⟩
  obtain ⟨b, hbb⟩ : ∃ b : Bool, Hid (h.may = b) := ⟨_, rfl⟩
  go_enter Try.func4, Try.ntmps4
  go_upto_region 1 with fail
  refine wp_at (fun W => At W w.heap.size h.ar 26 ∧ Below w.heap.size w W) ⟨At.new w h.ar _, (Below.refl _ _).alloc (Nat.le_refl _) _⟩ ?_
  rintro W0 ⟨A, z⟩
  go_upto_region 2 with (first
    | (refine loadHL rfl (.tmp 1) rfl w.heap.size h rfl A ?_)
    | (go_at_call 8; refine (toH h _).mono ?_; rintro e w1 ⟨rfl, hb⟩; replace A := A.keep hb; replace z := z.trans (hb.mono z.size); clear hb)
    | (go_at_call 10; refine (sRaised h _).mono ?_; rintro e w2 ⟨rfl, hb⟩; replace A := A.keep hb; replace z := z.trans (hb.mono z.size); clear hb; rw [hk.out, hbb.out])
    | (refine newH rfl (.tmp 3) (.tmp 11) rfl k rfl rfl rfl ?_; intro w3 S hb lt1; replace A := A.keep hb; replace z := z.trans (hb.mono z.size); clear hb))
  go_upto_region 3 with (first
    | (refine loadHL rfl (.tmp 1) rfl w.heap.size h rfl A ?_)
    | (go_at_call 8; refine (toH h _).mono ?_; rintro e w4 ⟨rfl, hb⟩; replace A := A.keep hb; replace z := z.trans (hb.mono z.size); replace S := S.keep hb; clear hb)
    | (go_at_call 11; refine (iRaised h _).mono ?_; rintro e w5 ⟨rfl, hb⟩; replace A := A.keep hb; replace z := z.trans (hb.mono z.size); replace S := S.keep hb; clear hb; rw [hk.out, hbb.out])
    | (refine newH rfl (.tmp 5) (.tmp 17) rfl k rfl rfl rfl ?_; intro w6 G hb lt2; replace A := A.keep hb; replace z := z.trans (hb.mono z.size); replace S := S.keep hb; clear hb))
  go_wp2_with (first
    | (refine loadHl rfl (.tmp 5) rfl w5.heap.size k rfl G ?_)
    | (refine loadHl rfl (.tmp 3) rfl w2.heap.size k rfl S ?_)
    | (go_at_call 12; refine (eqH k _).mono ?_; rintro e w7 ⟨rfl, hb⟩; replace A := A.keep hb; replace z := z.trans (hb.mono z.size); clear hb))
  all_goals go_ret
  all_goals exact ⟨rfl, z⟩
theorem own : ownKnob Try.prog.godebug = none := by kernel_rfl
theorem laidOut : laidOutB Try.prog = true := by kernel_rfl
set_option maxRecDepth 100000 in
theorem lifted (os : Os) (started : os.Started) (H : Type) (enc : TypeId × Value → H) :
    ReturnsInHanded {} Try.checked os 4 .any (Rows.fnExactRaisedSpec.pre6 enc Try.prog Try.f4 Rows.fnExactRaisedRow.domain false) (Rows.fnExactRaisedSpec.post enc Try.prog Try.f4 false true false false) := by
  refine returnsInHanded_of_change (C := Try.checked) own started (by kernel_rfl) Try.func4
    (ChangeSpec.witness6 (enc := enc) (C := Try.checked) false ⟨#[], #[.agg #[.bool false, .bool false, .bool false, .bool false, .int .i64 0, .int .i64 0, .int .i64 0, .int .i64 0, .int .i64 0, .int .i64 0, .int .i64 0, .int .i64 0, .int .i64 0, .int .i64 0, .int .i64 0, .int .u64 0, .int .u64 0, .int .i64 0, .int .i64 0, .int .i64 0, .int .i64 0, .int .i64 0, .int .i64 0, .int .i64 0, .int .i64 0, .int .i64 0, .int .i64 0, .int .i64 0, .int .i64 0, .int .i64 0, .int .i64 0, .int .i64 0, .int .i64 0, .int .i64 0, .int .i64 0, .int .i64 0]], []⟩ 8 (by kernel_rfl) (by kernel_rfl) (by kernel_rfl) (by kernel_rfl)) ?_
  intro W base args ds gs before hval0 hW hcnd _
  have hval : ∀ (j : Nat) t v, Try.f4.params[j]? = some t → args[j]? = some v → Value.okWide Try.prog W .any base t v := hval0
  have hW' := hW
  obtain ⟨p, q, hA0, hV, rfl, hfz, hnd⟩ := hW
  have hA : DataW.TrodAll enc Try.prog W 0 (fun _ => true) true Try.f4.params.toList args.toList ds p := hA0
  rw [Try.params4] at hA hval
  obtain ⟨v0, vs0, d0, ds0, p0, q0, hargs, rfl, rfl, h0, r0⟩ := trodAll_cons hA
  obtain ⟨rfl, rfl, rfl⟩ := trodAll_nil r0
  obtain rfl : args = #[v0] := by cases args; simp_all
  obtain ⟨rfl, rfl⟩ := trodVars_none hV
  have k0 := h0
  have lt0 : ∀ x ∈ p0, x.block < W.heap.size := by obtain ⟨m, hm⟩ := k0; exact DataW.trod_lt m _ _ _ hm
  obtain ⟨cs0, hz0, hv0, hb0, hu0, hi0⟩ := open_mixed Try.underlying26 (by kernel_rfl) (by kernel_rfl) (by kernel_rfl) (hval 0 26 v0 rfl rfl) h0
  obtain ⟨hd0, rfl⟩ := hand_of (hz0.trans rfl) hv0 hb0 hu0 hi0
  clear hA0 hval0
  refine (walk hd0 W).mono fun e W' ⟨he, bel⟩ => ?_
  subst he
  exact ⟨_, rfl, _, _, _, [], _, [], hW', trodAll_mk1 (shut_bool Try.underlying4 _), (trodAll_cons_mk (Below.trod laidOut (by kernel_rfl) (of_decide_eq_true (by kernel_rfl)) k0 bel lt0) trodAll_mk0), rfl, bel.frame _, fun h => by cases h⟩

theorem over : Rows.fnExactRaisedRow.holds Try.pinned (OpenSpec.ofChange Rows.fnExactRaisedSpec) :=
  OpenClaim.holds_of_wide 4 Try.f4 rfl rfl rfl rfl rfl rfl rfl ⟨rfl, rfl, rfl, rfl, rfl⟩ rfl rfl rfl rfl rfl (by kernel_rfl) Try.func4 (by kernel_rfl)
    (of_decide_eq_true (by kernel_rfl)) (by unfold Func.isWrapper; first | (rw [if_pos (by decide +kernel)]; kernel_rfl) | (rw [if_neg (by decide +kernel)]; exact ⟨rfl, rfl⟩))
    (fun os started H enc _ => lifted os started H enc)
end Go.Proofs.Ytooljeddnfkphaa.fnExactRaised
namespace Go.Proofs.Ytooljeddnfkphaa
theorem fnExactRaised_holds : Rows.FnExactRaisedSaid := fnExactRaised.over
#print axioms fnExactRaised_holds
end Go.Proofs.Ytooljeddnfkphaa
