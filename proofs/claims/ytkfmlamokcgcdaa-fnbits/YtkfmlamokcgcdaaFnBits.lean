/-
  Every 64 bits that the model draws of a code are a right word that packs to them; nothing that was there is changed. No condition.
-/
import Derived.Test.YtkfmlamokcgcdaaRows
import Derived.Test.YtkfmlamokcgcdaaCode
import Derived.Test.YtkfmlamokcgcdaaDraw3
import Derived.Test.YtkfmlamokcgcdaaCore2
import Derived.Test.YtkfmlamokcgcdaaIPack
import Derived.WalkKit
import Derived.ProofKit
import Derived.OpenShut
import Derived.ChangeOld
import Derived.Below
import Derived.Lib.SmallJoins
namespace Go.Proofs.Ytkfmlamokcgcdaa.fnBits
open Go.ChangeShapes Go.WideShapes Go.ChangeAt Go.RowKit
set_option linter.unusedVariables false
set_option maxHeartbeats 400000 in
theorem walk (a : Option Addr) (len cap : Nat) (zs : List Int) (w : World) (hr : IsRow .u8 w a len cap zs) :
    Calls Try.prog 4 #[.slice a len cap] w fun e w' => e = .returned (.bool true) ∧ Below w.heap.size w w' := by
  go_enter Try.func4, Try.ntmps4
  go_wp2_with fail
  refine (big_any a len cap _ hr.small).mono ?_
  rintro e w0 ⟨rfl, rfl⟩
  by_cases hl : (4096 : Int) < len
  · rw [decide_eq_true hl]
    go_wp2
    go_ret
    exact ⟨rfl, Below.refl _ _⟩
  · rw [decide_eq_false hl]
    go_wp2_with fail
    refine (drawUnpack a len cap _ (by omega) hr.row).mono ?_
    rintro e w1 ⟨v, rfl, ⟨v0, v1⟩, b1⟩
    go_wp2_with fail
    refine (iUnpack v v0 v1 _).mono ?_
    rintro e w2 ⟨rfl, b2⟩
    have ok := u_ok v0 v1
    have z2 := b1.trans (b2.mono b1.size)
    go_wp2_with fail
    have as0 := At.new w2 #[.int .i64 (uK v), .int .i64 (uP v), .int .i64 (uI v), .int .i64 (uS v)] 25
    have z3 := z2.alloc z2.size (Obj.cells #[.int .i64 (uK v), .int .i64 (uP v), .int .i64 (uI v), .int .i64 (uS v)] 25)
    refine (iPackY _ _ _ _ _ ok).mono ?_
    rintro e w3 ⟨rfl, b3⟩
    rw [pk_u]
    have as1 := as0.keep b3
    obtain ⟨c0, c1, c2, c3, -⟩ := as1.four
    have z4 := z3.trans (b3.mono (by have := z2.size; simp; omega))
    clear as0 z3 b3 z2 b2 b1
    go_wp2_with fail
    refine (sWordOk _ _ _ _ _).mono ?_
    rintro e w4 ⟨rfl, b4⟩
    rw [ok]
    have z5 := z4.trans (b4.mono z4.size)
    clear c0 c1 c2 c3
    go_wp2
    go_ret
    exact ⟨rfl, z5⟩
theorem own : ownKnob Try.prog.godebug = none := by kernel_rfl
theorem laidOut : laidOutB Try.prog = true := by kernel_rfl
set_option maxRecDepth 100000 in
theorem lifted (os : Os) (started : os.Started) (H : Type) (enc : TypeId × Value → H) :
    ReturnsInHanded {} Try.checked os 4 .any (Rows.fnBitsSpec.pre6 enc Try.prog Try.f4 Rows.fnBitsRow.domain false) (Rows.fnBitsSpec.post enc Try.prog Try.f4 false true false false) := by
  refine returnsInHanded_of_change (C := Try.checked) own started (by kernel_rfl) Try.func4
    (ChangeSpec.witness6 (enc := enc) (C := Try.checked) false ⟨#[], #[.slice none 0 0], []⟩ 8 (by kernel_rfl) (by kernel_rfl) (by kernel_rfl) (by kernel_rfl)) ?_
  intro W base args ds gs before hval0 hW hcnd _
  have hval : ∀ (j : Nat) t v, Try.f4.params[j]? = some t → args[j]? = some v → Value.okWide Try.prog W .any base t v := hval0
  have hW' := hW
  obtain ⟨p, q, hA0, hV, rfl, hfz, hnd⟩ := hW
  have hA : DataW.TrodAll enc Try.prog W 0 (fun _ => true) true Try.f4.params.toList args.toList ds p := hA0
  rw [Try.params4] at hA hval
  obtain ⟨v0, vs0, d0, ds0, p0, q0, hargs, rfl, rfl, h0, r0⟩ := trodAll_cons hA
  obtain ⟨rfl, rfl, rfl⟩ := trodAll_nil r0
  obtain rfl : args = #[v0] := by cases args; simp_all
  obtain ⟨rfl, rfl⟩ := trodVars_none hV
  have k0 := h0
  have lt0 : ∀ x ∈ p0, x.block < W.heap.size := by obtain ⟨m, hm⟩ := k0; exact DataW.trod_lt m _ _ _ hm
  obtain ⟨a0, len0, cap0, rfl⟩ := okWide_slice Try.underlying22 (hval 0 22 v0 rfl rfl)
  obtain ⟨z0, w0⟩ : ∃ zs, IsRow .u8 W a0 len0 cap0 zs := by
    obtain ⟨fuel, hf⟩ := h0
    rcases open_ints Try.underlying22 Try.underlying5 (by kernel_rfl) hf with ⟨hcs, _⟩ | ⟨x, l, c, zs, hcs, _, hl, hm, hz, _, hcell, hwz⟩
    · simp [Value.cells] at hcs
      obtain ⟨rfl, rfl, rfl⟩ := hcs
      exact ⟨[], .inl ⟨rfl, rfl, rfl, rfl⟩⟩
    · simp [Value.cells] at hcs
      obtain ⟨rfl, rfl, rfl⟩ := hcs
      exact ⟨zs, .inr ⟨_, rfl, hl, hm, by simpa using hz, hcell, hwz⟩⟩
  clear hA0 hval0
  refine (walk a0 len0 cap0 z0 W w0).mono fun e W' ⟨he, bel⟩ => ?_
  subst he
  exact ⟨_, rfl, _, _, _, [], _, [], hW', trodAll_mk1 (shut_bool Try.underlying4 _), (trodAll_cons_mk (Below.trod laidOut (by kernel_rfl) (of_decide_eq_true (by kernel_rfl)) k0 bel lt0) trodAll_mk0), rfl, bel.frame _, fun h => by cases h⟩

theorem over : Rows.fnBitsRow.holds Try.pinned (OpenSpec.ofChange Rows.fnBitsSpec) :=
  OpenClaim.holds_of_wide 4 Try.f4 rfl rfl rfl rfl rfl rfl rfl ⟨rfl, rfl, rfl, rfl, rfl⟩ rfl rfl rfl rfl rfl (by kernel_rfl) Try.func4 (by kernel_rfl)
    (of_decide_eq_true (by kernel_rfl)) (by unfold Func.isWrapper; first | (rw [if_pos (by decide +kernel)]; kernel_rfl) | (rw [if_neg (by decide +kernel)]; exact ⟨rfl, rfl⟩))
    (fun os started H enc _ => lifted os started H enc)
end Go.Proofs.Ytkfmlamokcgcdaa.fnBits
namespace Go.Proofs.Ytkfmlamokcgcdaa
theorem fnBits_holds : Rows.FnBitsSaid := fnBits.over
#print axioms fnBits_holds
end Go.Proofs.Ytkfmlamokcgcdaa
