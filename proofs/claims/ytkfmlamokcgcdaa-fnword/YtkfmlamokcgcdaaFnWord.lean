/-
  A right word that the model draws of a code comes back out of what it packs to, and is borne by it; a wrong one is refused; nothing that was there is changed. No condition.
-/
import Derived.Test.YtkfmlamokcgcdaaRows
import Derived.Test.YtkfmlamokcgcdaaCode
import Derived.Test.YtkfmlamokcgcdaaDraw3
import Derived.Test.YtkfmlamokcgcdaaCore2
import Derived.Test.YtkfmlamokcgcdaaIPack
import Derived.Test.YtkfmlamokcgcdaaBear
import Derived.Deep.RegionHeld3
import Derived.WalkKit
import Derived.ProofKit
import Derived.OpenShut
import Derived.ChangeOld
import Derived.Below
import Derived.Lib.SmallJoins
namespace Go.Proofs.Ytkfmlamokcgcdaa.fnWord
open Go.ChangeShapes Go.WideShapes Go.ChangeAt Go.RowKit
set_option linter.unusedVariables false
set_option maxHeartbeats 4000000 in
theorem walk (a : Option Addr) (len cap : Nat) (zs : List Int) (w : World) (hr : IsRow .u8 w a len cap zs) :
    Calls Try.prog 3 #[.slice a len cap] w fun e w' => e = .returned (.bool true) ∧ Below w.heap.size w w' := by
  go_enter Try.func3, Try.ntmps3
  go_wp2_with fail
  refine (big_any a len cap _ hr.small).mono ?_
  rintro e w0 ⟨rfl, rfl⟩
  by_cases hl : (4096 : Int) < len
  · rw [decide_eq_true hl]
    go_wp2
    go_ret
    exact ⟨rfl, Below.refl _ _⟩
  · rw [decide_eq_false hl]
    go_wp2_with fail
    refine (drawPack a len cap _ (by omega) hr.row).mono ?_
    rintro e w1 ⟨k, p, i, s, rfl, b1⟩
    clear hl hr
    go_wp2_with fail
    have as0 := At.new w1 #[.int .i64 k, .int .i64 p, .int .i64 i, .int .i64 s] 25
    have z2 := b1.alloc b1.size (Obj.cells #[.int .i64 k, .int .i64 p, .int .i64 i, .int .i64 s] 25)
    have sge := b1.size
    cases h : wOk k p i s
    · refine (iPackN _ _ _ _ _ h).mono ?_
      rintro e w3 ⟨rfl, b3⟩
      have as1 := as0.keep b3
      obtain ⟨c0, c1, c2, c3, -⟩ := as1.four
      have z4 := z2.trans (b3.mono (by simp; omega))
      clear as0 b3 b1 z2
      go_wp2_with fail
      refine (sWordOk _ _ _ _ _).mono ?_
      rintro e w4 ⟨rfl, b4⟩
      rw [h]
      clear h c0 c1 c2 c3
      go_wp2
      go_ret
      exact ⟨rfl, z4.trans (b4.mono z4.size)⟩
    · refine (iPackY _ _ _ _ _ h).mono ?_
      rintro e w3 ⟨rfl, b3⟩
      have as1 := as0.keep b3
      obtain ⟨c0, c1, c2, c3, -⟩ := as1.four
      have z4 := z2.trans (b3.mono (by simp; omega))
      clear as0 b3 b1 z2
      go_wp2_with fail
      refine (sWordOk _ _ _ _ _).mono ?_
      rintro e w4 ⟨rfl, b4⟩
      rw [h]
      have as2 := as1.keep b4
      have z5 := z4.trans (b4.mono z4.size)
      clear c0 c1 c2 c3 b4 z4 as1
      obtain ⟨c0, c1, c2, c3, -⟩ := as2.four
      have H : Hid (wOk k p i s = true) := h
      obtain ⟨h1, h2, h3, h4, h5, h6, h7, h8⟩ := wOk_iff.1 h
      have HW : Hid (IntKind.i64.wrap (p + 1) = p + 1) := by show _ = _; rw [IntKind.wrap_i64]; omega
      clear h
      go_wp2_with fail
      go_region_held3 (fun w' => w'.cell? ⟨w1.heap.size, 0, none⟩ = some (.int .i64 k) ∧ w'.cell? ⟨w1.heap.size, 1, none⟩ = some (.int .i64 p) ∧ w'.cell? ⟨w1.heap.size, 2, none⟩ = some (.int .i64 i) ∧ w'.cell? ⟨w1.heap.size, 3, none⟩ = some (.int .i64 s)) (go_keep)
        (first
        | (go_at_call 13; refine (unpackW _ _ _ _ H.out _).mono ?_; rintro e w5 ⟨rfl, b5⟩; obtain ⟨d0, d1, d2, d3, -⟩ := ((as2.draw 1).keep b5).four)
        | (go_at_call_of 14 (Value.int IntKind.i64 p); refine (bearsY _ _ _ _ H.out _).mono ?_; rintro e w6 ⟨rfl, b6⟩; obtain ⟨f0, f1, f2, f3, -⟩ := (((as2.draw 1).keep b5).keep b6).four)
        | (go_at_call 14; rw [HW.out]; refine (bearsN _ _ _ _ H.out _).mono ?_; rintro e w7 ⟨rfl, b7⟩; obtain ⟨g0, g1, g2, g3, -⟩ := ((((as2.draw 1).keep b5).keep b6).keep b7).four))
      go_wp2
      go_ret
      have z6 := z5.drew.trans (b5.mono z5.size)
      have z7 := z6.trans (b6.mono z6.size)
      exact ⟨rfl, z7.trans (b7.mono z7.size)⟩
theorem own : ownKnob Try.prog.godebug = none := by kernel_rfl
theorem laidOut : laidOutB Try.prog = true := by kernel_rfl
set_option maxRecDepth 100000 in
theorem lifted (os : Os) (started : os.Started) (H : Type) (enc : TypeId × Value → H) :
    ReturnsInHanded {} Try.checked os 3 .any (Rows.fnWordSpec.pre6 enc Try.prog Try.f3 Rows.fnWordRow.domain false) (Rows.fnWordSpec.post enc Try.prog Try.f3 false true false false) := by
  refine returnsInHanded_of_change (C := Try.checked) own started (by kernel_rfl) Try.func3
    (ChangeSpec.witness6 (enc := enc) (C := Try.checked) false ⟨#[], #[.slice none 0 0], []⟩ 8 (by kernel_rfl) (by kernel_rfl) (by kernel_rfl) (by kernel_rfl)) ?_
  intro W base args ds gs before hval0 hW hcnd _
  have hval : ∀ (j : Nat) t v, Try.f3.params[j]? = some t → args[j]? = some v → Value.okWide Try.prog W .any base t v := hval0
  have hW' := hW
  obtain ⟨p, q, hA0, hV, rfl, hfz, hnd⟩ := hW
  have hA : DataW.TrodAll enc Try.prog W 0 (fun _ => true) true Try.f3.params.toList args.toList ds p := hA0
  rw [Try.params3] at hA hval
  obtain ⟨v0, vs0, d0, ds0, p0, q0, hargs, rfl, rfl, h0, r0⟩ := trodAll_cons hA
  obtain ⟨rfl, rfl, rfl⟩ := trodAll_nil r0
  obtain rfl : args = #[v0] := by cases args; simp_all
  obtain ⟨rfl, rfl⟩ := trodVars_none hV
  have k0 := h0
  have lt0 : ∀ x ∈ p0, x.block < W.heap.size := by obtain ⟨m, hm⟩ := k0; exact DataW.trod_lt m _ _ _ hm
  obtain ⟨a0, len0, cap0, rfl⟩ := okWide_slice Try.underlying22 (hval 0 22 v0 rfl rfl)
  obtain ⟨z0, w0⟩ : ∃ zs, IsRow .u8 W a0 len0 cap0 zs := by
    obtain ⟨fuel, hf⟩ := h0
    rcases open_ints Try.underlying22 Try.underlying5 (by kernel_rfl) hf with ⟨hcs, _⟩ | ⟨x, l, c, zs, hcs, _, hl, hm, hz, _, hcell, hwz⟩
    · simp [Value.cells] at hcs
      obtain ⟨rfl, rfl, rfl⟩ := hcs
      exact ⟨[], .inl ⟨rfl, rfl, rfl, rfl⟩⟩
    · simp [Value.cells] at hcs
      obtain ⟨rfl, rfl, rfl⟩ := hcs
      exact ⟨zs, .inr ⟨_, rfl, hl, hm, by simpa using hz, hcell, hwz⟩⟩
  clear hA0 hval0
  refine (walk a0 len0 cap0 z0 W w0).mono fun e W' ⟨he, bel⟩ => ?_
  subst he
  exact ⟨_, rfl, _, _, _, [], _, [], hW', trodAll_mk1 (shut_bool Try.underlying4 _), (trodAll_cons_mk (Below.trod laidOut (by kernel_rfl) (of_decide_eq_true (by kernel_rfl)) k0 bel lt0) trodAll_mk0), rfl, bel.frame _, fun h => by cases h⟩

theorem over : Rows.fnWordRow.holds Try.pinned (OpenSpec.ofChange Rows.fnWordSpec) :=
  OpenClaim.holds_of_wide 3 Try.f3 rfl rfl rfl rfl rfl rfl rfl ⟨rfl, rfl, rfl, rfl, rfl⟩ rfl rfl rfl rfl rfl (by kernel_rfl) Try.func3 (by kernel_rfl)
    (of_decide_eq_true (by kernel_rfl)) (by unfold Func.isWrapper; first | (rw [if_pos (by decide +kernel)]; kernel_rfl) | (rw [if_neg (by decide +kernel)]; exact ⟨rfl, rfl⟩))
    (fun os started H enc _ => lifted os started H enc)
end Go.Proofs.Ytkfmlamokcgcdaa.fnWord
namespace Go.Proofs.Ytkfmlamokcgcdaa
theorem fnWord_holds : Rows.FnWordSaid := fnWord.over
#print axioms fnWord_holds
end Go.Proofs.Ytkfmlamokcgcdaa
