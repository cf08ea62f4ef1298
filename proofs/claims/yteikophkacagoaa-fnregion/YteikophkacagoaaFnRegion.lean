/-
  The region of any place that the model draws of a code leads back to the place, and there is none just where the place is none; nothing that was there is changed. No condition.
-/
import Derived.Test.YteikophkacagoaaRows
import Derived.Test.YteikophkacagoaaCode
import Derived.Test.YteikophkacagoaaDrawR
import Derived.Test.YteikophkacagoaaPlan7
import Derived.WalkKit
import Derived.ProofKit
import Derived.OpenShut
import Derived.ChangeOld
import Derived.Below
import Derived.Lib.SmallJoins
namespace Go.Proofs.Yteikophkacagoaa.fnRegion
open Go.ChangeShapes Go.WideShapes Go.ChangeAt Go.RowKit
set_option linter.unusedVariables false
theorem reg_back {p s l c k t : Int} (h : inR p s l c k t = true) :
    (gK p s l c k t = 1 ∧ vSlot p s l c k (gI p s l c k t) (gX p s l c k t) = t) ∨ (gK p s l c k t = 2 ∧ vNote p s l c k (gI p s l c k t) (gX p s l c k t) = t) ∨
    (gK p s l c k t = 3 ∧ gI p s l c k t = 0 ∧ vRoot p s l c k (gX p s l c k t) = t) ∨ (gK p s l c k t = 4 ∧ vBlock p s l c k (gI p s l c k t) (gX p s l c k t) = t) := by
  have h0 := h
  unfold gK gI gX
  rw [if_pos h, if_pos h, if_pos h]
  simp only [inR, Bool.and_eq_true, decide_eq_true_eq] at h0
  obtain ⟨ho, ht⟩ := h0
  have h' := ok_iff.1 ho
  have hd := bds ho
  have he := eqs p s l c
  unfold rK rI rX
  by_cases h1 : t < nF p
  · left
    rw [if_pos h1, if_pos h1, if_pos h1]
    have e : nF p = 7 * p := rfl
    refine ⟨rfl, ?_⟩
    unfold vSlot
    rw [if_pos ⟨ho, ⟨by omega, by omega⟩, by omega, by omega⟩]
    omega
  rw [if_neg h1, if_neg h1, if_neg h1]
  by_cases h2 : t < rF p
  · right; left
    rw [if_pos h2, if_pos h2, if_pos h2]
    refine ⟨rfl, ?_⟩
    have hp : 0 < p := by omega
    have q0 : 0 ≤ t - nF p := by omega
    have q1 : t - nF p < p * p := by omega
    have a0 := Int.ediv_nonneg q0 (by omega : (0 : Int) ≤ p)
    have a1 := Int.ediv_lt_of_lt_mul hp q1
    have a2 := Int.emod_nonneg (t - nF p) (by omega : p ≠ 0)
    have a3 := Int.emod_lt_of_pos (t - nF p) hp
    have a4 := Int.ediv_mul_add_emod (t - nF p) p
    unfold vNote
    rw [if_pos ⟨ho, ⟨a0, by omega⟩, a2, by omega⟩]
    omega
  rw [if_neg h2, if_neg h2, if_neg h2]
  by_cases h3 : t < sF p c
  · right; right; left
    rw [if_pos h3, if_pos h3, if_pos h3]
    refine ⟨rfl, rfl, ?_⟩
    unfold vRoot
    rw [if_pos ⟨ho, by omega, by omega⟩]
    omega
  rw [if_neg h3, if_neg h3, if_neg h3]
  right; right; right
  refine ⟨rfl, ?_⟩
  by_cases h4 : t < lF p s c
  · rw [if_pos h4, if_pos h4]
    unfold vBlock
    rw [if_pos ⟨ho, ⟨by omega, by omega⟩, by omega⟩, if_pos (by omega), if_pos (by omega)]
    omega
  · rw [if_neg h4, if_neg h4]
    unfold vBlock
    rw [if_pos ⟨ho, ⟨by omega, by omega⟩, by omega⟩, if_neg (by omega), if_pos (by omega)]
    omega
set_option maxHeartbeats 4000000 in
theorem walk (a : Option Addr) (len cap : Nat) (zs : List Int) (w : World) (hr : IsRow .u8 w a len cap zs) :
    Calls Try.prog 3 #[.slice a len cap] w fun e w' => e = .returned (.bool true) ∧ Below w.heap.size w w' := by
  go_enter Try.func3, Try.ntmps3
  go_wp2_with fail
  refine (big_any a len cap _ hr.small).mono ?_
  rintro e w0 ⟨rfl, rfl⟩
  by_cases hl : (4096 : Int) < len
  · rw [decide_eq_true hl]
    go_wp2
    go_ret
    exact ⟨rfl, Below.refl _ _⟩
  · rw [decide_eq_false hl]
    go_wp2_with fail
    refine (drawRegionOf a len cap _ (by omega) hr.row).mono ?_
    rintro e w1 ⟨p, s, l, c, k, t, rfl, b1⟩
    clear hl hr
    go_wp2_with fail
    have B := Box5.new w1 (.int .i64 p) (.int .i64 s) (.int .i64 l) (.int .i64 c) (.int .i64 k) 25
    have z := b1.alloc b1.size (Obj.cells #[.int .i64 p, .int .i64 s, .int .i64 l, .int .i64 c, .int .i64 k] 25)
    clear b1
    refine (iRegion _ _ _ _ _ _ _).mono ?_
    rintro e w2 ⟨rfl, b2⟩
    replace B := B.keep b2
    replace z := z.trans (b2.mono z.size)
    clear b2
    generalize w1.heap.size = q at *
    cases hi : inR p s l c k t
    · have e1 : gK p s l c k t = 0 := by unfold gK; rw [hi]; rfl
      have e2 : gI p s l c k t = 0 := by unfold gI; rw [hi]; rfl
      have e3 : gX p s l c k t = 0 := by unfold gX; rw [hi]; rfl
      rw [e1, e2, e3]
      clear e1 e2 e3
      have lt := B.lt
      obtain ⟨c0, c1, c2, c3, c4⟩ := B.five
      have z2 := z.alloc z.size (Obj.cells #[.int .i64 0, .int .i64 0, .int .i64 0] 29)
      have B2 := B.keep ((Below.refl _ _).alloc (Nat.le_refl _) (Obj.cells #[.int .i64 0, .int .i64 0, .int .i64 0] 29))
      cases ho : ok p s l c k
      · go_wp2_with (go_at_call 21; refine (sPlanOk _ _ _ _ _ _).mono ?_; rintro e w3 ⟨rfl, hb3⟩; rw [ho])
        go_ret
        exact ⟨rfl, z2.trans (hb3.mono z2.size)⟩
      · have ht : ¬ (0 ≤ t ∧ t ≤ zF p s l c - 1) := by simpa [inR, ho] using hi
        have hv : vSize p s l c k = zF p s l c := by unfold vSize; rw [if_pos ho]
        by_cases h0 : t < 0
        · go_wp2_with (go_at_call 21; refine (sPlanOk _ _ _ _ _ _).mono ?_; rintro e w3 ⟨rfl, hb3⟩; rw [ho])
          go_ret
          exact ⟨rfl, z2.trans (hb3.mono z2.size)⟩
        · have h1 : zF p s l c ≤ t := by omega
          clear ht hi
          go_wp2_with (first
            | (go_at_call 21; refine (sPlanOk _ _ _ _ _ _).mono ?_; rintro e w3 ⟨rfl, hb3⟩; rw [ho]; have z3 := z2.trans (hb3.mono z2.size); replace B2 := B2.keep hb3; obtain ⟨c0, c1, c2, c3, c4⟩ := B2.five)
            | (go_at_call 22; refine (sSize _ _ _ _ _ _).mono ?_; rintro e w4 ⟨rfl, hb4⟩; rw [hv]))
          go_ret
          refine ⟨?_, z3.trans (hb4.mono z3.size)⟩
          simp
    rcases reg_back hi with hq | hq | hq | hq
    · obtain ⟨e1, e2⟩ := hq
      have E2 : Hid (vSlot p s l c k (gI p s l c k t) (gX p s l c k t) = t) := e2
      clear e2
      generalize gI p s l c k t = gi at *
      generalize gX p s l c k t = gx at *
      rw [e1]
      clear e1
      have lt := B.lt
      obtain ⟨c0, c1, c2, c3, c4⟩ := B.five
      have z2 := z.alloc z.size (Obj.cells #[.int .i64 1, .int .i64 gi, .int .i64 gx] 29)
      go_wp2_with (go_at_call 17; refine (iSlot _ _ _ _ _ _ _ _).mono ?_; rintro e w3 ⟨rfl, hb3⟩; rw [E2.out])
      go_ret
      refine ⟨?_, z2.trans (hb3.mono z2.size)⟩
      simp

    · obtain ⟨e1, e2⟩ := hq
      have E2 : Hid (vNote p s l c k (gI p s l c k t) (gX p s l c k t) = t) := e2
      clear e2
      generalize gI p s l c k t = gi at *
      generalize gX p s l c k t = gx at *
      rw [e1]
      clear e1
      have lt := B.lt
      obtain ⟨c0, c1, c2, c3, c4⟩ := B.five
      have z2 := z.alloc z.size (Obj.cells #[.int .i64 2, .int .i64 gi, .int .i64 gx] 29)
      go_wp2_with (go_at_call 18; refine (iNote _ _ _ _ _ _ _ _).mono ?_; rintro e w3 ⟨rfl, hb3⟩; rw [E2.out])
      go_ret
      refine ⟨?_, z2.trans (hb3.mono z2.size)⟩
      simp

    · obtain ⟨e1, e3, e2⟩ := hq
      have E2 : Hid (vRoot p s l c k (gX p s l c k t) = t) := e2
      clear e2
      generalize gI p s l c k t = gi at *
      generalize gX p s l c k t = gx at *
      rw [e3]; clear e3; rw [e1]
      clear e1
      have lt := B.lt
      obtain ⟨c0, c1, c2, c3, c4⟩ := B.five
      have z2 := z.alloc z.size (Obj.cells #[.int .i64 3, .int .i64 0, .int .i64 gx] 29)
      go_wp2_with (go_at_call 19; refine (iRoot _ _ _ _ _ _ _).mono ?_; rintro e w3 ⟨rfl, hb3⟩; rw [E2.out])
      go_ret
      refine ⟨?_, z2.trans (hb3.mono z2.size)⟩
      simp

    · obtain ⟨e1, e2⟩ := hq
      have E2 : Hid (vBlock p s l c k (gI p s l c k t) (gX p s l c k t) = t) := e2
      clear e2
      generalize gI p s l c k t = gi at *
      generalize gX p s l c k t = gx at *
      rw [e1]
      clear e1
      have lt := B.lt
      obtain ⟨c0, c1, c2, c3, c4⟩ := B.five
      have z2 := z.alloc z.size (Obj.cells #[.int .i64 4, .int .i64 gi, .int .i64 gx] 29)
      go_wp2_with (go_at_call 20; refine (iBlock _ _ _ _ _ _ _ _).mono ?_; rintro e w3 ⟨rfl, hb3⟩; rw [E2.out])
      go_ret
      refine ⟨?_, z2.trans (hb3.mono z2.size)⟩
      simp
theorem own : ownKnob Try.prog.godebug = none := by kernel_rfl
theorem laidOut : laidOutB Try.prog = true := by kernel_rfl
set_option maxRecDepth 100000 in
theorem lifted (os : Os) (started : os.Started) (H : Type) (enc : TypeId × Value → H) :
    ReturnsInHanded {} Try.checked os 3 .any (Rows.fnRegionSpec.pre6 enc Try.prog Try.f3 Rows.fnRegionRow.domain false) (Rows.fnRegionSpec.post enc Try.prog Try.f3 false true false false) := by
  refine returnsInHanded_of_change (C := Try.checked) own started (by kernel_rfl) Try.func3
    (ChangeSpec.witness6 (enc := enc) (C := Try.checked) false ⟨#[], #[.slice none 0 0], []⟩ 8 (by kernel_rfl) (by kernel_rfl) (by kernel_rfl) (by kernel_rfl)) ?_
  intro W base args ds gs before hval0 hW hcnd _
  have hval : ∀ (j : Nat) t v, Try.f3.params[j]? = some t → args[j]? = some v → Value.okWide Try.prog W .any base t v := hval0
  have hW' := hW
  obtain ⟨p, q, hA0, hV, rfl, hfz, hnd⟩ := hW
  have hA : DataW.TrodAll enc Try.prog W 0 (fun _ => true) true Try.f3.params.toList args.toList ds p := hA0
  rw [Try.params3] at hA hval
  obtain ⟨v0, vs0, d0, ds0, p0, q0, hargs, rfl, rfl, h0, r0⟩ := trodAll_cons hA
  obtain ⟨rfl, rfl, rfl⟩ := trodAll_nil r0
  obtain rfl : args = #[v0] := by cases args; simp_all
  obtain ⟨rfl, rfl⟩ := trodVars_none hV
  have k0 := h0
  have lt0 : ∀ x ∈ p0, x.block < W.heap.size := by obtain ⟨m, hm⟩ := k0; exact DataW.trod_lt m _ _ _ hm
  obtain ⟨a0, len0, cap0, rfl⟩ := okWide_slice Try.underlying22 (hval 0 22 v0 rfl rfl)
  obtain ⟨z0, w0⟩ : ∃ zs, IsRow .u8 W a0 len0 cap0 zs := by
    obtain ⟨fuel, hf⟩ := h0
    rcases open_ints Try.underlying22 Try.underlying5 (by kernel_rfl) hf with ⟨hcs, _⟩ | ⟨x, l, c, zs, hcs, _, hl, hm, hz, _, hcell, hwz⟩
    · simp [Value.cells] at hcs
      obtain ⟨rfl, rfl, rfl⟩ := hcs
      exact ⟨[], .inl ⟨rfl, rfl, rfl, rfl⟩⟩
    · simp [Value.cells] at hcs
      obtain ⟨rfl, rfl, rfl⟩ := hcs
      exact ⟨zs, .inr ⟨_, rfl, hl, hm, by simpa using hz, hcell, hwz⟩⟩
  clear hA0 hval0
  refine (walk a0 len0 cap0 z0 W w0).mono fun e W' ⟨he, bel⟩ => ?_
  subst he
  exact ⟨_, rfl, _, _, _, [], _, [], hW', trodAll_mk1 (shut_bool Try.underlying4 _), (trodAll_cons_mk (Below.trod laidOut (by kernel_rfl) (of_decide_eq_true (by kernel_rfl)) k0 bel lt0) trodAll_mk0), rfl, bel.frame _, fun h => by cases h⟩

theorem over : Rows.fnRegionRow.holds Try.pinned (OpenSpec.ofChange Rows.fnRegionSpec) :=
  OpenClaim.holds_of_wide 3 Try.f3 rfl rfl rfl rfl rfl rfl rfl ⟨rfl, rfl, rfl, rfl, rfl⟩ rfl rfl rfl rfl rfl (by kernel_rfl) Try.func3 (by kernel_rfl)
    (of_decide_eq_true (by kernel_rfl)) (by unfold Func.isWrapper; first | (rw [if_pos (by decide +kernel)]; kernel_rfl) | (rw [if_neg (by decide +kernel)]; exact ⟨rfl, rfl⟩))
    (fun os started H enc _ => lifted os started H enc)
end Go.Proofs.Yteikophkacagoaa.fnRegion
namespace Go.Proofs.Yteikophkacagoaa
theorem fnRegion_holds : Rows.FnRegionSaid := fnRegion.over
#print axioms fnRegion_holds
end Go.Proofs.Yteikophkacagoaa
