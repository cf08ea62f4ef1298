/-
  At every argument Blank answers as the specification; its answer owns its memory. No condition.
-/
import Derived.Test.YtjimmfnloeecjaaRows
import Derived.Test.YtjimmfnloeecjaaBlk3
import Derived.Test.YtjimmfnloeecjaaOpens
import Derived.WalkKit
import Derived.ProofKit
import Derived.OpenShut
import Derived.ChangeOld
import Derived.Below
import Derived.Lib.SmallJoins
namespace Go.Proofs.Ytjimmfnloeecjaa.fnExactBlank
open Go.ChangeShapes Go.WideShapes Go.ChangeAt Go.RowKit
set_option linter.unusedVariables false
theorem box5_kept {w w' : World} {q g : Nat} {x0 x1 x2 x3 x4 : Value} (h : Box5 w q x0 x1 x2 x3 x4) (kk : Kept g w w') (hq : q ≠ g) : Box5 w' q x0 x1 x2 x3 x4 := by
  have hc : ∀ o, w'.cell? ⟨q, o, none⟩ = w.cell? ⟨q, o, none⟩ := fun o => kk.cell h.lt hq
  exact ⟨Nat.lt_of_lt_of_le h.lt kk.size, (hc 0).trans h.c0, (hc 1).trans h.c1, (hc 2).trans h.c2, (hc 3).trans h.c3, (hc 4).trans h.c4⟩
set_option maxHeartbeats 4000000 in
theorem walk (p s l c k : Int) (hp : -9223372036854775808 ≤ p ∧ p ≤ 9223372036854775807) (hs : -9223372036854775808 ≤ s ∧ s ≤ 9223372036854775807) (hl : -9223372036854775808 ≤ l ∧ l ≤ 9223372036854775807) (hc : -9223372036854775808 ≤ c ∧ c ≤ 9223372036854775807) (hk : -9223372036854775808 ≤ k ∧ k ≤ 9223372036854775807) (w : World) :
    Calls Try.prog 4 #[.agg #[.int .i64 p, .int .i64 s, .int .i64 l, .int .i64 c, .int .i64 k]] w fun e w' => e = .returned (.bool true) ∧ Below w.heap.size w w' := by
  have z : Below w.heap.size w (w.alloc (Obj.cells #[.int .i64 p, .int .i64 s, .int .i64 l, .int .i64 c, .int .i64 k] 23)) := (Below.refl _ _).alloc (Nat.le_refl _) _
  have B := Box5.new w (.int .i64 p) (.int .i64 s) (.int .i64 l) (.int .i64 c) (.int .i64 k) 23
  obtain ⟨c0, c1, c2, c3, c4⟩ := B.five
  go_enter Try.func4, Try.ntmps4
  go_wp2_with fail
  refine (toP _ _ _ _ _ _).mono ?_; rintro e w1 ⟨rfl, hb⟩; replace B := B.keep hb; replace z := z.trans (hb.mono z.size); clear hb c0 c1 c2 c3 c4; obtain ⟨c0, c1, c2, c3, c4⟩ := B.five
  go_wp2_with fail
  refine (sBlank _ _ _ _ _ _).mono ?_; rintro e w2 ⟨sg, n, sc, rfl, -, S, hn, hb⟩; replace B := B.keep hb; replace z := z.trans (hb.mono z.size); clear hb c0 c1 c2 c3 c4; obtain ⟨c0, c1, c2, c3, c4⟩ := B.five
  go_wp2_with fail
  refine (toP _ _ _ _ _ _).mono ?_; rintro e w3 ⟨rfl, hb⟩; replace S := S.keep hb; replace B := B.keep hb; replace z := z.trans (hb.mono z.size); clear hb c0 c1 c2 c3 c4; obtain ⟨c0, c1, c2, c3, c4⟩ := B.five
  go_wp2_with fail
  refine (iBlank _ _ _ _ _ _).mono ?_; rintro e w4 ⟨gg, m, gc, rfl, gge, G, hm, hb⟩; have sx := S.lt; have zx := z.size; have bx := B.lt; replace S := S.keep hb; replace B := B.keep hb; replace z := z.trans (hb.mono z.size); clear hb c0 c1 c2 c3 c4; obtain ⟨c0, c1, c2, c3, c4⟩ := B.five
  have nm : m = n := G.len.symm.trans S.len
  subst nm
  obtain ⟨ys, YS⟩ : ∃ ys : List Int, Hid (blank p s l c k = ys) := ⟨_, rfl⟩
  rw [YS.out] at S G
  go_wp2_with fail
  refine (eqU _ _ _ _ _ _ ys ys _ G.src S.src (by omega) (by omega)).mono ?_; rintro e w5 ⟨rfl, hb⟩; rw [decide_eq_true rfl]; replace S := S.keep hb; replace G := G.keep hb; replace B := B.keep hb; replace z := z.trans (hb.mono z.size); clear hb c0 c1 c2 c3 c4; obtain ⟨c0, c1, c2, c3, c4⟩ := B.five
  go_wp2_with fail
  refine (markU _ _ _ ys 1 _ G (by omega) (by omega) (by omega)).mono ?_; rintro e w6 ⟨rfl, G2, kk⟩
  replace S := S.kept kk (by omega)
  replace B := box5_kept B kk (by omega)
  replace z := z.trans (kk.below (by omega) z.size)
  clear kk G c0 c1 c2 c3 c4
  obtain ⟨c0, c1, c2, c3, c4⟩ := B.five
  go_wp2_with fail
  refine (heldU _ _ _ 1 _ G2.src (by omega) (by omega) (by omega)).mono ?_; rintro e w7 ⟨rfl, hb⟩; replace S := S.keep hb; replace G2 := G2.keep hb; replace B := B.keep hb; replace z := z.trans (hb.mono z.size); clear hb c0 c1 c2 c3 c4; obtain ⟨c0, c1, c2, c3, c4⟩ := B.five
  go_wp2_with fail
  refine (toP _ _ _ _ _ _).mono ?_; rintro e w8 ⟨rfl, hb⟩; replace S := S.keep hb; replace G2 := G2.keep hb; replace B := B.keep hb; replace z := z.trans (hb.mono z.size); clear hb c0 c1 c2 c3 c4; obtain ⟨c0, c1, c2, c3, c4⟩ := B.five
  go_wp2_with fail
  refine (iBlank _ _ _ _ _ _).mono ?_; rintro e w9 ⟨hg, hn2, hcc, rfl, -, H, hm2, hb⟩; replace S := S.keep hb; replace G2 := G2.keep hb; replace B := B.keep hb; replace z := z.trans (hb.mono z.size); clear hb c0 c1 c2 c3 c4; obtain ⟨c0, c1, c2, c3, c4⟩ := B.five
  rw [YS.out] at H
  go_wp2_with fail
  refine (eqU _ _ _ _ _ _ ys ys _ H.src S.src (by omega) (by omega)).mono ?_; rintro e w10 ⟨rfl, hb⟩; rw [decide_eq_true rfl]; replace G2 := G2.keep hb; replace B := B.keep hb; replace z := z.trans (hb.mono z.size); clear hb c0 c1 c2 c3 c4; obtain ⟨c0, c1, c2, c3, c4⟩ := B.five
  go_wp2_with fail
  refine (heldU _ _ _ 1 _ G2.src (by omega) (by omega) (by omega)).mono ?_; rintro e w11 ⟨rfl, hb⟩; replace B := B.keep hb; replace z := z.trans (hb.mono z.size); clear hb c0 c1 c2 c3 c4; obtain ⟨c0, c1, c2, c3, c4⟩ := B.five
  go_wp2
  go_ret
  exact ⟨rfl, z⟩
theorem own : ownKnob Try.prog.godebug = none := by kernel_rfl
theorem laidOut : laidOutB Try.prog = true := by kernel_rfl
set_option maxRecDepth 100000 in
theorem lifted (os : Os) (started : os.Started) (H : Type) (enc : TypeId × Value → H) :
    ReturnsInHanded {} Try.checked os 4 .any (Rows.fnExactBlankSpec.pre6 enc Try.prog Try.f4 Rows.fnExactBlankRow.domain false) (Rows.fnExactBlankSpec.post enc Try.prog Try.f4 false true false false) := by
  refine returnsInHanded_of_change (C := Try.checked) own started (by kernel_rfl) Try.func4
    (ChangeSpec.witness6 (enc := enc) (C := Try.checked) false ⟨#[], #[.agg #[.int .i64 0, .int .i64 0, .int .i64 0, .int .i64 0, .int .i64 0]], []⟩ 8 (by kernel_rfl) (by kernel_rfl) (by kernel_rfl) (by kernel_rfl)) ?_
  intro W base args ds gs before hval0 hW hcnd _
  have hval : ∀ (j : Nat) t v, Try.f4.params[j]? = some t → args[j]? = some v → Value.okWide Try.prog W .any base t v := hval0
  have hW' := hW
  obtain ⟨p, q, hA0, hV, rfl, hfz, hnd⟩ := hW
  have hA : DataW.TrodAll enc Try.prog W 0 (fun _ => true) true Try.f4.params.toList args.toList ds p := hA0
  rw [Try.params4] at hA hval
  obtain ⟨v0, vs0, d0, ds0, p0, q0, hargs, rfl, rfl, h0, r0⟩ := trodAll_cons hA
  obtain ⟨rfl, rfl, rfl⟩ := trodAll_nil r0
  obtain rfl : args = #[v0] := by cases args; simp_all
  obtain ⟨rfl, rfl⟩ := trodVars_none hV
  have k0 := h0
  have lt0 : ∀ x ∈ p0, x.block < W.heap.size := by obtain ⟨m, hm⟩ := k0; exact DataW.trod_lt m _ _ _ hm
  obtain ⟨zs0, hl0, hv0, bd0⟩ := open_i64s Try.underlying23 (by kernel_rfl) (by kernel_rfl) (i64Fields_of (by kernel_rfl)) (hval 0 23 v0 rfl rfl) h0
  obtain ⟨n0_0, n0_1, n0_2, n0_3, n0_4, rfl, rfl⟩ := agg5 (hl0.trans rfl) hv0
  have b0_0 := bd0 n0_0 (by simp)
  have b0_1 := bd0 n0_1 (by simp)
  have b0_2 := bd0 n0_2 (by simp)
  have b0_3 := bd0 n0_3 (by simp)
  have b0_4 := bd0 n0_4 (by simp)
  clear hA0 hval0
  refine (walk n0_0 n0_1 n0_2 n0_3 n0_4 b0_0 b0_1 b0_2 b0_3 b0_4 W).mono fun e W' ⟨he, bel⟩ => ?_
  subst he
  exact ⟨_, rfl, _, _, _, [], _, [], hW', trodAll_mk1 (shut_bool Try.underlying4 _), (trodAll_cons_mk (Below.trod laidOut (by kernel_rfl) (of_decide_eq_true (by kernel_rfl)) k0 bel lt0) trodAll_mk0), rfl, bel.frame _, fun h => by cases h⟩

theorem over : Rows.fnExactBlankRow.holds Try.pinned (OpenSpec.ofChange Rows.fnExactBlankSpec) :=
  OpenClaim.holds_of_wide 4 Try.f4 rfl rfl rfl rfl rfl rfl rfl ⟨rfl, rfl, rfl, rfl, rfl⟩ rfl rfl rfl rfl rfl (by kernel_rfl) Try.func4 (by kernel_rfl)
    (of_decide_eq_true (by kernel_rfl)) (by unfold Func.isWrapper; first | (rw [if_pos (by decide +kernel)]; kernel_rfl) | (rw [if_neg (by decide +kernel)]; exact ⟨rfl, rfl⟩))
    (fun os started H enc _ => lifted os started H enc)
end Go.Proofs.Ytjimmfnloeecjaa.fnExactBlank
namespace Go.Proofs.Ytjimmfnloeecjaa
theorem fnExactBlank_holds : Rows.FnExactBlankSaid := fnExactBlank.over
#print axioms fnExactBlank_holds
end Go.Proofs.Ytjimmfnloeecjaa
