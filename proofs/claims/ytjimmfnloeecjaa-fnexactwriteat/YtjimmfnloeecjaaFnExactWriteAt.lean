/-
  At every argument WriteAt answers as the specification; its argument stays, and its answer owns its memory. No condition.
-/
import Derived.Test.YtjimmfnloeecjaaRows
import Derived.Test.YtjimmfnloeecjaaPag5
import Derived.Test.YtjimmfnloeecjaaRowu
import Derived.WalkKit
import Derived.ProofKit
import Derived.OpenShut
import Derived.ChangeOld
import Derived.Below
import Derived.Lib.SmallJoins
namespace Go.Proofs.Ytjimmfnloeecjaa.fnExactWriteAt
open Go.ChangeShapes Go.WideShapes Go.ChangeAt Go.RowKit
set_option linter.unusedVariables false
set_option maxHeartbeats 4000000 in
theorem walk (a : Option Addr) (len cap : Nat) (zs : List Int) (at_ : Int) (b0 : -9223372036854775808 ≤ at_) (b1 : at_ ≤ 9223372036854775807) (x : Int) (x0 : 0 ≤ x) (x1 : x ≤ 18446744073709551615) (w : World) (hr : IsRow .u64 w a len cap zs) :
    Calls Try.prog 6 #[.slice a len cap, .int .i64 at_, .int .u64 x] w fun e w' => e = .returned (.bool true) ∧ Below w.heap.size w w' := by
  obtain ⟨hs, hbd, hlen⟩ := hr.src
  clear hr
  by_cases hl : (1048576 : Int) < len
  · go_enter Try.func6, Try.ntmps6
    go_wp2
    go_ret
    exact ⟨rfl, Below.refl _ _⟩
  · have hn : len ≤ 1048576 := by omega
    generalize zs.take len = xs at hs hbd
    have sb : ∀ b o, a = some ⟨b, o, none⟩ → 0 < len → b < w.heap.size := by
      intro b o e h0
      rcases hs.2 with h | ⟨b', o', e', hl, -⟩
      · omega
      · rw [e] at e'
        obtain ⟨rfl, rfl⟩ : b = b' ∧ o = o' := by simpa using e'
        exact hl
    have z := Below.refl w.heap.size w
    go_enter Try.func6, Try.ntmps6
    go_wp2_with fail
    refine (toU _ _ _ xs _ hs hbd hn).mono ?_; rintro e w1 ⟨rfl, X, hb⟩; replace z := z.trans (hb.mono z.size); replace hs := hs.keep hb; clear hb
    go_wp2_with fail
    refine (sWrite _ _ _ xs _ _ _ X (by omega) x0 x1).mono ?_; rintro e w2 ⟨sg, sc, rfl, sge, S, hb⟩; replace z := z.trans (hb.mono z.size); replace hs := hs.keep hb; clear hb
    clear X sge
    have sx := S.lt
    have zx := z.size
    generalize hflag : thr at_ len = flag
    generalize hL : wrote xs at_ x = ys at S
    go_wp2_with fail
    refine (toU _ _ _ xs _ hs hbd hn).mono ?_; rintro e w3 ⟨rfl, X, hb⟩; replace z := z.trans (hb.mono z.size); replace hs := hs.keep hb; replace S := S.keep hb; clear hb
    generalize w2.heap.size = gx at *
    go_wp2_with fail
    refine (iWrite _ _ _ xs _ _ _ X (by omega) x0 x1).mono ?_; rintro e w4 ⟨gg, gc, rfl, gge, G, hb⟩
    have xg : gx < gg := Nat.lt_of_lt_of_le X.lt gge
    rw [hL] at G
    rw [hflag]
    replace z := z.trans (hb.mono z.size); replace hs := hs.keep hb; replace S := S.keep hb; replace X := X.keep hb; clear hb
    clear gge
    go_wp2_with fail
    refine (eqU _ _ _ _ _ _ ys ys _ G.src S.src (by omega) (by omega)).mono ?_; rintro e w5 ⟨rfl, hb⟩; rw [decide_eq_true rfl]; replace z := z.trans (hb.mono z.size); replace hs := hs.keep hb; replace S := S.keep hb; replace X := X.keep hb; replace G := G.keep hb; clear hb
    go_wp2_with fail
    refine (toU _ _ _ xs _ hs hbd hn).mono ?_; rintro e w6 ⟨rfl, Y, hb⟩; replace z := z.trans (hb.mono z.size); replace hs := hs.keep hb; replace S := S.keep hb; replace X := X.keep hb; replace G := G.keep hb; clear hb
    go_wp2_with fail
    refine (eqU _ _ _ _ _ _ xs xs _ X.src Y.src (by omega) (by omega)).mono ?_; rintro e w7 ⟨rfl, hb⟩; rw [decide_eq_true rfl]; replace z := z.trans (hb.mono z.size); replace hs := hs.keep hb; replace S := S.keep hb; replace X := X.keep hb; replace G := G.keep hb; clear hb
    clear Y
    go_wp2_with fail
    refine (markU _ _ _ xs 1 _ X hn (by omega) (by omega)).mono ?_; rintro e w8 ⟨rfl, -, k⟩
    replace z := z.trans (k.below zx z.size)
    replace hs := hs.kept (fun b o e h0 => by have := sb b o e h0; omega) k
    replace S := S.kept k (by omega)
    replace G := G.kept k (by omega)
    clear k X
    go_wp2_with fail
    refine (eqU _ _ _ _ _ _ ys ys _ G.src S.src (by omega) (by omega)).mono ?_; rintro e w9 ⟨rfl, hb⟩; rw [decide_eq_true rfl]; replace z := z.trans (hb.mono z.size); replace hs := hs.keep hb; replace S := S.keep hb; replace G := G.keep hb; clear hb
    go_wp2_with fail
    refine (markU _ _ _ ys 1 _ G hn (by omega) (by omega)).mono ?_; rintro e w10 ⟨rfl, G2, k⟩
    replace z := z.trans (k.below (by omega) z.size)
    replace hs := hs.kept (fun b o e h0 => by have := sb b o e h0; omega) k
    replace S := S.kept k (by omega)
    clear k G
    go_wp2_with fail
    refine (heldU _ _ _ 1 _ G2.src hn (by omega) (by omega)).mono ?_; rintro e w11 ⟨rfl, hb⟩; replace z := z.trans (hb.mono z.size); replace hs := hs.keep hb; replace S := S.keep hb; replace G2 := G2.keep hb; clear hb
    go_wp2_with fail
    refine (toU _ _ _ xs _ hs hbd hn).mono ?_; rintro e w12 ⟨rfl, X, hb⟩; replace z := z.trans (hb.mono z.size); replace hs := hs.keep hb; replace S := S.keep hb; replace G2 := G2.keep hb; clear hb
    go_wp2_with fail
    refine (iWrite _ _ _ xs _ _ _ X (by omega) x0 x1).mono ?_; rintro e w13 ⟨hg, hc, rfl, -, H, hb⟩
    rw [hL] at H
    rw [hflag]
    replace z := z.trans (hb.mono z.size); replace hs := hs.keep hb; replace S := S.keep hb; replace G2 := G2.keep hb; clear hb
    go_wp2_with fail
    refine (eqU _ _ _ _ _ _ ys ys _ H.src S.src (by omega) (by omega)).mono ?_; rintro e w14 ⟨rfl, hb⟩; rw [decide_eq_true rfl]; replace z := z.trans (hb.mono z.size); replace hs := hs.keep hb; replace S := S.keep hb; replace G2 := G2.keep hb; clear hb
    go_wp2_with fail
    refine (heldU _ _ _ 1 _ G2.src hn (by omega) (by omega)).mono ?_; rintro e w15 ⟨rfl, hb⟩; replace z := z.trans (hb.mono z.size); replace hs := hs.keep hb; replace S := S.keep hb; replace G2 := G2.keep hb; clear hb
    go_wp2
    go_ret
    exact ⟨rfl, z⟩
theorem own : ownKnob Try.prog.godebug = none := by kernel_rfl
theorem laidOut : laidOutB Try.prog = true := by kernel_rfl
set_option maxRecDepth 100000 in
theorem lifted (os : Os) (started : os.Started) (H : Type) (enc : TypeId × Value → H) :
    ReturnsInHanded {} Try.checked os 6 .any (Rows.fnExactWriteAtSpec.pre6 enc Try.prog Try.f6 Rows.fnExactWriteAtRow.domain false) (Rows.fnExactWriteAtSpec.post enc Try.prog Try.f6 false true false false) := by
  refine returnsInHanded_of_change (C := Try.checked) own started (by kernel_rfl) Try.func6
    (ChangeSpec.witness6 (enc := enc) (C := Try.checked) false ⟨#[], #[.slice none 0 0, .int .i64 0, .int .u64 0], []⟩ 8 (by kernel_rfl) (by kernel_rfl) (by kernel_rfl) (by kernel_rfl)) ?_
  intro W base args ds gs before hval0 hW hcnd _
  have hval : ∀ (j : Nat) t v, Try.f6.params[j]? = some t → args[j]? = some v → Value.okWide Try.prog W .any base t v := hval0
  have hW' := hW
  obtain ⟨p, q, hA0, hV, rfl, hfz, hnd⟩ := hW
  have hA : DataW.TrodAll enc Try.prog W 0 (fun _ => true) true Try.f6.params.toList args.toList ds p := hA0
  rw [Try.params6] at hA hval
  obtain ⟨v0, vs0, d0, ds0, p0, q0, hargs, rfl, rfl, h0, r0⟩ := trodAll_cons hA
  obtain ⟨v1, vs1, d1, ds1, p1, q1, rfl, rfl, rfl, h1, r1⟩ := trodAll_cons r0
  obtain ⟨v2, vs2, d2, ds2, p2, q2, rfl, rfl, rfl, h2, r2⟩ := trodAll_cons r1
  obtain ⟨rfl, rfl, rfl⟩ := trodAll_nil r2
  obtain rfl : args = #[v0, v1, v2] := by cases args; simp_all
  obtain ⟨rfl, rfl⟩ := trodVars_none hV
  have k0 := h0
  have lt0 : ∀ x ∈ p0, x.block < W.heap.size := by obtain ⟨m, hm⟩ := k0; exact DataW.trod_lt m _ _ _ hm
  obtain ⟨a0, len0, cap0, rfl⟩ := okWide_slice Try.underlying24 (hval 0 24 v0 rfl rfl)
  obtain ⟨z0, w0⟩ : ∃ zs, IsRow .u64 W a0 len0 cap0 zs := by
    obtain ⟨fuel, hf⟩ := h0
    rcases open_ints Try.underlying24 Try.underlying34 (by kernel_rfl) hf with ⟨hcs, _⟩ | ⟨x, l, c, zs, hcs, _, hl, hm, hz, _, hcell, hwz⟩
    · simp [Value.cells] at hcs
      obtain ⟨rfl, rfl, rfl⟩ := hcs
      exact ⟨[], .inl ⟨rfl, rfl, rfl, rfl⟩⟩
    · simp [Value.cells] at hcs
      obtain ⟨rfl, rfl, rfl⟩ := hcs
      exact ⟨zs, .inr ⟨_, rfl, hl, hm, by simpa using hz, hcell, hwz⟩⟩
  have k1 := h1
  have lt1 : ∀ x ∈ p1, x.block < W.heap.size := by obtain ⟨m, hm⟩ := k1; exact DataW.trod_lt m _ _ _ hm
  obtain ⟨a1, rfl, rfl, rfl, w1⟩ := open_int Try.underlying2 (hval 1 2 v1 rfl rfl) h1
  have b1 := bounds_i64 w1
  have k2 := h2
  have lt2 : ∀ x ∈ p2, x.block < W.heap.size := by obtain ⟨m, hm⟩ := k2; exact DataW.trod_lt m _ _ _ hm
  obtain ⟨a2, rfl, rfl, rfl, w2⟩ := open_int Try.underlying34 (hval 2 34 v2 rfl rfl) h2
  have b2 := bounds_u64 w2
  clear hA0 hval0
  refine (walk a0 len0 cap0 z0 a1 b1.1 b1.2 a2 b2.1 b2.2 W w0).mono fun e W' ⟨he, bel⟩ => ?_
  subst he
  exact ⟨_, rfl, _, _, _, [], _, [], hW', trodAll_mk1 (shut_bool Try.underlying4 _), (trodAll_cons_mk (Below.trod laidOut (by kernel_rfl) (of_decide_eq_true (by kernel_rfl)) k0 bel lt0) (trodAll_cons_mk (Below.trod laidOut (by kernel_rfl) (of_decide_eq_true (by kernel_rfl)) k1 bel lt1) (trodAll_cons_mk (Below.trod laidOut (by kernel_rfl) (of_decide_eq_true (by kernel_rfl)) k2 bel lt2) trodAll_mk0))), rfl, bel.frame _, fun h => by cases h⟩

theorem over : Rows.fnExactWriteAtRow.holds Try.pinned (OpenSpec.ofChange Rows.fnExactWriteAtSpec) :=
  OpenClaim.holds_of_wide 6 Try.f6 rfl rfl rfl rfl rfl rfl rfl ⟨rfl, rfl, rfl, rfl, rfl⟩ rfl rfl rfl rfl rfl (by kernel_rfl) Try.func6 (by kernel_rfl)
    (of_decide_eq_true (by kernel_rfl)) (by unfold Func.isWrapper; first | (rw [if_pos (by decide +kernel)]; kernel_rfl) | (rw [if_neg (by decide +kernel)]; exact ⟨rfl, rfl⟩))
    (fun os started H enc _ => lifted os started H enc)
end Go.Proofs.Ytjimmfnloeecjaa.fnExactWriteAt
namespace Go.Proofs.Ytjimmfnloeecjaa
theorem fnExactWriteAt_holds : Rows.FnExactWriteAtSaid := fnExactWriteAt.over
#print axioms fnExactWriteAt_holds
end Go.Proofs.Ytjimmfnloeecjaa
