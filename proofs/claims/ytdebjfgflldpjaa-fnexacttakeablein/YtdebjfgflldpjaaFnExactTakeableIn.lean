/-
  At every argument TakeableIn answers as the specification; its arguments stay. No condition.
-/
import Derived.Test.YtdebjfgflldpjaaRows
import Derived.Test.YtdebjfgflldpjaaWk9
import Derived.Test.YtdebjfgflldpjaaRowu
import Derived.Test.YtdebjfgflldpjaaOpens
import Derived.WalkKit
import Derived.ProofKit
import Derived.OpenShut
import Derived.ChangeOld
import Derived.Below
import Derived.Lib.SmallJoins
namespace Go.Proofs.Ytdebjfgflldpjaa.fnExactTakeableIn
open Go.ChangeShapes Go.WideShapes Go.ChangeAt Go.RowKit
set_option linter.unusedVariables false
theorem box5_kept {w w' : World} {q g : Nat} {x0 x1 x2 x3 x4 : Value} (h : Box5 w q x0 x1 x2 x3 x4) (kk : Kept g w w') (hq : q ≠ g) : Box5 w' q x0 x1 x2 x3 x4 := by
  have hc : ∀ o, w'.cell? ⟨q, o, none⟩ = w.cell? ⟨q, o, none⟩ := fun o => kk.cell h.lt hq
  exact ⟨Nat.lt_of_lt_of_le h.lt kk.size, (hc 0).trans h.c0, (hc 1).trans h.c1, (hc 2).trans h.c2, (hc 3).trans h.c3, (hc 4).trans h.c4⟩
theorem src_kept {w w' : World} {a : Option Addr} {n g : Nat} {xs : List Int} (h : Src w a n xs) (kk : Kept g w w') (hl : ∀ b o, a = some ⟨b, o, none⟩ → 0 < n → b < g) : Src w' a n xs :=
  h.kept (fun b o e hn => Nat.ne_of_lt (hl b o e hn)) kk
set_option maxHeartbeats 8000000 in
theorem walk (p s l c k : Int) (hp : -9223372036854775808 ≤ p ∧ p ≤ 9223372036854775807) (hs : -9223372036854775808 ≤ s ∧ s ≤ 9223372036854775807) (hl : -9223372036854775808 ≤ l ∧ l ≤ 9223372036854775807) (hc : -9223372036854775808 ≤ c ∧ c ≤ 9223372036854775807) (hk : -9223372036854775808 ≤ k ∧ k ≤ 9223372036854775807)
    (a : Option Addr) (len cap : Nat) (zs : List Int) (x : Int) (x0 : -9223372036854775808 ≤ x) (x1 : x ≤ 9223372036854775807) (w : World) (hr : IsRow .u64 w a len cap zs) :
    Calls Try.prog 3 #[.agg #[.int .i64 p, .int .i64 s, .int .i64 l, .int .i64 c, .int .i64 k], .slice a len cap, .int .i64 x] w fun e w' => e = .returned (.bool true) ∧ Below w.heap.size w w' := by
  obtain ⟨hs, hbd, hlen⟩ := hr.src
  clear hr
  by_cases hl : (1048576 : Int) < len
  · go_enter Try.func3, Try.ntmps3
    go_wp2
    go_ret
    exact ⟨rfl, by go_grown⟩
  · have hn : len ≤ 1048576 := by omega
    generalize zs.take len = xs at hs hbd
    have hlo : ∀ b o, a = some ⟨b, o, none⟩ → 0 < len → b < w.heap.size := by
      rintro b o rfl h0
      rcases hs.2 with h1 | ⟨b', o', e, hl, _⟩
      · omega
      · cases e; exact hl
    have hb1 : Below w.heap.size w (w.alloc (Obj.cells #[.int .i64 p, .int .i64 s, .int .i64 l, .int .i64 c, .int .i64 k] 23)) := (Below.refl _ _).alloc (Nat.le_refl _) _
    have B := Box5.new w (.int .i64 p) (.int .i64 s) (.int .i64 l) (.int .i64 c) (.int .i64 k) 23
    replace hs := hs.keep hb1
    have z : Below w.heap.size w (w.alloc (Obj.cells #[.int .i64 p, .int .i64 s, .int .i64 l, .int .i64 c, .int .i64 k] 23)) := hb1
    have zs1 : w.heap.size + 1 ≤ (w.alloc (Obj.cells #[.int .i64 p, .int .i64 s, .int .i64 l, .int .i64 c, .int .i64 k] 23)).heap.size := by simp
    clear hb1
    obtain ⟨c0, c1, c2, c3, c4⟩ := B.five
    go_enter Try.func3, Try.ntmps3
    go_wp2_with fail
    refine (toP _ _ _ _ _ _).mono ?_; rintro e w1 ⟨rfl, hb⟩; replace B := B.keep hb; replace z := z.trans (hb.mono z.size); replace hs := hs.keep hb; clear hb c0 c1 c2 c3 c4; obtain ⟨c0, c1, c2, c3, c4⟩ := B.five
    go_wp2_with fail
    refine (toU _ _ _ xs _ hs hbd hn).mono ?_; rintro e w2 ⟨rfl, W0, hb⟩; replace B := B.keep hb; replace z := z.trans (hb.mono z.size); replace hs := hs.keep hb; clear hb c0 c1 c2 c3 c4; obtain ⟨c0, c1, c2, c3, c4⟩ := B.five
    go_wp2_with fail
    refine (sTake _ _ _ _ _ _ _ _ _ xs _ W0.src hbd (by omega)).mono ?_; rintro e w3 ⟨rfl, hb⟩; replace B := B.keep hb; replace z := z.trans (hb.mono z.size); replace hs := hs.keep hb; clear hb c0 c1 c2 c3 c4; obtain ⟨c0, c1, c2, c3, c4⟩ := B.five
    go_wp2_with fail
    refine (toU _ _ _ xs _ hs hbd hn).mono ?_; rintro e w4 ⟨rfl, X, hb⟩; replace B := B.keep hb; replace z := z.trans (hb.mono z.size); replace hs := hs.keep hb; clear hb c0 c1 c2 c3 c4; obtain ⟨c0, c1, c2, c3, c4⟩ := B.five
    go_wp2_with fail
    refine (toP _ _ _ _ _ _).mono ?_; rintro e w5 ⟨rfl, hb⟩; replace X := X.keep hb; replace B := B.keep hb; replace z := z.trans (hb.mono z.size); replace hs := hs.keep hb; clear hb c0 c1 c2 c3 c4; obtain ⟨c0, c1, c2, c3, c4⟩ := B.five
    go_wp2_with fail
    refine (iTake _ _ _ _ _ _ _ _ _ xs _ X.src hbd (by omega)).mono ?_; rintro e w6 ⟨rfl, hb⟩; replace X := X.keep hb; replace B := B.keep hb; replace z := z.trans (hb.mono z.size); replace hs := hs.keep hb; clear hb c0 c1 c2 c3 c4; obtain ⟨c0, c1, c2, c3, c4⟩ := B.five
    generalize takeable p s l c k len xs x = y
    go_wp2_with fail
    refine (toU _ _ _ xs _ hs hbd hn).mono ?_; rintro e w7 ⟨rfl, Y, hb⟩; replace X := X.keep hb; replace B := B.keep hb; replace z := z.trans (hb.mono z.size); replace hs := hs.keep hb; clear hb c0 c1 c2 c3 c4; obtain ⟨c0, c1, c2, c3, c4⟩ := B.five
    go_wp2_with fail
    refine (eqU _ _ _ _ _ _ xs xs _ X.src Y.src (by omega) (by omega)).mono ?_; rintro e w8 ⟨rfl, hb⟩; rw [decide_eq_true rfl]; replace z := z.trans (hb.mono z.size)
    go_wp2
    go_ret
    exact ⟨rfl, z⟩
theorem own : ownKnob Try.prog.godebug = none := by kernel_rfl
theorem laidOut : laidOutB Try.prog = true := by kernel_rfl
set_option maxRecDepth 100000 in
theorem lifted (os : Os) (started : os.Started) (H : Type) (enc : TypeId × Value → H) :
    ReturnsInHanded {} Try.checked os 3 .any (Rows.fnExactTakeableInSpec.pre6 enc Try.prog Try.f3 Rows.fnExactTakeableInRow.domain false) (Rows.fnExactTakeableInSpec.post enc Try.prog Try.f3 false true false false) := by
  refine returnsInHanded_of_change (C := Try.checked) own started (by kernel_rfl) Try.func3
    (ChangeSpec.witness6 (enc := enc) (C := Try.checked) false ⟨#[], #[.agg #[.int .i64 0, .int .i64 0, .int .i64 0, .int .i64 0, .int .i64 0], .slice none 0 0, .int .i64 0], []⟩ 8 (by kernel_rfl) (by kernel_rfl) (by kernel_rfl) (by kernel_rfl)) ?_
  intro W base args ds gs before hval0 hW hcnd _
  have hval : ∀ (j : Nat) t v, Try.f3.params[j]? = some t → args[j]? = some v → Value.okWide Try.prog W .any base t v := hval0
  have hW' := hW
  obtain ⟨p, q, hA0, hV, rfl, hfz, hnd⟩ := hW
  have hA : DataW.TrodAll enc Try.prog W 0 (fun _ => true) true Try.f3.params.toList args.toList ds p := hA0
  rw [Try.params3] at hA hval
  obtain ⟨v0, vs0, d0, ds0, p0, q0, hargs, rfl, rfl, h0, r0⟩ := trodAll_cons hA
  obtain ⟨v1, vs1, d1, ds1, p1, q1, rfl, rfl, rfl, h1, r1⟩ := trodAll_cons r0
  obtain ⟨v2, vs2, d2, ds2, p2, q2, rfl, rfl, rfl, h2, r2⟩ := trodAll_cons r1
  obtain ⟨rfl, rfl, rfl⟩ := trodAll_nil r2
  obtain rfl : args = #[v0, v1, v2] := by cases args; simp_all
  obtain ⟨rfl, rfl⟩ := trodVars_none hV
  have k0 := h0
  have lt0 : ∀ x ∈ p0, x.block < W.heap.size := by obtain ⟨m, hm⟩ := k0; exact DataW.trod_lt m _ _ _ hm
  obtain ⟨zs0, hl0, hv0, bd0⟩ := open_i64s Try.underlying23 (by kernel_rfl) (by kernel_rfl) (i64Fields_of (by kernel_rfl)) (hval 0 23 v0 rfl rfl) h0
  obtain ⟨n0_0, n0_1, n0_2, n0_3, n0_4, rfl, rfl⟩ := agg5 (hl0.trans rfl) hv0
  have b0_0 := bd0 n0_0 (by simp)
  have b0_1 := bd0 n0_1 (by simp)
  have b0_2 := bd0 n0_2 (by simp)
  have b0_3 := bd0 n0_3 (by simp)
  have b0_4 := bd0 n0_4 (by simp)
  have k1 := h1
  have lt1 : ∀ x ∈ p1, x.block < W.heap.size := by obtain ⟨m, hm⟩ := k1; exact DataW.trod_lt m _ _ _ hm
  obtain ⟨a1, len1, cap1, rfl⟩ := okWide_slice Try.underlying24 (hval 1 24 v1 rfl rfl)
  obtain ⟨z1, w1⟩ : ∃ zs, IsRow .u64 W a1 len1 cap1 zs := by
    obtain ⟨fuel, hf⟩ := h1
    rcases open_ints Try.underlying24 Try.underlying34 (by kernel_rfl) hf with ⟨hcs, _⟩ | ⟨x, l, c, zs, hcs, _, hl, hm, hz, _, hcell, hwz⟩
    · simp [Value.cells] at hcs
      obtain ⟨rfl, rfl, rfl⟩ := hcs
      exact ⟨[], .inl ⟨rfl, rfl, rfl, rfl⟩⟩
    · simp [Value.cells] at hcs
      obtain ⟨rfl, rfl, rfl⟩ := hcs
      exact ⟨zs, .inr ⟨_, rfl, hl, hm, by simpa using hz, hcell, hwz⟩⟩
  have k2 := h2
  have lt2 : ∀ x ∈ p2, x.block < W.heap.size := by obtain ⟨m, hm⟩ := k2; exact DataW.trod_lt m _ _ _ hm
  obtain ⟨a2, rfl, rfl, rfl, w2⟩ := open_int Try.underlying2 (hval 2 2 v2 rfl rfl) h2
  have b2 := bounds_i64 w2
  clear hA0 hval0
  refine (walk n0_0 n0_1 n0_2 n0_3 n0_4 b0_0 b0_1 b0_2 b0_3 b0_4 a1 len1 cap1 z1 a2 b2.1 b2.2 W w1).mono fun e W' ⟨he, bel⟩ => ?_
  subst he
  exact ⟨_, rfl, _, _, _, [], _, [], hW', trodAll_mk1 (shut_bool Try.underlying4 _), (trodAll_cons_mk (Below.trod laidOut (by kernel_rfl) (of_decide_eq_true (by kernel_rfl)) k0 bel lt0) (trodAll_cons_mk (Below.trod laidOut (by kernel_rfl) (of_decide_eq_true (by kernel_rfl)) k1 bel lt1) (trodAll_cons_mk (Below.trod laidOut (by kernel_rfl) (of_decide_eq_true (by kernel_rfl)) k2 bel lt2) trodAll_mk0))), rfl, bel.frame _, fun h => by cases h⟩

theorem over : Rows.fnExactTakeableInRow.holds Try.pinned (OpenSpec.ofChange Rows.fnExactTakeableInSpec) :=
  OpenClaim.holds_of_wide 3 Try.f3 rfl rfl rfl rfl rfl rfl rfl ⟨rfl, rfl, rfl, rfl, rfl⟩ rfl rfl rfl rfl rfl (by kernel_rfl) Try.func3 (by kernel_rfl)
    (of_decide_eq_true (by kernel_rfl)) (by unfold Func.isWrapper; first | (rw [if_pos (by decide +kernel)]; kernel_rfl) | (rw [if_neg (by decide +kernel)]; exact ⟨rfl, rfl⟩))
    (fun os started H enc _ => lifted os started H enc)
end Go.Proofs.Ytdebjfgflldpjaa.fnExactTakeableIn
namespace Go.Proofs.Ytdebjfgflldpjaa
theorem fnExactTakeableIn_holds : Rows.FnExactTakeableInSaid := fnExactTakeableIn.over
#print axioms fnExactTakeableIn_holds
end Go.Proofs.Ytdebjfgflldpjaa
