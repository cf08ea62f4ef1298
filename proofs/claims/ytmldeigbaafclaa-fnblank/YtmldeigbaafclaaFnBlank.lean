/-
  Of the blank arena of any plan that the model draws of a code: all blocks but the first are free, small and large ones apart; the stack and the queue are empty, and the cells hold 0; of a wrong plan it is empty and every walk is refused; nothing that was there is changed. No condition.
-/
import Derived.Test.YtmldeigbaafclaaRows
import Derived.Test.YtmldeigbaafclaaCode
import Derived.Test.YtmldeigbaafclaaDrawB
import Derived.Test.YtmldeigbaafclaaWk8
import Derived.Test.YtmldeigbaafclaaBlk2
import Derived.Test.YtmldeigbaafclaaBlw
import Derived.Test.YtmldeigbaafclaaLike
import Derived.Deep.Cut
import Derived.Deep.RegionHeld3
import Derived.WalkKit
import Derived.ProofKit
import Derived.OpenShut
import Derived.ChangeOld
import Derived.Below
import Derived.Lib.SmallJoins
namespace Go.Proofs.Ytmldeigbaafclaa.fnBlank
open Go.ChangeShapes Go.WideShapes Go.ChangeAt Go.RowKit
set_option linter.unusedVariables false
set_option maxHeartbeats 8000000 in
theorem walk (a : Option Addr) (len cap : Nat) (zs : List Int) (w : World) (hr : IsRow .u8 w a len cap zs) :
    Calls Try.prog 3 #[.slice a len cap] w fun e w' => e = .returned (.bool true) ∧ Below w.heap.size w w' := by
  obtain ⟨i0, hi, hz0, hz1, hz2⟩ := info_parts infoI
  go_enter Try.func3, Try.ntmps3
  go_wp2_with fail
  refine (big_any a len cap _ hr.small).mono ?_
  rintro e w0 ⟨rfl, rfl⟩
  by_cases hl : (4096 : Int) < len
  · rw [decide_eq_true hl]
    go_wp2
    go_ret
    exact ⟨rfl, Below.refl _ _⟩
  · rw [decide_eq_false hl]
    go_wp2_with fail
    refine (drawBlank a len cap _ (by omega) hr.row).mono ?_
    rintro e w1 ⟨p, s, l, c, k, rfl, b1⟩
    clear hl hr
    go_wp2_with fail
    have B := At.new w1 #[.int .i64 p, .int .i64 s, .int .i64 l, .int .i64 c, .int .i64 k] 25
    have z := b1.alloc b1.size (Obj.cells #[.int .i64 p, .int .i64 s, .int .i64 l, .int .i64 c, .int .i64 k] 25)
    have hq := b1.size
    clear b1
    refine (iBlank _ _ _ _ _ _).mono ?_
    rintro e w2 ⟨ga, n, ca, rfl, gae, A, hn, hb⟩
    replace B := B.keep hb; replace z := z.trans (hb.mono z.size); clear hb
    generalize w1.heap.size = q at *
    have bd := A.bd
    cases ho : ok p s l c k
    · have e : blank p s l c k = [] := by unfold blank; rw [ho]; simp
      rw [e] at A bd
      obtain rfl : n = 0 := by have := A.len; simpa using this.symm
      have ha := aOk_n (n := 0) ho
      have f0 : freeIn p s l c k 0 [] 0 = none := by unfold freeIn; rw [nodes_n ha]; simp
      have f1 : freeIn p s l c k 0 [] 1 = none := by unfold freeIn; rw [nodes_n ha]; simp
      have f2 : stackOf p s l c k 0 [] = none := by unfold stackOf; rw [nodes_n ha]; rfl
      have f3 : lineOf p s l c k 0 [] = none := by unfold lineOf lineNodes; rw [nodes_n ha]; rfl
      have F : Hid (freeIn p s l c k 0 [] 0 = none ∧ freeIn p s l c k 0 [] 1 = none ∧ stackOf p s l c k 0 [] = none ∧ lineOf p s l c k 0 [] = none) := ⟨f0, f1, f2, f3⟩
      clear f0 f1 f2 f3 e
      obtain ⟨c0, c1, c2, c3, c4, -⟩ := B.five
      go_wp2_with fail
      refine (iFree _ _ _ _ _ _ _ _ _ [] _ A.src bd (by omega)).mono ?_; rintro e w3 hG; rw [F.out.1] at hG; obtain ⟨g1, m1, cc1, rfl, -, I1, -, hb⟩ := hG.n; clear hG; replace A := A.keep hb; replace B := B.keep hb; replace z := z.trans (hb.mono z.size); clear hb c0 c1 c2 c3 c4; obtain ⟨c0, c1, c2, c3, c4, -⟩ := B.five
      go_wp2_with fail
      refine (iFree _ _ _ _ _ _ _ _ _ [] _ A.src bd (by omega)).mono ?_; rintro e w4 hG; rw [F.out.2.1] at hG; obtain ⟨g2, m2, cc2, rfl, -, I2, -, hb⟩ := hG.n; clear hG; replace A := A.keep hb; replace B := B.keep hb; replace z := z.trans (hb.mono z.size); clear hb c0 c1 c2 c3 c4; obtain ⟨c0, c1, c2, c3, c4, -⟩ := B.five
      go_wp2_with fail
      refine (iStackO _ _ _ _ _ _ _ _ [] _ A.src bd (by omega)).mono ?_; rintro e w5 hG; rw [F.out.2.2.1] at hG; obtain ⟨g3, m3, cc3, rfl, -, I3, -, hb⟩ := hG.n; clear hG; replace A := A.keep hb; replace B := B.keep hb; replace z := z.trans (hb.mono z.size); clear hb c0 c1 c2 c3 c4; obtain ⟨c0, c1, c2, c3, c4, -⟩ := B.five
      go_wp2_with fail
      refine (iLineO _ _ _ _ _ _ _ _ [] _ A.src bd (by omega)).mono ?_; rintro e w6 hG; rw [F.out.2.2.2] at hG; obtain ⟨g4, m4, cc4, rfl, -, I4, -, hb⟩ := hG.n; clear hG; replace A := A.keep hb; replace B := B.keep hb; replace z := z.trans (hb.mono z.size); clear hb c0 c1 c2 c3 c4; obtain ⟨c0, c1, c2, c3, c4, -⟩ := B.five
      go_wp2_with (go_at_call 16; refine (sPlanOk _ _ _ _ _ _).mono ?_; rintro e w7 ⟨rfl, hb⟩; rw [ho]; replace A := A.keep hb; replace B := B.keep hb; replace z := z.trans (hb.mono z.size); clear hb c0 c1 c2 c3 c4; obtain ⟨c0, c1, c2, c3, c4, -⟩ := B.five)
      go_ret
      exact ⟨rfl, z⟩
    · have e : blank p s l c k = blank2 p s l c k := by unfold blank; rw [if_pos ho]
      rw [e] at A bd
      have h' := ok_iff.1 ho
      obtain rfl : (blank2 p s l c k).length = n := A.len
      have F : Hid (freeIn p s l c k (blank2 p s l c k).length (blank2 p s l c k) 0 = some (rng 2 (s - 1).toNat) ∧ freeIn p s l c k (blank2 p s l c k).length (blank2 p s l c k) 1 = some (rng (s + 1) l.toNat) ∧ stackOf p s l c k (blank2 p s l c k).length (blank2 p s l c k) = some [] ∧ lineOf p s l c k (blank2 p s l c k).length (blank2 p s l c k) = some [] ∧ cellsOf p s l c k (blank2 p s l c k).length (blank2 p s l c k) = List.replicate c.toNat 0) := ⟨bl_free0 ho, bl_free1 ho, bl_stack ho, bl_line ho, bl_cells ho⟩
      clear e
      obtain ⟨xs, hxs⟩ : ∃ xs, xs = blank2 p s l c k := ⟨_, rfl⟩
      rw [← hxs] at A bd F hn ⊢
      obtain ⟨n, hnn⟩ : ∃ n, n = xs.length := ⟨_, rfl⟩
      rw [← hnn] at A F hn ⊢
      clear hxs hnn
      obtain ⟨c0, c1, c2, c3, c4, -⟩ := B.five
      go_wp2_with fail
      refine (iFree _ _ _ _ _ _ _ _ _ xs _ A.src bd (by omega)).mono ?_; rintro e w3 hG; rw [F.out.1] at hG; obtain ⟨g1, m1, cc1, rfl, -, I1, -, hb⟩ := hG.y; clear hG; replace A := A.keep hb; replace B := B.keep hb; replace z := z.trans (hb.mono z.size); clear hb c0 c1 c2 c3 c4; obtain ⟨c0, c1, c2, c3, c4, -⟩ := B.five
      go_wp2_with fail
      refine (iFree _ _ _ _ _ _ _ _ _ xs _ A.src bd (by omega)).mono ?_; rintro e w4 hG; rw [F.out.2.1] at hG; obtain ⟨g2, m2, cc2, rfl, -, I2, -, hb⟩ := hG.y; clear hG; replace I1 := I1.keep hb; replace A := A.keep hb; replace B := B.keep hb; replace z := z.trans (hb.mono z.size); clear hb c0 c1 c2 c3 c4; obtain ⟨c0, c1, c2, c3, c4, -⟩ := B.five
      go_wp2_with fail
      refine (iStackO _ _ _ _ _ _ _ _ xs _ A.src bd (by omega)).mono ?_; rintro e w5 hG; rw [F.out.2.2.1] at hG; obtain ⟨g3, m3, cc3, rfl, -, I3, -, hb⟩ := hG.y; clear hG; replace I1 := I1.keep hb; replace I2 := I2.keep hb; replace A := A.keep hb; replace B := B.keep hb; replace z := z.trans (hb.mono z.size); clear hb c0 c1 c2 c3 c4; obtain ⟨c0, c1, c2, c3, c4, -⟩ := B.five
      go_wp2_with fail
      refine (iLineO _ _ _ _ _ _ _ _ xs _ A.src bd (by omega)).mono ?_; rintro e w6 hG; rw [F.out.2.2.2.1] at hG; obtain ⟨g4, m4, cc4, rfl, -, I4, -, hb⟩ := hG.y; clear hG; replace I1 := I1.keep hb; replace I2 := I2.keep hb; replace A := A.keep hb; replace B := B.keep hb; replace z := z.trans (hb.mono z.size); clear hb c0 c1 c2 c3 c4; obtain ⟨c0, c1, c2, c3, c4, -⟩ := B.five
      obtain rfl : m3 = 0 := I3.len.symm
      obtain rfl : m4 = 0 := I4.len.symm
      have e1 : (m1 : Int) = s - 1 := by have := I1.len; rw [rng_len] at this; omega
      have e2 : (m2 : Int) = l := by have := I2.len; rw [rng_len] at this; omega
      have n1 : m1 = (s - 1).toNat := by omega
      have n2 : m2 = l.toNat := by omega
      rw [← n1] at I1
      rw [← n2] at I2
      have HS : Hid (s + 1 = 2 + (m1 : Int)) := by show _ = _; omega
      have M1 : Hid (m1 ≤ 250) := by show _ ≤ _; omega
      have M2 : Hid (m2 ≤ 250) := by show _ ≤ _; omega
      clear n1 n2 I3 I4
      go_upto_region 13 with (go_at_call 16; refine (sPlanOk _ _ _ _ _ _).mono ?_; rintro e w7 ⟨rfl, hb⟩; rw [ho]; replace I1 := I1.keep hb; replace I2 := I2.keep hb; replace A := A.keep hb; replace B := B.keep hb; replace z := z.trans (hb.mono z.size); clear hb c0 c1 c2 c3 c4; obtain ⟨c0, c1, c2, c3, c4, -⟩ := B.five)
      clear e1 e2
      have zb := z.size
      have J1 := I1.alloc (.cells #[] 2)
      go_wp2_with (first
        | (at_builtin; refine wpList_append_own _ rfl (.tmp 106) (.tmp 107) 29 rfl w7.heap.size 2 i0 (.int .i64 0) 1 8 Try.underlying29 hi hz0 hz1 hz2 rfl (by decide) _ 0 [] rfl (ilit w7 _ (Nat.le_refl _)) ⟨g1, 0, none⟩ m1 cc1 ((rng 2 m1).map (Value.int .i64)) rfl (by simp [rng_len]) J1.news (i64_one _) (by have := M1.out; unfold maxLen; omega) (by have := M1.out; omega) (by simp) ?_; intro v' w8 ho' hg' hn'; have hn2 : v' = .slice none 0 0 ↔ (Value.slice (some ⟨w7.heap.size, 0, none⟩) 0 0) = .slice none 0 0 ∧ m1 = 0 := hn'; have hg2 : (w7.alloc (.cells #[] 2)).grownBy w8 (some w7.heap.size) := hg'; have hv' : v' ≠ .slice none 0 0 := fun e => absurd (hn2.1 e).1 (by simp); have ho2 : w8.ownsRow w7.heap.size 2 1 v' m1 ((rng 2 m1).map (Value.int .i64)) := by { simpa using ho' }; have b8 : Below w7.heap.size w7 w8 := by { refine (((Below.refl w7.heap.size w7).alloc (Nat.le_refl _) (.cells #[] 2))).grown hg2 (by simp) (by intro k hk; simp at hk; omega) }; replace I2 := I2.keep b8; clear ho' hg' hn' hn2 hg2)
        | (at_builtin; refine wpList_append_own _ rfl (.tmp 108) (.tmp 109) 29 rfl w7.heap.size 2 i0 (.int .i64 0) 1 8 Try.underlying29 hi hz0 hz1 hz2 rfl (by decide) _ m1 ((rng 2 m1).map (Value.int .i64)) rfl ho2 ⟨g2, 0, none⟩ m2 cc2 ((rng (s + 1) m2).map (Value.int .i64)) rfl (by simp [rng_len]) I2.news (i64_one _) (by have := M1.out; have := M2.out; unfold maxLen; omega) (by have := M1.out; have := M2.out; omega) b8.size ?_; intro v2 w9 ho3 hg3 hn3))
      have hn4 : v2 = .slice none 0 0 ↔ v' = .slice none 0 0 ∧ m2 = 0 := hn3
      have hg4 : w8.grownBy w9 v'.ownBlock := hg3
      have hv2 : v2 ≠ .slice none 0 0 := fun e => hv' (hn4.1 e).1
      rw [HS.out, ← List.map_append, rng_app _ _ _ _ rfl] at ho3
      have b9 : Below w7.heap.size w7 w9 := b8.grown hg4 b8.size (fun j e => (World.ownsRow.lt ho2 j e).1)
      obtain ⟨gl, cl, rfl, gle, L⟩ := Is.of_own (rng_len _ _) ho3 hv2
      replace A := A.keep b9
      replace B := B.keep b9
      replace z := z.trans (b9.mono z.size)
      clear ho3 hg3 hn3 hn4 hg4 hv2 hv' ho2 b8 b9 J1 I1 I2 c0 c1 c2 c3 c4 HS
      obtain ⟨c0, c1, c2, c3, c4, -⟩ := B.five
      obtain ⟨m, hm⟩ : ∃ m, m1 + m2 = m := ⟨_, rfl⟩
      rw [hm] at L ⊢
      have M : m ≤ 500 := by have := M1.out; have := M2.out; omega
      clear hm M1 M2
      go_loopg [14] m (fun g' y wr => ∃ i : Nat, i ≤ m ∧ g' + i = m ∧ y = .int .i64 (i : Int) ∧ wr = w9)
      case atStart => exact ⟨0, by omega, by omega, rfl, rfl⟩
      case round =>
        obtain ⟨i, i0', hg, rfl, rfl⟩ := hrel
        by_cases him : i < m
        · have him' : (i : Int) < (m : Int) := by omega
          have d := L.cell i him
          rw [rng_getD _ _ _ him, Int.add_comm] at d
          go_wp2
          go_roundg (gk - 1)
          case measure => omega
          case rel => exact ⟨i + 1, by omega, by omega, by go_num, rfl⟩
        · obtain rfl : i = m := by omega
          obtain ⟨cn, rfl⟩ : ∃ cn : Nat, c = (cn : Int) := ⟨c.toNat, by omega⟩
          have hmk := run_make_row' (P := Try.prog) 29 2 (.int .i64 0) 8 Try.underlying29 infoI rfl .i64 .i64 cn (by omega) (by omega)
          have HC : Hid (cellsOf p s l (cn : Int) k n xs = List.replicate cn 0) := by have := F.out.2.2.2.2; rw [Int.toNat_natCast] at this; exact this
          go_upto_region 19 with fail
          clear c0 c1 c2 c3 c4 L F
          have AM := (A.keep ((Below.refl _ _).alloc (Nat.le_refl _) (.cells (madeCells #[.int .i64 0] cn) 2))).keep (Below.refl _ _).drew
          have BM := (B.keep ((Below.refl _ _).alloc (Nat.le_refl _) (.cells (madeCells #[.int .i64 0] cn) 2))).keep (Below.refl _ _).drew
          have zM := (z.alloc z.size (.cells (madeCells #[.int .i64 0] cn) 2)).drew
          have IM := (Is.made wr cn (by omega)).keep (Below.refl _ _).drew
          replace A := A.keep (Below.refl _ _).drew
          replace B := B.keep (Below.refl _ _).drew
          replace z := z.drew
          obtain ⟨c0, c1, c2, c3, c4, -⟩ := B.five
          obtain ⟨b0, b1, b2, b3, b4, -⟩ := BM.five
          have mk1 := fun W : World => Is.made W cn (by omega)
          go_region_held3 (fun w' => w'.cell? ⟨q, 0, none⟩ = some (.int .i64 p) ∧ w'.cell? ⟨q, 1, none⟩ = some (.int .i64 s) ∧ w'.cell? ⟨q, 2, none⟩ = some (.int .i64 l) ∧ w'.cell? ⟨q, 3, none⟩ = some (.int .i64 (cn : Int)) ∧ w'.cell? ⟨q, 4, none⟩ = some (.int .i64 k)) (go_keep)
            (first
            | (go_at_call 18; refine (iCells _ _ _ _ _ _ _ _ xs _ (by first | exact A.src | exact AM.src) bd (by omega)).mono ?_; rintro e w20 ⟨g5, m5, cc5, rfl, -, I5, -, hb5⟩; rw [HC.out] at I5; have B5 := (show At w20 q _ _ from by first | exact B.keep hb5 | exact BM.keep hb5); have z5 := (show Below w0.heap.size w0 w20 from by first | exact z.trans (hb5.mono z.size) | exact zM.trans (hb5.mono zM.size)); obtain ⟨c0, c1, c2, c3, c4, -⟩ := B5.five; have B5M := B5.keep ((Below.refl _ _).alloc (Nat.le_refl _) (.cells (madeCells #[.int .i64 0] cn) 2)); obtain ⟨b0, b1, b2, b3, b4, -⟩ := B5M.five)
            | (go_at_call 17; refine (likeI _ _ _ _ _ _ (List.replicate cn 0) (List.replicate cn 0) _ (by first | exact I5.src | exact (I5.alloc _).src) (by first | exact (mk1 _).src | exact (IM.keep hb5).src) (by have := I5.len; rw [List.length_replicate] at this; omega) (by omega)).mono ?_; rintro e w21 ⟨rfl, hb6⟩; rw [decide_eq_true rfl]; have z6 := (show Below w0.heap.size w0 w21 from by first | exact z5.trans (hb6.mono z5.size) | exact (z5.alloc z5.size _).trans (hb6.mono (z5.alloc z5.size _).size)); have B6 := (show At w21 q _ _ from by first | exact B5.keep hb6 | exact B5M.keep hb6); obtain ⟨c0, c1, c2, c3, c4, -⟩ := B6.five))
          all_goals
            go_wp2
            go_ret
            exact ⟨rfl, z6⟩
theorem own : ownKnob Try.prog.godebug = none := by kernel_rfl
theorem laidOut : laidOutB Try.prog = true := by kernel_rfl
set_option maxRecDepth 100000 in
theorem lifted (os : Os) (started : os.Started) (H : Type) (enc : TypeId × Value → H) :
    ReturnsInHanded {} Try.checked os 3 .any (Rows.fnBlankSpec.pre6 enc Try.prog Try.f3 Rows.fnBlankRow.domain false) (Rows.fnBlankSpec.post enc Try.prog Try.f3 false true false false) := by
  refine returnsInHanded_of_change (C := Try.checked) own started (by kernel_rfl) Try.func3
    (ChangeSpec.witness6 (enc := enc) (C := Try.checked) false ⟨#[], #[.slice none 0 0], []⟩ 8 (by kernel_rfl) (by kernel_rfl) (by kernel_rfl) (by kernel_rfl)) ?_
  intro W base args ds gs before hval0 hW hcnd _
  have hval : ∀ (j : Nat) t v, Try.f3.params[j]? = some t → args[j]? = some v → Value.okWide Try.prog W .any base t v := hval0
  have hW' := hW
  obtain ⟨p, q, hA0, hV, rfl, hfz, hnd⟩ := hW
  have hA : DataW.TrodAll enc Try.prog W 0 (fun _ => true) true Try.f3.params.toList args.toList ds p := hA0
  rw [Try.params3] at hA hval
  obtain ⟨v0, vs0, d0, ds0, p0, q0, hargs, rfl, rfl, h0, r0⟩ := trodAll_cons hA
  obtain ⟨rfl, rfl, rfl⟩ := trodAll_nil r0
  obtain rfl : args = #[v0] := by cases args; simp_all
  obtain ⟨rfl, rfl⟩ := trodVars_none hV
  have k0 := h0
  have lt0 : ∀ x ∈ p0, x.block < W.heap.size := by obtain ⟨m, hm⟩ := k0; exact DataW.trod_lt m _ _ _ hm
  obtain ⟨a0, len0, cap0, rfl⟩ := okWide_slice Try.underlying22 (hval 0 22 v0 rfl rfl)
  obtain ⟨z0, w0⟩ : ∃ zs, IsRow .u8 W a0 len0 cap0 zs := by
    obtain ⟨fuel, hf⟩ := h0
    rcases open_ints Try.underlying22 Try.underlying5 (by kernel_rfl) hf with ⟨hcs, _⟩ | ⟨x, l, c, zs, hcs, _, hl, hm, hz, _, hcell, hwz⟩
    · simp [Value.cells] at hcs
      obtain ⟨rfl, rfl, rfl⟩ := hcs
      exact ⟨[], .inl ⟨rfl, rfl, rfl, rfl⟩⟩
    · simp [Value.cells] at hcs
      obtain ⟨rfl, rfl, rfl⟩ := hcs
      exact ⟨zs, .inr ⟨_, rfl, hl, hm, by simpa using hz, hcell, hwz⟩⟩
  clear hA0 hval0
  refine (walk a0 len0 cap0 z0 W w0).mono fun e W' ⟨he, bel⟩ => ?_
  subst he
  exact ⟨_, rfl, _, _, _, [], _, [], hW', trodAll_mk1 (shut_bool Try.underlying4 _), (trodAll_cons_mk (Below.trod laidOut (by kernel_rfl) (of_decide_eq_true (by kernel_rfl)) k0 bel lt0) trodAll_mk0), rfl, bel.frame _, fun h => by cases h⟩

theorem over : Rows.fnBlankRow.holds Try.pinned (OpenSpec.ofChange Rows.fnBlankSpec) :=
  OpenClaim.holds_of_wide 3 Try.f3 rfl rfl rfl rfl rfl rfl rfl ⟨rfl, rfl, rfl, rfl, rfl⟩ rfl rfl rfl rfl rfl (by kernel_rfl) Try.func3 (by kernel_rfl)
    (of_decide_eq_true (by kernel_rfl)) (by unfold Func.isWrapper; first | (rw [if_pos (by decide +kernel)]; kernel_rfl) | (rw [if_neg (by decide +kernel)]; exact ⟨rfl, rfl⟩))
    (fun os started H enc _ => lifted os started H enc)
end Go.Proofs.Ytmldeigbaafclaa.fnBlank
namespace Go.Proofs.Ytmldeigbaafclaa
theorem fnBlank_holds : Rows.FnBlankSaid := fnBlank.over
#print axioms fnBlank_holds
end Go.Proofs.Ytmldeigbaafclaa
