/-
  Whether the numbers of a call fit its row: the program's side.
-/
import Derived.Test.YtooljeddnfkphaaDoorCal3
import Derived.Deep.LoopGhost
namespace Go.Proofs.YtooljeddnfkphaaDoor
open Go.RowKit
set_option linter.unusedVariables false
theorem fit_f1 {p s l c k slot b place n : Int} (h : inB n (rLo place) (rHi p s l c k place b) = false) : fit1 p s l c k slot b place n = false := by unfold fit1; rw [h]; rfl
theorem fit_f2 {p s l c k slot b place n : Int} (h7 : place = 7) (hs : n = slot) : fit1 p s l c k slot b place n = false := by unfold fit1; simp [h7, hs]
theorem fit_t1 {p s l c k slot b place n : Int} (h : inB n (rLo place) (rHi p s l c k place b) = true) (h7 : ¬ place = 7) : fit1 p s l c k slot b place n = true := by unfold fit1; simp [h, h7]
theorem fit_t2 {p s l c k slot b place n : Int} (h : inB n (rLo place) (rHi p s l c k place b) = true) (hs : ¬ n = slot) : fit1 p s l c k slot b place n = true := by unfold fit1; simp [h, hs]
theorem and3_f0 {a b c : Bool} (h : a = false) : (a && b && c) = false := by rw [h]; rfl
theorem and3_f1 {a b c : Bool} (h : b = false) : (a && b && c) = false := by rw [h]; simp
theorem and3_f2 {a b c : Bool} (h : c = false) : (a && b && c) = false := by rw [h]; simp
theorem and3_t {a b c : Bool} (h : a = true) (h1 : b = true) (h2 : c = true) : (a && b && c) = true := by rw [h, h1, h2]; rfl
set_option maxHeartbeats 32000000 in
theorem iFit (p s l c k slot : Int) (ho : ok p s l c k = true) (nm : List UInt8) (x y v : Int) (hx : 0 ≤ x ∧ x ≤ 8) (hy : 0 ≤ y ∧ y ≤ 8) (hv : 0 ≤ v ∧ v ≤ 8) (a b d : Int) (w : World) (b0 : Nat) (t0 : TypeId) (L0 : At w b0 #[.int .i64 a, .int .i64 b, .int .i64 d] t0) :
    Calls Tryd.prog 26 #[.agg #[.int .i64 p, .int .i64 s, .int .i64 l, .int .i64 c, .int .i64 k], .int .i64 slot, .agg (rowV (nm, x, y, v)).toArray, .slice (some ⟨b0, 0, none⟩) 3 3] w fun e w' => e = .returned (.bool (fit1 p s l c k slot a x a && fit1 p s l c k slot a y b && fit1 p s l c k slot a v d)) ∧ Below w.heap.size w w' := by
  obtain ⟨f0, hf0⟩ : ∃ f, Hid (fit1 p s l c k slot a x a = f) := ⟨_, rfl⟩
  obtain ⟨f1, hf1⟩ : ∃ f, Hid (fit1 p s l c k slot a y b = f) := ⟨_, rfl⟩
  obtain ⟨f2, hf2⟩ : ∃ f, Hid (fit1 p s l c k slot a v d = f) := ⟨_, rfl⟩
  rw [hf0.out, hf1.out, hf2.out]
  go_enter Tryd.func26, Tryd.ntmps26
  go_upto_region 2 with fail
  refine wp_at (fun W => At W w.heap.size #[.int .i64 p, .int .i64 s, .int .i64 l, .int .i64 c, .int .i64 k] 25 ∧ At W (w.heap.size + 1) (rowV (nm, x, y, v)).toArray 46 ∧ At W b0 #[.int .i64 a, .int .i64 b, .int .i64 d] t0 ∧ Below w.heap.size w W) (by
    obtain ⟨q1, q2, q3⟩ := two_box w #[.int .i64 p, .int .i64 s, .int .i64 l, .int .i64 c, .int .i64 k] (rowV (nm, x, y, v)).toArray 25 46
    exact ⟨q1, q2, L0.keep q3, q3⟩) ?_
  clear L0
  rintro W ⟨P0, R0, L0, z⟩
  go_loopg [15] 3 (fun g q wr => ∃ i : Int, 0 ≤ i ∧ i ≤ 3 ∧ (g : Int) = 3 - i ∧ q = .int .i64 i ∧ Hid ((1 ≤ i → f0 = true) ∧ (2 ≤ i → f1 = true) ∧ (3 ≤ i → f2 = true)) ∧ Below W.heap.size W wr)
  case atStart => exact ⟨0, by omega, by omega, by omega, rfl, ⟨by omega, by omega, by omega⟩, Below.refl _ _⟩
  case round =>
    obtain ⟨i, i1, i0, hg, rfl, hh, hwr⟩ := hrel
    have P := P0.keep hwr
    have R := R0.keep hwr
    have L := L0.keep hwr
    have lp : ∀ w', Cls wr w' → (loadVar 25 ⟨w.heap.size, 0, none⟩).run Tryd.prog w' = .ok (.agg #[.int .i64 p, .int .i64 s, .int .i64 l, .int .i64 c, .int .i64 k]) w' := ld_agg (vs := [.int .i64 p, .int .i64 s, .int .i64 l, .int .i64 c, .int .i64 k]) P Tryd.underlying25 rfl (by kernel_rfl)
    have l0 : ∀ w', Cls wr w' → (loadVar 2 ⟨b0, 0, none⟩).run Tryd.prog w' = .ok (.int .i64 a) w' := ld_i L Tryd.underlying2 rfl
    have hc : i = 0 ∨ i = 1 ∨ i = 2 ∨ i = 3 := by omega
    rcases hc with rfl | rfl | rfl | rfl

    · obtain ⟨lo, hlo⟩ : ∃ q, Hid (rLo x = q) := ⟨_, rfl⟩
      obtain ⟨hi, hhi⟩ : ∃ q, Hid (rHi p s l c k x a = q) := ⟨_, rfl⟩
      have lr : ∀ w', Cls wr w' → (loadVar 2 ⟨w.heap.size + 1, 1, none⟩).run Tryd.prog w' = .ok (.int .i64 x) w' := ld_i R Tryd.underlying2 rfl
      have cn : wr.cell? ⟨b0, 0, none⟩ = some (.int .i64 a) := L.cell 0
      go_upto_region 4 with fail
      refine wp_region_cls (by kernel_rfl) (by kernel_rfl) ?_
      repeat' (first
        | go_big_quiet_skip
        | (go_big_quiet_want; first
          | (refine q_load _ _ _ _ rfl rfl (by assumption) ?_; simp only [Act.put, List.setIfInBounds_toArray, List.set_cons_zero, List.set_cons_succ]; go_big_quiet_on)
          | (go_big_quiet_op; first
            | go_big_quiet_on
            | (refine ⟨_, fun _ _ => rfl, ?_⟩; go_big_quiet_on)
            | (apply Exists.intro; refine ⟨fun w' hw' => ?_, ?_⟩
               · (first
                 | (go_at_call 34; have hq := iRange p s l c k x a ho hx w'; rw [hlo.out, hhi.out] at hq; exact cls_below hw' hq))
               go_big_quiet_on))))
      refine wpQuiet_nil ?_
      intro w2 hw2
      have R2 := R.keep hw2.below
      have cr : w2.cell? ⟨w.heap.size + 1, 1, none⟩ = some (.int .i64 x) := R2.cell 1
      clear cn
      cases e1 : inB a lo hi
      · have E1 : Hid (inB a lo hi = false) := e1
        have ft : f0 = false := by rw [← hf0.out]; exact fit_f1 (by rw [hlo.out, hhi.out]; exact E1.out)
        go_wp2_with (go_at_call 33; refine (iWithin _ _ _ _).mono ?_; rintro e w3 ⟨rfl, rfl⟩; rw [e1])
        go_ret
        exact ⟨ret_f (and3_f0 ft), z.trans ((hwr.trans (hw2.below.mono hwr.size)).mono z.size)⟩
      · have E1 : Hid (inB a lo hi = true) := e1
        by_cases h7 : x = 7
        · subst h7
          by_cases hs : a = slot
          · subst hs
            have ft : f0 = false := by rw [← hf0.out]; exact fit_f2 rfl rfl
            go_wp2_with (go_at_call 33; refine (iWithin _ _ _ _).mono ?_; rintro e w3 ⟨rfl, rfl⟩; rw [e1])
            go_ret
            exact ⟨ret_f (and3_f0 ft), z.trans ((hwr.trans (hw2.below.mono hwr.size)).mono z.size)⟩
          · have HS : Hid (¬ a = slot) := hs
            have ft : f0 = true := by rw [← hf0.out]; exact fit_t2 (by rw [hlo.out, hhi.out]; exact E1.out) HS.out
            go_wp2_with (go_at_call 33; refine (iWithin _ _ _ _).mono ?_; rintro e w3 ⟨rfl, rfl⟩; rw [e1])
            go_roundg 2
            case measure => omega
            case rel => exact ⟨1, by omega, by omega, by omega, by first | rfl | go_num, ⟨fun _ => ft, by omega, by omega⟩, hwr.trans (hw2.below.mono hwr.size)⟩
        · have HS : Hid (¬ x = 7) := h7
          have ft : f0 = true := by rw [← hf0.out]; exact fit_t1 (by rw [hlo.out, hhi.out]; exact E1.out) HS.out
          go_wp2_with (go_at_call 33; refine (iWithin _ _ _ _).mono ?_; rintro e w3 ⟨rfl, rfl⟩; rw [e1])
          go_roundg 2
          case measure => omega
          case rel => exact ⟨1, by omega, by omega, by omega, by first | rfl | go_num, ⟨fun _ => ft, by omega, by omega⟩, hwr.trans (hw2.below.mono hwr.size)⟩

    · obtain ⟨lo, hlo⟩ : ∃ q, Hid (rLo y = q) := ⟨_, rfl⟩
      obtain ⟨hi, hhi⟩ : ∃ q, Hid (rHi p s l c k y a = q) := ⟨_, rfl⟩
      have lr : ∀ w', Cls wr w' → (loadVar 2 ⟨w.heap.size + 1, 2, none⟩).run Tryd.prog w' = .ok (.int .i64 y) w' := ld_i R Tryd.underlying2 rfl
      have cn : wr.cell? ⟨b0, 1, none⟩ = some (.int .i64 b) := L.cell 1
      go_upto_region 4 with fail
      refine wp_region_cls (by kernel_rfl) (by kernel_rfl) ?_
      repeat' (first
        | go_big_quiet_skip
        | (go_big_quiet_want; first
          | (refine q_load _ _ _ _ rfl rfl (by assumption) ?_; simp only [Act.put, List.setIfInBounds_toArray, List.set_cons_zero, List.set_cons_succ]; go_big_quiet_on)
          | (go_big_quiet_op; first
            | go_big_quiet_on
            | (refine ⟨_, fun _ _ => rfl, ?_⟩; go_big_quiet_on)
            | (apply Exists.intro; refine ⟨fun w' hw' => ?_, ?_⟩
               · (first
                 | (go_at_call 34; have hq := iRange p s l c k y a ho hy w'; rw [hlo.out, hhi.out] at hq; exact cls_below hw' hq))
               go_big_quiet_on))))
      refine wpQuiet_nil ?_
      intro w2 hw2
      have R2 := R.keep hw2.below
      have cr : w2.cell? ⟨w.heap.size + 1, 2, none⟩ = some (.int .i64 y) := R2.cell 2
      clear cn
      cases e1 : inB b lo hi
      · have E1 : Hid (inB b lo hi = false) := e1
        have ft : f1 = false := by rw [← hf1.out]; exact fit_f1 (by rw [hlo.out, hhi.out]; exact E1.out)
        go_wp2_with (go_at_call 33; refine (iWithin _ _ _ _).mono ?_; rintro e w3 ⟨rfl, rfl⟩; rw [e1])
        go_ret
        exact ⟨ret_f (and3_f1 ft), z.trans ((hwr.trans (hw2.below.mono hwr.size)).mono z.size)⟩
      · have E1 : Hid (inB b lo hi = true) := e1
        by_cases h7 : y = 7
        · subst h7
          by_cases hs : b = slot
          · subst hs
            have ft : f1 = false := by rw [← hf1.out]; exact fit_f2 rfl rfl
            go_wp2_with (go_at_call 33; refine (iWithin _ _ _ _).mono ?_; rintro e w3 ⟨rfl, rfl⟩; rw [e1])
            go_ret
            exact ⟨ret_f (and3_f1 ft), z.trans ((hwr.trans (hw2.below.mono hwr.size)).mono z.size)⟩
          · have HS : Hid (¬ b = slot) := hs
            have ft : f1 = true := by rw [← hf1.out]; exact fit_t2 (by rw [hlo.out, hhi.out]; exact E1.out) HS.out
            go_wp2_with (go_at_call 33; refine (iWithin _ _ _ _).mono ?_; rintro e w3 ⟨rfl, rfl⟩; rw [e1])
            go_roundg 1
            case measure => omega
            case rel => exact ⟨2, by omega, by omega, by omega, by first | rfl | go_num, ⟨fun _ => hh.out.1 (by omega), fun _ => ft, by omega⟩, hwr.trans (hw2.below.mono hwr.size)⟩
        · have HS : Hid (¬ y = 7) := h7
          have ft : f1 = true := by rw [← hf1.out]; exact fit_t1 (by rw [hlo.out, hhi.out]; exact E1.out) HS.out
          go_wp2_with (go_at_call 33; refine (iWithin _ _ _ _).mono ?_; rintro e w3 ⟨rfl, rfl⟩; rw [e1])
          go_roundg 1
          case measure => omega
          case rel => exact ⟨2, by omega, by omega, by omega, by first | rfl | go_num, ⟨fun _ => hh.out.1 (by omega), fun _ => ft, by omega⟩, hwr.trans (hw2.below.mono hwr.size)⟩

    · obtain ⟨lo, hlo⟩ : ∃ q, Hid (rLo v = q) := ⟨_, rfl⟩
      obtain ⟨hi, hhi⟩ : ∃ q, Hid (rHi p s l c k v a = q) := ⟨_, rfl⟩
      have lr : ∀ w', Cls wr w' → (loadVar 2 ⟨w.heap.size + 1, 3, none⟩).run Tryd.prog w' = .ok (.int .i64 v) w' := ld_i R Tryd.underlying2 rfl
      have cn : wr.cell? ⟨b0, 2, none⟩ = some (.int .i64 d) := L.cell 2
      go_upto_region 4 with fail
      refine wp_region_cls (by kernel_rfl) (by kernel_rfl) ?_
      repeat' (first
        | go_big_quiet_skip
        | (go_big_quiet_want; first
          | (refine q_load _ _ _ _ rfl rfl (by assumption) ?_; simp only [Act.put, List.setIfInBounds_toArray, List.set_cons_zero, List.set_cons_succ]; go_big_quiet_on)
          | (go_big_quiet_op; first
            | go_big_quiet_on
            | (refine ⟨_, fun _ _ => rfl, ?_⟩; go_big_quiet_on)
            | (apply Exists.intro; refine ⟨fun w' hw' => ?_, ?_⟩
               · (first
                 | (go_at_call 34; have hq := iRange p s l c k v a ho hv w'; rw [hlo.out, hhi.out] at hq; exact cls_below hw' hq))
               go_big_quiet_on))))
      refine wpQuiet_nil ?_
      intro w2 hw2
      have R2 := R.keep hw2.below
      have cr : w2.cell? ⟨w.heap.size + 1, 3, none⟩ = some (.int .i64 v) := R2.cell 3
      clear cn
      cases e1 : inB d lo hi
      · have E1 : Hid (inB d lo hi = false) := e1
        have ft : f2 = false := by rw [← hf2.out]; exact fit_f1 (by rw [hlo.out, hhi.out]; exact E1.out)
        go_wp2_with (go_at_call 33; refine (iWithin _ _ _ _).mono ?_; rintro e w3 ⟨rfl, rfl⟩; rw [e1])
        go_ret
        exact ⟨ret_f (and3_f2 ft), z.trans ((hwr.trans (hw2.below.mono hwr.size)).mono z.size)⟩
      · have E1 : Hid (inB d lo hi = true) := e1
        by_cases h7 : v = 7
        · subst h7
          by_cases hs : d = slot
          · subst hs
            have ft : f2 = false := by rw [← hf2.out]; exact fit_f2 rfl rfl
            go_wp2_with (go_at_call 33; refine (iWithin _ _ _ _).mono ?_; rintro e w3 ⟨rfl, rfl⟩; rw [e1])
            go_ret
            exact ⟨ret_f (and3_f2 ft), z.trans ((hwr.trans (hw2.below.mono hwr.size)).mono z.size)⟩
          · have HS : Hid (¬ d = slot) := hs
            have ft : f2 = true := by rw [← hf2.out]; exact fit_t2 (by rw [hlo.out, hhi.out]; exact E1.out) HS.out
            go_wp2_with (go_at_call 33; refine (iWithin _ _ _ _).mono ?_; rintro e w3 ⟨rfl, rfl⟩; rw [e1])
            go_roundg 0
            case measure => omega
            case rel => exact ⟨3, by omega, by omega, by omega, by first | rfl | go_num, ⟨fun _ => hh.out.1 (by omega), fun _ => hh.out.2.1 (by omega), fun _ => ft⟩, hwr.trans (hw2.below.mono hwr.size)⟩
        · have HS : Hid (¬ v = 7) := h7
          have ft : f2 = true := by rw [← hf2.out]; exact fit_t1 (by rw [hlo.out, hhi.out]; exact E1.out) HS.out
          go_wp2_with (go_at_call 33; refine (iWithin _ _ _ _).mono ?_; rintro e w3 ⟨rfl, rfl⟩; rw [e1])
          go_roundg 0
          case measure => omega
          case rel => exact ⟨3, by omega, by omega, by omega, by first | rfl | go_num, ⟨fun _ => hh.out.1 (by omega), fun _ => hh.out.2.1 (by omega), fun _ => ft⟩, hwr.trans (hw2.below.mono hwr.size)⟩

    · go_wp2
      go_ret
      exact ⟨ret_t (and3_t (hh.out.1 (by omega)) (hh.out.2.1 (by omega)) (hh.out.2.2 (by omega))), z.trans (hwr.mono z.size)⟩
end Go.Proofs.YtooljeddnfkphaaDoor
