/-
  Heads: whose a block is, in the specification and in the program.
-/
import Derived.Test.YtggiipmaoebfoaaHds
namespace Go.Proofs.Ytggiipmaoebfoaa
open Go.RowKit
set_option linter.unusedVariables false
set_option linter.unusedSimpArgs false
theorem vBlocks_y {p s l c k : Int} (h : ok p s l c k = true) : vBlocks p s l c k = s + l := by unfold vBlocks; rw [if_pos h]
theorem head_in {p s l c k : Int} {n : Nat} {b : Int} (h : aOk p s l c k n = true) (b0 : 1 ≤ b) (b1 : b ≤ s + l) : ∃ i : Nat, vBlock p s l c k b 0 = (i : Int) ∧ i < n := by
  obtain ⟨ho, hz⟩ := aOk_y h
  obtain ⟨i, h1, h2⟩ := blk_in (f := 0) ho b0 b1 (by omega) (by omega)
  exact ⟨i, h1, by omega⟩
set_option maxHeartbeats 4000000 in
theorem sWhose (p s l c k kind slot : Int) (a : Option Addr) (n cap : Nat) (xs : List Int) (w : World) (h : Src w a n xs) (bd : ∀ x ∈ xs, 0 ≤ x ∧ x ≤ 18446744073709551615) (hn : n ≤ 16777216) :
    Calls Try.prog 22 #[.agg #[.int .i64 p, .int .i64 s, .int .i64 l, .int .i64 c, .int .i64 k], .slice a n cap, .int .i64 kind, .int .i64 slot] w fun e w' => ∃ g m cc, e = .returned (.slice (some ⟨g, 0, none⟩) m cc) ∧ w.heap.size ≤ g ∧ Is w' g m cc (whose p s l c k n xs kind slot) ∧ m ≤ 250 ∧ Below w.heap.size w w' := by
  obtain ⟨i0, hi, hz0, hz1, hz2⟩ := info_parts infoI
  have st := Ga.start w p s l c k a n xs h
  have hl := whose_len p s l c k n xs kind slot
  cases ha : aOk p s l c k n
  · have e : whose p s l c k n xs kind slot = [] := by unfold whose; rw [ha]; simp
    rw [e]
    go_enter Try.func22, Try.ntmps22
    go_wp2_with (go_at_call 25; refine (sArena _ _ _ _ _ _ _ _ _ (by omega)).mono ?_; rintro e w1 ⟨rfl, hb⟩; rw [ha]; replace st := st.keep hb; clear hb)
    go_ret
    obtain ⟨g, cc, hv, h1, h2⟩ := st.is
    cases hv
    exact ⟨_, _, _, rfl, h1, h2, by omega, st.low⟩
  · obtain ⟨ho, hz⟩ := aOk_y ha
    have h' := ok_iff.1 ho
    have e : whose p s l c k n xs kind slot = wh (fun b => hsay kind slot (headOf p s l c k xs b)) (s + l).toNat := by unfold whose; rw [ha]; simp
    rw [e] at hl ⊢
    have HO : Hid (ok p s l c k = true) := ho
    have HA : Hid (aOk p s l c k n = true) := ha
    obtain ⟨f, hf⟩ : ∃ f : Int → Bool, Hid ((fun b => hsay kind slot (headOf p s l c k xs b)) = f) := ⟨_, rfl⟩
    rw [hf.out] at hl ⊢
    clear e h hz ho
    go_enter Try.func22, Try.ntmps22
    go_wp2_with (go_at_call 25; refine (sArena _ _ _ _ _ _ _ _ _ (by omega)).mono ?_; rintro e w1 ⟨rfl, hb⟩; rw [ha]; replace st := st.keep hb; clear hb)
    clear ha
    go_loopg [9, 10] ((s + l).toNat) (fun g' x y wr => ∃ b : Int, 1 ≤ b ∧ b ≤ s + l + 1 ∧ (g' : Int) = s + l + 1 - b ∧ y = .int .i64 b ∧ Ga w wr w.heap.size (w.heap.size + 1) p s l c k x (wh f (b - 1).toNat) a n xs)
    case atStart => exact ⟨1, by omega, by omega, by omega, rfl, st⟩
    case round =>
      clear st
      obtain ⟨b, b0, b1, hg, rfl, st⟩ := hrel
      obtain ⟨c0, c1, c2, c3, c4⟩ := st.box.five
      by_cases hb1 : b ≤ s + l
      · obtain ⟨i, ei, hin⟩ := head_in HA.out b0 hb1
        have EI : Hid (vBlock p s l c k b 0 = (i : Int)) := ei
        obtain ⟨x, hx⟩ : ∃ x : Int, Hid (xs.getD i 0 = x) := ⟨_, rfl⟩
        have xb := bd_getD bd i
        rw [hx.out] at xb
        have hfb : Hid (f b = hsay kind slot x) := by
          show _ = _
          rw [← hf.out, ← hx.out]
          show hsay kind slot (headOf p s l c k xs b) = _
          unfold headOf
          rw [ei]
          simp
        have HL : Hid ((wh f (b - 1).toNat).length ≤ 250) := by
          have := wh_len f (b - 1).toNat
          show _ ≤ _
          omega
        clear ei
        by_cases hK : uK x = kind
        · by_cases hP : uP x = slot
          · have HF : Hid (f b = true) := by show _ = _; rw [hfb.out]; unfold hsay; exact decide_eq_true ⟨hK, hP⟩
            go_wp2_with (first
              | (go_at_call 36; refine (sBlocks _ _ _ _ _ _).mono ?_; rintro e w2 ⟨rfl, hb⟩; rw [vBlocks_y HO.out]; replace st := st.keep hb; clear hb c0 c1 c2 c3 c4; obtain ⟨c0, c1, c2, c3, c4⟩ := st.box.five)
              | (go_at_call 37; refine (sField _ _ _ _ _ _ _ x _ _ _ i xs _ st.src hin hn EI.out hx.out xb.1 xb.2).mono ?_; rintro e w3 ⟨rfl, hb⟩; replace st := st.keep hb; clear hb c0 c1 c2 c3 c4)
              | (at_builtin; refine wpList_append_own _ rfl (.tmp 38) (.tmp 40) 25 rfl (w.heap.size + 1) 2 i0 (.int .i64 0) 1 8 Try.underlying25 hi hz0 hz1 hz2 rfl (by decide) _ _ _ rfl (Ga.own (Ga.keep st (by go_grown))) ⟨_, 0, none⟩ 1 1 [.int .i64 b] rfl rfl (one_cell4 _ _ _ _ (by simp)) (one_int4 _) (L_max HL) (L_bytes HL) (Ga.bs (Ga.keep st (by go_grown))) ?_; intro v' w5 ho' hg' hn'; have st2 := Ga.app (Ga.keep st (by go_grown)) ho' hg' hn'; clear ho' hg' hn' st))
            go_roundg (gk - 1)
            case measure => omega
            case rel => exact ⟨b + 1, by omega, by omega, by omega, by go_num, by rw [show b + 1 - 1 = b - 1 + 1 from by omega, wh_y b0 HF.out]; exact st2⟩
          · have HF : Hid (f b = false) := by show _ = _; rw [hfb.out]; unfold hsay; exact decide_eq_false (fun h => hP h.2)
            go_wp2_with (first
              | (go_at_call 36; refine (sBlocks _ _ _ _ _ _).mono ?_; rintro e w2 ⟨rfl, hb⟩; rw [vBlocks_y HO.out]; replace st := st.keep hb; clear hb c0 c1 c2 c3 c4; obtain ⟨c0, c1, c2, c3, c4⟩ := st.box.five)
              | (go_at_call 37; refine (sField _ _ _ _ _ _ _ x _ _ _ i xs _ st.src hin hn EI.out hx.out xb.1 xb.2).mono ?_; rintro e w3 ⟨rfl, hb⟩; replace st := st.keep hb; clear hb c0 c1 c2 c3 c4))
            go_roundg (gk - 1)
            case measure => omega
            case rel => exact ⟨b + 1, by omega, by omega, by omega, by go_num, by rw [show b + 1 - 1 = b - 1 + 1 from by omega, wh_n b0 HF.out]; exact Ga.keep st (by go_grown)⟩
        · have HF : Hid (f b = false) := by show _ = _; rw [hfb.out]; unfold hsay; exact decide_eq_false (fun h => hK h.1)
          go_wp2_with (first
            | (go_at_call 36; refine (sBlocks _ _ _ _ _ _).mono ?_; rintro e w2 ⟨rfl, hb⟩; rw [vBlocks_y HO.out]; replace st := st.keep hb; clear hb c0 c1 c2 c3 c4; obtain ⟨c0, c1, c2, c3, c4⟩ := st.box.five)
            | (go_at_call 37; refine (sField _ _ _ _ _ _ _ x _ _ _ i xs _ st.src hin hn EI.out hx.out xb.1 xb.2).mono ?_; rintro e w3 ⟨rfl, hb⟩; replace st := st.keep hb; clear hb c0 c1 c2 c3 c4))
          go_roundg (gk - 1)
          case measure => omega
          case rel => exact ⟨b + 1, by omega, by omega, by omega, by go_num, by rw [show b + 1 - 1 = b - 1 + 1 from by omega, wh_n b0 HF.out]; exact Ga.keep st (by go_grown)⟩
      · obtain rfl : b = s + l + 1 := by omega
        go_wp2_with (go_at_call 36; refine (sBlocks _ _ _ _ _ _).mono ?_; rintro e w2 ⟨rfl, hb⟩; rw [vBlocks_y HO.out]; replace st := st.keep hb; clear hb c0 c1 c2 c3 c4; obtain ⟨c0, c1, c2, c3, c4⟩ := st.box.five)
        go_ret
        rw [show s + l + 1 - 1 = s + l from by omega] at st
        obtain ⟨g, cc, rfl, h1, h2⟩ := st.is
        exact ⟨_, _, _, rfl, h1, h2, hl, st.low⟩
theorem Src.some {w : World} {a : Option Addr} {n : Nat} {xs : List Int} (h : Src w a n xs) (hn : 0 < n) : ∃ b o, a = .some ⟨b, o, none⟩ := by
  rcases h.2 with h0 | ⟨b, o, e, _⟩
  · omega
  · exact ⟨b, o, e⟩
theorem Src.at_ {w : World} {b o n i : Nat} {xs : List Int} (h : Src w (.some ⟨b, o, none⟩) n xs) (hi : i < n) : w.cell? ⟨b, o + i, none⟩ = .some (.int .u64 (xs.getD i 0)) := by
  rcases h.2 with h0 | ⟨b', o', e, _, hc⟩
  · omega
  · cases e
    exact hc i hi
set_option maxHeartbeats 2000000 in
theorem iNames (kind x pid : Int) (h0 : 0 ≤ x) (h1 : x ≤ 18446744073709551615) (w : World) :
    Calls Try.prog 24 #[.int .i64 kind, .int .u64 x, .int .i64 pid] w fun e w' => e = .returned (.bool (hsay kind pid x)) ∧ Below w.heap.size w w' := by
  go_enter Try.func24, Try.ntmps24
  go_wp2_with (go_at_call 34; refine (iUnpack _ h0 h1 _).mono ?_; rintro e w1 ⟨rfl, hb⟩)
  all_goals
    go_ret
    refine ⟨?_, hb.alloc hb.size _⟩
    first
      | exact ret_f (decide_eq_false (fun h => by omega))
      | (refine ret_b ?_; unfold hsay; rw [Bool.eq_iff_iff]; simp; omega)
set_option maxHeartbeats 4000000 in
theorem iWhose (p s l c k kind slot : Int) (a : Option Addr) (n cap : Nat) (xs : List Int) (w : World) (h : Src w a n xs) (bd : ∀ x ∈ xs, 0 ≤ x ∧ x ≤ 18446744073709551615) (hn : n ≤ 16777216) :
    Calls Try.prog 23 #[.agg #[.int .i64 p, .int .i64 s, .int .i64 l, .int .i64 c, .int .i64 k], .slice a n cap, .int .i64 slot, .func (.func 24) #[.int .i64 kind] #[]] w fun e w' => ∃ g m cc, e = .returned (.slice (some ⟨g, 0, none⟩) m cc) ∧ w.heap.size ≤ g ∧ Is w' g m cc (whose p s l c k n xs kind slot) ∧ m ≤ 250 ∧ Below w.heap.size w w' := by
  obtain ⟨i0, hi, hz0, hz1, hz2⟩ := info_parts infoI
  have st := Ga.start w p s l c k a n xs h
  have hl := whose_len p s l c k n xs kind slot
  cases ha : aOk p s l c k n
  · have e : whose p s l c k n xs kind slot = [] := by unfold whose; rw [ha]; simp
    rw [e]
    go_enter Try.func23, Try.ntmps23
    go_wp2_with (go_at_call 32; refine (iArena _ _ _ _ _ _ _ _ _ (by omega)).mono ?_; rintro e w1 ⟨rfl, hb⟩; rw [ha]; replace st := st.keep hb; clear hb)
    go_ret
    obtain ⟨g, cc, hv, h1, h2⟩ := st.is
    cases hv
    exact ⟨_, _, _, rfl, h1, h2, by omega, st.low⟩
  · obtain ⟨ho, hz⟩ := aOk_y ha
    have h' := ok_iff.1 ho
    have e : whose p s l c k n xs kind slot = wh (fun b => hsay kind slot (headOf p s l c k xs b)) (s + l).toNat := by unfold whose; rw [ha]; simp
    rw [e] at hl ⊢
    have HO : Hid (ok p s l c k = true) := ho
    have HA : Hid (aOk p s l c k n = true) := ha
    obtain ⟨f, hf⟩ : ∃ f : Int → Bool, Hid ((fun b => hsay kind slot (headOf p s l c k xs b)) = f) := ⟨_, rfl⟩
    rw [hf.out] at hl ⊢
    clear e h hz ho
    go_enter Try.func23, Try.ntmps23
    go_wp2_with (go_at_call 32; refine (iArena _ _ _ _ _ _ _ _ _ (by omega)).mono ?_; rintro e w1 ⟨rfl, hb⟩; rw [ha]; replace st := st.keep hb; clear hb)
    clear ha
    go_loopg [9, 10] ((s + l).toNat) (fun g' x y wr => ∃ b : Int, 1 ≤ b ∧ b ≤ s + l + 1 ∧ (g' : Int) = s + l + 1 - b ∧ y = .int .i64 b ∧ Ga w wr w.heap.size (w.heap.size + 1) p s l c k x (wh f (b - 1).toNat) a n xs)
    case atStart => exact ⟨1, by omega, by omega, by omega, rfl, st⟩
    case round =>
      clear st
      obtain ⟨b, b0, b1, hg, rfl, st⟩ := hrel
      obtain ⟨c0, c1, c2, c3, c4⟩ := st.box.five
      by_cases hb1 : b ≤ s + l
      · obtain ⟨i, ei, hin⟩ := head_in HA.out b0 hb1
        have EI : Hid (vBlock p s l c k b 0 = (i : Int)) := ei
        obtain ⟨x, hx⟩ : ∃ x : Int, Hid (xs.getD i 0 = x) := ⟨_, rfl⟩
        have xb := bd_getD bd i
        rw [hx.out] at xb
        have hfb : Hid (f b = hsay kind slot x) := by
          show _ = _
          rw [← hf.out, ← hx.out]
          show hsay kind slot (headOf p s l c k xs b) = _
          unfold headOf
          rw [ei]
          simp
        have HL : Hid ((wh f (b - 1).toNat).length ≤ 250) := by
          have := wh_len f (b - 1).toNat
          show _ ≤ _
          omega
        clear ei
        have hii : (i : Int) < n := by omega
        obtain ⟨ab, ao, rfl⟩ : ∃ ab ao, a = some ⟨ab, ao, none⟩ := st.src.some (by omega)
        by_cases hK : uK x = kind
        · by_cases hP : uP x = slot
          · have HF : Hid (f b = true) := by show _ = _; rw [hfb.out]; unfold hsay; exact decide_eq_true ⟨hK, hP⟩
            have HN : Hid (hsay kind slot x = true) := hfb.out.symm.trans HF.out
            go_wp2_with (first
              | (go_at_call 38; refine (iBlocks _ _ _ _ _ _).mono ?_; rintro e w2 ⟨rfl, hb⟩; rw [vBlocks_y HO.out]; replace st := st.keep hb; clear hb c0 c1 c2 c3 c4; obtain ⟨c0, c1, c2, c3, c4⟩ := st.box.five)
              | (go_at_call 39; refine (iBlock _ _ _ _ _ _ _ _).mono ?_; rintro e w3 ⟨rfl, hb⟩; rw [EI.out]; replace st := st.keep hb; clear hb c0 c1 c2 c3 c4; have d1 := st.src.at_ hin; rw [hx.out] at d1)
              | (go_at_call 24; refine (iNames _ _ _ xb.1 xb.2 _).mono ?_; rintro e w4 ⟨rfl, hb⟩; rw [HN.out]; replace st := st.keep hb; clear hb)
              | (at_builtin; refine wpList_append_own _ rfl (.tmp 32) (.tmp 34) 25 rfl (w.heap.size + 1) 2 i0 (.int .i64 0) 1 8 Try.underlying25 hi hz0 hz1 hz2 rfl (by decide) _ _ _ rfl (Ga.own (Ga.keep st (by go_grown))) ⟨_, 0, none⟩ 1 1 [.int .i64 b] rfl rfl (one_cell4 _ _ _ _ (by simp)) (one_int4 _) (L_max HL) (L_bytes HL) (Ga.bs (Ga.keep st (by go_grown))) ?_; intro v' w5 ho' hg' hn'; have st2 := Ga.app (Ga.keep st (by go_grown)) ho' hg' hn'; clear ho' hg' hn' st))
            go_roundg (gk - 1)
            case measure => omega
            case rel => exact ⟨b + 1, by omega, by omega, by omega, by go_num, by rw [show b + 1 - 1 = b - 1 + 1 from by omega, wh_y b0 HF.out]; exact st2⟩
          · have HF : Hid (f b = false) := by show _ = _; rw [hfb.out]; unfold hsay; exact decide_eq_false (fun h => hP h.2)
            have HN : Hid (hsay kind slot x = false) := hfb.out.symm.trans HF.out
            go_wp2_with (first
              | (go_at_call 38; refine (iBlocks _ _ _ _ _ _).mono ?_; rintro e w2 ⟨rfl, hb⟩; rw [vBlocks_y HO.out]; replace st := st.keep hb; clear hb c0 c1 c2 c3 c4; obtain ⟨c0, c1, c2, c3, c4⟩ := st.box.five)
              | (go_at_call 39; refine (iBlock _ _ _ _ _ _ _ _).mono ?_; rintro e w3 ⟨rfl, hb⟩; rw [EI.out]; replace st := st.keep hb; clear hb c0 c1 c2 c3 c4; have d1 := st.src.at_ hin; rw [hx.out] at d1)
              | (go_at_call 24; refine (iNames _ _ _ xb.1 xb.2 _).mono ?_; rintro e w4 ⟨rfl, hb⟩; rw [HN.out]; replace st := st.keep hb; clear hb))
            go_roundg (gk - 1)
            case measure => omega
            case rel => exact ⟨b + 1, by omega, by omega, by omega, by go_num, by rw [show b + 1 - 1 = b - 1 + 1 from by omega, wh_n b0 HF.out]; exact Ga.keep st (by go_grown)⟩
        · have HF : Hid (f b = false) := by show _ = _; rw [hfb.out]; unfold hsay; exact decide_eq_false (fun h => hK h.1)
          have HN : Hid (hsay kind slot x = false) := hfb.out.symm.trans HF.out
          go_wp2_with (first
            | (go_at_call 38; refine (iBlocks _ _ _ _ _ _).mono ?_; rintro e w2 ⟨rfl, hb⟩; rw [vBlocks_y HO.out]; replace st := st.keep hb; clear hb c0 c1 c2 c3 c4; obtain ⟨c0, c1, c2, c3, c4⟩ := st.box.five)
            | (go_at_call 39; refine (iBlock _ _ _ _ _ _ _ _).mono ?_; rintro e w3 ⟨rfl, hb⟩; rw [EI.out]; replace st := st.keep hb; clear hb c0 c1 c2 c3 c4; have d1 := st.src.at_ hin; rw [hx.out] at d1)
            | (go_at_call 24; refine (iNames _ _ _ xb.1 xb.2 _).mono ?_; rintro e w4 ⟨rfl, hb⟩; rw [HN.out]; replace st := st.keep hb; clear hb))
          go_roundg (gk - 1)
          case measure => omega
          case rel => exact ⟨b + 1, by omega, by omega, by omega, by go_num, by rw [show b + 1 - 1 = b - 1 + 1 from by omega, wh_n b0 HF.out]; exact Ga.keep st (by go_grown)⟩
      · obtain rfl : b = s + l + 1 := by omega
        go_wp2_with (go_at_call 38; refine (iBlocks _ _ _ _ _ _).mono ?_; rintro e w2 ⟨rfl, hb⟩; rw [vBlocks_y HO.out]; replace st := st.keep hb; clear hb c0 c1 c2 c3 c4; obtain ⟨c0, c1, c2, c3, c4⟩ := st.box.five)
        go_ret
        rw [show s + l + 1 - 1 = s + l from by omega] at st
        obtain ⟨g, cc, rfl, h1, h2⟩ := st.is
        exact ⟨_, _, _, rfl, h1, h2, hl, st.low⟩
set_option maxHeartbeats 2000000 in
theorem sHeld (p s l c k slot : Int) (a : Option Addr) (n cap : Nat) (xs : List Int) (w : World) (h : Src w a n xs) (bd : ∀ x ∈ xs, 0 ≤ x ∧ x ≤ 18446744073709551615) (hn : n ≤ 16777216) :
    Calls Try.prog 7 #[.agg #[.int .i64 p, .int .i64 s, .int .i64 l, .int .i64 c, .int .i64 k], .slice a n cap, .int .i64 slot] w fun e w' => ∃ g m cc, e = .returned (.slice (some ⟨g, 0, none⟩) m cc) ∧ w.heap.size ≤ g ∧ Is w' g m cc (whose p s l c k n xs 1 slot) ∧ m ≤ 250 ∧ Below w.heap.size w w' := by
  have z : Below w.heap.size w (w.alloc (Obj.cells #[.int .i64 p, .int .i64 s, .int .i64 l, .int .i64 c, .int .i64 k] 27)) := (Below.refl _ _).alloc (Nat.le_refl _) _
  have h2 := h.keep z
  go_enter Try.func7, Try.ntmps7
  go_wp2_with (go_at_call 22; refine (sWhose _ _ _ _ _ _ _ _ _ _ xs _ h2 bd hn).mono ?_; rintro e w1 ⟨g, m, cc, rfl, hg, hI, hm, hb⟩)
  go_ret
  exact ⟨g, m, cc, rfl, Nat.le_trans z.size hg, hI, hm, z.trans (hb.mono z.size)⟩
set_option maxHeartbeats 2000000 in
theorem sRetired (p s l c k slot : Int) (a : Option Addr) (n cap : Nat) (xs : List Int) (w : World) (h : Src w a n xs) (bd : ∀ x ∈ xs, 0 ≤ x ∧ x ≤ 18446744073709551615) (hn : n ≤ 16777216) :
    Calls Try.prog 16 #[.agg #[.int .i64 p, .int .i64 s, .int .i64 l, .int .i64 c, .int .i64 k], .slice a n cap, .int .i64 slot] w fun e w' => ∃ g m cc, e = .returned (.slice (some ⟨g, 0, none⟩) m cc) ∧ w.heap.size ≤ g ∧ Is w' g m cc (whose p s l c k n xs 3 slot) ∧ m ≤ 250 ∧ Below w.heap.size w w' := by
  have z : Below w.heap.size w (w.alloc (Obj.cells #[.int .i64 p, .int .i64 s, .int .i64 l, .int .i64 c, .int .i64 k] 27)) := (Below.refl _ _).alloc (Nat.le_refl _) _
  have h2 := h.keep z
  go_enter Try.func16, Try.ntmps16
  go_wp2_with (go_at_call 22; refine (sWhose _ _ _ _ _ _ _ _ _ _ xs _ h2 bd hn).mono ?_; rintro e w1 ⟨g, m, cc, rfl, hg, hI, hm, hb⟩)
  go_ret
  exact ⟨g, m, cc, rfl, Nat.le_trans z.size hg, hI, hm, z.trans (hb.mono z.size)⟩
set_option maxHeartbeats 2000000 in
theorem iHeld (p s l c k slot : Int) (a : Option Addr) (n cap : Nat) (xs : List Int) (w : World) (h : Src w a n xs) (bd : ∀ x ∈ xs, 0 ≤ x ∧ x ≤ 18446744073709551615) (hn : n ≤ 16777216) :
    Calls Try.prog 10 #[.agg #[.int .i64 p, .int .i64 s, .int .i64 l, .int .i64 c, .int .i64 k], .slice a n cap, .int .i64 slot] w fun e w' => ∃ g m cc, e = .returned (.slice (some ⟨g, 0, none⟩) m cc) ∧ w.heap.size ≤ g ∧ Is w' g m cc (whose p s l c k n xs 1 slot) ∧ m ≤ 250 ∧ Below w.heap.size w w' := by
  have z : Below w.heap.size w (w.alloc (Obj.cells #[.int .i64 p, .int .i64 s, .int .i64 l, .int .i64 c, .int .i64 k] 27)) := (Below.refl _ _).alloc (Nat.le_refl _) _
  have h2 := h.keep z
  go_enter Try.func10, Try.ntmps10
  go_wp2_with (go_at_call 23; refine (iWhose _ _ _ _ _ _ _ _ _ _ xs _ h2 bd hn).mono ?_; rintro e w1 ⟨g, m, cc, rfl, hg, hI, hm, hb⟩)
  go_ret
  exact ⟨g, m, cc, rfl, Nat.le_trans z.size hg, hI, hm, z.trans (hb.mono z.size)⟩
set_option maxHeartbeats 2000000 in
theorem iRetired (p s l c k slot : Int) (a : Option Addr) (n cap : Nat) (xs : List Int) (w : World) (h : Src w a n xs) (bd : ∀ x ∈ xs, 0 ≤ x ∧ x ≤ 18446744073709551615) (hn : n ≤ 16777216) :
    Calls Try.prog 17 #[.agg #[.int .i64 p, .int .i64 s, .int .i64 l, .int .i64 c, .int .i64 k], .slice a n cap, .int .i64 slot] w fun e w' => ∃ g m cc, e = .returned (.slice (some ⟨g, 0, none⟩) m cc) ∧ w.heap.size ≤ g ∧ Is w' g m cc (whose p s l c k n xs 3 slot) ∧ m ≤ 250 ∧ Below w.heap.size w w' := by
  have z : Below w.heap.size w (w.alloc (Obj.cells #[.int .i64 p, .int .i64 s, .int .i64 l, .int .i64 c, .int .i64 k] 27)) := (Below.refl _ _).alloc (Nat.le_refl _) _
  have h2 := h.keep z
  go_enter Try.func17, Try.ntmps17
  go_wp2_with (go_at_call 23; refine (iWhose _ _ _ _ _ _ _ _ _ _ xs _ h2 bd hn).mono ?_; rintro e w1 ⟨g, m, cc, rfl, hg, hI, hm, hb⟩)
  go_ret
  exact ⟨g, m, cc, rfl, Nat.le_trans z.size hg, hI, hm, z.trans (hb.mono z.size)⟩
end Go.Proofs.Ytggiipmaoebfoaa
