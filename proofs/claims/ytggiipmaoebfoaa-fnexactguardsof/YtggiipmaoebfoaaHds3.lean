/-
  Heads: the guards of a slot, and whether a block is guarded, in the specification and in the program.
-/
import Derived.Test.YtggiipmaoebfoaaHds2
namespace Go.Proofs.Ytggiipmaoebfoaa
open Go.RowKit
set_option linter.unusedVariables false
set_option linter.unusedSimpArgs false
/-- The Index of a word of a slot. -/
def gdx (p s l c k : Int) (xs : List Int) (slot f : Int) : Int := uI (xs.getD (vSlot p s l c k slot f).toNat 0)
def gl (g : Int → Int) : Nat → List Int
  | 0 => []
  | j + 1 => if g (5 + (j : Int)) = 0 then gl g j else gl g j ++ [g (5 + (j : Int))]
def guards (p s l c k : Int) (n : Nat) (xs : List Int) (slot : Int) : List Int :=
  if aOk p s l c k n = true ∧ inB slot 0 (p - 1) = true then gl (gdx p s l c k xs slot) 2 else []
theorem gl_len (g : Int → Int) (n : Nat) : (gl g n).length ≤ n := by
  induction n with
  | zero => simp [gl]
  | succ n ih =>
    unfold gl
    split
    · omega
    · simp; omega
theorem guards_len (p s l c k : Int) (n : Nat) (xs : List Int) (slot : Int) : (guards p s l c k n xs slot).length ≤ 2 := by
  unfold guards
  split
  · exact gl_len _ 2
  · simp
theorem gl_y {g : Int → Int} {f : Int} (f0 : 5 ≤ f) (h : ¬ g f = 0) : gl g (f + 1 - 5).toNat = gl g (f - 5).toNat ++ [g f] := by
  have e : (f + 1 - 5).toNat = (f - 5).toNat + 1 := by omega
  have e2 : (5 : Int) + (((f - 5).toNat : Nat) : Int) = f := by omega
  rw [e]
  conv => lhs; unfold gl
  rw [e2, if_neg h]
theorem gl_n {g : Int → Int} {f : Int} (f0 : 5 ≤ f) (h : g f = 0) : gl g (f + 1 - 5).toNat = gl g (f - 5).toNat := by
  have e : (f + 1 - 5).toNat = (f - 5).toNat + 1 := by omega
  have e2 : (5 : Int) + (((f - 5).toNat : Nat) : Int) = f := by omega
  rw [e]
  conv => lhs; unfold gl
  rw [e2, if_pos h]
theorem slot_in {p s l c k : Int} {n : Nat} {i f : Int} (h : aOk p s l c k n = true) (i0 : 0 ≤ i) (i1 : i ≤ p - 1) (f0 : 0 ≤ f) (f1 : f ≤ 6) : ∃ j : Nat, vSlot p s l c k i f = (j : Int) ∧ j < n := by
  obtain ⟨ho, hz⟩ := aOk_y h
  have h' := ok_iff.1 ho
  have hq := sq_bd h'.1 h'.2.1
  have e : vSlot p s l c k i f = i * 7 + f := by unfold vSlot; rw [if_pos ⟨ho, ⟨i0, i1⟩, f0, f1⟩]
  unfold zF at hz
  exact ⟨(i * 7 + f).toNat, by rw [e]; omega, by omega⟩
theorem uI_bd {x : Int} : 0 ≤ uI x ∧ uI x ≤ 65535 := by unfold uI; omega
set_option maxHeartbeats 4000000 in
theorem sGuards (p s l c k slot : Int) (a : Option Addr) (n cap : Nat) (xs : List Int) (w : World) (h : Src w a n xs) (bd : ∀ x ∈ xs, 0 ≤ x ∧ x ≤ 18446744073709551615) (hn : n ≤ 16777216) :
    Calls Try.prog 20 #[.agg #[.int .i64 p, .int .i64 s, .int .i64 l, .int .i64 c, .int .i64 k], .slice a n cap, .int .i64 slot] w fun e w' => ∃ g m cc, e = .returned (.slice (some ⟨g, 0, none⟩) m cc) ∧ w.heap.size ≤ g ∧ Is w' g m cc (guards p s l c k n xs slot) ∧ m ≤ 2 ∧ Below w.heap.size w w' := by
  obtain ⟨i0, hi, hz0, hz1, hz2⟩ := info_parts infoI
  have st := Ga.start w p s l c k a n xs h
  have hl := guards_len p s l c k n xs slot
  obtain ⟨c0, c1, c2, c3, c4⟩ := st.box.five
  cases ha : aOk p s l c k n
  · have e : guards p s l c k n xs slot = [] := by unfold guards; rw [ha]; simp
    rw [e]
    go_enter Try.func20, Try.ntmps20
    go_wp2_with (go_at_call 25; refine (sArena _ _ _ _ _ _ _ _ _ (by omega)).mono ?_; rintro e w1 ⟨rfl, hb⟩; rw [ha]; replace st := st.keep hb; clear hb)
    go_ret
    obtain ⟨g, cc, hv, h1, h2⟩ := st.is
    cases hv
    exact ⟨_, _, _, rfl, h1, h2, by omega, st.low⟩
  · obtain ⟨ho, hz⟩ := aOk_y ha
    have h' := ok_iff.1 ho
    cases hsl : inB slot 0 (p - 1)
    · have e : guards p s l c k n xs slot = [] := by unfold guards; rw [hsl]; simp
      rw [e]
      go_enter Try.func20, Try.ntmps20
      go_wp2_with (first
        | (go_at_call 25; refine (sArena _ _ _ _ _ _ _ _ _ (by omega)).mono ?_; rintro e w1 ⟨rfl, hb⟩; rw [ha]; replace st := st.keep hb; clear hb c0 c1 c2 c3 c4; obtain ⟨c0, c1, c2, c3, c4⟩ := st.box.five)
        | (go_at_call 31; refine (sHas _ _ _ _ _ _ ho _).mono ?_; rintro e w1 ⟨rfl, hb⟩; rw [hsl]; replace st := st.keep hb; clear hb c0 c1 c2 c3 c4; obtain ⟨c0, c1, c2, c3, c4⟩ := st.box.five))
      go_ret
      obtain ⟨g, cc, hv, h1, h2⟩ := st.is
      cases hv
      exact ⟨_, _, _, rfl, h1, h2, by omega, st.low⟩
    · have hs' : 0 ≤ slot ∧ slot ≤ p - 1 := of_decide_eq_true hsl
      have e : guards p s l c k n xs slot = gl (gdx p s l c k xs slot) 2 := by unfold guards; rw [if_pos ⟨ha, hsl⟩]
      rw [e] at hl ⊢
      have HO : Hid (ok p s l c k = true) := ho
      have HA : Hid (aOk p s l c k n = true) := ha
      obtain ⟨G, hG⟩ : ∃ G : Int → Int, Hid (gdx p s l c k xs slot = G) := ⟨_, rfl⟩
      rw [hG.out] at hl ⊢
      clear e h hz
      go_enter Try.func20, Try.ntmps20
      go_wp2_with (first
        | (go_at_call 25; refine (sArena _ _ _ _ _ _ _ _ _ (by omega)).mono ?_; rintro e w1 ⟨rfl, hb⟩; rw [ha]; replace st := st.keep hb; clear hb c0 c1 c2 c3 c4; obtain ⟨c0, c1, c2, c3, c4⟩ := st.box.five)
        | (go_at_call 31; refine (sHas _ _ _ _ _ _ ho _).mono ?_; rintro e w1 ⟨rfl, hb⟩; rw [hsl]; replace st := st.keep hb; clear hb c0 c1 c2 c3 c4; obtain ⟨c0, c1, c2, c3, c4⟩ := st.box.five))
      clear ha hsl c0 c1 c2 c3 c4 ho
      go_loopg [7, 8] 2 (fun g' x y wr => ∃ f : Int, 5 ≤ f ∧ f ≤ 7 ∧ (g' : Int) = 7 - f ∧ y = .int .i64 f ∧ Ga w wr w.heap.size (w.heap.size + 1) p s l c k x (gl G (f - 5).toNat) a n xs)
      case atStart => exact ⟨5, by omega, by omega, by omega, rfl, st⟩
      case round =>
        clear st
        obtain ⟨f, f0, f1, hg, rfl, st⟩ := hrel
        obtain ⟨c0, c1, c2, c3, c4⟩ := st.box.five
        by_cases hf1 : f ≤ 6
        · obtain ⟨i, ei, hin⟩ := slot_in (f := f) HA.out hs'.1 hs'.2 (by omega) (by omega)
          have EI : Hid (vSlot p s l c k slot f = (i : Int)) := ei
          obtain ⟨x, hx⟩ : ∃ x : Int, Hid (xs.getD i 0 = x) := ⟨_, rfl⟩
          have xb := bd_getD bd i
          rw [hx.out] at xb
          obtain ⟨u, hu⟩ : ∃ u : Int, Hid (uI x = u) := ⟨_, rfl⟩
          have ub := uI_bd (x := x)
          rw [hu.out] at ub
          have hfb : Hid (G f = u) := by
            show _ = _
            rw [← hG.out, ← hu.out, ← hx.out]
            unfold gdx
            rw [ei]
            simp
          have HL : Hid ((gl G (f - 5).toNat).length ≤ 250) := by
            have := gl_len G (f - 5).toNat
            show _ ≤ _
            omega
          have hii : (i : Int) < n := by omega
          obtain ⟨ab, ao, rfl⟩ : ∃ ab ao, a = some ⟨ab, ao, none⟩ := st.src.some (by omega)
          have hrf := run_wordI
          clear ei
          by_cases hu0 : u = 0
          · have HF : Hid (G f = 0) := hfb.out.trans hu0
            subst hu0
            go_wp2_with (first
              | (go_at_call 28; refine (sSlot _ _ _ _ _ _ _ _).mono ?_; rintro e w2 ⟨rfl, hb⟩; rw [EI.out]; replace st := st.keep hb; clear hb c0 c1 c2 c3 c4; obtain ⟨c0, c1, c2, c3, c4⟩ := st.box.five; have d1 := st.src.at_ hin; rw [hx.out] at d1)
              | (go_at_call 27; refine (sIndex4 _ xb.1 xb.2 _).mono ?_; rintro e w3 ⟨rfl, hb⟩; rw [hu.out]; replace st := st.keep hb; clear hb))
            go_roundg (gk - 1)
            case measure => omega
            case rel => exact ⟨f + 1, by omega, by omega, by omega, by go_num, by rw [gl_n f0 HF.out]; exact st⟩
          · have HF : Hid (¬ G f = 0) := by show ¬ _; rw [hfb.out]; exact hu0
            go_wp2_with (first
              | (go_at_call 28; refine (sSlot _ _ _ _ _ _ _ _).mono ?_; rintro e w2 ⟨rfl, hb⟩; rw [EI.out]; replace st := st.keep hb; clear hb c0 c1 c2 c3 c4; obtain ⟨c0, c1, c2, c3, c4⟩ := st.box.five; have d1 := st.src.at_ hin; rw [hx.out] at d1)
              | (go_at_call 27; refine (sIndex4 _ xb.1 xb.2 _).mono ?_; rintro e w3 ⟨rfl, hb⟩; rw [hu.out]; replace st := st.keep hb; clear hb)
              | (at_builtin; refine wpList_append_own _ rfl (.tmp 36) (.tmp 38) 25 rfl (w.heap.size + 1) 2 i0 (.int .i64 0) 1 8 Try.underlying25 hi hz0 hz1 hz2 rfl (by decide) _ _ _ rfl (Ga.own (Ga.keep st (by go_grown))) ⟨_, 0, none⟩ 1 1 [.int .i64 u] rfl rfl (one_cell4 _ _ _ _ (by simp)) (one_int4 _) (L_max HL) (L_bytes HL) (Ga.bs (Ga.keep st (by go_grown))) ?_; intro v' w5 ho' hg' hn'; have st2 := Ga.app (Ga.keep st (by go_grown)) ho' hg' hn'; clear ho' hg' hn' st))
            go_roundg (gk - 1)
            case measure => omega
            case rel => exact ⟨f + 1, by omega, by omega, by omega, by go_num, by rw [gl_y f0 HF.out, hfb.out]; exact st2⟩
        · obtain rfl : f = 7 := by omega
          go_wp2
          go_ret
          obtain ⟨g, cc, rfl, h1, h2⟩ := st.is
          exact ⟨_, _, _, rfl, h1, h2, hl, st.low⟩
set_option maxHeartbeats 4000000 in
theorem iGuards (p s l c k slot : Int) (a : Option Addr) (n cap : Nat) (xs : List Int) (w : World) (h : Src w a n xs) (bd : ∀ x ∈ xs, 0 ≤ x ∧ x ≤ 18446744073709551615) (hn : n ≤ 16777216) :
    Calls Try.prog 21 #[.agg #[.int .i64 p, .int .i64 s, .int .i64 l, .int .i64 c, .int .i64 k], .slice a n cap, .int .i64 slot] w fun e w' => ∃ g m cc, e = .returned (.slice (some ⟨g, 0, none⟩) m cc) ∧ w.heap.size ≤ g ∧ Is w' g m cc (guards p s l c k n xs slot) ∧ m ≤ 2 ∧ Below w.heap.size w w' := by
  obtain ⟨i0, hi, hz0, hz1, hz2⟩ := info_parts infoI
  have st := Ga.start w p s l c k a n xs h
  have hl := guards_len p s l c k n xs slot
  obtain ⟨c0, c1, c2, c3, c4⟩ := st.box.five
  cases ha : aOk p s l c k n
  · have e : guards p s l c k n xs slot = [] := by unfold guards; rw [ha]; simp
    rw [e]
    go_enter Try.func21, Try.ntmps21
    go_wp2_with (go_at_call 32; refine (iArena _ _ _ _ _ _ _ _ _ (by omega)).mono ?_; rintro e w1 ⟨rfl, hb⟩; rw [ha]; replace st := st.keep hb; clear hb)
    go_ret
    obtain ⟨g, cc, hv, h1, h2⟩ := st.is
    cases hv
    exact ⟨_, _, _, rfl, h1, h2, by omega, st.low⟩
  · obtain ⟨ho, hz⟩ := aOk_y ha
    have h' := ok_iff.1 ho
    cases hsl : inB slot 0 (p - 1)
    · have e : guards p s l c k n xs slot = [] := by unfold guards; rw [hsl]; simp
      rw [e]
      go_enter Try.func21, Try.ntmps21
      go_wp2_with (first
        | (go_at_call 32; refine (iArena _ _ _ _ _ _ _ _ _ (by omega)).mono ?_; rintro e w1 ⟨rfl, hb⟩; rw [ha]; replace st := st.keep hb; clear hb c0 c1 c2 c3 c4; obtain ⟨c0, c1, c2, c3, c4⟩ := st.box.five)
        | (go_at_call 33; refine (iHas _ _ _ _ _ _ ho _).mono ?_; rintro e w1 ⟨rfl, hb⟩; rw [hsl]; replace st := st.keep hb; clear hb c0 c1 c2 c3 c4; obtain ⟨c0, c1, c2, c3, c4⟩ := st.box.five))
      go_ret
      obtain ⟨g, cc, hv, h1, h2⟩ := st.is
      cases hv
      exact ⟨_, _, _, rfl, h1, h2, by omega, st.low⟩
    · have hs' : 0 ≤ slot ∧ slot ≤ p - 1 := of_decide_eq_true hsl
      have e : guards p s l c k n xs slot = gl (gdx p s l c k xs slot) 2 := by unfold guards; rw [if_pos ⟨ha, hsl⟩]
      rw [e] at hl ⊢
      have HO : Hid (ok p s l c k = true) := ho
      have HA : Hid (aOk p s l c k n = true) := ha
      obtain ⟨G, hG⟩ : ∃ G : Int → Int, Hid (gdx p s l c k xs slot = G) := ⟨_, rfl⟩
      rw [hG.out] at hl ⊢
      clear e h hz
      go_enter Try.func21, Try.ntmps21
      go_wp2_with (first
        | (go_at_call 32; refine (iArena _ _ _ _ _ _ _ _ _ (by omega)).mono ?_; rintro e w1 ⟨rfl, hb⟩; rw [ha]; replace st := st.keep hb; clear hb c0 c1 c2 c3 c4; obtain ⟨c0, c1, c2, c3, c4⟩ := st.box.five)
        | (go_at_call 33; refine (iHas _ _ _ _ _ _ ho _).mono ?_; rintro e w1 ⟨rfl, hb⟩; rw [hsl]; replace st := st.keep hb; clear hb c0 c1 c2 c3 c4; obtain ⟨c0, c1, c2, c3, c4⟩ := st.box.five))
      clear ha hsl c0 c1 c2 c3 c4 ho
      go_loopg [7, 8] 2 (fun g' x y wr => ∃ f : Int, 5 ≤ f ∧ f ≤ 7 ∧ (g' : Int) = 7 - f ∧ y = .int .i64 f ∧ Ga w wr w.heap.size (w.heap.size + 1) p s l c k x (gl G (f - 5).toNat) a n xs)
      case atStart => exact ⟨5, by omega, by omega, by omega, rfl, st⟩
      case round =>
        clear st
        obtain ⟨f, f0, f1, hg, rfl, st⟩ := hrel
        obtain ⟨c0, c1, c2, c3, c4⟩ := st.box.five
        by_cases hf1 : f ≤ 6
        · obtain ⟨i, ei, hin⟩ := slot_in (f := f) HA.out hs'.1 hs'.2 (by omega) (by omega)
          have EI : Hid (vSlot p s l c k slot f = (i : Int)) := ei
          obtain ⟨x, hx⟩ : ∃ x : Int, Hid (xs.getD i 0 = x) := ⟨_, rfl⟩
          have xb := bd_getD bd i
          rw [hx.out] at xb
          obtain ⟨u, hu⟩ : ∃ u : Int, Hid (uI x = u) := ⟨_, rfl⟩
          have ub := uI_bd (x := x)
          rw [hu.out] at ub
          have hfb : Hid (G f = u) := by
            show _ = _
            rw [← hG.out, ← hu.out, ← hx.out]
            unfold gdx
            rw [ei]
            simp
          have HL : Hid ((gl G (f - 5).toNat).length ≤ 250) := by
            have := gl_len G (f - 5).toNat
            show _ ≤ _
            omega
          have hii : (i : Int) < n := by omega
          obtain ⟨ab, ao, rfl⟩ : ∃ ab ao, a = some ⟨ab, ao, none⟩ := st.src.some (by omega)
          have hrf := run_wordI
          clear ei
          by_cases hu0 : u = 0
          · have HF : Hid (G f = 0) := hfb.out.trans hu0
            subst hu0
            go_wp2_with (first
              | (go_at_call 35; refine (iSlot _ _ _ _ _ _ _ _).mono ?_; rintro e w2 ⟨rfl, hb⟩; rw [EI.out]; replace st := st.keep hb; clear hb c0 c1 c2 c3 c4; obtain ⟨c0, c1, c2, c3, c4⟩ := st.box.five; have d1 := st.src.at_ hin; rw [hx.out] at d1)
              | (go_at_call 34; refine (iUnpack _ xb.1 xb.2 _).mono ?_; rintro e w3 ⟨rfl, hb⟩; rw [hu.out]; replace st := st.keep hb; clear hb))
            go_roundg (gk - 1)
            case measure => omega
            case rel => exact ⟨f + 1, by omega, by omega, by omega, by go_num, by rw [gl_n f0 HF.out]; exact st⟩
          · have HF : Hid (¬ G f = 0) := by show ¬ _; rw [hfb.out]; exact hu0
            go_wp2_with (first
              | (go_at_call 35; refine (iSlot _ _ _ _ _ _ _ _).mono ?_; rintro e w2 ⟨rfl, hb⟩; rw [EI.out]; replace st := st.keep hb; clear hb c0 c1 c2 c3 c4; obtain ⟨c0, c1, c2, c3, c4⟩ := st.box.five; have d1 := st.src.at_ hin; rw [hx.out] at d1)
              | (go_at_call 34; refine (iUnpack _ xb.1 xb.2 _).mono ?_; rintro e w3 ⟨rfl, hb⟩; rw [hu.out]; replace st := st.keep hb; clear hb)
              | (at_builtin; refine wpList_append_own _ rfl (.tmp 37) (.tmp 39) 25 rfl (w.heap.size + 1) 2 i0 (.int .i64 0) 1 8 Try.underlying25 hi hz0 hz1 hz2 rfl (by decide) _ _ _ rfl (Ga.own (Ga.keep st (by go_grown))) ⟨_, 0, none⟩ 1 1 [.int .i64 u] rfl rfl (one_cell4 _ _ _ _ (by simp)) (one_int4 _) (L_max HL) (L_bytes HL) (Ga.bs (Ga.keep st (by go_grown))) ?_; intro v' w5 ho' hg' hn'; have st2 := Ga.app (Ga.keep st (by go_grown)) ho' hg' hn'; clear ho' hg' hn' st))
            go_roundg (gk - 1)
            case measure => omega
            case rel => exact ⟨f + 1, by omega, by omega, by omega, by go_num, by rw [gl_y f0 HF.out, hfb.out]; exact st2⟩
        · obtain rfl : f = 7 := by omega
          go_wp2
          go_ret
          obtain ⟨g, cc, rfl, h1, h2⟩ := st.is
          exact ⟨_, _, _, rfl, h1, h2, hl, st.low⟩
end Go.Proofs.Ytggiipmaoebfoaa
