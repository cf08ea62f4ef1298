/-
  What the program's hang leaves.
-/
import Derived.Test.YtmldeigbaafclaaBlk
import Derived.Test.YtmldeigbaafclaaPlan4
import Derived.Deep.LoopGhost
namespace Go.Proofs.Ytmldeigbaafclaa
open Go.RowKit
set_option linter.unusedVariables false
set_option linter.unusedSimpArgs false
/-- What stands while blocks are hung: the plan's cells, the list. -/
structure HSt (w0 w : World) (q g n cc : Nat) (p s l c k : Int) (xs : List Int) : Prop where
  box : Box5 w q (.int .i64 p) (.int .i64 s) (.int .i64 l) (.int .i64 c) (.int .i64 k)
  ws : Ws w g n cc xs
  kept : Kept g w0 w
  qg : q ≠ g
theorem HSt.keep {w0 w w' : World} {q g n cc : Nat} {p s l c k : Int} {xs : List Int} (h : HSt w0 w q g n cc p s l c k xs) (hb : Below w.heap.size w w') : HSt w0 w' q g n cc p s l c k xs :=
  ⟨h.box.keep hb, h.ws.keep hb, h.kept.trans (Kept.of_below hb), h.qg⟩
theorem HSt.set {w0 w : World} {q g n cc : Nat} {p s l c k : Int} {xs : List Int} (h : HSt w0 w q g n cc p s l c k xs) (i : Nat) (x : Int) (hx : 0 ≤ x ∧ x ≤ 18446744073709551615) : HSt w0 (w.setCell ⟨g, i, none⟩ (.int .u64 x)) q g n cc p s l c k (xs.set i x) := by
  have hq : ∀ o, (w.setCell ⟨g, i, none⟩ (.int .u64 x)).cell? ⟨q, o, none⟩ = w.cell? ⟨q, o, none⟩ := fun o => World.cell?_of_block (w := w) (Below.heap_setCell _ _ _ _ h.qg)
  exact ⟨⟨by simpa [World.setCell] using h.box.lt, (hq 0).trans h.box.c0, (hq 1).trans h.box.c1, (hq 2).trans h.box.c2, (hq 3).trans h.box.c3, (hq 4).trans h.box.c4⟩, h.ws.set i x hx, h.kept.set _ _, h.qg⟩
theorem HSt.go {w0 w w' : World} {q g n cc : Nat} {p s l c k : Int} {xs ys : List Int} (h : HSt w0 w q g n cc p s l c k xs) (kk : Kept g w w') (W : Ws w' g n cc ys) : HSt w0 w' q g n cc p s l c k ys := by
  have hq : ∀ o, w'.cell? ⟨q, o, none⟩ = w.cell? ⟨q, o, none⟩ := fun o => kk.cell h.box.lt h.qg
  exact ⟨⟨Nat.lt_of_lt_of_le h.box.lt kk.size, (hq 0).trans h.box.c0, (hq 1).trans h.box.c1, (hq 2).trans h.box.c2, (hq 3).trans h.box.c3, (hq 4).trans h.box.c4⟩, W, h.kept.trans kk, h.qg⟩
set_option maxHeartbeats 4000000 in
theorem iHang (p s l c k : Int) (g n cc : Nat) (xs : List Int) (r a b : Int) (w : World) (h : Ws w g n cc xs) (ho : ok p s l c k = true) (hn : (n : Int) = zF p s l c) (r0 : 0 ≤ r) (r1 : r ≤ 4) (a0 : 1 ≤ a) (b1 : b ≤ s + l) (hab : a ≤ b + 1) :
    Calls Try.prog 41 #[.agg #[.int .i64 p, .int .i64 s, .int .i64 l, .int .i64 c, .int .i64 k], .slice (some ⟨g, 0, none⟩) n cc, .int .i64 r, .int .i64 a, .int .i64 b] w fun e w' => e = .returned (.tuple #[]) ∧
      Ws w' g n cc (hung (fun b => vBlock p s l c k b 1) (vRoot p s l c k r) a xs (b - a + 1).toNat) ∧ Kept g w w' := by
  have h' := ok_iff.1 ho
  have gl := h.lt
  have st : HSt w (w.alloc (Obj.cells #[.int .i64 p, .int .i64 s, .int .i64 l, .int .i64 c, .int .i64 k] 25)) w.heap.size g n cc p s l c k xs :=
    ⟨Box5.new _ _ _ _ _ _ _, h.alloc _, Kept.of_below ((Below.refl _ _).alloc (Nat.le_refl _) _), by omega⟩
  obtain ⟨c0, c1, c2, c3, c4⟩ := st.box.five
  have HO : Hid (ok p s l c k = true ∧ (n : Int) = zF p s l c) := ⟨ho, hn⟩
  obtain ⟨lk, hlk⟩ : ∃ lk : Int → Int, Hid ((fun b => vBlock p s l c k b 1) = lk) := ⟨_, rfl⟩
  rw [hlk.out]
  clear ho hn
  go_enter Try.func41, Try.ntmps41
  go_wp2_with (go_at_call 40; refine (iRoot _ _ _ _ _ _ _).mono ?_; rintro e w1 ⟨rfl, hb⟩; replace st := st.keep hb; clear hb c0 c1 c2 c3 c4; obtain ⟨c0, c1, c2, c3, c4⟩ := st.box.five)
  generalize w.heap.size = q at *
  obtain ⟨rt, hrt⟩ : ∃ rt : Int, Hid (vRoot p s l c k r = rt) := ⟨_, rfl⟩
  rw [hrt.out]
  clear c0 c1 c2 c3 c4
  go_loopg [10, 11] ((b - a + 1).toNat) (fun g' x y wr => ∃ (j : Nat), a + j ≤ b + 1 ∧ (g' : Int) = b - a + 1 - j ∧ x = .int .i64 (hpl lk rt a j) ∧ y = .int .i64 (a + j) ∧ HSt w wr q g n cc p s l c k (hung lk rt a xs j))
  case atStart => exact ⟨0, by omega, by omega, by simp [hpl], by simp, st⟩
  case round =>
    clear st
    obtain ⟨j, j1, hg, rfl, rfl, st⟩ := hrel
    obtain ⟨c0, c1, c2, c3, c4⟩ := st.box.five
    by_cases hj : a + j ≤ b
    · obtain ⟨i, hi, hi2⟩ : ∃ i : Nat, hpl lk rt a j = (i : Int) ∧ (i : Int) < n := by
        rw [HO.out.2]
        unfold hpl
        split
        · rw [← hrt.out]; exact root_in HO.out.1 r0 r1
        · rw [← hlk.out]; exact blk_in HO.out.1 (by omega) (by omega) (by omega) (by omega)
      obtain ⟨bb, hbb⟩ : ∃ bb : Int, Hid (bb = a + j) := ⟨_, rfl⟩
      have bb0 : 1 ≤ bb ∧ bb ≤ b := by rw [hbb.out]; omega
      have hjn : Hid (jn 0 0 bb 0 = pk 0 0 bb 0) := jn_pk (pkI (by omega) (by omega))
      have hpb := pk_bd (pkI (b := bb) (by omega) (by omega))
      have HI : Hid (hpl lk rt a j = (i : Int)) := hi
      have HV : Hid (hung lk rt a xs (j + 1) = (hung lk rt a xs j).set i (pk 0 0 bb 0) ∧ vBlock p s l c k bb 1 = hpl lk rt a (j + 1)) := by
        refine ⟨?_, ?_⟩
        · show (hung lk rt a xs j).set (hpl lk rt a j).toNat (pk 0 0 (a + j) 0) = _
          rw [hi, hbb.out]; simp
        · unfold hpl
          rw [if_neg (by omega), ← hlk.out, hbb.out]
          show vBlock p s l c k (a + j) 1 = vBlock p s l c k (a + ((j + 1 : Nat) : Int) - 1) 1
          rw [show a + ((j + 1 : Nat) : Int) - 1 = a + j from by omega]
      rw [hi, ← hbb.out]
      clear hi
      generalize hV : pk 0 0 bb 0 = v at *
      generalize hung lk rt a xs j = ys at *
      go_wp2_with (first
        | (go_at_call 38; refine (iJoined _ _ _ _ _).mono ?_; rintro e w2 ⟨rfl, hb⟩; rw [hjn.out]; replace st := st.keep hb; clear hb c0 c1 c2 c3 c4; have d0 := st.ws.cell i (by omega); have f0 := st.ws.frozen i; have st2 := st.set i v hpb; obtain ⟨c0, c1, c2, c3, c4⟩ := st2.box.five)
        | (go_at_call 39; refine (iBlock _ _ _ _ _ _ _ _).mono ?_; rintro e w3 ⟨rfl, hb⟩; rw [HV.out.2]; replace st2 := st2.keep hb))
      go_roundg (gk - 1)
      case measure => omega
      case rel =>
        have e := hbb.out
        refine ⟨j + 1, by omega, by omega, rfl, ?_, by rw [HV.out.1]; exact st2⟩
        rw [show bb + 1 = a + ((j + 1 : Nat) : Int) from by omega]
    · have hj2 : ¬ a + (j : Int) ≤ b := hj
      obtain rfl : j = (b - a + 1).toNat := by omega
      go_wp2
      go_end0
      rw [hrt.out]
      exact ⟨rfl, st.ws, st.kept⟩
/-- The blank arena of a plan. -/
def blank0 (p s l c k : Int) : List Int :=
  (((List.replicate (zF p s l c).toNat 0).set (vBlock p s l c k 1 0).toNat (pk 2 0 0 0)).set (vRoot p s l c k 3).toNat (pk 0 0 1 0)).set (vRoot p s l c k 4).toNat (pk 0 0 1 0)
def blank1 (p s l c k : Int) : List Int := hung (fun b => vBlock p s l c k b 1) (vRoot p s l c k 0) 2 (blank0 p s l c k) (s - 2 + 1).toNat
def blank2 (p s l c k : Int) : List Int := hung (fun b => vBlock p s l c k b 1) (vRoot p s l c k 1) (s + 1) (blank1 p s l c k) (s + l - (s + 1) + 1).toNat
def blank (p s l c k : Int) : List Int := if ok p s l c k = true then blank2 p s l c k else []
theorem kept_below {g : Nat} {w w' w0 : World} (h : Below w0.heap.size w0 w) (k : Kept g w w') (hg : w0.heap.size ≤ g) : Below w0.heap.size w0 w' := h.trans (k.below hg h.size)
set_option maxHeartbeats 4000000 in
theorem iBlank (p s l c k : Int) (w : World) :
    Calls Try.prog 12 #[.agg #[.int .i64 p, .int .i64 s, .int .i64 l, .int .i64 c, .int .i64 k]] w fun e w' => ∃ g n cc, e = .returned (.slice (some ⟨g, 0, none⟩) n cc) ∧ w.heap.size ≤ g ∧ Ws w' g n cc (blank p s l c k) ∧ n ≤ 10000 ∧ Below w.heap.size w w' := by
  have z : Below w.heap.size w (w.alloc (Obj.cells #[.int .i64 p, .int .i64 s, .int .i64 l, .int .i64 c, .int .i64 k] 25)) := (Below.refl _ _).alloc (Nat.le_refl _) _
  have B := Box5.new w (.int .i64 p) (.int .i64 s) (.int .i64 l) (.int .i64 c) (.int .i64 k) 25
  cases ho : ok p s l c k
  · have e : blank p s l c k = [] := by unfold blank; rw [ho]; simp
    rw [e]
    go_enter Try.func12, Try.ntmps12
    go_wp2_with (go_at_call 36; refine (iPlanOk _ _ _ _ _ _).mono ?_; rintro e w1 ⟨rfl, hb⟩; rw [ho]; replace z := z.trans (hb.mono z.size); clear hb)
    go_ret
    exact ⟨w1.heap.size, 0, 0, rfl, z.size, ⟨rfl, by simpa using wlit w1 0 (Nat.zero_le _), by simp⟩, by omega, z.alloc z.size _⟩
  · have e : blank p s l c k = blank2 p s l c k := by unfold blank; rw [if_pos ho]
    rw [e]
    have h' := ok_iff.1 ho
    obtain ⟨n, hn1, hn2, hn3⟩ := size_in ho
    obtain ⟨i1, e1, l1⟩ := blk_in (f := 0) ho (b := 1) (by omega) (by omega) (by omega) (by omega)
    obtain ⟨i2, e2, l2⟩ := root_in ho (r := 3) (by omega) (by omega)
    obtain ⟨i3, e3, l3⟩ := root_in ho (r := 4) (by omega) (by omega)
    have E : Hid (vSize p s l c k = (n : Int) ∧ (n : Int) = zF p s l c ∧ vBlock p s l c k 1 0 = (i1 : Int) ∧ vRoot p s l c k 3 = (i2 : Int) ∧ vRoot p s l c k 4 = (i3 : Int)) := ⟨hn1, hn2, e1, e2, e3⟩
    rw [← hn2] at l1 l2 l3
    have HB : Hid (blank0 p s l c k = (((List.replicate n 0).set i1 (pk 2 0 0 0)).set i2 (pk 0 0 1 0)).set i3 (pk 0 0 1 0)) := by
      show _ = _
      unfold blank0
      rw [e1, e2, e3, ← hn2]
      simp
    clear hn1 hn2 e1 e2 e3 e
    have hmk := run_make_row' (P := Try.prog) 27 48 (.int .u64 0) 8 Try.underlying27 infoU rfl .i64 .i64 n (by omega) (by omega)
    have j1 : Hid (jn 2 0 0 0 = pk 2 0 0 0) := jn_pk (wOk_iff.2 (by omega))
    have j2 : Hid (jn 0 0 1 0 = pk 0 0 1 0) := jn_pk (wOk_iff.2 (by omega))
    have b1 := pk_bd (k := 2) (p := 0) (i := 0) (s := 0) (wOk_iff.2 (by omega))
    have b2 := pk_bd (k := 0) (p := 0) (i := 1) (s := 0) (wOk_iff.2 (by omega))
    obtain ⟨v1, hv1⟩ : ∃ v1 : Int, Hid (pk 2 0 0 0 = v1) := ⟨_, rfl⟩
    obtain ⟨v2, hv2⟩ : ∃ v2 : Int, Hid (pk 0 0 1 0 = v2) := ⟨_, rfl⟩
    rw [hv1.out] at HB j1 b1
    rw [hv2.out] at HB j2 b2
    go_enter Try.func12, Try.ntmps12
    go_wp2_with fail
    refine (iPlanOk _ _ _ _ _ _).mono ?_; rintro e w1 ⟨rfl, hb⟩; rw [ho]; replace z := z.trans (hb.mono z.size); replace B := B.keep hb; obtain ⟨c0, c1, c2, c3, c4⟩ := B.five; clear hb
    go_wp2_with fail
    refine (iSize _ _ _ _ _ _).mono ?_; rintro e w2 ⟨rfl, hb⟩; rw [E.out.1]; replace z := z.trans (hb.mono z.size); replace B := B.keep hb; clear hb c0 c1 c2 c3 c4
    have g0 := z.size
    have ql := B.lt
    have W := Ws.made w2 n (by omega)
    replace B := B.keep ((Below.refl _ _).alloc (Nat.le_refl _) (Obj.cells (madeCells #[.int .u64 0] n) 48))
    replace z := z.alloc g0 (Obj.cells (madeCells #[.int .u64 0] n) 48)
    obtain ⟨c0, c1, c2, c3, c4⟩ := B.five
    go_wp2_with fail
    clear hmk
    generalize w2.heap.size = g at *
    have st : HSt (w2.alloc (Obj.cells (madeCells #[.int .u64 0] n) 48)) (w2.alloc (Obj.cells (madeCells #[.int .u64 0] n) 48)) w.heap.size g n n p s l c k (List.replicate n 0) := ⟨B, W, Kept.refl _ _, by omega⟩
    generalize w2.alloc (Obj.cells (madeCells #[.int .u64 0] n) 48) = w3 at *
    clear B W
    refine (iBlock _ _ _ _ _ _ _ _).mono ?_; rintro e w4 ⟨rfl, hb⟩; rw [E.out.2.2.1]; replace st := st.keep hb; clear hb c0 c1 c2 c3 c4; obtain ⟨c0, c1, c2, c3, c4⟩ := st.box.five
    go_wp2_with fail
    refine (iJoined _ _ _ _ _).mono ?_; rintro e w5 ⟨rfl, hb⟩; rw [j1.out]; replace st := st.keep hb; clear hb c0 c1 c2 c3 c4; have d0 := st.ws.cell i1 (by omega); have f0 := st.ws.frozen i1; replace st := st.set i1 v1 b1; obtain ⟨c0, c1, c2, c3, c4⟩ := st.box.five
    go_wp2_with fail
    generalize w5.setCell ⟨g, i1, none⟩ (.int .u64 v1) = w6 at *
    clear d0 f0
    refine (iRoot _ _ _ _ _ _ _).mono ?_; rintro e w7 ⟨rfl, hb⟩; rw [E.out.2.2.2.1]; replace st := st.keep hb; clear hb c0 c1 c2 c3 c4; obtain ⟨c0, c1, c2, c3, c4⟩ := st.box.five
    go_wp2_with fail
    refine (iJoined _ _ _ _ _).mono ?_; rintro e w8 ⟨rfl, hb⟩; rw [j2.out]; replace st := st.keep hb; clear hb c0 c1 c2 c3 c4; have d0 := st.ws.cell i2 (by omega); have f0 := st.ws.frozen i2; replace st := st.set i2 v2 b2; obtain ⟨c0, c1, c2, c3, c4⟩ := st.box.five
    go_wp2_with fail
    generalize w8.setCell ⟨g, i2, none⟩ (.int .u64 v2) = w9 at *
    clear d0 f0
    refine (iRoot _ _ _ _ _ _ _).mono ?_; rintro e w10 ⟨rfl, hb⟩; rw [E.out.2.2.2.2]; replace st := st.keep hb; clear hb c0 c1 c2 c3 c4; obtain ⟨c0, c1, c2, c3, c4⟩ := st.box.five
    go_wp2_with fail
    refine (iJoined _ _ _ _ _).mono ?_; rintro e w11 ⟨rfl, hb⟩; rw [j2.out]; replace st := st.keep hb; clear hb c0 c1 c2 c3 c4; have d0 := st.ws.cell i3 (by omega); have f0 := st.ws.frozen i3; replace st := st.set i3 v2 b2; obtain ⟨c0, c1, c2, c3, c4⟩ := st.box.five
    go_wp2_with fail
    generalize w11.setCell ⟨g, i3, none⟩ (.int .u64 v2) = w12 at *
    clear d0 f0
    rw [← HB.out] at st
    refine (iHang p s l c k g n n (blank0 p s l c k) 0 2 s _ st.ws ho E.out.2.1 (by omega) (by omega) (by omega) (by omega) (by omega)).mono ?_; rintro e w13 ⟨rfl, W, kk⟩; replace st := st.go kk W; clear kk W c0 c1 c2 c3 c4; obtain ⟨c0, c1, c2, c3, c4⟩ := st.box.five
    go_wp2_with fail
    refine (iHang p s l c k g n n (blank1 p s l c k) 1 (s + 1) (s + l) _ st.ws ho E.out.2.1 (by omega) (by omega) (by omega) (by omega) (by omega)).mono ?_; rintro e w14 ⟨rfl, W, kk⟩; replace st := st.go kk W; clear kk W c0 c1 c2 c3 c4
    go_wp2
    go_ret
    exact ⟨g, n, n, rfl, g0, st.ws, hn3, kept_below z st.kept g0⟩
end Go.Proofs.Ytmldeigbaafclaa
