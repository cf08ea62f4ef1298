/-
  What the specification's blank arena is.
-/
import Derived.Test.YtjimmfnloeecjaaBlk2
import Derived.Deep.RegionHeld3
import Derived.Deep.Cut
namespace Go.Proofs.Ytjimmfnloeecjaa
open Go.RowKit
set_option linter.unusedVariables false
set_option linter.unusedSimpArgs false
/-- What stands at the head of the round of block b; and, in it, behind the writing of the root. -/
def Rb (lk : Int → Int) (q0 q1 s l : Int) (y0 y1 : List Int) (b : Int) (ys : List Int) : Prop :=
  (b ≤ s ∧ ys = hung lk q0 2 y0 (hc 2 b)) ∨ (s < b ∧ b ≤ s + l ∧ ys = hung lk q1 (s + 1) y1 (hc (s + 1) b)) ∨ (b = s + l + 1 ∧ ys = hung lk q1 (s + 1) y1 l.toNat)
def Mb (lk : Int → Int) (q0 q1 s l : Int) (y0 y1 : List Int) (b : Int) (ms : List Int) : Prop :=
  (b ≤ s ∧ ms = hung lk q0 2 y0 (b - 2 + 1).toNat) ∨ (s < b ∧ b ≤ s + l ∧ ms = hung lk q1 (s + 1) y1 (b - (s + 1) + 1).toNat)
theorem Rb.mid_n {lk : Int → Int} {q0 q1 s l : Int} {y0 y1 : List Int} {b : Int} {ys : List Int} (h : Rb lk q0 q1 s l y0 y1 b ys) (b0 : 2 ≤ b) (b1 : b ≤ s + l) (hA : ¬ (b = s + 1 ∨ (b = 2 ∧ 1 < s))) : Mb lk q0 q1 s l y0 y1 b ys := by
  rcases h with ⟨h1, h2⟩ | ⟨h1, h2, h3⟩ | ⟨h1, h2⟩
  · exact .inl ⟨h1, by rw [h2, hc_n (by omega)]⟩
  · exact .inr ⟨h1, h2, by rw [h3, hc_n (by omega)]⟩
  · omega
theorem Rb.mid_y {lk : Int → Int} {q0 q1 s l : Int} {y0 y1 : List Int} {b : Int} {ys : List Int} (h : Rb lk q0 q1 s l y0 y1 b ys) (b0 : 2 ≤ b) (b1 : b ≤ s + l) (hA : b = s + 1 ∨ (b = 2 ∧ 1 < s)) : Mb lk q0 q1 s l y0 y1 b (ys.set (if b ≤ s then q0 else q1).toNat (pk 0 0 b 0)) := by
  rcases h with ⟨h1, h2⟩ | ⟨h1, h2, h3⟩ | ⟨h1, h2⟩
  · obtain rfl : b = 2 := by omega
    rw [if_pos h1, h2]
    exact .inl ⟨h1, hung_A _ _ _ _⟩
  · obtain rfl : b = s + 1 := by omega
    rw [if_neg (by omega), h3]
    exact .inr ⟨h1, h2, hung_A _ _ _ _⟩
  · omega
theorem Mb.next_y {lk : Int → Int} {q0 q1 s l : Int} {y0 y1 : List Int} {b : Int} {ms : List Int} (h : Mb lk q0 q1 s l y0 y1 b ms) (b0 : 2 ≤ b) (h1 : b ≠ s) (h2 : b ≠ s + l) : Rb lk q0 q1 s l y0 y1 (b + 1) (ms.set (lk b).toNat (pk 0 0 (b + 1) 0)) := by
  rcases h with ⟨h3, rfl⟩ | ⟨h3, h4, rfl⟩
  · exact .inl ⟨by omega, hung_B _ _ _ _ _ (by omega)⟩
  · exact .inr (.inl ⟨by omega, by omega, hung_B _ _ _ _ _ (by omega)⟩)
theorem Mb.next_n {lk : Int → Int} {q0 q1 s l : Int} {y0 y1 : List Int} {b : Int} {ms : List Int} (h : Mb lk q0 q1 s l y0 y1 b ms) (FS : y1 = hung lk q0 2 y0 (s - 2 + 1).toNat) (b0 : 2 ≤ b) (l0 : 0 ≤ l) (h1 : b = s ∨ b = s + l) : Rb lk q0 q1 s l y0 y1 (b + 1) ms := by
  rcases h with ⟨h3, rfl⟩ | ⟨h3, h4, rfl⟩
  · obtain rfl : b = s := by omega
    rw [← FS]
    by_cases hl : 1 ≤ l
    · refine .inr (.inl ⟨by omega, by omega, ?_⟩)
      simp [hc, hung]
    · refine .inr (.inr ⟨by omega, ?_⟩)
      rw [show l.toNat = 0 from by omega]
      rfl
  · refine .inr (.inr ⟨by omega, ?_⟩)
    rw [show b - (s + 1) + 1 = l from by omega]
set_option maxHeartbeats 4000000 in
theorem sBlank (p s l c k : Int) (w : World) :
    Calls Try.prog 13 #[.agg #[.int .i64 p, .int .i64 s, .int .i64 l, .int .i64 c, .int .i64 k]] w fun e w' => ∃ g n cc, e = .returned (.slice (some ⟨g, 0, none⟩) n cc) ∧ w.heap.size ≤ g ∧ Ws w' g n cc (blank p s l c k) ∧ n ≤ 10000 ∧ Below w.heap.size w w' := by
  have z : Below w.heap.size w (w.alloc (Obj.cells #[.int .i64 p, .int .i64 s, .int .i64 l, .int .i64 c, .int .i64 k] 26)) := (Below.refl _ _).alloc (Nat.le_refl _) _
  have B := Box5.new w (.int .i64 p) (.int .i64 s) (.int .i64 l) (.int .i64 c) (.int .i64 k) 26
  cases ho : ok p s l c k
  · have e : blank p s l c k = [] := by unfold blank; rw [ho]; simp
    rw [e]
    go_enter Try.func13, Try.ntmps13
    go_wp2_with (go_at_call 23; refine (sPlanOk _ _ _ _ _ _).mono ?_; rintro e w1 ⟨rfl, hb⟩; rw [ho]; replace z := z.trans (hb.mono z.size); clear hb)
    go_ret
    exact ⟨w1.heap.size, 0, 0, rfl, z.size, ⟨rfl, by simpa using wlit w1 0 (Nat.zero_le _), by simp⟩, by omega, z.alloc z.size _⟩
  · have e : blank p s l c k = blank2 p s l c k := by unfold blank; rw [if_pos ho]
    rw [e]
    have h' := ok_iff.1 ho
    obtain ⟨n, hn1, hn2, hn3⟩ := size_in ho
    obtain ⟨i1, e1, l1⟩ := blk_in (f := 0) ho (b := 1) (by omega) (by omega) (by omega) (by omega)
    obtain ⟨i2, e2, l2⟩ := root_in ho (r := 3) (by omega) (by omega)
    obtain ⟨i3, e3, l3⟩ := root_in ho (r := 4) (by omega) (by omega)
    have E : Hid (vSize p s l c k = (n : Int) ∧ (n : Int) = zF p s l c ∧ vBlock p s l c k 1 0 = (i1 : Int) ∧ vRoot p s l c k 3 = (i2 : Int) ∧ vRoot p s l c k 4 = (i3 : Int)) := ⟨hn1, hn2, e1, e2, e3⟩
    rw [← hn2] at l1 l2 l3
    have HB : Hid (blank0 p s l c k = (((List.replicate n 0).set i1 (pk 2 0 0 0)).set i2 (pk 0 0 1 0)).set i3 (pk 0 0 1 0)) := by
      show _ = _
      unfold blank0
      rw [e1, e2, e3, ← hn2]
      simp
    clear hn1 hn2 e1 e2 e3 e
    obtain ⟨Z, hZ⟩ : ∃ Z : List Int, Hid (blank2 p s l c k = Z) := ⟨_, rfl⟩
    rw [hZ.out]
    have hmk := run_make_row' (P := Try.prog) 24 34 (.int .u64 0) 8 Try.underlying24 infoU rfl .i64 .i64 n (by omega) (by omega)
    have b1 := pk_bd (k := 2) (p := 0) (i := 0) (s := 0) (wOk_iff.2 (by omega))
    have b2 := pk_bd (k := 0) (p := 0) (i := 1) (s := 0) (wOk_iff.2 (by omega))
    obtain ⟨v1, hv1⟩ : ∃ v1 : Int, Hid (pk 2 0 0 0 = v1) := ⟨_, rfl⟩
    obtain ⟨v2, hv2⟩ : ∃ v2 : Int, Hid (pk 0 0 1 0 = v2) := ⟨_, rfl⟩
    rw [hv1.out] at HB b1
    rw [hv2.out] at HB b2
    go_enter Try.func13, Try.ntmps13
    go_wp2_with fail
    refine (sPlanOk _ _ _ _ _ _).mono ?_; rintro e w1 ⟨rfl, hb⟩; rw [ho]; replace z := z.trans (hb.mono z.size); replace B := B.keep hb; obtain ⟨c0, c1, c2, c3, c4⟩ := B.five; clear hb
    go_wp2_with fail
    refine (sSize _ _ _ _ _ _).mono ?_; rintro e w2 ⟨rfl, hb⟩; rw [E.out.1]; replace z := z.trans (hb.mono z.size); replace B := B.keep hb; clear hb c0 c1 c2 c3 c4
    have g0 := z.size
    have ql := B.lt
    have W := Ws.made w2 n (by omega)
    replace B := B.keep ((Below.refl _ _).alloc (Nat.le_refl _) (Obj.cells (madeCells #[.int .u64 0] n) 34))
    replace z := z.alloc g0 (Obj.cells (madeCells #[.int .u64 0] n) 34)
    obtain ⟨c0, c1, c2, c3, c4⟩ := B.five
    go_wp2_with fail
    clear hmk
    generalize w2.heap.size = g at *
    have st : HSt (w2.alloc (Obj.cells (madeCells #[.int .u64 0] n) 34)) (w2.alloc (Obj.cells (madeCells #[.int .u64 0] n) 34)) w.heap.size g n n p s l c k (List.replicate n 0) := ⟨B, W, Kept.refl _ _, by omega⟩
    generalize w2.alloc (Obj.cells (madeCells #[.int .u64 0] n) 34) = w3 at *
    clear B W
    refine (sBlock _ _ _ _ _ _ _ _).mono ?_; rintro e w4 ⟨rfl, hb⟩; rw [E.out.2.2.1]; replace st := st.keep hb; clear hb c0 c1 c2 c3 c4; obtain ⟨c0, c1, c2, c3, c4⟩ := st.box.five
    go_wp2_with fail
    refine (sPack1 _ _ _ _ _ (wOk_iff.2 (by omega))).mono ?_; rintro e w5 ⟨rfl, hb⟩; rw [hv1.out]; replace st := st.keep hb; clear hb c0 c1 c2 c3 c4; have d0 := st.ws.cell i1 (by omega); have f0 := st.ws.frozen i1; replace st := st.set i1 v1 b1; obtain ⟨c0, c1, c2, c3, c4⟩ := st.box.five
    go_wp2_with fail
    generalize w5.setCell ⟨g, i1, none⟩ (.int .u64 v1) = w6 at *
    clear d0 f0
    refine (sRoot _ _ _ _ _ _ _).mono ?_; rintro e w7 ⟨rfl, hb⟩; rw [E.out.2.2.2.1]; replace st := st.keep hb; clear hb c0 c1 c2 c3 c4; obtain ⟨c0, c1, c2, c3, c4⟩ := st.box.five
    go_wp2_with fail
    refine (sPack1 _ _ _ _ _ (wOk_iff.2 (by omega))).mono ?_; rintro e w8 ⟨rfl, hb⟩; rw [hv2.out]; replace st := st.keep hb; clear hb c0 c1 c2 c3 c4; have d0 := st.ws.cell i2 (by omega); have f0 := st.ws.frozen i2; replace st := st.set i2 v2 b2; obtain ⟨c0, c1, c2, c3, c4⟩ := st.box.five
    go_wp2_with fail
    generalize w8.setCell ⟨g, i2, none⟩ (.int .u64 v2) = w9 at *
    clear d0 f0
    refine (sRoot _ _ _ _ _ _ _).mono ?_; rintro e w10 ⟨rfl, hb⟩; rw [E.out.2.2.2.2]; replace st := st.keep hb; clear hb c0 c1 c2 c3 c4; obtain ⟨c0, c1, c2, c3, c4⟩ := st.box.five
    go_wp2_with fail
    refine (sPack1 _ _ _ _ _ (wOk_iff.2 (by omega))).mono ?_; rintro e w11 ⟨rfl, hb⟩; rw [hv2.out]; replace st := st.keep hb; clear hb c0 c1 c2 c3 c4; have d0 := st.ws.cell i3 (by omega); have f0 := st.ws.frozen i3; replace st := st.set i3 v2 b2; obtain ⟨c0, c1, c2, c3, c4⟩ := st.box.five
    go_wp2
    generalize w11.setCell ⟨g, i3, none⟩ (.int .u64 v2) = w12 at *
    clear d0 f0
    rw [← HB.out] at st
    have FZ : Hid (hung (fun b => vBlock p s l c k b 1) (vRoot p s l c k 1) (s + 1) (blank1 p s l c k) l.toNat = Z) := by
      show _ = _
      rw [← hZ.out]
      unfold blank2
      rw [show s + l - (s + 1) + 1 = l from by omega]
    have FS : Hid (blank1 p s l c k = hung (fun b => vBlock p s l c k b 1) (vRoot p s l c k 0) 2 (blank0 p s l c k) (s - 2 + 1).toNat) := rfl
    clear hZ
    generalize blank1 p s l c k = y1 at *
    generalize blank0 p s l c k = y0 at *
    obtain ⟨lk, hlk⟩ : ∃ lk : Int → Int, Hid ((fun b => vBlock p s l c k b 1) = lk) := ⟨_, rfl⟩
    obtain ⟨q0, hq0⟩ : ∃ q0 : Int, Hid (vRoot p s l c k 0 = q0) := ⟨_, rfl⟩
    obtain ⟨q1, hq1⟩ : ∃ q1 : Int, Hid (vRoot p s l c k 1 = q1) := ⟨_, rfl⟩
    rw [hlk.out, hq0.out] at FS
    rw [hlk.out, hq1.out] at FZ
    have HO : Hid (ok p s l c k = true) := ho
    clear ho HB c0 c1 c2 c3 c4
    go_loopg [4] ((s + l - 1).toNat) (fun g' y wr => ∃ (b : Int) (ys : List Int), 2 ≤ b ∧ b ≤ s + l + 1 ∧ (g' : Int) = s + l + 1 - b ∧ y = .int .i64 b ∧ HSt w3 wr w.heap.size g n n p s l c k ys ∧
        Rb lk q0 q1 s l y0 y1 b ys)
    case atStart =>
      refine ⟨2, y0, by omega, by omega, by omega, rfl, st, ?_⟩
      by_cases hs : 2 ≤ s
      · exact .inl ⟨hs, rfl⟩
      · have e1 : y1 = y0 := by rw [FS.out, show (s - 2 + 1).toNat = 0 from by omega]; rfl
        by_cases hl : 1 ≤ l
        · refine .inr (.inl ⟨by omega, by omega, ?_⟩)
          rw [e1, show s + 1 = 2 from by omega]
          rfl
        · refine .inr (.inr ⟨by omega, ?_⟩)
          rw [e1, show l.toNat = 0 from by omega]
          rfl
    case round =>
      clear st
      obtain ⟨b, ys, b0, bq, hg, rfl, st, hR⟩ := hrel
      have HR : Hid (Rb lk q0 q1 s l y0 y1 b ys) := hR
      clear hR
      obtain ⟨c0, c1, c2, c3, c4⟩ := st.box.five
      by_cases hb1 : b ≤ s + l
      · obtain ⟨il, el, ll⟩ := blk_in (f := 1) HO.out (b := b) (by omega) hb1 (by omega) (by omega)
        rw [← E.out.2.1] at ll
        have EL : Hid (vBlock p s l c k b 1 = (il : Int)) := el
        have bn := pk_bd (pkI (b := b + 1) (by omega) (by omega))
        obtain ⟨vn, hvn⟩ : ∃ vn : Int, Hid (pk 0 0 (b + 1) 0 = vn) := ⟨_, rfl⟩
        rw [hvn.out] at bn
        by_cases hA : b = s + 1 ∨ (b = 2 ∧ 1 < s)
        · obtain ⟨cl, ir, hcl, hir, lr, hqi⟩ : ∃ (cl : Int) (ir : Nat), Hid (vClass p s l c k b = cl ∧ 0 ≤ cl ∧ cl ≤ 1) ∧ Hid (vRoot p s l c k cl = (ir : Int)) ∧ (ir : Int) < n ∧ Hid ((if b ≤ s then q0 else q1) = (ir : Int)) := by
            by_cases hbs : b ≤ s
            · obtain ⟨ir, h1, h2⟩ := root_in HO.out (r := 0) (by omega) (by omega)
              refine ⟨0, ir, ⟨?_, by omega, by omega⟩, h1, by rw [E.out.2.1]; exact h2, ?_⟩
              · unfold vClass; rw [if_pos ⟨HO.out, by omega, by omega⟩, if_pos hbs]
              · show _ = _
                rw [if_pos hbs, ← hq0.out, h1]
            · obtain ⟨ir, h1, h2⟩ := root_in HO.out (r := 1) (by omega) (by omega)
              refine ⟨1, ir, ⟨?_, by omega, by omega⟩, h1, by rw [E.out.2.1]; exact h2, ?_⟩
              · unfold vClass; rw [if_pos ⟨HO.out, by omega, by omega⟩, if_neg hbs]
              · show _ = _
                rw [if_neg hbs, ← hq1.out, h1]
          have bv := pk_bd (pkI (b := b) (by omega) (by omega))
          have M0 := HR.out.mid_y b0 hb1 hA
          obtain ⟨vb, hvb⟩ : ∃ vb : Int, Hid (pk 0 0 b 0 = vb) := ⟨_, rfl⟩
          rw [hqi.out, hvb.out, Int.toNat_natCast] at M0
          rw [hvb.out] at bv
          have MID : Hid (Mb lk q0 q1 s l y0 y1 b (ys.set ir vb)) := M0
          clear M0
          have clb := hcl.out.2
          have hcw : IntKind.i64.wrap (0 + cl) = cl := by rw [IntKind.wrap_i64]; omega
          have hcw2 : IntKind.i64.wrap cl = cl := by rw [IntKind.wrap_i64]; omega
          have qg1 := st.qg
          have qg2 := Ne.symm st.qg
          have std := st.keep (Below.refl _ _).drew
          have hA0 : ((b == s + 1) = true) ∨ ((b == s + 1) = false ∧ (b == 2) = true ∧ 1 < s) := by
            rcases hA with hA | ⟨hA, h2⟩
            · exact .inl (by simp [hA])
            · by_cases h3 : b = s + 1
              · exact .inl (by simp [h3])
              · exact .inr ⟨by simp [h3], by simp [hA], h2⟩
          clear hA
          rcases hA0 with hA | ⟨hA, h2, h3⟩
          · go_upto_region 11 with fail
            go_region_held3 (fun w' => w'.cell? ⟨w.heap.size, 0, none⟩ = some (.int .i64 p) ∧ w'.cell? ⟨w.heap.size, 1, none⟩ = some (.int .i64 s) ∧ w'.cell? ⟨w.heap.size, 2, none⟩ = some (.int .i64 l) ∧ w'.cell? ⟨w.heap.size, 3, none⟩ = some (.int .i64 c) ∧ w'.cell? ⟨w.heap.size, 4, none⟩ = some (.int .i64 k)) (go_keep)
              (first
              | (go_at_call 29; refine (sClass _ _ _ _ _ _ _).mono ?_; rintro e w2 ⟨rfl, hb⟩; rw [hcl.out.1]; replace std := std.keep hb; clear hb c0 c1 c2 c3 c4; obtain ⟨c0, c1, c2, c3, c4⟩ := std.box.five)
              | (go_at_call 28; refine (sRoot _ _ _ _ _ _ _).mono ?_; rintro e w2 ⟨rfl, hb⟩; (first | rw [hir.out] | rw [hcw, hir.out] | rw [hcw2, hir.out]); replace std := std.keep hb; clear hb c0 c1 c2 c3 c4; obtain ⟨c0, c1, c2, c3, c4⟩ := std.box.five)
              | (go_at_call 26; refine (sPack1 _ _ _ _ _ (pkI (by omega) (by omega))).mono ?_; rintro e w2 ⟨rfl, hb⟩; rw [hvb.out]; replace std := std.keep hb; clear hb c0 c1 c2 c3 c4; obtain ⟨c0, c1, c2, c3, c4⟩ := std.box.five; have d0 := std.ws.cell ir (by omega); have f0 := std.ws.frozen ir))
            have sm := std.set ir vb bv
            have MID2 : Hid (Mb lk q0 q1 s l y0 y1 b (ys.set ir vb)) := MID
            clear MID
            clear std st d0 f0 c0 c1 c2 c3 c4
            generalize w2.setCell ⟨g, ir, none⟩ (.int .u64 vb) = wm at *
            obtain ⟨ms, hms⟩ : ∃ ms : List Int, Hid (ys.set ir vb = ms) := ⟨_, rfl⟩
            rw [hms.out] at sm MID2
            have MID := MID2
            obtain ⟨c0, c1, c2, c3, c4⟩ := sm.box.five
            by_cases hB : b = s ∨ b = s + l
            · have HN := MID.out.next_n (FS.out) b0 (by omega) hB
              have HNN : Hid (Rb lk q0 q1 s l y0 y1 (b + 1) ms) := HN
              clear HN
              by_cases hbs : b = s
              · clear hB
                go_wp2
                go_roundg (gk - 1)
                case measure => omega
                case rel => exact ⟨b + 1, ms, by omega, by omega, by omega, by go_num, sm, HNN.out⟩
              · have hB3 : b = s + l := hB.resolve_left hbs
                clear hB
                go_wp2
                go_roundg (gk - 1)
                case measure => omega
                case rel => exact ⟨b + 1, ms, by omega, by omega, by omega, by go_num, sm, HNN.out⟩
            · have hB1 : b ≠ s := fun e => hB (.inl e)
              have hB2 : b ≠ s + l := fun e => hB (.inr e)
              have HN := MID.out.next_y b0 hB1 hB2
              rw [← hlk.out, show (fun b => vBlock p s l c k b 1) b = (il : Int) from EL.out, hvn.out, Int.toNat_natCast, hlk.out] at HN
              have HNN : Hid (Rb lk q0 q1 s l y0 y1 (b + 1) (ms.set il vn)) := HN
              clear HN
              have std := sm
              clear hB
              have hB3 : (b != s) = true := by simp [hB1]
              have hB4 : (b != s + l) = true := by simp [hB2]
              go_wp2_with (first
                | (go_at_call 27; refine (sBlock _ _ _ _ _ _ _ _).mono ?_; rintro e w2 ⟨rfl, hb⟩; rw [EL.out]; replace std := std.keep hb; clear hb c0 c1 c2 c3 c4; obtain ⟨c0, c1, c2, c3, c4⟩ := std.box.five)
                | (go_at_call 26; refine (sPack1 _ _ _ _ _ (pkI (by omega) (by omega))).mono ?_; rintro e w2 ⟨rfl, hb⟩; rw [hvn.out]; replace std := std.keep hb; clear hb c0 c1 c2 c3 c4; obtain ⟨c0, c1, c2, c3, c4⟩ := std.box.five; have d0 := std.ws.cell il (by omega); have f0 := std.ws.frozen il; replace std := std.set il vn bn))
              go_roundg (gk - 1)
              case measure => omega
              case rel => exact ⟨b + 1, _, by omega, by omega, by omega, by go_num, std, HNN.out⟩
          · go_upto_region 11 with fail
            go_region_held3 (fun w' => w'.cell? ⟨w.heap.size, 0, none⟩ = some (.int .i64 p) ∧ w'.cell? ⟨w.heap.size, 1, none⟩ = some (.int .i64 s) ∧ w'.cell? ⟨w.heap.size, 2, none⟩ = some (.int .i64 l) ∧ w'.cell? ⟨w.heap.size, 3, none⟩ = some (.int .i64 c) ∧ w'.cell? ⟨w.heap.size, 4, none⟩ = some (.int .i64 k)) (go_keep)
              (first
              | (go_at_call 29; refine (sClass _ _ _ _ _ _ _).mono ?_; rintro e w2 ⟨rfl, hb⟩; rw [hcl.out.1]; replace std := std.keep hb; clear hb c0 c1 c2 c3 c4; obtain ⟨c0, c1, c2, c3, c4⟩ := std.box.five)
              | (go_at_call 28; refine (sRoot _ _ _ _ _ _ _).mono ?_; rintro e w2 ⟨rfl, hb⟩; (first | rw [hir.out] | rw [hcw, hir.out] | rw [hcw2, hir.out]); replace std := std.keep hb; clear hb c0 c1 c2 c3 c4; obtain ⟨c0, c1, c2, c3, c4⟩ := std.box.five)
              | (go_at_call 26; refine (sPack1 _ _ _ _ _ (pkI (by omega) (by omega))).mono ?_; rintro e w2 ⟨rfl, hb⟩; rw [hvb.out]; replace std := std.keep hb; clear hb c0 c1 c2 c3 c4; obtain ⟨c0, c1, c2, c3, c4⟩ := std.box.five; have d0 := std.ws.cell ir (by omega); have f0 := std.ws.frozen ir))
            have sm := std.set ir vb bv
            have MID2 : Hid (Mb lk q0 q1 s l y0 y1 b (ys.set ir vb)) := MID
            clear MID
            clear std st d0 f0 c0 c1 c2 c3 c4
            generalize w2.setCell ⟨g, ir, none⟩ (.int .u64 vb) = wm at *
            obtain ⟨ms, hms⟩ : ∃ ms : List Int, Hid (ys.set ir vb = ms) := ⟨_, rfl⟩
            rw [hms.out] at sm MID2
            have MID := MID2
            obtain ⟨c0, c1, c2, c3, c4⟩ := sm.box.five
            by_cases hB : b = s ∨ b = s + l
            · have HN := MID.out.next_n (FS.out) b0 (by omega) hB
              have HNN : Hid (Rb lk q0 q1 s l y0 y1 (b + 1) ms) := HN
              clear HN
              by_cases hbs : b = s
              · clear hB
                go_wp2
                go_roundg (gk - 1)
                case measure => omega
                case rel => exact ⟨b + 1, ms, by omega, by omega, by omega, by go_num, sm, HNN.out⟩
              · have hB3 : b = s + l := hB.resolve_left hbs
                clear hB
                go_wp2
                go_roundg (gk - 1)
                case measure => omega
                case rel => exact ⟨b + 1, ms, by omega, by omega, by omega, by go_num, sm, HNN.out⟩
            · have hB1 : b ≠ s := fun e => hB (.inl e)
              have hB2 : b ≠ s + l := fun e => hB (.inr e)
              have HN := MID.out.next_y b0 hB1 hB2
              rw [← hlk.out, show (fun b => vBlock p s l c k b 1) b = (il : Int) from EL.out, hvn.out, Int.toNat_natCast, hlk.out] at HN
              have HNN : Hid (Rb lk q0 q1 s l y0 y1 (b + 1) (ms.set il vn)) := HN
              clear HN
              have std := sm
              clear hB
              have hB3 : (b != s) = true := by simp [hB1]
              have hB4 : (b != s + l) = true := by simp [hB2]
              go_wp2_with (first
                | (go_at_call 27; refine (sBlock _ _ _ _ _ _ _ _).mono ?_; rintro e w2 ⟨rfl, hb⟩; rw [EL.out]; replace std := std.keep hb; clear hb c0 c1 c2 c3 c4; obtain ⟨c0, c1, c2, c3, c4⟩ := std.box.five)
                | (go_at_call 26; refine (sPack1 _ _ _ _ _ (pkI (by omega) (by omega))).mono ?_; rintro e w2 ⟨rfl, hb⟩; rw [hvn.out]; replace std := std.keep hb; clear hb c0 c1 c2 c3 c4; obtain ⟨c0, c1, c2, c3, c4⟩ := std.box.five; have d0 := std.ws.cell il (by omega); have f0 := std.ws.frozen il; replace std := std.set il vn bn))
              go_roundg (gk - 1)
              case measure => omega
              case rel => exact ⟨b + 1, _, by omega, by omega, by omega, by go_num, std, HNN.out⟩
        · have MID : Hid (Mb lk q0 q1 s l y0 y1 b ys) := HR.out.mid_n b0 hb1 hA
          have hA1 : ¬ b = s + 1 := fun e => hA (.inl e)
          have hA2 : ¬ (b = 2 ∧ 1 < s) := fun e => hA (.inr e)
          obtain ⟨ms, hms⟩ : ∃ ms : List Int, Hid (ms = ys) := ⟨_, rfl⟩
          have sm := st
          rw [← hms.out] at sm MID
          clear hA
          have h2 : ¬ b = 2 := by omega
          clear hA2
          go_upto_region 12 with fail
          by_cases hB : b = s ∨ b = s + l
          · have HN := MID.out.next_n (FS.out) b0 (by omega) hB
            have HNN : Hid (Rb lk q0 q1 s l y0 y1 (b + 1) ms) := HN
            clear HN
            by_cases hbs : b = s
            · clear hB
              go_wp2
              go_roundg (gk - 1)
              case measure => omega
              case rel => exact ⟨b + 1, ms, by omega, by omega, by omega, by go_num, sm, HNN.out⟩
            · have hB3 : b = s + l := hB.resolve_left hbs
              clear hB
              go_wp2
              go_roundg (gk - 1)
              case measure => omega
              case rel => exact ⟨b + 1, ms, by omega, by omega, by omega, by go_num, sm, HNN.out⟩
          · have hB1 : b ≠ s := fun e => hB (.inl e)
            have hB2 : b ≠ s + l := fun e => hB (.inr e)
            have HN := MID.out.next_y b0 hB1 hB2
            rw [← hlk.out, show (fun b => vBlock p s l c k b 1) b = (il : Int) from EL.out, hvn.out, Int.toNat_natCast, hlk.out] at HN
            have HNN : Hid (Rb lk q0 q1 s l y0 y1 (b + 1) (ms.set il vn)) := HN
            clear HN
            have std := sm
            clear hB
            have hB3 : (b != s) = true := by simp [hB1]
            have hB4 : (b != s + l) = true := by simp [hB2]
            go_wp2_with (first
              | (go_at_call 27; refine (sBlock _ _ _ _ _ _ _ _).mono ?_; rintro e w2 ⟨rfl, hb⟩; rw [EL.out]; replace std := std.keep hb; clear hb c0 c1 c2 c3 c4; obtain ⟨c0, c1, c2, c3, c4⟩ := std.box.five)
              | (go_at_call 26; refine (sPack1 _ _ _ _ _ (pkI (by omega) (by omega))).mono ?_; rintro e w2 ⟨rfl, hb⟩; rw [hvn.out]; replace std := std.keep hb; clear hb c0 c1 c2 c3 c4; obtain ⟨c0, c1, c2, c3, c4⟩ := std.box.five; have d0 := std.ws.cell il (by omega); have f0 := std.ws.frozen il; replace std := std.set il vn bn))
            go_roundg (gk - 1)
            case measure => omega
            case rel => exact ⟨b + 1, _, by omega, by omega, by omega, by go_num, std, HNN.out⟩
      · obtain rfl : b = s + l + 1 := by omega
        go_wp2
        go_ret
        have hf : ys = Z := by
          rw [← FZ.out]
          rcases HR.out with ⟨h1, h2⟩ | ⟨h1, h2, h3⟩ | ⟨h1, h2⟩
          · omega
          · omega
          · exact h2
        rw [hf] at st
        exact ⟨g, n, n, rfl, g0, st.ws, hn3, kept_below z st.kept g0⟩
end Go.Proofs.Ytjimmfnloeecjaa
