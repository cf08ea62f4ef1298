/-
  Walks: the program's iterator, for every loop body that keeps what it reads.
-/
import Derived.Test.YtdebjfgflldpjaaWk
import Derived.RangeFuncNested
import Derived.RangeFuncBound
import Derived.RangeFuncCalls
import Derived.RangeFuncLeaves
import Derived.Shelf.Abstract
import Derived.WalkKit
import Derived.OwnWalkIn
import Derived.TacticsInMore
import Derived.LoopNIn
import Derived.LoopIn
import Derived.Deep.Cut
import Derived.Deep.RegionHeld3
namespace Go.Proofs.Ytdebjfgflldpjaa
open Go.RowKit Go.Shelf
attribute [local go_sem] Oper.semAt_some
set_option linter.unusedVariables false
set_option linter.unusedSimpArgs false
set_option maxHeartbeats 1000000 in
theorem iIdx (a : Option Addr) (n cap i : Nat) (xs : List Int) (x : Int) (w : World) (h : Src w a n xs) (hi : i < n) (hn : n ≤ 16777216) (hx : xs.getD i 0 = x) (x0 : 0 ≤ x) (x1 : x ≤ 18446744073709551615) :
    Calls Try.prog 31 #[.slice a n cap, .int .i64 (i : Int)] w fun e w' => e = .returned (.int .i64 (uI x)) ∧ Below w.heap.size w w' := by
  obtain ⟨b, o, rfl⟩ := h.some (by omega)
  have d1 := h.at_ hi
  have hf := run_wordI
  have hii : (i : Int) < n := by omega
  rw [hx] at d1
  clear h hx
  go_enter Try.func31, Try.ntmps31
  go_wp2_with (go_at_call 39; refine (iUnpack _ x0 x1 _).mono ?_; rintro e w1 ⟨rfl, hb⟩)
  go_ret
  exact ⟨rfl, hb⟩
/-- The marks of what was met, a cell for each number from 0 to N. -/
def mets (N : Nat) (Z : List Int) : Array Value := ((List.range (N + 1)).map (fun i : Nat => Value.bool (decide ((i : Int) ∈ Z)))).toArray
theorem mets_at {N : Nat} {Z : List Int} {b : Nat} (h : b ≤ N) : (mets N Z)[b]? = some (.bool (decide ((b : Int) ∈ Z))) := by
  unfold mets
  rw [List.getElem?_toArray, List.getElem?_map, List.getElem?_range (by omega)]
  rfl
theorem mets_set {N : Nat} {Z : List Int} {b : Nat} : (mets N Z).setIfInBounds b (.bool true) = mets N (Z ++ [(b : Int)]) := by
  apply Array.ext'
  unfold mets
  apply List.ext_getElem?
  intro i
  by_cases hi : i < N + 1
  · by_cases hb : b = i
    · subst hb
      simp [hi]
    · have hb2 : ¬ ((i : Int) = (b : Int)) := by omega
      simp [hi, hb, hb2]
  · simp [hi]
theorem mets_0 (N : Nat) : madeCells #[.bool false] (N + 1) = mets N [] := by
  apply Array.ext'
  rw [toList_madeCells_one]
  unfold mets
  apply List.ext_getElem?
  intro i
  by_cases hi : i < N + 1
  · simp [hi]
  · simp [hi]
theorem infoB : (Try.prog.info? 4).map (fun i => (i.zero, i.size, i.bytes)) = some (some (.bool false), 1, 1) := by kernel_rfl
/-- What the iterator reads: the plan, the slice, the words. -/
structure It (W : World) (bp ba n0 : Nat) (p s l c k : Int) (ab ao n cap : Nat) (xs : List Int) : Prop where
  pb : At W bp #[.int .i64 p, .int .i64 s, .int .i64 l, .int .i64 c, .int .i64 k] 26
  sb : At W ba #[.slice (some ⟨ab, ao, none⟩) n cap] 24
  src : Src W (some ⟨ab, ao, none⟩) n xs
  lo : ab < n0
theorem It.keep {W W' : World} {bp ba n0 : Nat} {p s l c k : Int} {ab ao n cap : Nat} {xs : List Int} (h : It W bp ba n0 p s l c k ab ao n cap xs) (hb : Below W.heap.size W W') : It W' bp ba n0 p s l c k ab ao n cap xs :=
  ⟨h.pb.keep hb, h.sb.keep hb, h.src.keep hb, h.lo⟩
theorem src_low {W W' : World} {ab ao n n0 : Nat} {xs : List Int} (h : Src W (some ⟨ab, ao, none⟩) n xs) (hl : ab < n0) (hb : Below n0 W W') (hs : W.heap.size ≤ W'.heap.size) : Src W' (some ⟨ab, ao, none⟩) n xs := by
  refine ⟨h.1, ?_⟩
  rcases h.2 with h0 | ⟨b, o, e, h1, hc⟩
  · exact .inl h0
  · cases e
    exact .inr ⟨ab, ao, rfl, Nat.lt_of_lt_of_le h1 hs, fun i hi => (hb.cell (p := ⟨ab, ao + i, none⟩) hl).trans (hc i hi)⟩
/-- What a round that goes on keeps: all below n0, and all that is neither a number nor a slice of numbers. -/
structure Kp (n0 : Nat) (W W' : World) : Prop where
  low : Below n0 W W'
  size : W.heap.size ≤ W'.heap.size
  typ : ∀ b cs t, At W b cs t → t ≠ 2 → t ≠ 31 → At W' b cs t
theorem It.kp {W W' : World} {bp ba n0 : Nat} {p s l c k : Int} {ab ao n cap : Nat} {xs : List Int} (h : It W bp ba n0 p s l c k ab ao n cap xs) (hk : Kp n0 W W') : It W' bp ba n0 p s l c k ab ao n cap xs :=
  ⟨hk.typ _ _ _ h.pb (by decide) (by decide), hk.typ _ _ _ h.sb (by decide) (by decide), src_low h.src h.lo hk.low hk.size, h.lo⟩
theorem It.set {W : World} {bp ba n0 : Nat} {p s l c k : Int} {ab ao n cap : Nat} {xs : List Int} (h : It W bp ba n0 p s l c k ab ao n cap xs) {bm : Nat} {cs : Array Value} (hm : At W bm cs 4) (hb : n0 ≤ bm) (i : Nat) (v : Value) : It (W.setCell ⟨bm, i, none⟩ v) bp ba n0 p s l c k ab ao n cap xs := by
  have h1 : bp ≠ bm := by rintro rfl; have := h.pb.is.symm.trans hm.is; simp at this
  have h2 : ba ≠ bm := by rintro rfl; have := h.sb.is.symm.trans hm.is; simp at this
  refine ⟨h.pb.other h1 v, h.sb.other h2 v, src_low h.src h.lo ((Below.refl n0 W).setCell (p := ⟨bm, i, none⟩) hb v) ?_, h.lo⟩
  exact (KeepsWalks.setCell W _ v).size
set_option maxRecDepth 100000 in
set_option maxHeartbeats 4000000 in
theorem iIter (p s l c k r : Int) (L bp ba br n0 n1 ab ao n cap : Nat) (xs : List Int) (J : List Int → World → Prop) (Jx : World → Prop)
    (hJb : ∀ Z A B, J Z A → Below A.heap.size A B → J Z B) (hJs : ∀ Z A b cs i v, J Z A → n1 ≤ b → At A b cs 4 → J Z (A.setCell ⟨b, i, none⟩ v))
    (hY1 : ∀ Z x A, J Z A → Z.length < 250 → YieldAt Fence.wide 5 Try.prog L #[.int .i64 x, .bool true] A fun e B => e = .returned (.bool true) ∧ J (Z ++ [x]) B ∧ Kp n0 A B)
    (hY2 : ∀ Z x A, J Z A → YieldAt Fence.wide 5 Try.prog L #[.int .i64 x, .bool false] A fun e B => e = .returned (.bool false) ∧ Jx B)
    (bd : ∀ x ∈ xs, 0 ≤ x ∧ x ≤ 18446744073709551615) (hn : n ≤ 16777216) (ha : aOk p s l c k n = true) (r0 : 0 ≤ r) (r1 : r ≤ 4 + c)
    (W : World) (I : It W bp ba n0 p s l c k ab ao n cap xs) (rb : At W br #[.int .i64 r] 2) (hn0 : n0 ≤ W.heap.size) (hn1 : n1 ≤ W.heap.size) (j0 : J [] W) :
    Calls Try.prog 29 #[.func (.yield L) #[] #[], .pointer (some ⟨bp, 0, none⟩), .pointer (some ⟨ba, 0, none⟩), .pointer (some ⟨br, 0, none⟩)] W fun e W' => (∃ v, e = .returned v) ∧
      ((∃ ys, wlk p s l c k xs r = some ys ∧ J ys W') ∨ (wlk p s l c k xs r = none ∧ Jx W')) := by
  obtain ⟨ho, hz⟩ := aOk_y ha
  have h' := ok_iff.1 ho
  have HO : Hid (ok p s l c k = true) := ho
  have HA : Hid (aOk p s l c k n = true) := ha
  obtain ⟨N, hN⟩ : ∃ N : Nat, s + l = (N : Int) := ⟨(s + l).toNat, by omega⟩
  have hmk := run_make_row' (P := Try.prog) 52 4 (.bool false) 1 Try.underlying52 infoB rfl .i64 .i64 (N + 1) (by omega) (by omega)
  rw [show ((N + 1 : Nat) : Int) = (N : Int) + 1 from by omega, mets_0] at hmk
  have hNb : (N : Int) ≤ 250 := by omega
  have hNw : wrap64 ((N : Int) + 1) = (N : Int) + 1 := by unfold wrap64; omega
  obtain ⟨ri, hri, rin⟩ := rt_in (r := r) ha r0 r1
  have RI : Hid (vRoot p s l c k r = (ri : Int)) := hri
  have hrii : (ri : Int) < n := by omega
  obtain ⟨x, hx⟩ : ∃ x : Int, Hid (xs.getD ri 0 = x) := ⟨_, rfl⟩
  have xb := bd_getD bd ri
  rw [hx.out] at xb
  obtain ⟨R, hR⟩ : ∃ R, Hid (wlk p s l c k xs r = R) := ⟨_, rfl⟩
  rw [hR.out]
  have hR1 : Hid (wk (lnk p s l c k xs 1) (s + l) ((s + l).toNat + 1) [] (uI x) = R) := by
    show _ = _
    rw [← hR.out]; unfold wlk rt; rw [hri]; simp only [Int.toNat_natCast]; rw [hx.out]
  have HNN : Hid (s + l = (N : Int)) := hN
  have c0 := I.pb.cell 0
  have c1 := I.pb.cell 1
  have c2 := I.pb.cell 2
  have c3 := I.pb.cell 3
  have c4 := I.pb.cell 4
  simp at c0 c1 c2 c3 c4
  clear hz hri ha ho hN
  go_enter Try.func29, Try.ntmps29
  go_upto_region 1 with (go_at_call 30; refine (iBlocks _ _ _ _ _ _).mono ?_; rintro e w1 ⟨rfl, hb⟩; rw [vBlocks_y HO.out, HNN.out]; have I1 := I.keep hb; have rb1 := rb.keep hb; have j1 := hJb _ _ _ j0 hb; replace hn0 := Nat.le_trans hn0 hb.size; replace hn1 := Nat.le_trans hn1 hb.size; clear hb c0 c1 c2 c3 c4 I rb j0)
  have M := At.new w1 (mets N []) 4
  have j2 := hJb _ _ _ j1 ((Below.refl w1.heap.size w1).alloc (Nat.le_refl _) (.cells (mets N []) 4))
  have I2 := I1.keep ((Below.refl w1.heap.size w1).alloc (Nat.le_refl _) (.cells (mets N []) 4))
  have rb2 := rb1.keep ((Below.refl w1.heap.size w1).alloc (Nat.le_refl _) (.cells (mets N []) 4))
  clear I1 j1 rb1 hmk hNw
  generalize w1.alloc (.cells (mets N []) 4) = w2 at *
  have hBM : n0 ≤ w1.heap.size := hn0
  have hBM1 : n1 ≤ w1.heap.size := hn1
  generalize w1.heap.size = bm at *
  have e0 := rb2.cell 0
  have e1 := I2.sb.cell 0
  have c0 := I2.pb.cell 0
  have c1 := I2.pb.cell 1
  have c2 := I2.pb.cell 2
  have c3 := I2.pb.cell 3
  have c4 := I2.pb.cell 4
  simp at c0 c1 c2 c3 c4 e0 e1
  replace I2 := I2.keep (Below.refl _ _).drew
  replace rb2 := rb2.keep (Below.refl _ _).drew
  replace j2 := hJb _ _ _ j2 (Below.refl _ _).drew
  replace M := M.keep (Below.refl _ _).drew
  go_region_held3 (fun w' => w'.cell? ⟨bp, 0, none⟩ = some (.int .i64 p) ∧ w'.cell? ⟨bp, 1, none⟩ = some (.int .i64 s) ∧ w'.cell? ⟨bp, 2, none⟩ = some (.int .i64 l) ∧ w'.cell? ⟨bp, 3, none⟩ = some (.int .i64 c) ∧ w'.cell? ⟨bp, 4, none⟩ = some (.int .i64 k) ∧ w'.cell? ⟨ba, 0, none⟩ = some (.slice (some ⟨ab, ao, none⟩) n cap) ∧ w'.cell? ⟨br, 0, none⟩ = some (.int .i64 r)) (go_keep)
    (first
    | (go_at_call 32; refine (iRoot _ _ _ _ _ _ _).mono ?_; rintro e w3 ⟨rfl, hb⟩; rw [RI.out]; have I3 := I2.keep hb; have rb3 := rb2.keep hb; have j3 := hJb _ _ _ j2 hb; have M3 := M.keep hb; clear hb; have e0 := rb3.cell 0; have e1 := I3.sb.cell 0; have c0 := I3.pb.cell 0; have c1 := I3.pb.cell 1; have c2 := I3.pb.cell 2; have c3 := I3.pb.cell 3; have c4 := I3.pb.cell 4; simp at c0 c1 c2 c3 c4 e0 e1)
    | (go_at_call 31; refine (iIdx _ _ _ _ xs _ _ I3.src rin hn hx.out xb.1 xb.2).mono ?_; rintro e w4 ⟨rfl, hb⟩; have I4 := I3.keep hb; have rb4 := rb3.keep hb; have j4 := hJb _ _ _ j3 hb; have M4 := M3.keep hb; clear hb; have e0 := rb4.cell 0; have e1 := I4.sb.cell 0; have c0 := I4.pb.cell 0; have c1 := I4.pb.cell 1; have c2 := I4.pb.cell 2; have c3 := I4.pb.cell 3; have c4 := I4.pb.cell 4; simp at c0 c1 c2 c3 c4 e0 e1))
  go_wp2
  clear I2 rb2 j2 M I3 rb3 j3 M3 c0 c1 c2 c3 c4 e0 e1 rb4
  have ub := uI_bd5 (x := x)
  generalize uI x = b at hR1 ub
  go_loopg [6] ((s + l).toNat + 1) (fun g' z wr => ∃ (b : Int) (Z : List Int), (0 ≤ b ∧ b ≤ 65535) ∧ z = .int .i64 b ∧ Fresh (s + l) Z ∧ g' + Z.length = (s + l).toNat + 1 ∧ wk (lnk p s l c k xs 1) (s + l) g' Z b = R ∧ It wr bp ba n0 p s l c k ab ao n cap xs ∧ At wr bm (mets N Z) 4 ∧ J Z wr)
  case atStart => exact ⟨b, [], ub, rfl, Fresh.nil _, by simp, hR1.out, I4, M4, j4⟩
  case round =>
    clear hR1 ub I4 M4 j4
    obtain ⟨b, Z, bb, rfl, hF, hg, hW, I, M, j⟩ := hrel
    have FL := hF.len (by omega)
    obtain ⟨f, rfl⟩ : ∃ f, gk = f + 1 := ⟨gk - 1, by omega⟩
    have HF : Hid (Fresh (s + l) Z) := hF
    have HW : Hid (wk (lnk p s l c k xs 1) (s + l) (f + 1) Z b = R) := hW
    clear hF hW
    by_cases hb0 : b = 0
    · subst hb0
      go_wp2
      go_end0
      have e := HW.out
      rw [wk_0] at e
      exact ⟨⟨_, rfl⟩, .inl ⟨Z, e.symm, j⟩⟩
    · have c0 := I.pb.cell 0
      have c1 := I.pb.cell 1
      have c2 := I.pb.cell 2
      have c3 := I.pb.cell 3
      have c4 := I.pb.cell 4
      simp at c0 c1 c2 c3 c4
      by_cases hb1 : 1 ≤ b ∧ b ≤ s + l
      · obtain ⟨cl, hcl, hcl0⟩ : ∃ cl : Int, Hid (vClass p s l c k b = cl) ∧ 0 ≤ cl := by
          refine ⟨_, rfl, ?_⟩
          unfold vClass
          rw [if_pos ⟨HO.out, hb1⟩]
          split <;> omega
        obtain ⟨bn, rfl⟩ : ∃ bn : Nat, b = (bn : Int) := ⟨b.toNat, by omega⟩
        have hbn : bn ≤ N := by have := HNN.out; omega
        have hbN : (bn : Int) < (N : Int) + 1 := by omega
        by_cases hm : (bn : Int) ∈ Z
        · go_upto_region 4 with (go_at_call 33; refine (iClass _ _ _ _ _ _ _).mono ?_; rintro e w5 ⟨rfl, hb⟩; rw [hcl.out]; have I5 := I.keep hb; have j5 := hJb _ _ _ j hb; have M5 := M.keep hb; clear hb c0 c1 c2 c3 c4 I j M; have m0 := (M5.cell bn).trans (mets_at hbn); rw [decide_eq_true hm] at m0)
          obtain ⟨fn, tmps, assign, body, hy, hR⟩ := hY2 Z (bn : Int) w5 j5
          refine (wpIn_wide (n := 6)).1 ?_
          gi_wp2
          refine hR.mono ?_
          rintro e W3 ⟨rfl, hx⟩
          gi_wp2
          go_wp2
          refine bodyPost_ret (results_none rfl _ _ _) rfl ?_
          have e := HW.out
          rw [wk_n hb0 (fun h => h.2.2 hm)] at e
          exact ⟨⟨_, rfl⟩, .inr ⟨e.symm, hx⟩⟩
        · obtain ⟨i, ei, hin⟩ := link_in (f := 1) HA.out hb1.1 hb1.2 (by omega) (by omega)
          have EI : Hid (vBlock p s l c k (bn : Int) 1 = (i : Int)) := ei
          clear ei
          obtain ⟨y, hy⟩ : ∃ y : Int, Hid (xs.getD i 0 = y) := ⟨_, rfl⟩
          have yb := bd_getD bd i
          rw [hy.out] at yb
          have HN : Hid (lnk p s l c k xs 1 (bn : Int) = uI y) := by show _ = _; unfold lnk; rw [EI.out]; simp only [Int.toNat_natCast]; rw [hy.out]
          have FN := HF.out.snoc ⟨hb1.1, hb1.2, hm⟩
          have FL2 := FN.len (by omega)
          have HN2 : Hid (Fresh (s + l) (Z ++ [(bn : Int)])) := FN
          rw [List.length_append] at FL2
          simp only [List.length_cons, List.length_nil] at FL2
          clear FN
          have hM : Hid ((bn : Int) ∉ Z) := hm
          go_upto_region 4 with (go_at_call 33; refine (iClass _ _ _ _ _ _ _).mono ?_; rintro e w5 ⟨rfl, hb⟩; rw [hcl.out]; have I5 := I.keep hb; have j5 := hJb _ _ _ j hb; have M5 := M.keep hb; clear hb c0 c1 c2 c3 c4 I j M; have m0 := (M5.cell bn).trans (mets_at hbn); rw [decide_eq_false hm] at m0)
          obtain ⟨fn, tmps, assign, body, hyy, hR⟩ := hY1 Z (bn : Int) w5 j5 (by omega)
          refine (wpIn_wide (n := 6)).1 ?_
          gi_wp2
          refine hR.mono ?_
          rintro e W3 ⟨rfl, j6, kp⟩
          have I6 := I5.kp kp
          have M6 := kp.typ _ _ _ M5 (by decide) (by decide)
          clear m0 hyy hR I5 j5 M5 kp
          gi_wp2
          have m1 := (M6.cell bn).trans (mets_at hbn)
          have m2 := M6.frozen bn
          have bmn : n0 ≤ bm := hBM
          go_upto_region 6 with fail
          have j7 := hJs _ _ _ _ bn (.bool true) j6 hBM1 M6
          have I7 := I6.set M6 hBM bn (.bool true)
          have M7 := M6.set bn (.bool true)
          rw [mets_set] at M7
          clear j6 I6 M6 m1 m2
          generalize W3.setCell ⟨bm, bn, none⟩ (.bool true) = W7 at *
          have e1 := I7.sb.cell 0
          have c0 := I7.pb.cell 0
          have c1 := I7.pb.cell 1
          have c2 := I7.pb.cell 2
          have c3 := I7.pb.cell 3
          have c4 := I7.pb.cell 4
          simp at c0 c1 c2 c3 c4 e1
          replace I7 := I7.keep (Below.refl _ _).drew
          replace j7 := hJb _ _ _ j7 (Below.refl _ _).drew
          replace M7 := M7.keep (Below.refl _ _).drew
          go_region_held3 (fun w' => w'.cell? ⟨bp, 0, none⟩ = some (.int .i64 p) ∧ w'.cell? ⟨bp, 1, none⟩ = some (.int .i64 s) ∧ w'.cell? ⟨bp, 2, none⟩ = some (.int .i64 l) ∧ w'.cell? ⟨bp, 3, none⟩ = some (.int .i64 c) ∧ w'.cell? ⟨bp, 4, none⟩ = some (.int .i64 k) ∧ w'.cell? ⟨ba, 0, none⟩ = some (.slice (some ⟨ab, ao, none⟩) n cap)) (go_keep)
            (first
            | (go_at_call 34; refine (iBlock _ _ _ _ _ _ _ _).mono ?_; rintro e w8 ⟨rfl, hb⟩; rw [EI.out]; have I8 := I7.keep hb; have j8 := hJb _ _ _ j7 hb; have M8 := M7.keep hb; clear hb; have e1 := I8.sb.cell 0; have c0 := I8.pb.cell 0; have c1 := I8.pb.cell 1; have c2 := I8.pb.cell 2; have c3 := I8.pb.cell 3; have c4 := I8.pb.cell 4; simp at c0 c1 c2 c3 c4 e1)
            | (go_at_call 31; refine (iIdx _ _ _ _ xs _ _ I8.src hin hn hy.out yb.1 yb.2).mono ?_; rintro e w9 ⟨rfl, hb⟩; have I9 := I8.keep hb; have j9 := hJb _ _ _ j8 hb; have M9 := M8.keep hb; clear hb; have e1 := I9.sb.cell 0; have c0 := I9.pb.cell 0; have c1 := I9.pb.cell 1; have c2 := I9.pb.cell 2; have c3 := I9.pb.cell 3; have c4 := I9.pb.cell 4; simp at c0 c1 c2 c3 c4 e1))
          go_wp2
          go_roundg f
          case measure => omega
          case rel =>
            refine ⟨uI y, Z ++ [(bn : Int)], uI_bd5, rfl, HN2.out, by rw [List.length_append]; simp only [List.length_cons, List.length_nil]; omega, ?_, I9, M9, j9⟩
            rw [← HN.out, ← wk_y hb0 ⟨hb1.1, hb1.2, hM.out⟩]
            exact HW.out
      · have hcl : Hid (vClass p s l c k b = -1) := by
          show _ = _
          unfold vClass
          rw [if_neg (fun h => hb1 h.2)]
        go_upto_region 4 with (go_at_call 33; refine (iClass _ _ _ _ _ _ _).mono ?_; rintro e w5 ⟨rfl, hb⟩; rw [hcl.out]; have j5 := hJb _ _ _ j hb; clear hb c0 c1 c2 c3 c4 I j M)
        obtain ⟨fn, tmps, assign, body, hy, hR⟩ := hY2 Z b w5 j5
        refine (wpIn_wide (n := 6)).1 ?_
        gi_wp2
        refine hR.mono ?_
        rintro e W3 ⟨rfl, hx⟩
        gi_wp2
        go_wp2
        refine bodyPost_ret (results_none rfl _ _ _) rfl ?_
        have e := HW.out
        rw [wk_n hb0 (fun h => hb1 ⟨h.1, h.2.1⟩)] at e
        exact ⟨⟨_, rfl⟩, .inr ⟨e.symm, hx⟩⟩
end Go.Proofs.Ytdebjfgflldpjaa
