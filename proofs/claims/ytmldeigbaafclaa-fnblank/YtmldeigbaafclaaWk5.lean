/-
  Walks: the first values of blocks, and the cells, in the specification and in the program.
-/
import Derived.Test.YtmldeigbaafclaaWk4
import Derived.Deep.AppendLies
namespace Go.Proofs.Ytmldeigbaafclaa
open Go.RowKit
set_option linter.unusedVariables false
set_option linter.unusedSimpArgs false
theorem Nsrc.grown {W W' : World} {a : Option Addr} {n base : Nat} {xs : List Int} {row : Option Nat} (h : Nsrc W a n xs) (hl : ∀ b o, a = some ⟨b, o, none⟩ → 0 < n → b < base) (hg : W.grownBy W' row) (hr : ∀ j, row = some j → base ≤ j) : Nsrc W' a n xs := by
  refine ⟨h.1, ?_⟩
  rcases h.2 with h0 | ⟨b, o, rfl, hlt, hc⟩
  · exact .inl h0
  · by_cases h0 : n = 0
    · exact .inl h0
    · have hb := hl b o rfl (by omega)
      refine .inr ⟨b, o, rfl, Nat.lt_of_lt_of_le hlt hg.size, fun i hi => (World.cell?_of_block (w := W) (a := ⟨b, o + i, none⟩) (hg.block b hlt (fun e => ?_))).trans (hc i hi)⟩
      have := hr b e.symm
      omega
theorem Nsrc.at_ {w : World} {b o n i : Nat} {xs : List Int} (h : Nsrc w (.some ⟨b, o, none⟩) n xs) (hi : i < n) : w.cell? ⟨b, o + i, none⟩ = .some (.int .i64 (xs.getD i 0)) := by
  rcases h.2 with h0 | ⟨b', o', e, _, hc⟩
  · omega
  · cases e
    exact hc i hi
theorem take_map {f : Int → Int} {ys : List Int} {i m : Nat} {y : Int} (hl : ys.length = m) (hi : i < m) (hy : ys.getD i 0 = y) : (ys.take (i + 1)).map f = (ys.take i).map f ++ [f y] := by
  have e : ys[i]? = some y := by rw [← hy]; simp [hl, hi]
  rw [List.take_add_one, e]
  simp
theorem Ga.rows {w0 w : World} {q base : Nat} {p s l c k : Int} {v : Value} {Z : List Int} {a : Option Addr} {n : Nat} {xs : List Int} (h : Ga w0 w q base p s l c k v Z a n xs) : ∀ j, v.ownBlock = some j → base ≤ j := fun j e => (World.ownsRow.lt h.own j e).1
/-- What l5Values, firstValues and the like hand back. -/
def list1 (w w' : World) (e : Ending) (ys : List Int) : Prop :=
  ∃ g m cc, e = .returned (.slice (some ⟨g, 0, none⟩) m cc) ∧ w.heap.size ≤ g ∧ Is w' g m cc ys ∧ m ≤ 250 ∧ Below w.heap.size w w'
set_option maxHeartbeats 4000000 in
theorem iVals (p s l c k : Int) (a : Option Addr) (n cap : Nat) (xs : List Int) (la : Option Addr) (m lc : Nat) (ys : List Int) (w : World) (h : Src w a n xs) (bd : ∀ x ∈ xs, 0 ≤ x ∧ x ≤ 18446744073709551615) (hn : n ≤ 16777216)
    (hy : Nsrc w la m ys) (hm : m ≤ 250) (hok : ∀ y ∈ ys, ∃ i : Nat, vBlock p s l c k y 2 = (i : Int) ∧ i < n) :
    Calls Try.prog 43 #[.agg #[.int .i64 p, .int .i64 s, .int .i64 l, .int .i64 c, .int .i64 k], .slice a n cap, .slice la m lc] w fun e w' => list1 w w' e (ys.map (lnk p s l c k xs 2)) := by
  obtain ⟨i0, hi, hz0, hz1, hz2⟩ := info_parts infoI
  have st := Ga.start w p s l c k a n xs h
  have hy1 : Nsrc w la m ys := hy
  have lo : ∀ b o, la = some ⟨b, o, none⟩ → 0 < m → b < w.heap.size + 1 := by
    rintro b o rfl h0
    rcases hy.2 with h1 | ⟨b', o', e, h2, _⟩
    · omega
    · cases e; omega
  replace hy := hy.keep st.low
  obtain ⟨f, hf⟩ : ∃ f : Int → Int, Hid (lnk p s l c k xs 2 = f) := ⟨_, rfl⟩
  rw [hf.out]
  have yl : ys.length = m := hy.1
  clear h hy1
  go_enter Try.func43, Try.ntmps43
  go_wp2
  go_loopg [7, 13] m (fun g' x y wr => ∃ i : Nat, i ≤ m ∧ g' + i = m ∧ y = .int .i64 (i : Int) ∧ Nsrc wr la m ys ∧ Ga w wr w.heap.size (w.heap.size + 1) p s l c k x ((ys.take i).map f) a n xs)
  case atStart => exact ⟨0, by omega, by omega, rfl, hy, st⟩
  case round =>
    clear st hy
    obtain ⟨i, i0', hg, rfl, hy, st⟩ := hrel
    by_cases him : i < m
    · have him' : (i : Int) < (m : Int) := by omega
      obtain ⟨lb, lo2, rfl⟩ : ∃ b o, la = some ⟨b, o, none⟩ := by
        rcases hy.2 with h0 | ⟨b, o, e, _⟩
        · omega
        · exact ⟨b, o, e⟩
      have d0 := hy.at_ him
      obtain ⟨y, hyy⟩ : ∃ y : Int, Hid (ys.getD i 0 = y) := ⟨_, rfl⟩
      rw [hyy.out] at d0
      have hmem : y ∈ ys := by rw [← hyy.out]; exact List.mem_of_getElem? (i := i) (by simp [yl, him])
      obtain ⟨j, hj, hjn⟩ := hok y hmem
      have EJ : Hid (vBlock p s l c k y 2 = (j : Int)) := hj
      obtain ⟨x, hx⟩ : ∃ x : Int, Hid (xs.getD j 0 = x) := ⟨_, rfl⟩
      have xb := bd_getD bd j
      rw [hx.out] at xb
      have HX : Hid (f y = uI x) := by show _ = _; rw [← hf.out]; unfold lnk; rw [hj]; simp only [Int.toNat_natCast]; rw [hx.out]
      have HT : Hid ((ys.take (i + 1)).map f = (ys.take i).map f ++ [uI x]) := by show _ = _; rw [take_map yl him hyy.out, HX.out]
      have HL : Hid (((ys.take i).map f).length ≤ 250) := by show _ ≤ _; rw [List.length_map, List.length_take]; omega
      generalize (ys.take i).map f = Z at *
      clear hj hmem
      obtain ⟨c0, c1, c2, c3, c4⟩ := st.box.five
      go_wp2_with (first
        | (go_at_call 39; refine (iBlock _ _ _ _ _ _ _ _).mono ?_; rintro e w3 ⟨rfl, hb⟩; rw [EJ.out]; replace st := st.keep hb; replace hy := hy.keep hb; clear hb c0 c1 c2 c3 c4 d0)
        | (go_at_call 46; refine (iIdx _ _ _ _ xs _ _ st.src hjn hn hx.out xb.1 xb.2).mono ?_; rintro e w4 ⟨rfl, hb⟩; replace st := st.keep hb; replace hy := hy.keep hb; clear hb)
        | (at_builtin; refine wpList_append_own _ rfl (.tmp 17) (.tmp 23) 29 rfl (w.heap.size + 1) 2 i0 (.int .i64 0) 1 8 Try.underlying29 hi hz0 hz1 hz2 rfl (by decide) _ _ _ rfl (Ga.own (Ga.keep st (by go_grown))) ⟨_, 0, none⟩ 1 1 [.int .i64 (uI x)] rfl rfl (one_cell4 _ _ _ _ (by simp)) (one_int4 _) (L_max HL) (L_bytes HL) (Ga.bs (Ga.keep st (by go_grown))) ?_; intro v' w5 ho' hg' hn'; have hy2 := Nsrc.grown (Nsrc.keep hy (by go_grown)) lo hg' (Ga.rows st); have st2 := Ga.app (Ga.keep st (by go_grown)) ho' hg' hn'; clear ho' hg' hn' st hy))
      go_roundg (gk - 1)
      case measure => omega
      case rel => exact ⟨i + 1, by omega, by omega, by go_num, hy2, by rw [HT.out]; exact st2⟩
    · obtain rfl : i = m := by omega
      go_wp2
      go_ret
      rw [← yl, List.take_length] at st
      obtain ⟨g, cc, rfl, h1, h2⟩ := st.is
      exact ⟨_, _, _, rfl, h1, h2, by rw [List.length_map]; omega, st.low⟩
set_option maxHeartbeats 4000000 in
theorem sVals (p s l c k : Int) (a : Option Addr) (n cap : Nat) (xs : List Int) (la : Option Addr) (m lc : Nat) (ys : List Int) (w : World) (h : Src w a n xs) (bd : ∀ x ∈ xs, 0 ≤ x ∧ x ≤ 18446744073709551615) (hn : n ≤ 16777216)
    (hy : Nsrc w la m ys) (hm : m ≤ 250) (hok : ∀ y ∈ ys, ∃ i : Nat, vBlock p s l c k y 2 = (i : Int) ∧ i < n) :
    Calls Try.prog 53 #[.agg #[.int .i64 p, .int .i64 s, .int .i64 l, .int .i64 c, .int .i64 k], .slice a n cap, .slice la m lc] w fun e w' => list1 w w' e (ys.map (lnk p s l c k xs 2)) := by
  obtain ⟨i0, hi, hz0, hz1, hz2⟩ := info_parts infoI
  have st := Ga.start w p s l c k a n xs h
  have hf0 := run_wordI
  have lo : ∀ b o, la = some ⟨b, o, none⟩ → 0 < m → b < w.heap.size + 1 := by
    rintro b o rfl h0
    rcases hy.2 with h1 | ⟨b', o', e, h2, _⟩
    · omega
    · cases e; omega
  replace hy := hy.keep st.low
  obtain ⟨f, hf⟩ : ∃ f : Int → Int, Hid (lnk p s l c k xs 2 = f) := ⟨_, rfl⟩
  rw [hf.out]
  have yl : ys.length = m := hy.1
  clear h
  go_enter Try.func53, Try.ntmps53
  go_wp2
  go_loopg [7, 8] m (fun g' x y wr => ∃ i : Nat, i ≤ m ∧ g' + i = m ∧ y = .int .i64 (i : Int) ∧ Nsrc wr la m ys ∧ Ga w wr w.heap.size (w.heap.size + 1) p s l c k x ((ys.take i).map f) a n xs)
  case atStart => exact ⟨0, by omega, by omega, rfl, hy, st⟩
  case round =>
    clear st hy
    obtain ⟨i, i0', hg, rfl, hy, st⟩ := hrel
    by_cases him : i < m
    · have him' : (i : Int) < (m : Int) := by omega
      obtain ⟨lb, lo2, rfl⟩ : ∃ b o, la = some ⟨b, o, none⟩ := by
        rcases hy.2 with h0 | ⟨b, o, e, _⟩
        · omega
        · exact ⟨b, o, e⟩
      obtain ⟨y, hyy⟩ : ∃ y : Int, Hid (ys.getD i 0 = y) := ⟨_, rfl⟩
      have hmem : y ∈ ys := by rw [← hyy.out]; exact List.mem_of_getElem? (i := i) (by simp [yl, him])
      obtain ⟨j, hj, hjn⟩ := hok y hmem
      have EJ : Hid (vBlock p s l c k y 2 = (j : Int)) := hj
      obtain ⟨x, hx⟩ : ∃ x : Int, Hid (xs.getD j 0 = x) := ⟨_, rfl⟩
      have xb := bd_getD bd j
      rw [hx.out] at xb
      have HX : Hid (f y = uI x) := by show _ = _; rw [← hf.out]; unfold lnk; rw [hj]; simp only [Int.toNat_natCast]; rw [hx.out]
      have HT : Hid ((ys.take (i + 1)).map f = (ys.take i).map f ++ [uI x]) := by show _ = _; rw [take_map yl him hyy.out, HX.out]
      have HL : Hid (((ys.take i).map f).length ≤ 250) := by show _ ≤ _; rw [List.length_map, List.length_take]; omega
      generalize (ys.take i).map f = Z at *
      clear hj hmem
      obtain ⟨g0, cc0, rfl, g0e, -⟩ := st.is
      have d0 := hy.at_ him
      rw [hyy.out] at d0
      obtain ⟨c0, c1, c2, c3, c4⟩ := st.box.five
      go_upto_region 5 with fail
      replace st := st.keep (Below.refl _ _).drew
      replace hy := hy.keep (Below.refl _ _).drew
      go_region_held3 (fun w' => w'.cell? ⟨w.heap.size, 0, none⟩ = some (.int .i64 p) ∧ w'.cell? ⟨w.heap.size, 1, none⟩ = some (.int .i64 s) ∧ w'.cell? ⟨w.heap.size, 2, none⟩ = some (.int .i64 l) ∧ w'.cell? ⟨w.heap.size, 3, none⟩ = some (.int .i64 c) ∧ w'.cell? ⟨w.heap.size, 4, none⟩ = some (.int .i64 k) ∧ w'.cell? ⟨lb, lo2 + i, none⟩ = some (.int .i64 y)) (go_keep)
        (first
        | (go_at_call 67; refine (sField _ _ _ _ _ _ _ x _ _ _ j xs _ st.src hjn hn EJ.out hx.out xb.1 xb.2).mono ?_; rintro e w3 ⟨rfl, hb⟩; have st1 := st.keep hb; have hy1 := hy.keep hb; clear hb; have d0 := hy1.at_ him; rw [hyy.out] at d0; obtain ⟨c0, c1, c2, c3, c4⟩ := st1.box.five)
        | (refine step_append_lies _ rfl _ _ 29 rfl (w.heap.size + 1) 2 i0 (.int .i64 0) 1 8 Try.underlying29 hi hz0 hz1 hz2 rfl (by decide) _ _ _ rfl (Ga.own (Ga.keep st1 (by go_grown))) ⟨_, 0, none⟩ 1 1 [.int .i64 (uI x)] rfl rfl (one_cell4 _ _ _ _ (by simp)) (one_int4 _) (by decide) (L_max HL) (L_bytes HL) (Ga.bs (Ga.keep st1 (by go_grown))) _ rfl ?_; intro v' cap' w5 ho' hg' hat' hlt'; have hy2 := Nsrc.grown (Nsrc.keep hy1 (by go_grown)) lo hg' (Ga.rows st1); have st2 := Ga.app (Ga.keep st1 (by go_grown)) ho' hg' (by simp); clear ho' hg' hat' hlt'; have d0 := hy2.at_ him; rw [hyy.out] at d0; obtain ⟨c0, c1, c2, c3, c4⟩ := st2.box.five))
      go_wp2
      go_roundg (gk - 1)
      case measure => omega
      case rel => exact ⟨i + 1, by omega, by omega, by go_num, hy2, by rw [HT.out]; exact st2⟩
    · obtain rfl : i = m := by omega
      go_wp2
      go_ret
      rw [← yl, List.take_length] at st
      obtain ⟨g, cc, rfl, h1, h2⟩ := st.is
      exact ⟨_, _, _, rfl, h1, h2, by rw [List.length_map]; omega, st.low⟩
end Go.Proofs.Ytmldeigbaafclaa
