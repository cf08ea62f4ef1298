/-
  Walks: what hangs from a root, as a plain function; the specification's walk.
-/
import Derived.Test.YtdebjfgflldpjaaHds4
namespace Go.Proofs.Ytdebjfgflldpjaa
open Go.RowKit
set_option maxRecDepth 100000
set_option linter.unusedVariables false
set_option linter.unusedSimpArgs false
/-- From b on, 'seen' having been met; none where the walk is broken. -/
def wk (nx : Int → Int) (N : Int) : Nat → List Int → Int → Option (List Int)
  | 0, _, _ => none
  | f + 1, seen, b => if b = 0 then some seen else if 1 ≤ b ∧ b ≤ N ∧ b ∉ seen then wk nx N f (seen ++ [b]) (nx b) else none
theorem wk_0 (nx : Int → Int) (N : Int) (f : Nat) (seen : List Int) : wk nx N (f + 1) seen 0 = some seen := by simp [wk]
theorem wk_y {nx : Int → Int} {N : Int} {f : Nat} {seen : List Int} {b : Int} (h0 : b ≠ 0) (h : 1 ≤ b ∧ b ≤ N ∧ b ∉ seen) : wk nx N (f + 1) seen b = wk nx N f (seen ++ [b]) (nx b) := by
  conv => lhs; unfold wk
  rw [if_neg h0, if_pos h]
theorem wk_n {nx : Int → Int} {N : Int} {f : Nat} {seen : List Int} {b : Int} (h0 : b ≠ 0) (h : ¬ (1 ≤ b ∧ b ≤ N ∧ b ∉ seen)) : wk nx N (f + 1) seen b = none := by
  conv => lhs; unfold wk
  rw [if_neg h0, if_neg h]
/-- Numbers from 1 to N, none twice. -/
structure Fresh (N : Int) (l : List Int) : Prop where
  nd : l.Nodup
  bd : ∀ x ∈ l, 1 ≤ x ∧ x ≤ N
theorem Fresh.nil (N : Int) : Fresh N [] := ⟨List.nodup_nil, by simp⟩
theorem Fresh.snoc {N : Int} {l : List Int} {b : Int} (h : Fresh N l) (hb : 1 ≤ b ∧ b ≤ N ∧ b ∉ l) : Fresh N (l ++ [b]) := by
  refine ⟨?_, fun x hx => ?_⟩
  · rw [List.nodup_append]
    refine ⟨h.nd, by simp, fun x hx y hy => ?_⟩
    simp at hy
    subst hy
    rintro rfl
    exact hb.2.2 hx
  · rcases List.mem_append.1 hx with h1 | h1
    · exact h.bd x h1
    · simp at h1; omega
theorem pig : ∀ (N : Nat) (l : List Int), l.Nodup → (∀ x ∈ l, 1 ≤ x ∧ x ≤ (N : Int)) → l.length ≤ N
  | 0, l, _, h => by
    cases l with
    | nil => simp
    | cons x l => have := h x (by simp); omega
  | N + 1, l, hn, h => by
    by_cases hm : ((N : Int) + 1) ∈ l
    · have h1 := pig N (l.erase ((N : Int) + 1)) (hn.erase _) (fun x hx => by
        have hx' := (hn.mem_erase_iff).1 hx
        have := h x hx'.2
        have h3 := hx'.1
        omega)
      have h2 := List.length_erase_of_mem hm
      have h3 := List.length_pos_of_mem hm
      omega
    · have h1 := pig N l hn (fun x hx => by
        have := h x hx
        have h3 : x ≠ (N : Int) + 1 := fun e => hm (e ▸ hx)
        omega)
      omega
theorem Fresh.len {N : Int} {l : List Int} (h : Fresh N l) (hN : 0 ≤ N) : l.length ≤ N.toNat := pig N.toNat l h.nd (fun x hx => by have := h.bd x hx; omega)
theorem wk_fresh {nx : Int → Int} {N : Int} : ∀ (f : Nat) (seen : List Int) (b : Int) (ys : List Int), Fresh N seen → wk nx N f seen b = some ys → Fresh N ys
  | 0, _, _, _, _, h => by simp [wk] at h
  | f + 1, seen, b, ys, hf, h => by
    by_cases h0 : b = 0
    · subst h0; rw [wk_0] at h; cases h; exact hf
    · by_cases h1 : 1 ≤ b ∧ b ≤ N ∧ b ∉ seen
      · rw [wk_y h0 h1] at h; exact wk_fresh f _ _ _ (hf.snoc h1) h
      · rw [wk_n h0 h1] at h; cases h
/-- The word f of block b, its Index. -/
def lnk (p s l c k : Int) (xs : List Int) (f b : Int) : Int := uI (xs.getD (vBlock p s l c k b f).toNat 0)
def rt (p s l c k : Int) (xs : List Int) (r : Int) : Int := uI (xs.getD (vRoot p s l c k r).toNat 0)
def wlk (p s l c k : Int) (xs : List Int) (r : Int) : Option (List Int) := wk (lnk p s l c k xs 1) (s + l) ((s + l).toNat + 1) [] (rt p s l c k xs r)
theorem wlk_len {p s l c k : Int} {xs : List Int} {r : Int} (ho : ok p s l c k = true) : ((wlk p s l c k xs r).getD []).length ≤ 250 := by
  have h' := ok_iff.1 ho
  cases h : wlk p s l c k xs r with
  | none => simp
  | some ys =>
    have := (wk_fresh _ _ _ _ (Fresh.nil _) h).len (by omega)
    simp
    omega
theorem root_in2 {p s l c k r : Int} (h : ok p s l c k = true) (r0 : 0 ≤ r) (r1 : r ≤ 4 + c) : ∃ i : Nat, vRoot p s l c k r = (i : Int) ∧ (i : Int) < zF p s l c := by
  have h' := ok_iff.1 h
  have hq := sq_bd h'.1 h'.2.1
  have e : vRoot p s l c k r = rF p + r := by unfold vRoot; rw [if_pos ⟨h, by omega, by omega⟩]
  exact ⟨(rF p + r).toNat, by rw [e]; unfold rF; omega, by unfold zF rF; omega⟩
set_option maxHeartbeats 1000000 in
theorem sHas5 (a : Option Addr) (n c : Nat) (xs : List Int) (v : Int) (w : World) (h : Nsrc w a n xs) (hn : n ≤ 1048576) :
    Calls Try.prog 20 #[.slice a n c, .int .i64 v] w fun e w' => e = .returned (.bool (decide (v ∈ xs))) ∧ w' = w := by
  go_enter Try.func20, Try.ntmps20
  go_wp2
  go_loopg [5] n (fun g' y wr => ∃ i : Nat, i ≤ n ∧ g' = n - i ∧ y = .int .i64 i ∧ (∀ j, j < i → xs.getD j 0 ≠ v) ∧ wr = w)
  case atStart => exact ⟨0, Nat.zero_le _, rfl, rfl, fun j hj => by omega, rfl⟩
  case round =>
    obtain ⟨i, i0, hg, rfl, hj, rfl⟩ := hrel
    have HJ : Hid (∀ j, j < i → xs.getD j 0 ≠ v) := hj
    clear hj
    by_cases hi : i < n
    · have hi' : (i : Int) < n := by omega
      obtain ⟨b1, o1, rfl, hl1, hc1⟩ := h.2.resolve_left (by omega)
      have c1 := hc1 i hi
      clear hc1
      obtain ⟨x, hx⟩ : ∃ x : Int, Hid (xs.getD i 0 = x) := ⟨_, rfl⟩
      rw [hx.out] at c1
      by_cases hv : x = v
      · subst hv
        go_wp2
        go_ret
        refine ⟨rett (decide_eq_true ?_), rfl⟩
        rw [← hx.out]
        have e : xs[i]? = some (xs.getD i 0) := by simp [h.1, hi]
        exact List.mem_of_getElem? e
      · go_wp2
        go_roundg (gk - 1)
        case measure => omega
        case rel =>
          refine ⟨i + 1, by omega, by omega, by go_num, fun j hj => ?_, rfl⟩
          by_cases hji : j = i
          · subst hji; rw [hx.out]; exact hv
          · exact HJ.out j (by omega)
    · obtain rfl : i = n := by omega
      go_wp2
      go_ret
      refine ⟨retf (decide_eq_false fun hm => ?_), rfl⟩
      obtain ⟨j, hj, e⟩ := List.mem_iff_getElem.1 hm
      exact absurd (by simpa [hj] using e) (HJ.out j (by have := h.1; omega))
theorem link_in {p s l c k : Int} {n : Nat} {b f : Int} (h : aOk p s l c k n = true) (b0 : 1 ≤ b) (b1 : b ≤ s + l) (f0 : 0 ≤ f) (f1 : f ≤ 2) : ∃ i : Nat, vBlock p s l c k b f = (i : Int) ∧ i < n := by
  obtain ⟨ho, hz⟩ := aOk_y h
  obtain ⟨i, h1, h2⟩ := blk_in (f := f) ho b0 b1 f0 f1
  exact ⟨i, h1, by omega⟩
theorem rt_in {p s l c k : Int} {n : Nat} {r : Int} (h : aOk p s l c k n = true) (r0 : 0 ≤ r) (r1 : r ≤ 4 + c) : ∃ i : Nat, vRoot p s l c k r = (i : Int) ∧ i < n := by
  obtain ⟨ho, hz⟩ := aOk_y h
  obtain ⟨i, h1, h2⟩ := root_in2 ho r0 r1
  exact ⟨i, h1, by omega⟩
theorem uI_bd5 {x : Int} : 0 ≤ uI x ∧ uI x ≤ 65535 := by unfold uI; omega
theorem t2 {v : Value} {a b : Bool} (h : a = b) : Ending.returned (.tuple #[v, .bool a]) = .returned (.tuple #[v, .bool b]) := by rw [h]
/-- What l5Walk and blocksFrom hand back. -/
def gives (w w' : World) (e : Ending) (R : Option (List Int)) : Prop :=
  ∃ g m cc, e = .returned (.tuple #[.slice (some ⟨g, 0, none⟩) m cc, .bool R.isSome]) ∧ w.heap.size ≤ g ∧ Is w' g m cc (R.getD []) ∧ m ≤ 250 ∧ Below w.heap.size w w'
theorem Is.lit (w : World) : Is (w.alloc (.cells #[] 2)) w.heap.size 0 0 [] := ⟨rfl, by simpa using ilit w 0 (Nat.zero_le _)⟩
set_option maxHeartbeats 4000000 in
theorem sWalk (p s l c k r : Int) (a : Option Addr) (n cap : Nat) (xs : List Int) (w : World) (h : Src w a n xs) (bd : ∀ x ∈ xs, 0 ≤ x ∧ x ≤ 18446744073709551615) (hn : n ≤ 16777216) (ha : aOk p s l c k n = true) (r0 : 0 ≤ r) (r1 : r ≤ 4 + c) :
    Calls Try.prog 13 #[.agg #[.int .i64 p, .int .i64 s, .int .i64 l, .int .i64 c, .int .i64 k], .slice a n cap, .int .i64 r] w fun e w' => gives w w' e (wlk p s l c k xs r) := by
  obtain ⟨i0, hi, hz0, hz1, hz2⟩ := info_parts infoI
  have st := Ga.start w p s l c k a n xs h
  have hl := wlk_len (xs := xs) (r := r) (aOk_y ha).1
  obtain ⟨ho, hz⟩ := aOk_y ha
  have h' := ok_iff.1 ho
  have HO : Hid (ok p s l c k = true) := ho
  have HA : Hid (aOk p s l c k n = true) := ha
  have hf := run_wordI
  obtain ⟨ri, hri, rin⟩ := rt_in (r := r) ha r0 r1
  have RI : Hid (vRoot p s l c k r = (ri : Int)) := hri
  have hrii : (ri : Int) < n := by omega
  obtain ⟨x, hx⟩ : ∃ x : Int, Hid (xs.getD ri 0 = x) := ⟨_, rfl⟩
  have xb := bd_getD bd ri
  rw [hx.out] at xb
  obtain ⟨ab, ao, rfl⟩ := h.some (by omega)
  obtain ⟨R, hR⟩ : ∃ R, Hid (wlk p s l c k xs r = R) := ⟨_, rfl⟩
  rw [hR.out] at hl ⊢
  have hR1 : Hid (wk (lnk p s l c k xs 1) (s + l) ((s + l).toNat + 1) [] (uI x) = R) := by
    show _ = _
    rw [← hR.out]; unfold wlk rt; rw [hri]; simp only [Int.toNat_natCast]; rw [hx.out]
  obtain ⟨c0, c1, c2, c3, c4⟩ := st.box.five
  clear hz hri h ha ho
  go_enter Try.func13, Try.ntmps13
  go_wp2_with (first
    | (go_at_call 18; refine (sRoot _ _ _ _ _ _ _).mono ?_; rintro e w1 ⟨rfl, hb⟩; rw [RI.out]; replace st := st.keep hb; clear hb c0 c1 c2 c3 c4; have d1 := st.src.at_ rin; rw [hx.out] at d1)
    | (go_at_call 17; refine (sIndex4 _ xb.1 xb.2 _).mono ?_; rintro e w2 ⟨rfl, hb⟩; replace st := st.keep hb; clear hb d1))
  have ub := uI_bd5 (x := x)
  generalize uI x = b at hR1 ub
  go_loopg [8, 9] ((s + l).toNat + 1) (fun g' y z wr => ∃ (b : Int) (Z : List Int), (0 ≤ b ∧ b ≤ 65535) ∧ z = .int .i64 b ∧ Fresh (s + l) Z ∧ g' + Z.length = (s + l).toNat + 1 ∧ wk (lnk p s l c k xs 1) (s + l) g' Z b = R ∧ Ga w wr w.heap.size (w.heap.size + 1) p s l c k y Z (some ⟨ab, ao, none⟩) n xs)
  case atStart => exact ⟨b, [], ub, rfl, Fresh.nil _, by simp, hR1.out, st⟩
  case round =>
    clear st hR1 ub
    obtain ⟨b, Z, bb, rfl, hF, hg, hW, st⟩ := hrel
    obtain ⟨g, cc, rfl, hge, hI⟩ := st.is
    have FL := hF.len (by omega)
    obtain ⟨f, rfl⟩ : ∃ f, gk = f + 1 := ⟨gk - 1, by omega⟩
    have HL : Hid (Z.length ≤ 250) := by show _ ≤ _; omega
    obtain ⟨c0, c1, c2, c3, c4⟩ := st.box.five
    have HF : Hid (Fresh (s + l) Z) := hF
    have HW : Hid (wk (lnk p s l c k xs 1) (s + l) (f + 1) Z b = R) := hW
    clear hF hW
    by_cases hb0 : b = 0
    · subst hb0
      go_wp2
      go_returns
      have e := HW.out
      rw [wk_0] at e
      subst e
      obtain ⟨g, cc, e2, h1, h2⟩ := st.is
      cases e2
      exact ⟨_, _, _, rfl, h1, h2, HL.out, st.low⟩
    · by_cases hb1 : 1 ≤ b ∧ b ≤ s + l
      · have hB : inB b 1 (s + l) = true := decide_eq_true hb1
        by_cases hm : b ∈ Z
        · have hM : decide (b ∈ Z) = true := decide_eq_true hm
          go_wp2_with (first
            | (go_at_call 19; refine (sBlk _ _ _ _ _ _ HO.out _).mono ?_; rintro e w3 ⟨rfl, hb⟩; rw [hB]; replace st := st.keep hb; clear hb c0 c1 c2 c3 c4)
            | (go_at_call 20; obtain ⟨g9, cc9, hv9, -, hI9⟩ := st.is; cases hv9; refine (sHas5 _ _ _ Z _ _ hI9.src (by have := HL.out; omega)).mono ?_; rintro e w4 ⟨rfl, rfl⟩; rw [hM]))
          go_returns
          have e := HW.out
          rw [wk_n hb0 (fun h => h.2.2 hm)] at e
          subst e
          exact ⟨_, _, _, rfl, Nat.le_trans st.wb st.bs, Is.lit _, Nat.zero_le _, st.low.alloc st.low.size _⟩
        · have hM : decide (b ∈ Z) = false := decide_eq_false hm
          obtain ⟨i, ei, hin⟩ := link_in (f := 1) HA.out hb1.1 hb1.2 (by omega) (by omega)
          have EI : Hid (vBlock p s l c k b 1 = (i : Int)) := ei
          clear ei
          obtain ⟨y, hy⟩ : ∃ y : Int, Hid (xs.getD i 0 = y) := ⟨_, rfl⟩
          have yb := bd_getD bd i
          rw [hy.out] at yb
          have HN : Hid (lnk p s l c k xs 1 b = uI y) := by show _ = _; unfold lnk; rw [EI.out]; simp only [Int.toNat_natCast]; rw [hy.out]
          have FN := HF.out.snoc ⟨hb1.1, hb1.2, hm⟩
          have FL2 := FN.len (by omega)
          have HN2 : Hid (Fresh (s + l) (Z ++ [b])) := FN
          rw [List.length_append] at FL2
          simp only [List.length_cons, List.length_nil] at FL2
          clear FN
          go_wp2_with (first
            | (go_at_call 19; refine (sBlk _ _ _ _ _ _ HO.out _).mono ?_; rintro e w3 ⟨rfl, hb⟩; rw [hB]; replace st := st.keep hb; clear hb c0 c1 c2 c3 c4)
            | (go_at_call 20; obtain ⟨g9, cc9, hv9, -, hI9⟩ := st.is; cases hv9; refine (sHas5 _ _ _ Z _ _ hI9.src (by have := HL.out; omega)).mono ?_; rintro e w4 ⟨rfl, rfl⟩; rw [hM]; clear hI9 hI)
            | (at_builtin; refine wpList_append_own _ rfl (.tmp 30) (.tmp 32) 31 rfl (w.heap.size + 1) 2 i0 (.int .i64 0) 1 8 Try.underlying31 hi hz0 hz1 hz2 rfl (by decide) _ _ _ rfl (Ga.own (Ga.keep st (by go_grown))) ⟨_, 0, none⟩ 1 1 [.int .i64 b] rfl rfl (one_cell4 _ _ _ _ (by simp)) (one_int4 _) (L_max HL) (L_bytes HL) (Ga.bs (Ga.keep st (by go_grown))) ?_; intro v' w5 ho' hg' hn'; have st2 := Ga.app (Ga.keep st (by go_grown)) ho' hg' hn'; clear ho' hg' hn' st; obtain ⟨c0, c1, c2, c3, c4⟩ := st2.box.five)
            | (go_at_call 21; refine (sField _ _ _ _ _ _ _ y _ _ _ i xs _ st2.src hin hn EI.out hy.out yb.1 yb.2).mono ?_; rintro e w6 ⟨rfl, hb⟩; replace st2 := st2.keep hb; clear hb c0 c1 c2 c3 c4))
          go_roundg f
          case measure => omega
          case rel =>
            refine ⟨uI y, Z ++ [b], uI_bd5, rfl, HN2.out, by rw [List.length_append]; simp only [List.length_cons, List.length_nil]; omega, ?_, st2⟩
            rw [← HN.out, ← wk_y hb0 ⟨hb1.1, hb1.2, hm⟩]
            exact HW.out
      · have hB : inB b 1 (s + l) = false := decide_eq_false hb1
        go_wp2_with (first
          | (go_at_call 19; refine (sBlk _ _ _ _ _ _ HO.out _).mono ?_; rintro e w3 ⟨rfl, hb⟩; rw [hB]; replace st := st.keep hb; clear hb c0 c1 c2 c3 c4))
        go_returns
        have e := HW.out
        rw [wk_n hb0 (fun h => hb1 ⟨h.1, h.2.1⟩)] at e
        subst e
        exact ⟨_, _, _, rfl, Nat.le_trans st.wb st.bs, Is.lit _, Nat.zero_le _, st.low.alloc st.low.size _⟩
end Go.Proofs.Ytdebjfgflldpjaa
