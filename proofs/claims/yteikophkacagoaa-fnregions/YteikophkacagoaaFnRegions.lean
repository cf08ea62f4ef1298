/-
  The places of all slots, notes, roots and blocks of any plan that the dice throw are all places below its size, each once; nothing that was there is changed. No condition.
-/
import Derived.Test.YteikophkacagoaaRows
import Derived.Test.YteikophkacagoaaCode
import Derived.Test.YteikophkacagoaaDiceP
import Derived.Test.YteikophkacagoaaPlan7
import Derived.Test.YteikophkacagoaaLists
import Derived.Deep.LoopGhost
import Derived.OwnWalk
import Derived.Deep.OwnRows
import Derived.Laws.OwnMore
import Derived.WalkKit
import Derived.ProofKit
import Derived.OpenShut
import Derived.ChangeOld
import Derived.Below
import Derived.Lib.SmallJoins
namespace Go.Proofs.Yteikophkacagoaa.fnRegions
open Go.ChangeShapes Go.WideShapes Go.ChangeAt Go.RowKit
set_option linter.unusedVariables false
theorem info : (Try.prog.info? 2).map (fun i => (i.zero, i.size, i.bytes)) = some (some (.int .i64 0), 1, 8) := by kernel_rfl
theorem infoB : (Try.prog.info? 4).map (fun i => (i.zero, i.size, i.bytes)) = some (some (.bool false), 1, 1) := by kernel_rfl
theorem one_cell (w : World) (x : Int) (t : TypeId) : ∀ (j : Nat) (u : Value), [Value.int .i64 x][j]? = some u → (w.alloc (.cells #[.int .i64 x] t)).cell? ((⟨w.heap.size, 0, none⟩ : Addr).add j) = some u := by
  intro j u hj
  match j, hj with
  | 0, hj => simp at hj; subst hj; simp [Addr.add]
theorem one_int (x : Int) : ∀ u ∈ [Value.int .i64 x], u.oneCell' = true := by
  intro u hu
  simp at hu
  subst hu
  rfl
theorem cls {p s l c k b : Int} (ho : ok p s l c k = true) (b0 : 1 ≤ b) (b1 : b ≤ s + l) : wid s b = 3 + 2 * vClass p s l c k b ∧ 0 ≤ vClass p s l c k b ∧ vClass p s l c k b ≤ 1 := by
  have e : vClass p s l c k b = if b ≤ s then 0 else 1 := by unfold vClass; exact if_pos ⟨ho, b0, b1⟩
  rw [e]
  unfold wid
  by_cases h : b ≤ s
  · simp only [if_pos h]; omega
  · simp only [if_neg h]; omega
/-- What stands while the places are counted off: the list, and of each place whether it has been met. -/
structure Sn (w0 w : World) (g h base cp : Nat) (Z : List Int) (i : Nat) : Prop where
  own : Own w base (.slice (some ⟨g, 0, none⟩) Z.length cp) Z
  seen : ∃ cs : Array Value, At w h cs 4 ∧ ∀ x : Nat, x < Z.length → cs[x]? = some (.bool (decide ((x : Int) ∈ Z.take i)))
  gh : g ≠ h
  hb : w0.heap.size ≤ h
  low : Below w0.heap.size w0 w
theorem Sn.start {w0 w : World} {g base cp : Nat} {Z : List Int} (ho : Own w base (.slice (some ⟨g, 0, none⟩) Z.length cp) Z) (lo : Below w0.heap.size w0 w) :
    Sn w0 (w.alloc (.cells (madeCells #[.bool false] Z.length) 4)) g w.heap.size base cp Z 0 := by
  have hg : g < w.heap.size := (World.ownsRow.lt ho g rfl).2
  refine ⟨ho.keep ((Below.refl _ _).alloc (Nat.le_refl _) _), ⟨_, At.new _ _ _, fun x hx => ?_⟩, by omega, lo.size, lo.alloc lo.size _⟩
  rw [← Array.getElem?_toList, toList_madeCells_one, List.getElem?_replicate, if_pos hx]
  simp
theorem Sn.cell {w0 w : World} {g h base cp : Nat} {Z : List Int} {i : Nat} (s : Sn w0 w g h base cp Z i) (hi : i < Z.length) : w.cell? ⟨g, i, none⟩ = some (.int .i64 (Z.getD i 0)) := by
  have := World.ownsRow.cellAt s.own i (by omega)
  rw [this]
  simp [hi]
theorem Sn.met {w0 w : World} {g h base cp : Nat} {Z : List Int} {i : Nat} (s : Sn w0 w g h base cp Z i) (hi : i < Z.length) (nod : Z.Nodup) (x : Nat) (hx : (x : Int) = Z.getD i 0) (hl : x < Z.length) : w.cell? ⟨h, x, none⟩ = some (.bool false) ∧ w.frozen? ⟨h, x, none⟩ = false := by
  obtain ⟨cs, a, hc⟩ := s.seen
  refine ⟨?_, a.frozen x⟩
  rw [a.cell, hc x hl]
  have : ¬ (x : Int) ∈ Z.take i := by
    intro hm
    obtain ⟨j, hj, e⟩ := List.mem_iff_getElem.1 hm
    have hj' : j < min i Z.length := by simpa using hj
    rw [List.getElem_take] at e
    have e2 : Z.getD i 0 = Z[i] := by simp [hi]
    exact List.pairwise_iff_getElem.1 nod j i (by omega) hi (by omega) (e.trans (hx.trans e2))
  simp [this]
theorem Sn.step {w0 w : World} {g h base cp : Nat} {Z : List Int} {i : Nat} (s : Sn w0 w g h base cp Z i) (hi : i < Z.length) (x : Nat) (hx : (x : Int) = Z.getD i 0) : Sn w0 (w.setCell ⟨h, x, none⟩ (.bool true)) g h base cp Z (i + 1) := by
  obtain ⟨cs, a, hc⟩ := s.seen
  refine ⟨?_, ⟨_, a.set x _, fun y hy => ?_⟩, s.gh, s.hb, s.low.setCell (p := ⟨h, x, none⟩) s.hb _⟩
  · exact World.ownsRow.kept (row := some h) s.own ⟨rfl, rfl, rfl, by simp [World.setCell], fun k hk hne => Below.heap_setCell _ _ _ _ (fun e => hne (by rw [e]))⟩ (.inr (by simp [Value.ownBlock]; exact s.gh))
  · have hcy := hc y hy
    have hyc : y < cs.size := (Array.getElem?_eq_some_iff.1 hcy).1
    have ht : Z.take (i + 1) = Z.take i ++ [Z.getD i 0] := by
      rw [List.take_add_one]
      simp [hi]
    rw [Array.getElem?_setIfInBounds, ht]
    by_cases e : x = y
    · subst e
      rw [if_pos rfl, if_pos hyc, hx]
      simp
    · rw [if_neg e, hcy]
      have : ¬ (y : Int) = Z.getD i 0 := by rw [← hx]; omega
      simp only [List.mem_append, List.mem_singleton, this, or_false]
theorem Gd_max {Z : List Int} {n a b e : Int} (h : Hid (Gd Z n a b e)) (hn : n ≤ 6000) : Z.length + 1 ≤ maxLen := by
  have := h.out.len
  unfold maxLen
  omega
theorem Gd_bytes {Z : List Int} {n a b e : Int} (h : Hid (Gd Z n a b e)) (hn : n ≤ 6000) : (Z.length + 1) * 8 ≤ 140737488355328 := by
  have := h.out.len
  omega
set_option maxHeartbeats 8000000 in
theorem walk (a : Option Addr) (len cap : Nat) (zs : List Int) (w : World) (hr : IsRow .u8 w a len cap zs) :
    Calls Try.prog 4 #[.slice a len cap] w fun e w' => e = .returned (.bool true) ∧ Below w.heap.size w w' := by
  obtain ⟨i0, hi, hz0, hz1, hz2⟩ := info_parts info
  go_enter Try.func4, Try.ntmps4
  go_wp2_with fail
  refine (big_any a len cap _ hr.small).mono ?_
  rintro e w0 ⟨rfl, rfl⟩
  by_cases hl : (4096 : Int) < len
  · rw [decide_eq_true hl]
    go_wp2
    go_ret
    exact ⟨rfl, Below.refl _ _⟩
  · rw [decide_eq_false hl]
    go_wp2_with fail
    refine (roll_any a len cap _ _ (by omega) hr.row).mono ?_
    rintro e w1 ⟨d, rfl, hd, b1⟩
    clear hl hr
    go_wp2_with fail
    refine (plan_dice _ d _ hd).mono ?_
    rintro e w2 ⟨p, s, l, c, k, rfl, hs, -, k2⟩
    have ho : Hid (ok p s l c k = true) := hs.ok
    have low := b1.trans (k2.below hd.ge b1.size)
    have st0 : St w0 ((w2.alloc (Obj.cells #[.int .i64 p, .int .i64 s, .int .i64 l, .int .i64 c, .int .i64 k] 25)).alloc (Obj.cells #[] 2)) w2.heap.size (w2.heap.size + 1) p s l c k (.slice (some ⟨w2.heap.size + 1, 0, none⟩) 0 0) [] := by
      have e : (w2.alloc (Obj.cells #[.int .i64 p, .int .i64 s, .int .i64 l, .int .i64 c, .int .i64 k] 25)).heap.size = w2.heap.size + 1 := by simp
      have hl := low.size
      refine ⟨?_, (Box5.new w2 _ _ _ _ _ _).keep ((Below.refl _ _).alloc (Nat.le_refl _) _), by omega, by simp, by omega, (low.alloc hl _).alloc (by simp; omega) _⟩
      rw [← e]
      exact Own.lit _ _ (Nat.le_refl _)
    clear b1 k2 hd low
    unfold okS at hs
    go_wp2
    generalize w2.heap.size = q at *
    generalize hbase : q + 1 = base at *
    clear hbase
    go_loopg [4, 5] (p.toNat) (fun g x y wr => ∃ (i : Int) (Z : List Int), 0 ≤ i ∧ i ≤ p ∧ (g : Int) = p - i ∧ y = .int .i64 i ∧ St w0 wr q base p s l c k x Z ∧ Gd Z (i * (7 + p)) (i * 7) (nF p) (nF p + i * p))
    case atStart => exact ⟨0, [], by omega, by omega, by omega, rfl, st0, by simpa using Gd.nil _⟩
    case round =>
      obtain ⟨i, Z, i0', i1, hgo, rfl, st, G0⟩ := hrel
      have G : Hid (Gd Z (i * (7 + p)) (i * 7) (nF p) (nF p + i * p)) := G0
      clear G0 st0
      obtain ⟨c0, c1, c2, c3, c4⟩ := st.box.five
      by_cases hip : i < p
      · have hm : Hid (0 ≤ i * p ∧ i * p ≤ 4032 ∧ i * p + p ≤ p * p) := mul_bd i0' (by omega) (by omega)
        have hm2 : Hid ((i + 1) * p = i * p + p ∧ i * (7 + p) = i * 7 + i * p ∧ (i + 1) * (7 + p) = i * (7 + p) + 7 + p) := by
          refine ⟨?_, ?_, ?_⟩
          · rw [Int.add_mul]; omega
          · rw [Int.mul_add]
          · rw [Int.add_mul]; omega
        have hn : Hid (nF p = 7 * p) := rfl
        go_wp2
        clear c0 c1 c2 c3 c4
        obtain ⟨wo, rfl⟩ : ∃ wo : World, wo = wr := ⟨_, rfl⟩
        go_loopg [4, 6] 7 (fun g x y wr => ∃ (f : Int) (Z : List Int), 0 ≤ f ∧ f ≤ 7 ∧ (g : Int) = 7 - f ∧ y = .int .i64 f ∧ St w0 wr q base p s l c k x Z ∧ Gd Z (i * (7 + p) + f) (i * 7 + f) (nF p) (nF p + i * p))
        case atStart => exact ⟨0, Z, by omega, by omega, by omega, rfl, st, by simpa using G.out⟩
        case round =>
          clear st G Z
          obtain ⟨f, Z, f0, f1, hg, rfl, st, G0⟩ := hrel
          have hG : Hid (Gd Z (i * (7 + p) + f) (i * 7 + f) (nF p) (nF p + i * p)) := G0
          clear G0
          obtain ⟨c0, c1, c2, c3, c4⟩ := st.box.five
          by_cases hf : f < 7
          · obtain ⟨x, hx⟩ : ∃ x : Int, x = i * 7 + f := ⟨_, rfl⟩
            have X : Hid (vSlot p s l c k i f = x) := by
              show _ = _
              rw [hx]
              unfold vSlot
              rw [if_pos ⟨ho.out, ⟨i0', by omega⟩, f0, by omega⟩]
            have HX : Hid (x = i * 7 + f) := hx
            have hbig : i * (7 + p) + f ≤ 6000 := by have := hm.out; have := hm2.out; omega
            clear hx
            go_wp2_with (first
              | (go_at_call 17; refine (iSlot _ _ _ _ _ _ _ _).mono ?_; rintro e w1 ⟨rfl, hb⟩; rw [X.out]; have st0 := st.keep hb; clear hb; have st1 := st0.keep ((Below.refl _ _).alloc (Nat.le_refl _) (Obj.cells #[.int .i64 x] 2)))
              | (at_builtin; refine wpList_append_own _ rfl (.tmp 30) (.tmp 35) 39 rfl base 2 i0 (.int .i64 0) 1 8 Try.underlying39 hi hz0 hz1 hz2 rfl (by decide) _ _ _ rfl st1.own ⟨w1.heap.size, 0, none⟩ 1 1 [.int .i64 x] rfl rfl (one_cell _ _ _) (one_int _) (Gd_max hG hbig) (Gd_bytes hG hbig) st1.bs ?_; intro v' w3 ho' hg' hn'; have st2 := st1.app ho' hg'; clear ho' hg' hn' st0 st1))
            go_wp2
            go_roundg (gk - 1)
            case measure => omega
            case rel =>
              have h1 := hn.out
              have h2 := hm.out
              refine ⟨f + 1, Z ++ [x], by omega, by omega, by omega, by go_num, st2, ?_⟩
              have g := hG.out.push1 (by omega) (by omega)
              rw [← HX.out] at g
              rw [HX.out] at g ⊢
              rw [show i * (7 + p) + (f + 1) = i * (7 + p) + f + 1 from by omega, show i * 7 + (f + 1) = i * 7 + f + 1 from by omega]
              exact g
          · obtain rfl : f = 7 := by omega
            go_wp2
            clear c0 c1 c2 c3 c4
            obtain ⟨wq, rfl⟩ : ∃ wq : World, wq = wr := ⟨_, rfl⟩
            go_loopg [4, 7] (p.toNat) (fun g x y wr => ∃ (j : Int) (Z : List Int), 0 ≤ j ∧ j ≤ p ∧ (g : Int) = p - j ∧ y = .int .i64 j ∧ St w0 wr q base p s l c k x Z ∧ Gd Z (i * (7 + p) + 7 + j) (i * 7 + 7) (nF p) (nF p + i * p + j))
            case atStart => exact ⟨0, Z, by omega, by omega, by omega, rfl, st, by simpa using hG.out⟩
            case round =>
              clear st hG Z
              obtain ⟨j, Z, j0, j1, hgj, rfl, st, G0⟩ := hrel
              have hG : Hid (Gd Z (i * (7 + p) + 7 + j) (i * 7 + 7) (nF p) (nF p + i * p + j)) := G0
              clear G0
              obtain ⟨c0, c1, c2, c3, c4⟩ := st.box.five
              by_cases hj : j < p
              · obtain ⟨x, hx⟩ : ∃ x : Int, x = nF p + i * p + j := ⟨_, rfl⟩
                have X : Hid (vNote p s l c k i j = x) := by
                  show _ = _
                  rw [hx]
                  unfold vNote
                  rw [if_pos ⟨ho.out, ⟨i0', by omega⟩, j0, by omega⟩]
                have HX : Hid (x = nF p + i * p + j) := hx
                have hbig : i * (7 + p) + 7 + j ≤ 6000 := by have := hm.out; have := hm2.out; omega
                clear hx
                go_wp2_with (first
                  | (go_at_call 18; refine (iNote _ _ _ _ _ _ _ _).mono ?_; rintro e w1 ⟨rfl, hb⟩; rw [X.out]; have st0 := st.keep hb; clear hb; have st1 := st0.keep ((Below.refl _ _).alloc (Nat.le_refl _) (Obj.cells #[.int .i64 x] 2)))
                  | (at_builtin; refine wpList_append_own _ rfl (.tmp 43) (.tmp 48) 39 rfl base 2 i0 (.int .i64 0) 1 8 Try.underlying39 hi hz0 hz1 hz2 rfl (by decide) _ _ _ rfl st1.own ⟨w1.heap.size, 0, none⟩ 1 1 [.int .i64 x] rfl rfl (one_cell _ _ _) (one_int _) (Gd_max hG hbig) (Gd_bytes hG hbig) st1.bs ?_; intro v' w3 ho' hg' hn'; have st2 := st1.app ho' hg'; clear ho' hg' hn' st0 st1))
                go_wp2
                go_roundg (gk - 1)
                case measure => omega
                case rel =>
                  have h1 := hn.out
                  have h2 := hm.out
                  refine ⟨j + 1, Z ++ [x], by omega, by omega, by omega, by go_num, st2, ?_⟩
                  have g := hG.out.push2 (by omega) (by omega)
                  rw [HX.out, show i * (7 + p) + 7 + (j + 1) = i * (7 + p) + 7 + j + 1 from by omega, show nF p + i * p + (j + 1) = nF p + i * p + j + 1 from by omega]
                  exact g
              · obtain rfl : j = p := by omega
                go_wp2
                go_roundg ((j - i - 1).toNat)
                case measure => omega
                case rel =>
                  obtain ⟨h1, h2, h3⟩ := hm2.out
                  refine ⟨i + 1, Z, by omega, by omega, by omega, by go_num, st, ?_⟩
                  have g := hG.out
                  rw [h3, h1, show (i + 1) * 7 = i * 7 + 7 from by omega, show nF j + (i * j + j) = nF j + i * j + j from by omega]
                  exact g
      · obtain rfl : p = i := by omega
        have hG1 : Hid (Gd Z (rF p + 0) (rF p + 0) (rF p) (rF p)) := by
          have g := G.out
          have e1 : nF p = p * 7 := by unfold nF; omega
          have e2 : rF p = nF p + p * p := (eqs p s l c).1
          have e3 := bds ho.out
          rw [← e1, ← e2, show p * (7 + p) = rF p from by rw [Int.mul_add]; omega] at g
          rw [Int.add_zero]
          exact g.join (by omega) (by omega)
        have hd := bds ho.out
        clear G
        go_wp2
        clear c0 c1 c2 c3 c4
        obtain ⟨wo, rfl⟩ : ∃ wo : World, wo = wr := ⟨_, rfl⟩
        go_loopg [4, 8] ((5 + c).toNat) (fun g x y wr => ∃ (j : Int) (Z : List Int), 0 ≤ j ∧ j ≤ 5 + c ∧ (g : Int) = 5 + c - j ∧ y = .int .i64 j ∧ St w0 wr q base p s l c k x Z ∧ Gd Z (rF p + j) (rF p + j) (rF p) (rF p))
        case atStart => exact ⟨0, Z, by omega, by omega, by omega, rfl, st, hG1.out⟩
        case round =>
          clear st hG1 Z
          obtain ⟨j, Z, j0, j1, hgj, rfl, st, G0⟩ := hrel
          have hG : Hid (Gd Z (rF p + j) (rF p + j) (rF p) (rF p)) := G0
          clear G0
          obtain ⟨c0, c1, c2, c3, c4⟩ := st.box.five
          by_cases hj : j < 5 + c
          · obtain ⟨x, hx⟩ : ∃ x : Int, x = rF p + j := ⟨_, rfl⟩
            have X : Hid (vRoot p s l c k j = x) := by
              show _ = _
              rw [hx]
              unfold vRoot
              rw [if_pos ⟨ho.out, j0, by omega⟩]
            have HX : Hid (x = rF p + j) := hx
            have hbig : rF p + j ≤ 6000 := by omega
            clear hx
            go_wp2_with (first
              | (go_at_call 19; refine (iRoot _ _ _ _ _ _ _).mono ?_; rintro e w1 ⟨rfl, hb⟩; rw [X.out]; have st0 := st.keep hb; clear hb; have st1 := st0.keep ((Below.refl _ _).alloc (Nat.le_refl _) (Obj.cells #[.int .i64 x] 2)))
              | (at_builtin; refine wpList_append_own _ rfl (.tmp 57) (.tmp 61) 39 rfl base 2 i0 (.int .i64 0) 1 8 Try.underlying39 hi hz0 hz1 hz2 rfl (by decide) _ _ _ rfl st1.own ⟨w1.heap.size, 0, none⟩ 1 1 [.int .i64 x] rfl rfl (one_cell _ _ _) (one_int _) (Gd_max hG hbig) (Gd_bytes hG hbig) st1.bs ?_; intro v' w3 ho' hg' hn'; have st2 := st1.app ho' hg'; clear ho' hg' hn' st0 st1))
            go_wp2
            go_roundg (gk - 1)
            case measure => omega
            case rel =>
              refine ⟨j + 1, Z ++ [x], by omega, by omega, by omega, by go_num, st2, ?_⟩
              have g := hG.out.push1 (by omega) (by omega)
              rw [HX.out, show rF p + (j + 1) = rF p + j + 1 from by omega]
              exact g
          · have hG1 : Hid (Gd Z (sF p c + wS s (1 - 1)) (sF p c + wS s (1 - 1)) (rF p) (rF p)) := by
              have e1 := (eqs p s l c).2.1
              rw [show sF p c + wS s (1 - 1) = rF p + j from by unfold wS; rw [if_pos (by omega)]; omega]
              exact hG.out
            have X : Hid (vBlocks p s l c k = s + l) := by show _ = _; unfold vBlocks; rw [if_pos ho.out]
            clear hG
            go_wp2
            clear c0 c1 c2 c3 c4
            obtain ⟨wq, rfl⟩ : ∃ wq : World, wq = wr := ⟨_, rfl⟩
            go_loopg [4, 9] ((s + l).toNat) (fun g x y wr => ∃ (b : Int) (Z : List Int), 1 ≤ b ∧ b ≤ s + l + 1 ∧ (g : Int) = s + l + 1 - b ∧ y = .int .i64 b ∧ St w0 wr q base p s l c k x Z ∧ Gd Z (sF p c + wS s (b - 1)) (sF p c + wS s (b - 1)) (rF p) (rF p))
            case atStart => exact ⟨1, Z, by omega, by omega, by omega, rfl, st, hG1.out⟩
            case round =>
              clear st hG1 Z
              obtain ⟨b, Z, b0, b1, hgb, rfl, st, G0⟩ := hrel
              have hG : Hid (Gd Z (sF p c + wS s (b - 1)) (sF p c + wS s (b - 1)) (rF p) (rF p)) := G0
              clear G0
              obtain ⟨c0, c1, c2, c3, c4⟩ := st.box.five
              have hw : Hid (0 ≤ wS s (b - 1) ∧ wS s (b - 1) ≤ 100 ∧ wS s (b - 1) + wid s b = wS s b) := ⟨by unfold wS; split <;> omega, by unfold wS; split <;> omega, wS_succ s b⟩
              go_wp2_with fail
              refine (iBlocks _ _ _ _ _ _).mono ?_
              rintro e w1 ⟨rfl, hb⟩
              rw [X.out]
              replace st := st.keep hb
              clear hb c0 c1 c2 c3 c4
              obtain ⟨c0, c1, c2, c3, c4⟩ := st.box.five
              by_cases hbs : b ≤ s + l
              · have hG1 : Hid (Gd Z (sF p c + wS s (b - 1) + 0) (sF p c + wS s (b - 1) + 0) (rF p) (rF p)) := by rw [Int.add_zero]; exact hG.out
                obtain ⟨cl, hcl⟩ : ∃ cl : Int, vClass p s l c k b = cl := ⟨_, rfl⟩
                obtain ⟨h1, h2, h3⟩ := cls ho.out b0 hbs
                have CL : Hid (vClass p s l c k b = cl ∧ wid s b = 3 + 2 * cl) := ⟨hcl, by rw [← hcl]; exact h1⟩
                have cl0 : 0 ≤ cl ∧ cl ≤ 1 := by rw [← hcl]; exact ⟨h2, h3⟩
                clear h1 h2 h3
                clear hG hcl
                go_wp2
                clear c0 c1 c2 c3 c4
                go_loopg [4, 10] (5) (fun g x y wr => ∃ (f : Int) (Z : List Int), 0 ≤ f ∧ f ≤ 3 + 2 * cl ∧ (g : Int) = 5 - f ∧ y = .int .i64 f ∧ St w0 wr q base p s l c k x Z ∧ Gd Z (sF p c + wS s (b - 1) + f) (sF p c + wS s (b - 1) + f) (rF p) (rF p))
                case atStart => exact ⟨0, Z, by omega, by omega, by omega, rfl, st, hG1.out⟩
                case round =>
                  clear st hG1 Z
                  obtain ⟨f, Z, f0, f1, hgf, rfl, st, G0⟩ := hrel
                  have hG : Hid (Gd Z (sF p c + wS s (b - 1) + f) (sF p c + wS s (b - 1) + f) (rF p) (rF p)) := G0
                  clear G0
                  obtain ⟨c0, c1, c2, c3, c4⟩ := st.box.five
                  go_wp2_with fail
                  refine (iClass _ _ _ _ _ _ _).mono ?_
                  rintro e w1 ⟨rfl, hb⟩
                  rw [CL.out.1]
                  replace st := st.keep hb
                  clear hb c0 c1 c2 c3 c4
                  obtain ⟨c0, c1, c2, c3, c4⟩ := st.box.five
                  by_cases hf : f < 3 + 2 * cl
                  · obtain ⟨x, hx⟩ : ∃ x : Int, x = sF p c + wS s (b - 1) + f := ⟨_, rfl⟩
                    have X2 : Hid (vBlock p s l c k b f = x) := by
                      show _ = _
                      rw [hx, vBlock_of ho.out ⟨b0, hbs⟩ f0, if_pos (by have := CL.out.2; omega)]
                    have HX : Hid (x = sF p c + wS s (b - 1) + f) := hx
                    have hbig : sF p c + wS s (b - 1) + f ≤ 6000 := by have := hw.out; omega
                    clear hx
                    go_wp2_with (first
                      | (go_at_call 20; refine (iBlock _ _ _ _ _ _ _ _).mono ?_; rintro e w1 ⟨rfl, hb⟩; rw [X2.out]; have st0 := st.keep hb; clear hb; have st1 := st0.keep ((Below.refl _ _).alloc (Nat.le_refl _) (Obj.cells #[.int .i64 x] 2)))
                      | (at_builtin; refine wpList_append_own _ rfl (.tmp 78) (.tmp 83) 39 rfl base 2 i0 (.int .i64 0) 1 8 Try.underlying39 hi hz0 hz1 hz2 rfl (by decide) _ _ _ rfl st1.own ⟨w1.heap.size, 0, none⟩ 1 1 [.int .i64 x] rfl rfl (one_cell _ _ _) (one_int _) (Gd_max hG hbig) (Gd_bytes hG hbig) st1.bs ?_; intro v' w3 ho' hg' hn'; have st2 := st1.app ho' hg'; clear ho' hg' hn' st0 st1))
                    go_wp2
                    go_roundg (gk - 1)
                    case measure => omega
                    case rel =>
                      refine ⟨f + 1, Z ++ [x], by omega, by omega, by omega, by go_num, st2, ?_⟩
                      have h1 := hw.out
                      have g := hG.out.push1 (by omega) (by omega)
                      rw [HX.out, show sF p c + wS s (b - 1) + (f + 1) = sF p c + wS s (b - 1) + f + 1 from by omega]
                      exact g
                  · go_wp2
                    go_roundg ((s + l - b).toNat)
                    case measure => omega
                    case rel =>
                      refine ⟨b + 1, Z, by omega, by omega, by omega, by go_num, st, ?_⟩
                      have h1 := hw.out
                      have h2 := CL.out.2
                      have g := hG.out
                      rw [show b + 1 - 1 = b from by omega, show sF p c + wS s b = sF p c + wS s (b - 1) + f from by omega]
                      exact g
              · have hG1 : Hid (Gd Z (zF p s l c) (zF p s l c) (rF p) (rF p)) := by
                  have e1 := (eqs p s l c).2
                  have e : sF p c + wS s (b - 1) = zF p s l c := by
                    unfold wS
                    split <;> omega
                  rw [← e]
                  exact hG.out
                clear hG hw
                have hlen := hG1.out.len
                have SZ : Hid (vSize p s l c k = (Z.length : Int)) := by show _ = _; unfold vSize; rw [if_pos ho.out, hlen]
                have hZ : (Z.length : Int) ≤ 6000 := by omega
                obtain ⟨g, cp, rfl⟩ := Go.Joins.ownsRow_form st.own (by omega)
                have hmk := run_make_row' (P := Try.prog) 40 4 (.bool false) 1 Try.underlying40 infoB rfl .i64 .i64 Z.length (by omega) (by omega)
                have HG : Hid (Gd Z (Z.length : Int) (Z.length : Int) (rF p) (rF p)) := by rw [hlen]; exact hG1.out
                clear hlen hG1
                clear hd hs
                go_wp2_with (first
                  | (go_at_call 27; refine (iSize _ _ _ _ _ _).mono ?_; rintro e w1 ⟨rfl, hb⟩; rw [SZ.out]; replace st := st.keep hb; clear hb c0 c1 c2 c3 c4; obtain ⟨c0, c1, c2, c3, c4⟩ := st.box.five)
                  | (go_at_call 22; refine (sSize _ _ _ _ _ _).mono ?_; rintro e w1 ⟨rfl, hb⟩; rw [SZ.out]; replace st := st.keep hb; clear hb c0 c1 c2 c3 c4; obtain ⟨c0, c1, c2, c3, c4⟩ := st.box.five))
                have sn0 := Sn.start st.own st.low
                clear hmk c0 c1 c2 c3 c4 st
                generalize w1.heap.size = hh at *
                go_loopg [13] (Z.length) (fun g' y wr => ∃ i : Nat, i ≤ Z.length ∧ g' = Z.length - i ∧ y = .int .i64 i ∧ Sn w0 wr g hh base cp Z i)
                case atStart => exact ⟨0, Nat.zero_le _, rfl, rfl, sn0⟩
                case round =>
                  clear sn0
                  obtain ⟨m, m0, hgm, rfl, sn⟩ := hrel
                  by_cases hm : (m : Int) < (Z.length : Int)
                  · have hm' : m < Z.length := by omega
                    obtain ⟨x, hx⟩ : ∃ x : Nat, (x : Int) = Z.getD m 0 := by
                      have := HG.out.mem (Z.getD m 0) (by simp [hm'])
                      exact ⟨(Z.getD m 0).toNat, by omega⟩
                    have hxl : x < Z.length := by
                      have := HG.out.mem (Z.getD m 0) (by simp [hm'])
                      omega
                    have cg := sn.cell hm'
                    obtain ⟨ch, fh⟩ := sn.met hm' HG.out.nod x hx hxl
                    rw [← hx] at cg
                    have HX : Hid ((x : Int) = Z.getD m 0) := hx
                    clear hx
                    go_wp2
                    go_roundg (gk - 1)
                    case measure => omega
                    case rel => exact ⟨m + 1, by omega, by omega, by go_num, sn.step hm' x HX.out⟩
                  · go_wp2
                    go_ret
                    exact ⟨rfl, sn.low⟩
theorem own : ownKnob Try.prog.godebug = none := by kernel_rfl
theorem laidOut : laidOutB Try.prog = true := by kernel_rfl
set_option maxRecDepth 100000 in
theorem lifted (os : Os) (started : os.Started) (H : Type) (enc : TypeId × Value → H) :
    ReturnsInHanded {} Try.checked os 4 .any (Rows.fnRegionsSpec.pre6 enc Try.prog Try.f4 Rows.fnRegionsRow.domain false) (Rows.fnRegionsSpec.post enc Try.prog Try.f4 false true false false) := by
  refine returnsInHanded_of_change (C := Try.checked) own started (by kernel_rfl) Try.func4
    (ChangeSpec.witness6 (enc := enc) (C := Try.checked) false ⟨#[], #[.slice none 0 0], []⟩ 8 (by kernel_rfl) (by kernel_rfl) (by kernel_rfl) (by kernel_rfl)) ?_
  intro W base args ds gs before hval0 hW hcnd _
  have hval : ∀ (j : Nat) t v, Try.f4.params[j]? = some t → args[j]? = some v → Value.okWide Try.prog W .any base t v := hval0
  have hW' := hW
  obtain ⟨p, q, hA0, hV, rfl, hfz, hnd⟩ := hW
  have hA : DataW.TrodAll enc Try.prog W 0 (fun _ => true) true Try.f4.params.toList args.toList ds p := hA0
  rw [Try.params4] at hA hval
  obtain ⟨v0, vs0, d0, ds0, p0, q0, hargs, rfl, rfl, h0, r0⟩ := trodAll_cons hA
  obtain ⟨rfl, rfl, rfl⟩ := trodAll_nil r0
  obtain rfl : args = #[v0] := by cases args; simp_all
  obtain ⟨rfl, rfl⟩ := trodVars_none hV
  have k0 := h0
  have lt0 : ∀ x ∈ p0, x.block < W.heap.size := by obtain ⟨m, hm⟩ := k0; exact DataW.trod_lt m _ _ _ hm
  obtain ⟨a0, len0, cap0, rfl⟩ := okWide_slice Try.underlying22 (hval 0 22 v0 rfl rfl)
  obtain ⟨z0, w0⟩ : ∃ zs, IsRow .u8 W a0 len0 cap0 zs := by
    obtain ⟨fuel, hf⟩ := h0
    rcases open_ints Try.underlying22 Try.underlying5 (by kernel_rfl) hf with ⟨hcs, _⟩ | ⟨x, l, c, zs, hcs, _, hl, hm, hz, _, hcell, hwz⟩
    · simp [Value.cells] at hcs
      obtain ⟨rfl, rfl, rfl⟩ := hcs
      exact ⟨[], .inl ⟨rfl, rfl, rfl, rfl⟩⟩
    · simp [Value.cells] at hcs
      obtain ⟨rfl, rfl, rfl⟩ := hcs
      exact ⟨zs, .inr ⟨_, rfl, hl, hm, by simpa using hz, hcell, hwz⟩⟩
  clear hA0 hval0
  refine (walk a0 len0 cap0 z0 W w0).mono fun e W' ⟨he, bel⟩ => ?_
  subst he
  exact ⟨_, rfl, _, _, _, [], _, [], hW', trodAll_mk1 (shut_bool Try.underlying4 _), (trodAll_cons_mk (Below.trod laidOut (by kernel_rfl) (of_decide_eq_true (by kernel_rfl)) k0 bel lt0) trodAll_mk0), rfl, bel.frame _, fun h => by cases h⟩

theorem over : Rows.fnRegionsRow.holds Try.pinned (OpenSpec.ofChange Rows.fnRegionsSpec) :=
  OpenClaim.holds_of_wide 4 Try.f4 rfl rfl rfl rfl rfl rfl rfl ⟨rfl, rfl, rfl, rfl, rfl⟩ rfl rfl rfl rfl rfl (by kernel_rfl) Try.func4 (by kernel_rfl)
    (of_decide_eq_true (by kernel_rfl)) (by unfold Func.isWrapper; first | (rw [if_pos (by decide +kernel)]; kernel_rfl) | (rw [if_neg (by decide +kernel)]; exact ⟨rfl, rfl⟩))
    (fun os started H enc _ => lifted os started H enc)
end Go.Proofs.Yteikophkacagoaa.fnRegions
namespace Go.Proofs.Yteikophkacagoaa
theorem fnRegions_holds : Rows.FnRegionsSaid := fnRegions.over
#print axioms fnRegions_holds
end Go.Proofs.Yteikophkacagoaa
