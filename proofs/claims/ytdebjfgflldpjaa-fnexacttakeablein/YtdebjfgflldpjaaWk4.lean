/-
  Walks: the program's blocksFrom.
-/
import Derived.Test.YtdebjfgflldpjaaWk3
namespace Go.Proofs.Ytdebjfgflldpjaa
open Go.RowKit Go.Shelf
attribute [local go_sem] Oper.semAt_some
set_option linter.unusedVariables false
set_option linter.unusedSimpArgs false
theorem grown_of {A B : World} (h : Below A.heap.size A B) : A.grownBy B none := ⟨h.os, h.tape, h.output, h.size, fun k hk _ => h.block k hk⟩
/-- What blocksFrom holds between two rounds. -/
structure Bl (w W : World) (v : Value) (Z : List Int) : Prop where
  r1 : Boxed W (w.heap.size + 1) 31 (.slice none 0 0)
  r2 : Boxed W (w.heap.size + 2) 4 (.bool false)
  bx : Boxed W (w.heap.size + 4) 31 v
  own : W.ownsRow (w.heap.size + 3) 2 1 v Z.length (Z.map (Value.int .i64))
  vn : v ≠ .slice none 0 0
  low : Below w.heap.size w W
theorem own_other {W W' : World} {base k j : Nat} {v : Value} {xs : List Value} {row : Option Nat} {o : Obj} (h : W.ownsRow base 2 1 v k xs) (hg : W.grownBy W' (some j)) (ho : W.heap[j]? = some o) (hn : ∀ cs fr, o ≠ .cells cs 2 fr) : W'.ownsRow base 2 1 v k xs := by
  refine h.kept hg ?_
  rcases h.2 with ⟨rfl, _⟩ | ⟨g, cap, cur, rfl, _, hgb, _⟩
  · exact .inl rfl
  · refine .inr fun e' => ?_
    obtain rfl : g = j := by simpa [Value.ownBlock] using e'
    rw [hgb] at ho
    cases ho
    exact hn _ _ rfl
theorem Bl.keep {w W W' : World} {v : Value} {Z : List Int} (h : Bl w W v Z) (hb : Below W.heap.size W W') : Bl w W' v Z :=
  ⟨(hb.block _ h.r1.lt).trans h.r1, (hb.block _ h.r2.lt).trans h.r2, (hb.block _ h.bx.lt).trans h.bx, own_keep h.own hb, h.vn, h.low.trans (hb.mono h.low.size)⟩
theorem Bl.turn {w W W' : World} {v : Value} {Z : List Int} {j : Nat} {o : Obj} (h : Bl w W v Z) (hg : W.grownBy W' (some j)) (hj : w.heap.size + 5 ≤ j) (ho : W.heap[j]? = some o) (hn : ∀ cs fr, o ≠ .cells cs 2 fr) : Bl w W' v Z :=
  ⟨h.r1.kept hg (by simp; omega), h.r2.kept hg (by simp; omega), h.bx.kept hg (by simp; omega), own_other (row := none) h.own hg ho hn, h.vn, h.low.grown hg h.low.size (fun k e => by cases e; omega)⟩
theorem Is.block {w : World} {g n c : Nat} {xs : List Int} (h : Is w g n c xs) : ∃ cs, w.heap[g]? = some (.cells cs 2 (0, 0)) := by
  rcases h.own.2 with ⟨e, _⟩ | ⟨g', cap, cur, e, _, h2, _⟩
  · cases e
  · cases e
    exact ⟨_, h2⟩
theorem At.boxed {W : World} {b : Nat} {cs : Array Value} {t t' : TypeId} {v : Value} (h : At W b cs t) (k : Boxed W b t' v) : t = t' := by
  have := h.is.symm.trans k
  simp at this
  exact this.2
theorem Bl.app {w W w1 : World} {v v' : Value} {Z : List Int} {x : Int} {tmp : Obj} (h : Bl w W v Z) (ho : w1.ownsRow (w.heap.size + 3) 2 1 v' (Z.length + 1) (Z.map (Value.int .i64) ++ [.int .i64 x])) (hg : (W.alloc tmp).grownBy w1 v.ownBlock) (hv : v' ≠ .slice none 0 0) :
    Bl w (w1.setCell ⟨w.heap.size + 4, 0, none⟩ v') v' (Z ++ [x]) ∧ Kp w.heap.size W (w1.setCell ⟨w.heap.size + 4, 0, none⟩ v') ∧ KeepsOthers W (w1.setCell ⟨w.heap.size + 4, 0, none⟩ v') ∧ Boxed w1 (w.heap.size + 4) 31 v := by
  have hs : w.heap.size + 3 ≤ W.heap.size := by have := h.bx.lt; omega
  obtain ⟨b1, b2, b3, b4, b5⟩ := h.bx.appended (by decide) h.own hs (by omega) ho hg
  have hsz : W.heap.size ≤ w1.heap.size := by have := hg.size; simp at this; omega
  have hne : ∀ b cs t, At W b cs t → t ≠ 2 → t ≠ 31 → At (w1.setCell ⟨w.heap.size + 4, 0, none⟩ v') b cs t := by
    intro b cs t hA h1 h2
    have n1 : some b ≠ v.ownBlock := by
      rcases h.own.2 with ⟨rfl, _⟩ | ⟨g, cap, cur, rfl, _, hgb, _⟩
      · simp [Value.ownBlock]
      · intro e
        obtain rfl : b = g := by simpa [Value.ownBlock] using e
        have := hA.is.symm.trans hgb
        simp at this
        exact h1 this.2
    have n2 : b ≠ w.heap.size + 4 := by rintro rfl; exact h2 (hA.boxed h.bx)
    have hA1 : At w1 b cs t := ⟨(hg.block b (by simp; have := hA.lt; omega) n1).trans ((Below.heap_alloc W tmp b hA.lt).trans hA.is)⟩
    exact hA1.other n2 v'
  refine ⟨⟨?_, ?_, b2, by simpa using b3, hv, h.low.trans (b5.mono (by omega))⟩, ⟨b5.mono (by omega), ?_, hne⟩, b4, b1⟩
  · have k1 : Boxed w1 (w.heap.size + 1) 31 (.slice none 0 0) := (h.r1.alloc tmp).kept hg (h.r1.not_row (by decide) h.own)
    exact k1.kept (grownBy_setCell' w1 _ v') (by simp)
  · have k1 : Boxed w1 (w.heap.size + 2) 4 (.bool false) := (h.r2.alloc tmp).kept hg (h.r2.not_row (by decide) h.own)
    exact k1.kept (grownBy_setCell' w1 _ v') (by simp)
  · exact Nat.le_trans hsz (KeepsWalks.setCell w1 _ v').size
theorem Bl.is {w W : World} {v : Value} {Z : List Int} (h : Bl w W v Z) : ∃ g cc, v = .slice (some ⟨g, 0, none⟩) Z.length cc ∧ w.heap.size + 3 ≤ g ∧ Is W g Z.length cc Z := by
  rcases h.own.2 with ⟨e, _⟩ | ⟨g, cc, cur, rfl, h1, h2⟩
  · exact absurd e h.vn
  · exact ⟨g, cc, rfl, h1, rfl, ⟨h.own.1, .inr ⟨g, cc, cur, rfl, Nat.zero_le _, h2⟩⟩⟩
set_option maxHeartbeats 1000000 in
theorem iWk (p s l c k r : Int) (a : Option Addr) (n cap : Nat) (w : World) :
    Calls Try.prog 23 #[.agg #[.int .i64 p, .int .i64 s, .int .i64 l, .int .i64 c, .int .i64 k], .slice a n cap, .int .i64 r] w fun e w' =>
      e = .returned (.func (.func 29) #[] #[.pointer (some ⟨w.heap.size, 0, none⟩), .pointer (some ⟨w.heap.size + 1, 0, none⟩), .pointer (some ⟨w.heap.size + 2, 0, none⟩)]) ∧
      w' = ((w.alloc (.cells #[.int .i64 p, .int .i64 s, .int .i64 l, .int .i64 c, .int .i64 k] 26)).alloc (.cells #[.slice a n cap] 24)).alloc (.cells #[.int .i64 r] 2) := by
  have hmf : ∀ (fn : Fn) (first cap : Array Value) (w : World), (Instr.makeFunc fn first cap).run Try.prog w = .ok (.func fn first cap) w := fun _ _ _ _ => rfl
  go_enter Try.func23, Try.ntmps23
  go_wp2
  go_ret
  exact ⟨rfl, rfl⟩
/-- The walk was broken. -/
structure Bx (w W : World) (g : Nat) : Prop where
  r1 : Boxed W (w.heap.size + 1) 31 (.slice (some ⟨g, 0, none⟩) 0 0)
  r2 : Boxed W (w.heap.size + 2) 4 (.bool false)
  is : Is W g 0 0 []
  hg : w.heap.size ≤ g
  low : Below w.heap.size w W
theorem Bl.start (w : World) (pl : Array Value) (tp : TypeId) :
    Bl w (((((w.alloc (.cells pl tp)).alloc (.cells #[.slice none 0 0] 31)).alloc (.cells #[.bool false] 4)).alloc (.cells #[] 2)).alloc (.cells #[.slice (some ⟨w.heap.size + 3, 0, none⟩) 0 0] 31)) (.slice (some ⟨w.heap.size + 3, 0, none⟩) 0 0) [] ∧
    At (((((w.alloc (.cells pl tp)).alloc (.cells #[.slice none 0 0] 31)).alloc (.cells #[.bool false] 4)).alloc (.cells #[] 2)).alloc (.cells #[.slice (some ⟨w.heap.size + 3, 0, none⟩) 0 0] 31)) w.heap.size pl tp := by
  have b1 := Boxed.new (w.alloc (.cells pl tp)) 31 (.slice none 0 0)
  rw [World.size_alloc] at b1
  have b2 := Boxed.new ((w.alloc (.cells pl tp)).alloc (.cells #[.slice none 0 0] 31)) 4 (.bool false)
  rw [World.size_alloc, World.size_alloc] at b2
  have o3 := ilit (((w.alloc (.cells pl tp)).alloc (.cells #[.slice none 0 0] 31)).alloc (.cells #[.bool false] 4)) (w.heap.size + 3) (by simp)
  rw [World.size_alloc, World.size_alloc, World.size_alloc] at o3
  have b4 := Boxed.new ((((w.alloc (.cells pl tp)).alloc (.cells #[.slice none 0 0] 31)).alloc (.cells #[.bool false] 4)).alloc (.cells #[] 2)) 31 (.slice (some ⟨w.heap.size + 3, 0, none⟩) 0 0)
  rw [World.size_alloc, World.size_alloc, World.size_alloc, World.size_alloc] at b4
  have a0 := At.new w pl tp
  refine ⟨⟨((b1.alloc _).alloc _).alloc _, (b2.alloc _).alloc _, b4, (World.ownsRow.alloc o3 _), by simp, ?_⟩, ?_⟩
  · exact (((((Below.refl _ w).alloc (Nat.le_refl _) _).alloc (by simp) _).alloc (by simp; omega) _).alloc (by simp; omega) _).alloc (by simp; omega) _
  · refine ⟨(Below.heap_alloc _ _ _ (by simp; omega)).trans ((Below.heap_alloc _ _ _ (by simp; omega)).trans ((Below.heap_alloc _ _ _ (by simp; omega)).trans ((Below.heap_alloc _ _ _ (by simp)).trans a0.is)))⟩
theorem Bl.give {w W : World} {v : Value} {Z : List Int} (h : Bl w W v Z) :
    Bx w (((W.alloc (.cells #[] 2)).setCell ⟨w.heap.size + 1, 0, none⟩ (.slice (some ⟨W.heap.size, 0, none⟩) 0 0)).setCell ⟨w.heap.size + 2, 0, none⟩ (.bool false)) W.heap.size ∧
    KeepsOthers W (((W.alloc (.cells #[] 2)).setCell ⟨w.heap.size + 1, 0, none⟩ (.slice (some ⟨W.heap.size, 0, none⟩) 0 0)).setCell ⟨w.heap.size + 2, 0, none⟩ (.bool false)) := by
  have hs := h.bx.lt
  refine ⟨⟨?_, ?_, ?_, h.low.size, ?_⟩, ((KeepsOthers.alloc _ _).trans (KeepsOthers.setCell _ _ _)).trans (KeepsOthers.setCell _ _ _)⟩
  · exact ((h.r1.alloc (.cells #[] 2)).set _).other (by omega) _
  · exact ((h.r2.alloc (.cells #[] 2)).other (by omega) _).set _
  · exact ((Is.lit W).other (a := ⟨w.heap.size + 1, 0, none⟩) (by show W.heap.size ≠ w.heap.size + 1; omega) _).other (a := ⟨w.heap.size + 2, 0, none⟩) (by show W.heap.size ≠ w.heap.size + 2; omega) _
  · exact ((h.low.alloc h.low.size _).setCell (p := ⟨w.heap.size + 1, 0, none⟩) (by show w.heap.size ≤ w.heap.size + 1; omega) _).setCell (p := ⟨w.heap.size + 2, 0, none⟩) (by show w.heap.size ≤ w.heap.size + 2; omega) _
theorem grownBy_setCell_any (W : World) (b i : Nat) (v : Value) : W.grownBy (W.setCell ⟨b, i, none⟩ v) (some b) :=
  ⟨rfl, rfl, rfl, (KeepsWalks.setCell W _ v).size, fun k _ hk => Below.heap_setCell _ _ _ k (fun e => hk (by rw [e]))⟩
theorem Bx.put {w W : World} {g b : Nat} {o : Obj} (h : Bx w W g) (hb : w.heap.size + 5 ≤ b) (ho : W.heap[b]? = some o) (hc : o.isCells = false) (o' : Obj) : Bx w (W.putObj b o') g := by
  have gb : g ≠ b := by
    rintro rfl
    obtain ⟨cs, hcs⟩ := h.is.block
    rw [hcs] at ho
    cases ho
    cases hc
  exact ⟨h.r1.kept (grownBy_putObj' W b o') (by simp; omega), h.r2.kept (grownBy_putObj' W b o') (by simp; omega), h.is.of_block (World.putObj_heap_other gb), h.hg, h.low.grown (grownBy_putObj' W b o') h.low.size (fun k e => by cases e; omega)⟩
set_option maxRecDepth 100000 in
set_option maxHeartbeats 4000000 in
theorem iWalk (p s l c k r : Int) (a : Option Addr) (n cap : Nat) (xs : List Int) (w : World) (h : Src w a n xs) (bd : ∀ x ∈ xs, 0 ≤ x ∧ x ≤ 18446744073709551615) (hn : n ≤ 16777216) (ha : aOk p s l c k n = true) (r0 : 0 ≤ r) (r1 : r ≤ 4 + c) :
    Calls Try.prog 14 #[.agg #[.int .i64 p, .int .i64 s, .int .i64 l, .int .i64 c, .int .i64 k], .slice a n cap, .int .i64 r] w fun e w' => gives w w' e (wlk p s l c k xs r) := by
  obtain ⟨i0, hi, hz0, hz1, hz2⟩ := info_parts infoI
  have hl := wlk_len (xs := xs) (r := r) (aOk_y ha).1
  obtain ⟨ri, hri, rin⟩ := rt_in (r := r) ha r0 r1
  obtain ⟨ab, ao, rfl⟩ := h.some (by omega)
  have lo : ab < w.heap.size := by
    rcases h.2 with h0 | ⟨b, o, e, h1, _⟩
    · omega
    · cases e; exact h1
  refine callsIn_wide.1 (callsIn_of_wp_marks (n := 7) Try.func14 rfl trivial ?_ rfl)
  simp only [Try.ntmps14, List.size_toArray, List.length_cons, List.length_nil, Nat.reduceAdd, Nat.reduceSub, Array.replicate_succ, Array.replicate_zero, List.push_toArray, List.append_toArray, List.nil_append, List.cons_append]
  rw [wpIn_wide]
  obtain ⟨st, PB⟩ := Bl.start w #[.int .i64 p, .int .i64 s, .int .i64 l, .int .i64 c, .int .i64 k] 26
  have h2 := h.keep st.low
  go_wp2_with fail
  simp only [show w.heap.size + 1 + 1 + 1 + 1 = w.heap.size + 4 from rfl, show w.heap.size + 1 + 1 + 1 = w.heap.size + 3 from rfl, show w.heap.size + 1 + 1 = w.heap.size + 2 from rfl]
  refine (iArena _ _ _ _ _ _ _ _ _ (by omega)).mono ?_
  rintro e w1 ⟨rfl, hb⟩
  rw [ha]
  replace st := st.keep hb
  replace PB := PB.keep hb
  replace h2 := h2.keep hb
  clear hb
  have c0 := PB.cell 0
  have c1 := PB.cell 1
  have c2 := PB.cell 2
  have c3 := PB.cell 3
  have c4 := PB.cell 4
  simp at c0 c1 c2 c3 c4
  go_wp2_with fail
  refine (iWk _ _ _ _ _ _ _ _ _ _).mono ?_
  rintro e w2 ⟨rfl, hw2⟩
  have zz : Below w1.heap.size w1 w2 := by rw [hw2]; exact (((Below.refl _ w1).alloc (Nat.le_refl _) _).alloc (by simp) _).alloc (by simp; omega) _
  obtain ⟨bp, hbp⟩ : ∃ bp : Nat, Hid (w1.heap.size = bp) := ⟨_, rfl⟩
  rw [hbp.out]
  have P2 : At w2 bp #[.int .i64 p, .int .i64 s, .int .i64 l, .int .i64 c, .int .i64 k] 26 := by
    rw [hw2, ← hbp.out]
    exact ⟨(Below.heap_alloc _ _ _ (by simp; omega)).trans ((Below.heap_alloc _ _ _ (by simp)).trans (At.new w1 _ _).is)⟩
  have S2 : At w2 (bp + 1) #[.slice (some ⟨ab, ao, none⟩) n cap] 24 := by
    rw [hw2, ← hbp.out]
    have := (At.new (w1.alloc (.cells #[.int .i64 p, .int .i64 s, .int .i64 l, .int .i64 c, .int .i64 k] 26)) #[.slice (some ⟨ab, ao, none⟩) n cap] 24).is
    rw [World.size_alloc] at this
    exact ⟨(Below.heap_alloc _ _ _ (by simp)).trans this⟩
  have R2 : At w2 (bp + 2) #[.int .i64 r] 2 := by
    rw [hw2, ← hbp.out]
    have := (At.new ((w1.alloc (.cells #[.int .i64 p, .int .i64 s, .int .i64 l, .int .i64 c, .int .i64 k] 26)).alloc (.cells #[.slice (some ⟨ab, ao, none⟩) n cap] 24)) #[.int .i64 r] 2).is
    rw [World.size_alloc, World.size_alloc] at this
    exact ⟨this⟩
  have lt2 : w.heap.size + 5 ≤ w2.heap.size := by have := st.bx.lt; have := zz.size; omega
  replace st := st.keep zz
  replace h2 := h2.keep zz
  clear PB zz c0 c1 c2 c3 c4 hw2 hbp
  go_wp2
  rw [← wpIn_wide (n := 7)]
  have I0 : It w2 bp (bp + 1) w.heap.size p s l c k ab ao n cap xs := ⟨P2, S2, h2, lo⟩
  refine range2 (lb := #[.pointer (some ⟨bp, 0, none⟩), .pointer (some ⟨bp + 1, 0, none⟩), .pointer (some ⟨bp + 2, 0, none⟩)]) rfl rfl (wlk p s l c k xs r) w.heap.size (by omega)
    (fun Z W => ∃ v, Bl w W v Z) (fun W => ∃ g, Bx w W g)
    (fun Z A B h hb => h.elim fun v h => ⟨v, h.keep hb⟩)
    (fun Z A b o o' h hb ho hc => h.elim fun v h => ⟨v, h.turn (grownBy_putObj' A b o') (by omega) ho (by rintro cs fr rfl; cases hc)⟩)
    (fun Z A b cs i v h hb hA => h.elim fun v' h => ⟨v', h.turn (grownBy_setCell_any A b i v) (by omega) hA.is (by rintro cs fr e; injection e with _ e _; exact absurd e (by decide))⟩)
    (fun A b o o' h hb ho hc => h.elim fun g h => ⟨g, h.put (by omega) ho hc o'⟩)
    (fun x t => { tmps := #[.agg #[.int .i64 p, .int .i64 s, .int .i64 l, .int .i64 c, .int .i64 k], .slice (some ⟨ab, ao, none⟩) n cap, .int .i64 r, .pointer (some ⟨w.heap.size, 0, none⟩), undef, undef, .pointer (some ⟨w.heap.size + 1, 0, none⟩), .pointer (some ⟨w.heap.size + 2, 0, none⟩), .pointer (some ⟨w.heap.size + 4, 0, none⟩), .int .i64 x, .bool t, .slice (some ⟨w.heap.size + 3, 0, none⟩) 0 0, .agg #[.int .i64 p, .int .i64 s, .int .i64 l, .int .i64 c, .int .i64 k], .slice (some ⟨ab, ao, none⟩) n cap, .bool true, .bool false, undef, .agg #[.int .i64 p, .int .i64 s, .int .i64 l, .int .i64 c, .int .i64 k], .slice (some ⟨ab, ao, none⟩) n cap, .int .i64 r, .func (.func 29) #[] #[.pointer (some ⟨bp, 0, none⟩), .pointer (some ⟨bp + 1, 0, none⟩), .pointer (some ⟨bp + 2, 0, none⟩)], .int .i64 x, .bool t, undef, undef, undef, undef, undef, undef, undef, undef], defers := [] })
    ?assign ?go ?give (fun L J Jx h1 h2 h3 h4 W hW j0 => iIter p s l c k r L bp (bp + 1) (bp + 2) w.heap.size w2.heap.size ab ao n cap xs J Jx h1 h2 h3 h4 bd hn ha r0 r1 W (I0.keep hW) (R2.keep hW) (by have := hW.size; omega) hW.size j0)
    ⟨_, st⟩ ?done ?stop
  case assign =>
    intro L x t W K hK
    gi_wp2
    exact hK
  case go =>
    rintro L Z x W ⟨v, st⟩ hlen
    have hc := st.bx.cell
    have HL : Hid (Z.length ≤ 250) := by show _ ≤ _; omega
    have hbs : w.heap.size + 3 ≤ W.heap.size := by have := st.bx.lt; omega
    gi_wp2_with (gi_at_builtin; refine wpListIn_append_own _ rfl _ _ 31 rfl (w.heap.size + 3) 2 i0 (.int .i64 0) 1 8 Try.underlying31 hi hz0 hz1 hz2 rfl (by decide) _ _ _ rfl (World.ownsRow.alloc st.own _) ⟨_, 0, none⟩ 1 1 [.int .i64 x] rfl rfl (one_cell4 _ _ _ _ (by simp)) (one_int4 _) (L_max HL) (L_bytes HL) (by simp; omega) ?_; intro v' w5 ho' hg' hn'; obtain ⟨g', cap', rfl⟩ := ownsRow_succ ho'; obtain ⟨s1, s2, s3, s4⟩ := st.app ho' hg' (by simp); have hc1 := s4.cell; have hf1 := s4.frozen; clear ho' hg' hn')
    exact ⟨s3, s2, _, s1⟩
  case give =>
    rintro L Z x W ⟨v, st⟩
    have k1 := (st.r1.alloc (.cells #[] 2)).cell
    have f1 := (st.r1.alloc (.cells #[] 2)).frozen
    have k2 := (st.r2.alloc (.cells #[] 2)).cell
    have f2 := (st.r2.alloc (.cells #[] 2)).frozen
    gi_wp2
    exact ⟨st.give.2, _, st.give.1⟩
  case done =>
    rintro ys W hR ⟨v, st⟩ hD
    obtain ⟨g, cc, rfl, hge, hI⟩ := st.is
    have k0 := st.bx.cell
    have k1 := st.r1.cell
    have f1 := st.r1.frozen
    have k2 := st.r2.cell
    have f2 := st.r2.frozen
    go_wp2
    have hD2 := ((KeepsOthers.setCell W ⟨w.heap.size + 1, 0, none⟩ (.slice (some ⟨g, 0, none⟩) ys.length cc)).trans (KeepsOthers.setCell _ ⟨w.heap.size + 2, 0, none⟩ (.bool true))).same _ _ hD rfl
    refine ⟨by simp, .inl ⟨_, _, rfl, run_takeDeferred hD2, ?_⟩⟩
    have n1 : w.heap.size + 1 ≠ w2.heap.size := by omega
    have n2 : w.heap.size + 2 ≠ w2.heap.size := by omega
    have ng : g ≠ w2.heap.size := by
      rintro rfl
      obtain ⟨cs, hcs⟩ := hI.block
      rw [hcs] at hD
      cases hD
    have g1 : g ≠ w.heap.size + 1 := by omega
    have g2 : g ≠ w.heap.size + 2 := by omega
    have b1 : Boxed _ (w.heap.size + 1) 31 (.slice (some ⟨g, 0, none⟩) ys.length cc) := ((st.r1.set (.slice (some ⟨g, 0, none⟩) ys.length cc)).other (B' := w.heap.size + 2) (by omega) (.bool true)).kept (grownBy_putObj' _ w2.heap.size (Obj.deferred none)) (by simp; omega)
    have b2 : Boxed _ (w.heap.size + 2) 4 (.bool true) := ((st.r2.other (B' := w.heap.size + 1) (by omega) (.slice (some ⟨g, 0, none⟩) ys.length cc)).set (.bool true)).kept (grownBy_putObj' _ w2.heap.size (Obj.deferred none)) (by simp; omega)
    have hI2 := ((hI.other (a := ⟨w.heap.size + 1, 0, none⟩) g1 (.slice (some ⟨g, 0, none⟩) ys.length cc)).other (a := ⟨w.heap.size + 2, 0, none⟩) g2 (.bool true)).of_block (World.putObj_heap_other (w := (W.setCell ⟨w.heap.size + 1, 0, none⟩ (.slice (some ⟨g, 0, none⟩) ys.length cc)).setCell ⟨w.heap.size + 2, 0, none⟩ (.bool true)) (o := Obj.deferred none) ng)
    have lw := ((st.low.setCell (p := ⟨w.heap.size + 1, 0, none⟩) (by show w.heap.size ≤ w.heap.size + 1; omega) (.slice (some ⟨g, 0, none⟩) ys.length cc)).setCell (p := ⟨w.heap.size + 2, 0, none⟩) (by show w.heap.size ≤ w.heap.size + 2; omega) (.bool true))
    replace lw := lw.grown (grownBy_putObj' _ w2.heap.size (Obj.deferred none)) lw.size (fun k e => by cases e; omega)
    generalize (((W.setCell ⟨w.heap.size + 1, 0, none⟩ (.slice (some ⟨g, 0, none⟩) ys.length cc)).setCell ⟨w.heap.size + 2, 0, none⟩ (.bool true)).putObj w2.heap.size (Obj.deferred none)) = V at *
    have m1 := b1.cell
    have m2 := b2.cell
    rw [hR] at hl ⊢
    exact ⟨.tuple #[.slice (some ⟨g, 0, none⟩) ys.length cc, .bool true], by simp [results, Try.results14, go_sem, m1, m2], g, _, cc, rfl, by omega, hI2, hl, lw⟩
  case stop =>
    rintro W hR ⟨g, st⟩ hD
    gi_wp2
    refine ⟨by simp, .inl ⟨_, _, rfl, run_takeDeferred hD, ?_⟩⟩
    have st2 := st.put (by omega) hD rfl (Obj.deferred none)
    generalize W.putObj w2.heap.size (Obj.deferred none) = V at *
    have m1 := st2.r1.cell
    have m2 := st2.r2.cell
    rw [hR]
    exact ⟨.tuple #[.slice (some ⟨g, 0, none⟩) 0 0, .bool false], by simp [results, Try.results14, go_sem, m1, m2], g, 0, 0, rfl, st2.hg, st2.is, Nat.zero_le _, st2.low⟩
set_option maxRecDepth 100000 in
set_option maxHeartbeats 4000000 in
theorem iWalkN (p s l c k r : Int) (a : Option Addr) (n cap : Nat) (w : World) (hn : n ≤ 16777216) (ha : aOk p s l c k n = false) :
    Calls Try.prog 14 #[.agg #[.int .i64 p, .int .i64 s, .int .i64 l, .int .i64 c, .int .i64 k], .slice a n cap, .int .i64 r] w fun e w' => gives w w' e none := by
  refine callsIn_wide.1 (callsIn_of_wp_marks (n := 7) Try.func14 rfl trivial ?_ rfl)
  simp only [Try.ntmps14, List.size_toArray, List.length_cons, List.length_nil, Nat.reduceAdd, Nat.reduceSub, Array.replicate_succ, Array.replicate_zero, List.push_toArray, List.append_toArray, List.nil_append, List.cons_append]
  rw [wpIn_wide]
  obtain ⟨st, PB⟩ := Bl.start w #[.int .i64 p, .int .i64 s, .int .i64 l, .int .i64 c, .int .i64 k] 26
  go_wp2_with fail
  simp only [show w.heap.size + 1 + 1 + 1 + 1 = w.heap.size + 4 from rfl, show w.heap.size + 1 + 1 + 1 = w.heap.size + 3 from rfl, show w.heap.size + 1 + 1 = w.heap.size + 2 from rfl]
  refine (iArena _ _ _ _ _ _ _ _ _ (by omega)).mono ?_
  rintro e w1 ⟨rfl, hb⟩
  rw [ha]
  replace st := st.keep hb
  clear hb PB
  obtain ⟨g, cc, hv, hge, hI⟩ := st.is
  cases hv
  have k0 := st.bx.cell
  have k1 := st.r1.cell
  have f1 := st.r1.frozen
  have k2 := st.r2.cell
  have f2 := st.r2.frozen
  go_wp2
  have b1 := (st.r1.set (.slice (some ⟨w.heap.size + 3, 0, none⟩) 0 0)).other (B' := w.heap.size + 2) (by omega) (.bool false)
  have b2 := (st.r2.other (B' := w.heap.size + 1) (by omega) (.slice (some ⟨w.heap.size + 3, 0, none⟩) 0 0)).set (.bool false)
  have hI2 := (hI.other (a := ⟨w.heap.size + 1, 0, none⟩) (by show w.heap.size + 3 ≠ w.heap.size + 1; omega) (.slice (some ⟨w.heap.size + 3, 0, none⟩) 0 0)).other (a := ⟨w.heap.size + 2, 0, none⟩) (by show w.heap.size + 3 ≠ w.heap.size + 2; omega) (.bool false)
  have lw := ((st.low.setCell (p := ⟨w.heap.size + 1, 0, none⟩) (by show w.heap.size ≤ w.heap.size + 1; omega) (.slice (some ⟨w.heap.size + 3, 0, none⟩) 0 0)).setCell (p := ⟨w.heap.size + 2, 0, none⟩) (by show w.heap.size ≤ w.heap.size + 2; omega) (.bool false))
  have m1 := b1.cell
  have m2 := b2.cell
  exact ⟨.tuple #[.slice (some ⟨w.heap.size + 3, 0, none⟩) 0 0, .bool false], by simp [results, Try.results14, go_sem, m1, m2], _, 0, 0, rfl, by omega, hI2, Nat.zero_le _, lw⟩
end Go.Proofs.Ytdebjfgflldpjaa
