/-
  The program's step: its end, and its face (what gave up is caught).
  The program's step: its face: what gave up is caught.
  The program's step: caught at its face.
  The program's step: how it begins.
  May a step be done at all (both sides); what the program's InstallStep answers.
  What the program's InstallStep answers.
-/
import Derived.Test.YtgmoemjiffglbaaGreatMj
import Derived.Recover
namespace Go.Proofs.YtgmoemjiffglbaaGreat
open Go.RowKit
set_option maxRecDepth 100000
set_option linter.unusedVariables false
set_option linter.unusedSimpArgs false
/-- A Done: the words' slice, the hand, the deed. -/
def doneVs (v : Value) (h : Hd) (d : Dd) : List Value := v :: (h.vs ++ d.vs)
theorem doneVs_one {v : Value} (hv : v.oneCell' = true) (h : Hd) (d : Dd) : ∀ u ∈ doneVs v h d, u.oneCell' = true := by
  intro u hu
  rcases List.mem_cons.1 hu with rfl | hu
  · exact hv
  · rcases List.mem_append.1 hu with hu | hu
    · exact h.one u hu
    · exact d.one u hu
def doneZ : List Value := doneVs (.slice none 0 0) Hd.zero Dd.zero
theorem infoDn (v : Value) (h : Hd) (d : Dd) : (Tryz.prog.info? 32).map (·.size) = some (doneVs v h d).length := by kernel_rfl
theorem bDone (a : Option Addr) (n c : Nat) (h : Hd) (d : Dd) : Tryz.prog.built 32 [(0, .slice a n c), (1, .agg h.ar), (2, .agg d.vs.toArray)] = some (doneVs (.slice a n c) h d).toArray := by kernel_rfl
theorem bDone0 : Tryz.prog.built 32 [] = some doneZ.toArray := by kernel_rfl
theorem tk_built {P : Program} {o : Oper} {a : Act} (t : TypeId) (parts : Array (Nat × Operand)) (ho : o.op = .build t parts) (ps : List (Nat × Value)) (hp : parts.toList.map (fun x => (x.1, a.eval x.2)) = ps) (cells : Array Value) (hb : P.built t ps = some cells) (w : World) : (execOp a.eval o).run P w = .ok (.value (.agg cells)) w := by
  have e : (parts.map fun (i, x) => (i, a.eval x)).toList = ps := by rw [Array.toList_map]; exact hp
  have e2 : P.built t (parts.map fun (i, x) => (i, a.eval x)).toList = some cells := by rw [e]; exact hb
  unfold execOp
  simp only [ho, Sem.run_bind, run_build w t _ cells e2, Result.andThen_ok]
  rfl
def dn0 : Oper := { dst := some 14, op := Op.move (Operand.tmp 0), type := 61, pos := "l08_install.go:92", after := #[], guard := none }
def dn1 : Oper := { dst := some 15, op := Op.nilCheck (Operand.tmp 14), type := 0, pos := "l08_install.go:92", after := #[{ on := 0, ground := Ground.data }], guard := none }
def dn2 : Oper := { dst := some 16, op := Op.fieldAddr 54 (Operand.tmp 15) 1, type := 0, pos := "l08_install.go:92", after := #[{ on := 1, ground := Ground.data }], guard := none }
def dn3 : Oper := { dst := some 17, op := Op.call { callee := Callee.value (Operand.func 84), args := #[Operand.tmp 16], argTypes := #[52] }, type := 24, pos := "l08_install.go:92", after := #[{ on := 2, ground := Ground.data }], guard := none }
def dn4 : Oper := { dst := some 18, op := Op.move (Operand.tmp 0), type := 61, pos := "l08_install.go:92", after := #[], guard := none }
def dn5 : Oper := { dst := some 19, op := Op.nilCheck (Operand.tmp 18), type := 0, pos := "l08_install.go:92", after := #[{ on := 4, ground := Ground.data }], guard := none }
def dn6 : Oper := { dst := some 20, op := Op.fieldAddr 54 (Operand.tmp 19) 2, type := 0, pos := "l08_install.go:92", after := #[{ on := 5, ground := Ground.data }], guard := none }
def dn7 : Oper := { dst := some 21, op := Op.load 28 (Operand.tmp 20), type := 28, pos := "l08_install.go:92", after := #[{ on := 6, ground := Ground.data }], guard := none }
def dn8 : Oper := { dst := some 22, op := Op.move (Operand.tmp 0), type := 61, pos := "l08_install.go:92", after := #[], guard := none }
def dn9 : Oper := { dst := some 23, op := Op.nilCheck (Operand.tmp 22), type := 0, pos := "l08_install.go:92", after := #[{ on := 8, ground := Ground.data }], guard := none }
def dn10 : Oper := { dst := some 24, op := Op.fieldAddr 54 (Operand.tmp 23) 3, type := 0, pos := "l08_install.go:92", after := #[{ on := 9, ground := Ground.data }], guard := none }
def dn11 : Oper := { dst := some 25, op := Op.load 30 (Operand.tmp 24), type := 30, pos := "l08_install.go:92", after := #[{ on := 10, ground := Ground.data }], guard := none }
def dn12 : Oper := { dst := some 26, op := Op.build 32 #[(0, Operand.tmp 17), (1, Operand.tmp 21), (2, Operand.tmp 25)], type := 32, pos := "l08_install.go:92", after := #[{ on := 3, ground := Ground.data }, { on := 7, ground := Ground.data }, { on := 11, ground := Ground.data }], guard := none }
def dn13 : Oper := { dst := none, op := Op.store 32 (Operand.tmp 2) (Operand.tmp 26), type := 0, pos := "l08_install.go:92", after := #[{ on := 12, ground := Ground.data }, { on := 3, ground := Ground.chain }, { on := 0, ground := Ground.phase }, { on := 1, ground := Ground.phase }, { on := 2, ground := Ground.phase }, { on := 3, ground := Ground.phase }, { on := 4, ground := Ground.phase }, { on := 5, ground := Ground.phase }, { on := 6, ground := Ground.phase }, { on := 7, ground := Ground.phase }, { on := 8, ground := Ground.phase }, { on := 9, ground := Ground.phase }, { on := 10, ground := Ground.phase }, { on := 11, ground := Ground.phase }, { on := 12, ground := Ground.phase }], guard := none }
set_option maxHeartbeats 4000000 in
theorem iDoneN (B q : Nat) (st : I8) (w : World) (S : IAt w B q st) (hk : hOk st.p st.s st.l st.c st.k st.h = false) :
    Calls Tryz.prog 47 #[.pointer (some ⟨q, 0, none⟩)] w fun e w' => e = .panicked gu ∧ Below w.heap.size w w' := by
  go_enter Tryz.func47, Tryz.ntmps47
  go_upto_region 1 with fail
  refine wp_at (fun W => IAt W B q st ∧ Below w.heap.size w W) ⟨S.keep ((Below.refl _ _).alloc (Nat.le_refl _) _), (Below.refl _ _).alloc (Nat.le_refl _) _⟩ ?_
  rintro w1 ⟨S1, z1⟩
  have A := S1.is
  have lp : ∀ w', Cls w1 w' → (loadVar 35 ⟨q, 0, none⟩).run Tryz.prog w' = .ok (.agg #[.int .i64 st.p, .int .i64 st.s, .int .i64 st.l, .int .i64 st.c, .int .i64 st.k]) w' := ld_sub (o := 0) A st.pl Tryz.underlying35 rfl (by kernel_rfl)
  have lh : ∀ w', Cls w1 w' → (loadVar 28 ⟨q, 7, none⟩).run Tryz.prog w' = .ok (.agg st.h.ar) w' := ld_sub (o := 7) A st.hl Tryz.underlying28 rfl infoH
  clear A
  refine wp_region_cls (by kernel_rfl) (by kernel_rfl) ?_
  repeat' (first
    | go_big_quiet_skip
    | (go_big_quiet_want; first
      | (refine q_load _ _ _ _ rfl rfl (by assumption) ?_; simp only [Act.put, List.setIfInBounds_toArray, List.set_cons_zero, List.set_cons_succ]; go_big_quiet_on)
      | (go_big_quiet_op; first
        | go_big_quiet_on
        | (refine ⟨_, fun _ _ => rfl, ?_⟩; go_big_quiet_on)
        | (apply Exists.intro; refine ⟨fun w' hw' => ?_, ?_⟩
           · (first
             | (go_at_call 43; exact cls_below hw' (by have hq := iHandOk st.p st.s st.l st.c st.k st.h w'; rw [hk] at hq; exact hq)))
           go_big_quiet_on))))
  refine wpQuiet_nil ?_
  intro w2 hw2
  go_wp2_with (go_at_call 83; refine (iGiveUp _).mono ?_; rintro e w3 ⟨rfl, rfl⟩)
  exact ⟨rfl, rfl, z1.trans (hw2.below.mono z1.size)⟩
theorem wp_storeDn {o : Oper} {a : Act} {w : World} {K : Act → World → Prop} {Q : Exit → Act → World → Prop} (x y : Operand) (ho : o.op = .store 32 x y) (b : Nat) (v : Value) (h : Hd) (d : Dd) (hv : v.oneCell' = true) (hx : a.eval x = .pointer (some ⟨b, 0, none⟩)) (hy : a.eval y = .agg (doneVs v h d).toArray) {cs : Array Value} {t : TypeId} (Z : At w b cs t) (hs : cs.size = 43)
    (hh : ∀ w', At w' b (doneVs v h d).toArray t → Kept b w w' → K (a.put o.dst undef) w') : o.wp Tryz.prog a w K Q :=
  wp_store_mid 32 x y ho b 0 (doneVs v h d).toArray hx hy (Z.there 0 43 (by omega)) (infoDn v h d) (all_oneCell_toArray (doneVs_one hv h d)) (hh _ (Z.fillAll (by rw [hs]; rfl)) (kept_setCells b _ 0 w))
theorem resDn {fn : Func} {T : Array Value} {w : World} {b : Nat} {v : Value} {h : Hd} {d : Dd} {t : TypeId} (i : Nat) (hr : fn.results = #[.cell i 32]) (hT : T.getD i undef = .pointer (some ⟨b, 0, none⟩)) (Z : At w b (doneVs v h d).toArray t) :
    (results fn T).run Tryz.prog w = .ok (.agg (doneVs v h d).toArray) w := by
  have e : (asAddr (T.getD i undef)).run Tryz.prog w = .ok ⟨b, 0, none⟩ w := by rw [hT]; rfl
  have l : (loadVar 32 ⟨b, 0, none⟩).run Tryz.prog w = .ok (.agg (doneVs v h d).toArray) w := run_loadVar_mid w b 0 32 (doneVs v h d) _ Z.range Tryz.underlying32 rfl (infoDn v h d)
  simp only [results, hr, List.mapM_toArray, List.mapM_cons, List.mapM_nil, Sem.run_bind, Sem.run_map, Sem.run_pure, e, Result.andThen_ok, l]
  rfl
set_option maxHeartbeats 8000000 in
theorem iDoneY (B q : Nat) (st : I8) (w : World) (S : IAt w B q st) (hk : hOk st.p st.s st.l st.c st.k st.h = true) (hn : st.n ≤ 16777216) (bd : ∀ x ∈ st.xs, 0 ≤ x ∧ x ≤ 18446744073709551615) :
    Calls Tryz.prog 47 #[.pointer (some ⟨q, 0, none⟩)] w fun e w' => ∃ g, e = .returned (.agg (doneVs (.slice (some ⟨g, 0, none⟩) st.n st.n) st.h st.d).toArray) ∧ w.heap.size ≤ g ∧ Ws w' g st.n st.n st.xs ∧ Below w.heap.size w w' := by
  go_enter Tryz.func47, Tryz.ntmps47
  go_upto_region 1 with fail
  refine wp_at (fun W => At W w.heap.size doneZ.toArray 32 ∧ IAt W B q st ∧ Below w.heap.size w W) ⟨At.new w _ _, S.keep ((Below.refl _ _).alloc (Nat.le_refl _) _), (Below.refl _ _).alloc (Nat.le_refl _) _⟩ ?_
  rintro w1 ⟨R1, S1, z1⟩
  obtain ⟨r, hr⟩ : ∃ r, Hid (w.heap.size = r) := ⟨_, rfl⟩
  have hqr : q ≠ r := by have := S.lt; have := hr.out; omega
  have hr0 : w.heap.size ≤ r := by have := hr.out; omega
  rw [hr.out] at R1
  rw [hr.out]
  have A := S1.is
  have lp : ∀ w', Cls w1 w' → (loadVar 35 ⟨q, 0, none⟩).run Tryz.prog w' = .ok (.agg #[.int .i64 st.p, .int .i64 st.s, .int .i64 st.l, .int .i64 st.c, .int .i64 st.k]) w' := ld_sub (o := 0) A st.pl Tryz.underlying35 rfl (by kernel_rfl)
  have lh : ∀ w', Cls w1 w' → (loadVar 28 ⟨q, 7, none⟩).run Tryz.prog w' = .ok (.agg st.h.ar) w' := ld_sub (o := 7) A st.hl Tryz.underlying28 rfl infoH
  clear A
  refine wp_region_cls (by kernel_rfl) (by kernel_rfl) ?_
  repeat' (first
    | go_big_quiet_skip
    | (go_big_quiet_want; first
      | (refine q_load _ _ _ _ rfl rfl (by assumption) ?_; simp only [Act.put, List.setIfInBounds_toArray, List.set_cons_zero, List.set_cons_succ]; go_big_quiet_on)
      | (go_big_quiet_op; first
        | go_big_quiet_on
        | (refine ⟨_, fun _ _ => rfl, ?_⟩; go_big_quiet_on)
        | (apply Exists.intro; refine ⟨fun w' hw' => ?_, ?_⟩
           · (first
             | (go_at_call 43; exact cls_below hw' (by have hq := iHandOk st.p st.s st.l st.c st.k st.h w'; rw [hk] at hq; exact hq)))
           go_big_quiet_on))))
  refine wpQuiet_nil ?_
  intro w2 hw2
  go_upto_region 3 with fail
  clear lp lh
  have R := R1.keep hw2.below
  have hrl : r < w2.drew.heap.size := R.lt
  have S2 := S1.keep hw2.below
  have z2 := z1.trans (hw2.below.mono z1.size)
  have z0 : w.heap.size ≤ w2.drew.heap.size := z2.size
  have lh : ∀ w', At w' q st.ar st.ty → (loadVar 28 ⟨q, 7, none⟩).run Tryz.prog w' = .ok (.agg st.h.ar) w' := fun w' A => ld_sub (o := 7) A st.hl Tryz.underlying28 rfl infoH w' ⟨Below.refl _ _⟩
  have ld : ∀ w', At w' q st.ar st.ty → (loadVar 30 ⟨q, 43, none⟩).run Tryz.prog w' = .ok (.agg st.d.vs.toArray) w' := fun w' A => ld_sub (o := 43) A st.dl Tryz.underlying30 rfl (by kernel_rfl) w' ⟨Below.refl _ _⟩
  refine wp_region_held_drew (S := fun w' => At w' q st.ar st.ty) (by kernel_rfl) (S2.keep (Below.refl _ w2).drew).is (fun hS => ?_)
  refine tk_pure (i := 0) (oi := dn0) rfl (by kernel_rfl) (by kernel_rfl) (by kernel_rfl) (fun _ _ _ h => h) (by rfl) hS (fun w9 => by simp only [dn0]; go_simp; (try with_reducible rfl)) ?_
  simp only [dn0, Act.put, List.setIfInBounds_toArray, List.set_cons_zero, List.set_cons_succ]
  refine tk_pure (i := 1) (oi := dn1) rfl (by kernel_rfl) (by kernel_rfl) (by kernel_rfl) (fun _ _ _ h => h) (by rfl) hS (fun w9 => by simp only [dn1]; go_simp; (try with_reducible rfl)) ?_
  simp only [dn1, Act.put, List.setIfInBounds_toArray, List.set_cons_zero, List.set_cons_succ]
  refine tk_pure (i := 2) (oi := dn2) rfl (by kernel_rfl) (by kernel_rfl) (by kernel_rfl) (fun _ _ _ h => h) (by rfl) hS (fun w9 => by simp only [dn2]; go_simp; (try with_reducible rfl)) ?_
  simp only [dn2, Act.put, List.setIfInBounds_toArray, List.set_cons_zero, List.set_cons_succ]
  refine tk_pure (i := 4) (oi := dn4) rfl (by kernel_rfl) (by kernel_rfl) (by kernel_rfl) (fun _ _ _ h => h) (by rfl) hS (fun w9 => by simp only [dn4]; go_simp; (try with_reducible rfl)) ?_
  simp only [dn4, Act.put, List.setIfInBounds_toArray, List.set_cons_zero, List.set_cons_succ]
  refine tk_pure (i := 5) (oi := dn5) rfl (by kernel_rfl) (by kernel_rfl) (by kernel_rfl) (fun _ _ _ h => h) (by rfl) hS (fun w9 => by simp only [dn5]; go_simp; (try with_reducible rfl)) ?_
  simp only [dn5, Act.put, List.setIfInBounds_toArray, List.set_cons_zero, List.set_cons_succ]
  refine tk_pure (i := 6) (oi := dn6) rfl (by kernel_rfl) (by kernel_rfl) (by kernel_rfl) (fun _ _ _ h => h) (by rfl) hS (fun w9 => by simp only [dn6]; go_simp; (try with_reducible rfl)) ?_
  simp only [dn6, Act.put, List.setIfInBounds_toArray, List.set_cons_zero, List.set_cons_succ]
  refine tk_load (i := 7) (oi := dn7) rfl (by kernel_rfl) (by kernel_rfl) (by kernel_rfl) (fun _ _ _ h => h) (by rfl) _ _ _ rfl rfl (by assumption) hS ?_
  simp only [dn7, Act.put, List.setIfInBounds_toArray, List.set_cons_zero, List.set_cons_succ]
  refine tk_pure (i := 8) (oi := dn8) rfl (by kernel_rfl) (by kernel_rfl) (by kernel_rfl) (fun _ _ _ h => h) (by rfl) hS (fun w9 => by simp only [dn8]; go_simp; (try with_reducible rfl)) ?_
  simp only [dn8, Act.put, List.setIfInBounds_toArray, List.set_cons_zero, List.set_cons_succ]
  refine tk_pure (i := 9) (oi := dn9) rfl (by kernel_rfl) (by kernel_rfl) (by kernel_rfl) (fun _ _ _ h => h) (by rfl) hS (fun w9 => by simp only [dn9]; go_simp; (try with_reducible rfl)) ?_
  simp only [dn9, Act.put, List.setIfInBounds_toArray, List.set_cons_zero, List.set_cons_succ]
  refine tk_pure (i := 10) (oi := dn10) rfl (by kernel_rfl) (by kernel_rfl) (by kernel_rfl) (fun _ _ _ h => h) (by rfl) hS (fun w9 => by simp only [dn10]; go_simp; (try with_reducible rfl)) ?_
  simp only [dn10, Act.put, List.setIfInBounds_toArray, List.set_cons_zero, List.set_cons_succ]
  refine tk_load (i := 11) (oi := dn11) rfl (by kernel_rfl) (by kernel_rfl) (by kernel_rfl) (fun _ _ _ h => h) (by rfl) _ _ _ rfl rfl (by assumption) hS ?_
  simp only [dn11, Act.put, List.setIfInBounds_toArray, List.set_cons_zero, List.set_cons_succ]
  refine wpAnyH_ready (rs := [3]) (by kernel_rfl) (by simp) ?_
  refine AllReadyH.cons (o := dn3) rfl (fun K hK => ?_) ?_
  · rw [if_pos (by rfl)]
    simp only [dn3]
    go_simp
    go_at_call 84
    refine (ioList B q 5 st.n st.xs _ st.ar _ (S2.keep (Below.refl _ w2).drew) hn bd).mono ?_
    rintro e w4 ⟨rfl, G, hb⟩
    (go_wp2_with fail)
    replace S2 := (S2.keep (Below.refl _ w2).drew).keep hb
    replace R := (R.keep (Below.refl _ w2).drew).keep hb
    replace z2 := z2.drew.trans (hb.mono z2.size)
    replace G : Ws w4 w2.heap.size st.n st.n st.xs := G
    have hg : w.heap.size ≤ w2.heap.size := z0
    have hS2 := S2.is
    obtain ⟨g, hgg⟩ : ∃ g, Hid (w2.heap.size = g) := ⟨_, rfl⟩
    have hrg : r < w2.heap.size := hrl
    rw [hgg.out] at G hg hrg
    rw [hgg.out]
    clear hb hgg
    refine hK.out _ _ hS2 (fun hS => ?_)
    clear hK K
    (try simp only [dn3, Act.put, List.setIfInBounds_toArray, List.set_cons_zero, List.set_cons_succ])
    refine tk_pure (i := 12) (oi := dn12) rfl (by kernel_rfl) (by kernel_rfl) (by kernel_rfl) (fun _ _ _ h => h) (by rfl) hS (fun w9 => tk_built 32 #[(0, .tmp 17), (1, .tmp 21), (2, .tmp 25)] rfl [(0, .slice (some ⟨g, 0, none⟩) st.n st.n), (1, .agg st.h.ar), (2, .agg st.d.vs.toArray)] rfl _ (bDone _ _ _ _ _) w9) ?_
    simp only [dn12, Act.put, List.setIfInBounds_toArray, List.set_cons_zero, List.set_cons_succ]
    refine wpAnyH_ready (rs := [13]) (by kernel_rfl) (by simp) ?_
    refine AllReadyH.cons (o := dn13) rfl (fun K hK => ?_) ?_
    · rw [if_pos (by rfl)]
      refine wp_storeDn (.tmp 2) (.tmp 26) rfl r (.slice (some ⟨g, 0, none⟩) st.n st.n) st.h st.d rfl rfl rfl R rfl ?_
      intro w5 R5 kk
      have hS2 := S2.is.kept kk hqr
      refine hK.out _ _ hS2 (fun hS => ?_)
      clear hK K
      simp only [dn13, Act.put]
      refine wpAnyH_done (by kernel_rfl) ?_ _
      go_wp2
      refine bodyPost_ret (resDn (v := .slice (some ⟨g, 0, none⟩) st.n st.n) (h := st.h) (d := st.d) 2 rfl rfl R5) rfl ?_
      exact ⟨g, rfl, hg, G.kept kk (by omega), z2.trans (kk.below hr0 z2.size)⟩
    exact AllReadyH.nil
  exact AllReadyH.nil
end Go.Proofs.YtgmoemjiffglbaaGreat
namespace Go.Proofs.YtgmoemjiffglbaaGreat
open Go.RowKit
set_option maxRecDepth 100000
set_option linter.unusedVariables false
set_option linter.unusedSimpArgs false
theorem storeDn {ops : Array Oper} {rest : List Oper} {op : Oper} {a : Act} {w : World} {Q : Exit → Act → World → Prop} (hgd : op.guard = none) (x y : Operand) (ho : op.op = .store 32 x y) (b : Nat) (v : Value) (h : Hd) (d : Dd) (hv : v.oneCell' = true) (hx : a.eval x = .pointer (some ⟨b, 0, none⟩)) (hy : a.eval y = .agg (doneVs v h d).toArray) {cs : Array Value} {t : TypeId} (Z : At w b cs t) (hs : cs.size = 43)
    (hh : ∀ w', At w' b (doneVs v h d).toArray t → Kept b w w' → wpList Tryz.prog ops Q rest (a.put op.dst undef) w') : wpList Tryz.prog ops Q (op :: rest) a w :=
  wpList_store_mid hgd 32 x y ho b 0 (doneVs v h d).toArray hx hy (Z.there 0 43 (by omega)) (infoDn v h d) (all_oneCell_toArray (doneVs_one hv h d)) (hh _ (Z.fillAll (by rw [hs]; rfl)) (kept_setCells b _ 0 w))
set_option maxHeartbeats 1000000 in
theorem catch_panic (b c : Nat) (cs : Array Value) (x : Bool) (u : TypeId) (pv : Value) (older : List PanicEntry) (B : Nat) (w : World) (Z : At w b cs 32) (hs : cs.size = 43) (Y : At w c #[.bool x] 4) (hbc : b ≠ c) (hb : B ≤ b) (hc : B ≤ c) :
    CallsD Tryz.prog 46 #[.pointer (some ⟨b, 0, none⟩), .pointer (some ⟨c, 0, none⟩)] (.panicking ({ v := .iface u pv, recovered := false } :: older)) w fun e u' w' =>
      e = .returned (.tuple #[]) ∧ u' = .panicking ({ v := .iface u pv, recovered := true } :: older) ∧ At w' b doneZ.toArray 32 ∧ At w' c #[.bool false] 4 ∧ Below B w w' := by
  refine callsD_of_wpS Tryz.func46 rfl fun c₀ cs₀ hu => ?_
  apply wpS_seq
  apply wpS_region
  simp [wpOpsS, go_sem, recoverD, hu, Tryz.ntmps46, Exit.thenS]
  refine wpS_cond (t := true) (by simp [Act.eval, Array.replicate]) ?_
  simp only [if_true]
  refine wpS_of_wp ?_
  show Code.wp _ (Code.region 1 _ false) _ { tmps := #[.pointer (some ⟨b, 0, none⟩), .pointer (some ⟨c, 0, none⟩), .iface u pv, .bool true, undef], defers := [] } w
  refine wp_region_lit ?_
  refine wpList_built rfl 32 #[] rfl [] rfl _ bDone0 ?_
  refine storeDn rfl (.tmp 0) (.tmp 4) rfl b (.slice none 0 0) Hd.zero Dd.zero rfl rfl rfl Z hs ?_
  intro w1 Z1 k1
  have Y1 := Y.kept k1 (Ne.symm hbc)
  have c0 : w1.cell? ⟨c, 0, none⟩ = some (.bool x) := Y1.cell 0
  have f0 := Y1.frozen 0
  have z1 : Below B w w1 := (Below.refl B w).trans (k1.below hb (by have := Z.lt; omega))
  have FIN : Hid (At (w1.setCell ⟨c, 0, none⟩ (.bool false)) b doneZ.toArray 32 ∧ At (w1.setCell ⟨c, 0, none⟩ (.bool false)) c #[.bool false] 4 ∧ Below B w (w1.setCell ⟨c, 0, none⟩ (.bool false))) := ⟨Z1.other (a := ⟨c, 0, none⟩) hbc _, Y1.set 0 _, z1.setCell (p := ⟨c, 0, none⟩) hc _⟩
  simp only [Act.put]
  refine wpList_step fun K hK => ?_
  rw [if_pos (by rfl)]
  go_simp
  refine hK _ _ (wpList_nil ?_)
  simp [bodyPostS, results, Tryz.results46, go_sem]
  exact FIN.out
set_option maxHeartbeats 1000000 in
theorem catch_idle (b c : Nat) (w : World) :
    CallsD Tryz.prog 46 #[.pointer (some ⟨b, 0, none⟩), .pointer (some ⟨c, 0, none⟩)] .returning w fun e u' w' => e = .returned (.tuple #[]) ∧ u' = .returning ∧ w' = w := by
  refine callsD_of_wpS Tryz.func46 rfl fun c₀ cs hu => ?_
  apply wpS_seq
  apply wpS_region
  simp [wpOpsS, go_sem, recoverD, hu, Tryz.ntmps46, Exit.thenS]
  refine wpS_cond (t := false) (by simp [Act.eval, Array.replicate]) ?_
  simp only [Bool.false_eq_true, if_false]
  refine wpS_of_wp (wp_skip ?_)
  cases c₀
  simp_all [bodyPostS, results, Tryz.results46]
end Go.Proofs.YtgmoemjiffglbaaGreat
namespace Go.Proofs.YtgmoemjiffglbaaGreat
open Go.RowKit
set_option maxRecDepth 100000
set_option linter.unusedVariables false
set_option linter.unusedSimpArgs false
theorem IAt.row {w : World} {B q : Nat} {st : I8} (h : IAt w B q st) : ∀ r, st.pv.ownBlock = some r → B ≤ r ∧ r < w.heap.size := by
  obtain ⟨⟨pv, ps, h1, c0, c1, h2, h3, h4⟩, hl, hq⟩ := h
  have e : st.pv = pv := by
    have : st.ar[5]? = some st.pv := rfl
    rw [this] at c0
    exact Option.some.inj c0
  intro r hr
  rw [e] at hr
  exact World.ownsRow.lt h2.own r hr
theorem At.kq {w w' : World} {b q : Nat} {pv : Value} {cs : Array Value} {t : TypeId} (h : At w b cs t) (k : Kq q pv w w') (hb : b ≠ q) (hp : pv.ownBlock ≠ some b) : At w' b cs t := ⟨(k.block b h.lt hb hp).trans h.is⟩
theorem IAt.lowK {w w0 w' : World} {B q : Nat} {st : I8} (h : IAt w0 B q st) (k : Kq q st.pv w w') (hB : B ≤ w.heap.size) : Below B w w' := k.low h.qB (fun r hr => (h.row r hr).1) hB
theorem resDnB {fn : Func} {T : Array Value} {w : World} {b c : Nat} {v : Value} {h : Hd} {d : Dd} {x : Bool} {t t' : TypeId} (i j : Nat) (hr : fn.results = #[.cell i 32, .cell j 4]) (hT : T.getD i undef = .pointer (some ⟨b, 0, none⟩)) (hJ : T.getD j undef = .pointer (some ⟨c, 0, none⟩)) (Z : At w b (doneVs v h d).toArray t) (Y : At w c #[.bool x] t') :
    (results fn T).run Tryz.prog w = .ok (.tuple #[.agg (doneVs v h d).toArray, .bool x]) w := by
  have e : (asAddr (T.getD i undef)).run Tryz.prog w = .ok ⟨b, 0, none⟩ w := by rw [hT]; rfl
  have e2 : (asAddr (T.getD j undef)).run Tryz.prog w = .ok ⟨c, 0, none⟩ w := by rw [hJ]; rfl
  have l : (loadVar 32 ⟨b, 0, none⟩).run Tryz.prog w = .ok (.agg (doneVs v h d).toArray) w := run_loadVar_mid w b 0 32 (doneVs v h d) _ Z.range Tryz.underlying32 rfl (infoDn v h d)
  have c0 : w.cell? ⟨c, 0, none⟩ = some (.bool x) := Y.cell 0
  have ha : (isAgg 4).run Tryz.prog w = .ok false w := by
    unfold isAgg
    rw [Sem.run_bind, run_underlying Tryz.underlying4 w]
    simp
  have l2 : (loadVar 4 ⟨c, 0, none⟩).run Tryz.prog w = .ok (.bool x) w := by simp [go_sem, c0, ha]
  simp only [results, hr, List.mapM_toArray, List.mapM_cons, List.mapM_nil, Sem.run_bind, Sem.run_map, Sem.run_pure, e, e2, Result.andThen_ok, l, l2]
  rfl
set_option maxHeartbeats 4000000 in
theorem iCaughtN (nx : FuncId) (B q : Nat) (HC : ∀ w, (callFunc nx #[.pointer (some ⟨q, 0, none⟩)]).run Tryz.prog w = .ok (.enter nx #[.pointer (some ⟨q, 0, none⟩)]) w) (st : I8) (w : World) (S : IAt w B q st) (HN : ∀ w1, IAt w1 B q st → Calls Tryz.prog nx #[.pointer (some ⟨q, 0, none⟩)] w1 (Ends B q st.pv w1 none)) :
    Calls Tryz.prog 20 #[.pointer (some ⟨q, 0, none⟩), .func (.func nx) #[.pointer (some ⟨q, 0, none⟩)] #[]] w fun e w' => e = .returned (.tuple #[.agg doneZ.toArray, .bool false]) ∧ Below B w w' := by
  have hmf : ∀ (fn : Fn) (first cap : Array Value) (w : World), (Instr.makeFunc fn first cap).run Tryz.prog w = .ok (.func fn first cap) w := fun _ _ _ _ => rfl
  have Bl := S.bl
  go_enter_defers Tryz.func20, Tryz.ntmps20
  go_upto_region 2 with fail
  refine wp_at (fun W => At W w.heap.size doneZ.toArray 32 ∧ At W (w.heap.size + 1) #[.bool false] 4 ∧ Below w.heap.size w W) (two_box w _ _ _ _) ?_
  rintro w1 ⟨Z, Y, z1⟩
  have S1 := S.keep z1
  obtain ⟨c, hc⟩ : ∃ c, Hid (w.heap.size + 1 = c) := ⟨_, rfl⟩
  rw [hc.out] at Y
  simp only [hc.out]
  obtain ⟨b, hb⟩ : ∃ b, Hid (w.heap.size = b) := ⟨_, rfl⟩
  rw [hb.out] at Z
  simp only [hb.out]
  have hq := S.lt
  have hbq : b ≠ q := by have := hb.out; omega
  have hcq : c ≠ q := by have := hc.out; omega
  have hpb : st.pv.ownBlock ≠ some b := fun e => by have := (S.row b e).2; have := hb.out; omega
  have hpc : st.pv.ownBlock ≠ some c := fun e => by have := (S.row c e).2; have := hc.out; omega
  go_wp2_with ((with_reducible refine (HN _ S1).mono ?_); intro e w3 hE; obtain ⟨rfl, k3⟩ := hE)
  have Z3 := Z.kq k3 hbq hpb
  have Y3 := Y.kq k3 hcq hpc
  have z3 := S1.lowK k3 S1.bl
  unfold gu
  refine leaves_cons (f := 46) (args := #[.pointer (some ⟨b, 0, none⟩), .pointer (some ⟨c, 0, none⟩)]) (by simp) (by simp [go_sem]) ?_
  refine (catch_panic b c _ false _ _ [] B _ Z3 rfl Y3 (by have := hb.out; have := hc.out; omega) (by have := hb.out; omega) (by have := hc.out; omega)).mono ?_
  rintro e u' w4 ⟨rfl, rfl, Z4, Y4, z4⟩
  exact ⟨_, resDnB 4 5 rfl rfl rfl Z4 Y4, rfl, ((z1.mono Bl).trans z3).trans z4⟩
set_option maxHeartbeats 4000000 in
theorem iCaughtD (nx : FuncId) (B q : Nat) (HC : ∀ w, (callFunc nx #[.pointer (some ⟨q, 0, none⟩)]).run Tryz.prog w = .ok (.enter nx #[.pointer (some ⟨q, 0, none⟩)]) w) (st : I8) (w : World) (S : IAt w B q st) (t : I8) (HN : ∀ w1, IAt w1 B q st → Calls Tryz.prog nx #[.pointer (some ⟨q, 0, none⟩)] w1 (Ends B q st.pv w1 (some t))) (hk : hOk t.p t.s t.l t.c t.k t.h = false) :
    Calls Tryz.prog 20 #[.pointer (some ⟨q, 0, none⟩), .func (.func nx) #[.pointer (some ⟨q, 0, none⟩)] #[]] w fun e w' => e = .returned (.tuple #[.agg doneZ.toArray, .bool false]) ∧ Below B w w' := by
  have hmf : ∀ (fn : Fn) (first cap : Array Value) (w : World), (Instr.makeFunc fn first cap).run Tryz.prog w = .ok (.func fn first cap) w := fun _ _ _ _ => rfl
  have Bl := S.bl
  go_enter_defers Tryz.func20, Tryz.ntmps20
  go_upto_region 2 with fail
  refine wp_at (fun W => At W w.heap.size doneZ.toArray 32 ∧ At W (w.heap.size + 1) #[.bool false] 4 ∧ Below w.heap.size w W) (two_box w _ _ _ _) ?_
  rintro w1 ⟨Z, Y, z1⟩
  have S1 := S.keep z1
  obtain ⟨c, hc⟩ : ∃ c, Hid (w.heap.size + 1 = c) := ⟨_, rfl⟩
  rw [hc.out] at Y
  simp only [hc.out]
  obtain ⟨b, hb⟩ : ∃ b, Hid (w.heap.size = b) := ⟨_, rfl⟩
  rw [hb.out] at Z
  simp only [hb.out]
  have hq := S.lt
  have hbq : b ≠ q := by have := hb.out; omega
  have hcq : c ≠ q := by have := hc.out; omega
  have hpb : st.pv.ownBlock ≠ some b := fun e => by have := (S.row b e).2; have := hb.out; omega
  have hpc : st.pv.ownBlock ≠ some c := fun e => by have := (S.row c e).2; have := hc.out; omega
  go_wp2_with (first
    | ((with_reducible refine (HN _ S1).mono ?_); intro e w2 hE; obtain ⟨rfl, S2, k2⟩ := hE)
    | (go_at_call 47; refine (iDoneN B q t _ S2 hk).mono ?_; rintro e w3 ⟨rfl, hb3⟩))
  have Z3 := (Z.kq k2 hbq hpb).keep hb3
  have Y3 := (Y.kq k2 hcq hpc).keep hb3
  have z3 := (S1.lowK k2 S1.bl).trans (hb3.mono S2.bl)
  unfold gu
  refine leaves_cons (f := 46) (args := #[.pointer (some ⟨b, 0, none⟩), .pointer (some ⟨c, 0, none⟩)]) (by simp) (by simp [go_sem]) ?_
  refine (catch_panic b c _ false _ _ [] B _ Z3 rfl Y3 (by have := hb.out; have := hc.out; omega) (by have := hb.out; omega) (by have := hc.out; omega)).mono ?_
  rintro e u' w4 ⟨rfl, rfl, Z4, Y4, z4⟩
  exact ⟨_, resDnB 4 5 rfl rfl rfl Z4 Y4, rfl, ((z1.mono Bl).trans z3).trans z4⟩
set_option maxHeartbeats 4000000 in
theorem iCaughtY (nx : FuncId) (B q : Nat) (HC : ∀ w, (callFunc nx #[.pointer (some ⟨q, 0, none⟩)]).run Tryz.prog w = .ok (.enter nx #[.pointer (some ⟨q, 0, none⟩)]) w) (st : I8) (w : World) (S : IAt w B q st) (t : I8) (HN : ∀ w1, IAt w1 B q st → Calls Tryz.prog nx #[.pointer (some ⟨q, 0, none⟩)] w1 (Ends B q st.pv w1 (some t))) (hk : hOk t.p t.s t.l t.c t.k t.h = true) (tn : t.n ≤ 16777216) (bd : ∀ x ∈ t.xs, 0 ≤ x ∧ x ≤ 18446744073709551615) :
    Calls Tryz.prog 20 #[.pointer (some ⟨q, 0, none⟩), .func (.func nx) #[.pointer (some ⟨q, 0, none⟩)] #[]] w fun e w' => ∃ g, e = .returned (.tuple #[.agg (doneVs (.slice (some ⟨g, 0, none⟩) t.n t.n) t.h t.d).toArray, .bool true]) ∧ w.heap.size ≤ g ∧ Ws w' g t.n t.n t.xs ∧ Below B w w' := by
  have hmf : ∀ (fn : Fn) (first cap : Array Value) (w : World), (Instr.makeFunc fn first cap).run Tryz.prog w = .ok (.func fn first cap) w := fun _ _ _ _ => rfl
  have Bl := S.bl
  go_enter_defers Tryz.func20, Tryz.ntmps20
  go_upto_region 2 with fail
  refine wp_at (fun W => At W w.heap.size doneZ.toArray 32 ∧ At W (w.heap.size + 1) #[.bool false] 4 ∧ Below w.heap.size w W) (two_box w _ _ _ _) ?_
  rintro w1 ⟨Z, Y, z1⟩
  have S1 := S.keep z1
  obtain ⟨c, hc⟩ : ∃ c, Hid (w.heap.size + 1 = c) := ⟨_, rfl⟩
  rw [hc.out] at Y
  simp only [hc.out]
  obtain ⟨b, hb⟩ : ∃ b, Hid (w.heap.size = b) := ⟨_, rfl⟩
  rw [hb.out] at Z
  simp only [hb.out]
  have hq := S.lt
  have hbq : b ≠ q := by have := hb.out; omega
  have hcq : c ≠ q := by have := hc.out; omega
  have hpb : st.pv.ownBlock ≠ some b := fun e => by have := (S.row b e).2; have := hb.out; omega
  have hpc : st.pv.ownBlock ≠ some c := fun e => by have := (S.row c e).2; have := hc.out; omega
  go_wp2_with (first
    | ((with_reducible refine (HN _ S1).mono ?_); intro e w2 hE; obtain ⟨rfl, S2, k2⟩ := hE; replace Z := Z.kq k2 hbq hpb; replace Y := Y.kq k2 hcq hpc)
    | (go_at_call 47; refine (iDoneY B q t _ S2 hk tn bd).mono ?_; rintro e w3 ⟨g, rfl, hg, G, hb3⟩; have hzl := Z.lt; have hyl := Y.lt; replace Z := Z.keep hb3; replace Y := Y.keep hb3)
    | (refine storeDn rfl (.tmp 4) (.tmp 10) rfl b (.slice (some ⟨g, 0, none⟩) t.n t.n) t.h t.d rfl rfl rfl Z rfl ?_; intro w4 Z4 k4; have Y4 := Y.kept k4 (by have := hb.out; have := hc.out; omega); have c0 : w4.cell? ⟨c, 0, none⟩ = some (.bool false) := Y4.cell 0; have f0 := Y4.frozen 0; have zs := Z4.lt; have G4 := G.kept k4 (by omega)))
  have hbc : b ≠ c := by have := hb.out; have := hc.out; omega
  have Z5 := Z4.other (a := ⟨c, 0, none⟩) hbc (.bool true)
  have Y5 := Y4.set 0 (.bool true)
  have G5 := G4.other (a := ⟨c, 0, none⟩) (by show g ≠ c; omega) (.bool true)
  have hs3 := hb3.size
  have zz : Below B w (w4.setCell ⟨c, 0, none⟩ (.bool true)) := ((((z1.mono Bl).trans (S1.lowK k2 S1.bl)).trans (hb3.mono S2.bl)).trans (k4.below (by have := hb.out; omega) (by have := S2.bl; omega))).setCell (p := ⟨c, 0, none⟩) (by show B ≤ c; have := hc.out; omega) _
  have hwg : w.heap.size ≤ g := by have := z1.size; have := k2.size; omega
  refine leaves_cons (f := 46) (args := #[.pointer (some ⟨b, 0, none⟩), .pointer (some ⟨c, 0, none⟩)]) (by simp) (by simp [go_sem]) ?_
  refine (catch_idle b c _).mono ?_
  rintro e u' w6 ⟨rfl, rfl, rfl⟩
  exact ⟨_, resDnB 4 5 rfl rfl rfl Z5 Y5, g, rfl, hwg, G5, zz⟩
end Go.Proofs.YtgmoemjiffglbaaGreat
namespace Go.Proofs.YtgmoemjiffglbaaGreat
open Go.RowKit
set_option maxRecDepth 100000
set_option linter.unusedVariables false
set_option linter.unusedSimpArgs false
def io0 : Oper := { dst := some 7, op := Op.load 35 (Operand.tmp 3), type := 35, pos := "l08_install.go:72", after := #[], guard := none }
def io1 : Oper := { dst := some 8, op := Op.move (Operand.tmp 1), type := 24, pos := "l08_install.go:72", after := #[], guard := none }
def io2 : Oper := { dst := some 9, op := Op.call { callee := Callee.value (Operand.func 45), args := #[Operand.tmp 8], argTypes := #[24] }, type := 52, pos := "l08_install.go:72", after := #[{ on := 1, ground := Ground.data }], guard := none }
def io3 : Oper := { dst := some 10, op := Op.load 28 (Operand.tmp 5), type := 28, pos := "l08_install.go:72", after := #[], guard := none }
def io4 : Oper := { dst := some 11, op := Op.build 54 #[(0, Operand.tmp 7), (1, Operand.tmp 9), (2, Operand.tmp 10)], type := 54, pos := "l08_install.go:72", after := #[{ on := 0, ground := Ground.data }, { on := 2, ground := Ground.data }, { on := 3, ground := Ground.data }], guard := none }
def io5 : Oper := { dst := none, op := Op.store 54 (Operand.tmp 6) (Operand.tmp 11), type := 0, pos := "l08_install.go:72", after := #[{ on := 4, ground := Ground.data }, { on := 2, ground := Ground.chain }, { on := 0, ground := Ground.phase }, { on := 1, ground := Ground.phase }, { on := 2, ground := Ground.phase }, { on := 3, ground := Ground.phase }, { on := 4, ground := Ground.phase }], guard := none }
theorem bInst (p s l c k : Int) (a : Option Addr) (m cc n : Nat) (h : Hd) : Tryz.prog.built 54 [(0, .agg #[.int .i64 p, .int .i64 s, .int .i64 l, .int .i64 c, .int .i64 k]), (1, .agg #[.slice a m cc, .int .i64 n]), (2, .agg h.ar)] = some (I8.ar ⟨p, s, l, c, k, .slice a m cc, n, [], h, Dd.zero, 54⟩) := by kernel_rfl
theorem tk_built2 {P : Program} {o : Oper} {a : Act} (t : TypeId) (parts : Array (Nat × Operand)) (ho : o.op = .build t parts) (ps : List (Nat × Value)) (hp : parts.toList.map (fun x => (x.1, a.eval x.2)) = ps) (cells : Array Value) (hb : P.built t ps = some cells) (w : World) : (execOp a.eval o).run P w = .ok (.value (.agg cells)) w := by
  have e : (parts.map fun (i, x) => (i, a.eval x)).toList = ps := by rw [Array.toList_map]; exact hp
  have e2 : P.built t (parts.map fun (i, x) => (i, a.eval x)).toList = some cells := by rw [e]; exact hb
  unfold execOp
  simp only [ho, Sem.run_bind, run_build w t _ cells e2, Result.andThen_ok]
  rfl
theorem infoI (st : I8) : (Tryz.prog.info? 54).map (·.size) = some st.vs.length := by kernel_rfl
theorem I8.one (st : I8) (hp : st.pv.oneCell' = true) : ∀ v ∈ st.vs, v.oneCell' = true := by
  intro u hu
  rcases List.mem_append.1 hu with hu | hu
  · rcases List.mem_append.1 hu with hu | hu
    · simp only [List.mem_cons, List.not_mem_nil, or_false] at hu
      rcases hu with rfl | rfl | rfl | rfl | rfl | rfl | rfl <;> first | rfl | exact hp
    · exact st.h.one u hu
  · exact st.d.one u hu
theorem wp_storeIn {o : Oper} {a : Act} {w : World} {K : Act → World → Prop} {Q : Exit → Act → World → Prop} (x y : Operand) (ho : o.op = .store 54 x y) (b : Nat) (st : I8) (hp : st.pv.oneCell' = true) (hx : a.eval x = .pointer (some ⟨b, 0, none⟩)) (hy : a.eval y = .agg st.ar) {cs : Array Value} {t : TypeId} (Z : At w b cs t) (hs : cs.size = 49)
    (hh : ∀ w', At w' b st.ar t → Kept b w w' → K (a.put o.dst undef) w') : o.wp Tryz.prog a w K Q :=
  wp_store_mid 54 x y ho b 0 st.ar hx hy (Z.there 0 49 (by omega)) (infoI st) (all_oneCell_toArray (st.one hp)) (hh _ (Z.fillAll (by rw [hs]; rfl)) (kept_setCells b _ 0 w))
theorem resIn {fn : Func} {T : Array Value} {w : World} {b : Nat} {st : I8} {t : TypeId} (i : Nat) (hr : fn.results = #[.cell i 54]) (hT : T.getD i undef = .pointer (some ⟨b, 0, none⟩)) (Z : At w b st.ar t) :
    (results fn T).run Tryz.prog w = .ok (.agg st.ar) w := by
  have e : (asAddr (T.getD i undef)).run Tryz.prog w = .ok ⟨b, 0, none⟩ w := by rw [hT]; rfl
  have l : (loadVar 54 ⟨b, 0, none⟩).run Tryz.prog w = .ok (.agg st.ar) w := run_loadVar_mid w b 0 54 st.vs _ Z.range Tryz.underlying54 rfl (infoI st)
  simp only [results, hr, List.mapM_toArray, List.mapM_cons, List.mapM_nil, Sem.run_bind, Sem.run_map, Sem.run_pure, e, Result.andThen_ok, l]
  rfl
theorem three_box (w : World) (cs ds es : Array Value) (t t' t'' : TypeId) : At (((w.alloc (.cells cs t)).alloc (.cells ds t')).alloc (.cells es t'')) w.heap.size cs t ∧ At (((w.alloc (.cells cs t)).alloc (.cells ds t')).alloc (.cells es t'')) (w.heap.size + 1) ds t' ∧ At (((w.alloc (.cells cs t)).alloc (.cells ds t')).alloc (.cells es t'')) (w.heap.size + 2) es t'' ∧ Below w.heap.size w (((w.alloc (.cells cs t)).alloc (.cells ds t')).alloc (.cells es t'')) := by
  obtain ⟨h1, h2, h3⟩ := two_box w cs ds t t'
  have hb : Below ((w.alloc (.cells cs t)).alloc (.cells ds t')).heap.size ((w.alloc (.cells cs t)).alloc (.cells ds t')) (((w.alloc (.cells cs t)).alloc (.cells ds t')).alloc (.cells es t'')) := (Below.refl _ _).alloc (Nat.le_refl _) _
  refine ⟨h1.keep hb, h2.keep hb, ?_, h3.trans (hb.mono h3.size)⟩
  have e : ((w.alloc (.cells cs t)).alloc (.cells ds t')).heap.size = w.heap.size + 2 := by simp
  have := At.new ((w.alloc (.cells cs t)).alloc (.cells ds t')) es t''
  rwa [e] at this
/-- The pages stay where a block is stored into that is neither theirs nor their row's. -/
theorem pgsKept {w w' : World} {B b m : Nat} {pv : Value} {ps : List (Nat × Nat)} {xs : List Int} {Z : Nat} {cs : Array Value} {t : TypeId} (h : Pgs w Z pv ps m xs) (k : Kept b w w') (hne : ∀ j, pv.ownBlock = some j → Z ≤ j) (hB : B ≤ Z) (hb : b < Z) (R : At w b cs t) (hs : cs.size < 64) : Pgs w' B pv ps m xs := by
  have h1 : Pgs w B pv ps m xs := by
    refine ⟨h.len, ?_, h.pg⟩
    rcases h.own with ⟨e1, e2 | ⟨r, cap, cur, e3, e4, e5⟩⟩
    · exact ⟨e1, .inl e2⟩
    · exact ⟨e1, .inr ⟨r, cap, cur, e3, by omega, e5⟩⟩
  refine h1.kept (row := some b) ⟨k.os, k.tape, k.output, k.size, fun i hi hn => k.block i hi (fun e => hn (by rw [e]))⟩ ?_ ?_
  · right
    intro e
    have := hne b e
    omega
  · intro q hq e
    have e2 : q.1 = b := by simpa using e
    obtain ⟨i, hi⟩ := List.getElem?_of_mem hq
    have := (h.pg i q hi).2.2 63 _ (chunk_at xs i 63 (by omega))
    rw [e2, R.cell] at this
    have h3 := (Array.getElem?_eq_some_iff.1 this).1
    omega
set_option maxHeartbeats 8000000 in
theorem iInstOf (p s l c k : Int) (g n cc : Nat) (xs : List Int) (h : Hd) (w : World) (G : Ws w g n cc xs) (hn : n ≤ 16777216) :
    Calls Tryz.prog 19 #[.agg #[.int .i64 p, .int .i64 s, .int .i64 l, .int .i64 c, .int .i64 k], .slice (some ⟨g, 0, none⟩) n cc, .agg h.ar] w fun e w' => ∃ pv, e = .returned (.agg (I8.ar ⟨p, s, l, c, k, pv, n, xs, h, Dd.zero, 54⟩)) ∧ pv.oneCell' = true ∧ (∃ ps, Pgs w' w.heap.size pv ps ((n + 63) / 64) xs) ∧ Below w.heap.size w w' := by
  go_enter Tryz.func19, Tryz.ntmps19
  go_upto_region 1 with fail
  refine wp_at (fun W => At W w.heap.size #[.int .i64 p, .int .i64 s, .int .i64 l, .int .i64 c, .int .i64 k] 35 ∧ At W (w.heap.size + 1) h.ar 28 ∧ At W (w.heap.size + 2) (I8.ar ⟨0, 0, 0, 0, 0, .slice none 0 0, 0, [], Hd.zero, Dd.zero, 54⟩) 54 ∧ Below w.heap.size w W) (three_box w _ _ _ _ _ _) ?_
  rintro w1 ⟨P1, H1, R1, z1⟩
  obtain ⟨b0, hb0⟩ : ∃ b, Hid (w.heap.size = b) := ⟨_, rfl⟩
  obtain ⟨b1, hb1⟩ : ∃ b, Hid (w.heap.size + 1 = b) := ⟨_, rfl⟩
  obtain ⟨r, hr⟩ : ∃ b, Hid (w.heap.size + 2 = b) := ⟨_, rfl⟩
  rw [hr.out] at R1
  rw [hb1.out] at H1
  rw [hb0.out] at P1
  simp only [hr.out]
  simp only [hb1.out]
  simp only [hb0.out]
  have lp : ∀ w', (At w' b0 #[.int .i64 p, .int .i64 s, .int .i64 l, .int .i64 c, .int .i64 k] 35 ∧ At w' b1 h.ar 28) → (loadVar 35 ⟨b0, 0, none⟩).run Tryz.prog w' = .ok (.agg #[.int .i64 p, .int .i64 s, .int .i64 l, .int .i64 c, .int .i64 k]) w' := fun w' A => ld_agg (vs := [.int .i64 p, .int .i64 s, .int .i64 l, .int .i64 c, .int .i64 k]) A.1 Tryz.underlying35 rfl (by kernel_rfl) w' ⟨Below.refl _ _⟩
  have lh : ∀ w', (At w' b0 #[.int .i64 p, .int .i64 s, .int .i64 l, .int .i64 c, .int .i64 k] 35 ∧ At w' b1 h.ar 28) → (loadVar 28 ⟨b1, 0, none⟩).run Tryz.prog w' = .ok (.agg h.ar) w' := fun w' A => ld_agg (vs := h.vs) A.2 Tryz.underlying28 rfl infoH w' ⟨Below.refl _ _⟩
  have zd : Below w1.heap.size w1 w1.drew := (Below.refl _ _).drew
  refine wp_region_held_drew (S := fun w' => At w' b0 #[.int .i64 p, .int .i64 s, .int .i64 l, .int .i64 c, .int .i64 k] 35 ∧ At w' b1 h.ar 28) (by kernel_rfl) ⟨P1.keep zd, H1.keep zd⟩ (fun hS => ?_)
  have R2 := R1.keep zd
  have z2 := z1.drew
  have G2 := (G.keep z1).keep zd
  have hz2 : w.heap.size ≤ w1.drew.heap.size := z1.size
  clear R1 P1 H1 z1 zd
  generalize w1.drew = w2 at *
  refine tk_load (i := 0) (oi := io0) rfl (by kernel_rfl) (by kernel_rfl) (by kernel_rfl) (fun _ _ _ h => h) (by rfl) _ _ _ rfl rfl (by assumption) hS ?_
  simp only [io0, Act.put, List.setIfInBounds_toArray, List.set_cons_zero, List.set_cons_succ]
  refine tk_pure (i := 1) (oi := io1) rfl (by kernel_rfl) (by kernel_rfl) (by kernel_rfl) (fun _ _ _ h => h) (by rfl) hS (fun w9 => by simp only [io1]; go_simp; (try with_reducible rfl)) ?_
  simp only [io1, Act.put, List.setIfInBounds_toArray, List.set_cons_zero, List.set_cons_succ]
  refine tk_load (i := 3) (oi := io3) rfl (by kernel_rfl) (by kernel_rfl) (by kernel_rfl) (fun _ _ _ h => h) (by rfl) _ _ _ rfl rfl (by assumption) hS ?_
  simp only [io3, Act.put, List.setIfInBounds_toArray, List.set_cons_zero, List.set_cons_succ]
  refine wpAnyH_ready (rs := [2]) (by kernel_rfl) (by simp) ?_
  refine AllReadyH.cons (o := io2) rfl (fun K hK => ?_) ?_
  · rw [if_pos (by rfl)]
    simp only [io2]
    go_simp
    go_at_call 45
    refine (iWords g n cc xs _ G2 hn).mono ?_
    rintro e w4 ⟨pv, rfl, ⟨ps, PG⟩, hb⟩
    obtain ⟨pa, pb, pc, rfl⟩ := PG.sl
    (go_wp2_with fail)
    have R3 := R2.keep hb
    have hrl := R2.lt
    have hS2 := And.intro (hS.1.keep hb) (hS.2.keep hb)
    have z3 := z2.trans (hb.mono hz2)
    have ho : ∀ j, Value.ownBlock (.slice pa pb pc) = some j → w2.heap.size ≤ j := fun j hj => (World.ownsRow.lt PG.own j hj).1
    clear hb
    refine hK.out _ _ hS2 (fun hS => ?_)
    clear hK K
    (try simp only [io2, Act.put, List.setIfInBounds_toArray, List.set_cons_zero, List.set_cons_succ])
    refine tk_pure (i := 4) (oi := io4) rfl (by kernel_rfl) (by kernel_rfl) (by kernel_rfl) (fun _ _ _ h => h) (by rfl) hS (fun w9 => tk_built2 54 #[(0, .tmp 7), (1, .tmp 9), (2, .tmp 10)] rfl [(0, .agg #[.int .i64 p, .int .i64 s, .int .i64 l, .int .i64 c, .int .i64 k]), (1, .agg #[.slice pa pb pc, .int .i64 n]), (2, .agg h.ar)] rfl _ (bInst _ _ _ _ _ _ _ _ _ _) w9) ?_
    simp only [io4, Act.put, List.setIfInBounds_toArray, List.set_cons_zero, List.set_cons_succ]
    refine wpAnyH_ready (rs := [5]) (by kernel_rfl) (by simp) ?_
    refine AllReadyH.cons (o := io5) rfl (fun K hK => ?_) ?_
    · rw [if_pos (by rfl)]
      refine wp_storeIn (.tmp 6) (.tmp 11) rfl r ⟨p, s, l, c, k, .slice pa pb pc, n, xs, h, Dd.zero, 54⟩ rfl rfl rfl R3 rfl ?_
      intro w5 R5 kk
      have hS2 := And.intro (hS.1.kept kk (by have := hb0.out; have := hr.out; omega)) (hS.2.kept kk (by have := hb1.out; have := hr.out; omega))
      refine hK.out _ _ hS2 (fun hS => ?_)
      clear hK K
      simp only [io5, Act.put]
      refine wpAnyH_done (by kernel_rfl) ?_ _
      go_wp2
      refine bodyPost_ret (resIn (st := ⟨p, s, l, c, k, .slice pa pb pc, n, xs, h, Dd.zero, 54⟩) 6 rfl rfl R5) rfl ?_
      exact ⟨_, rfl, rfl, ⟨ps, pgsKept PG kk ho hz2 hrl R3 (by show 49 < 64; omega)⟩, z3.trans (kk.below (by have := hr.out; omega) z3.size)⟩
    exact AllReadyH.nil
  exact AllReadyH.nil
end Go.Proofs.YtgmoemjiffglbaaGreat
namespace Go.Proofs.YtgmoemjiffglbaaGreat
open Go.RowKit
set_option maxRecDepth 100000
set_option linter.unusedVariables false
set_option linter.unusedSimpArgs false
noncomputable def mayB (p s l c k : Int) (n : Nat) (me : Int) (h : Hd) (ch : Int) : Bool := aOk p s l c k n && inB me 0 (p - 1) && hOk p s l c k h && h.up && (layer h.at_ == ch)
theorem ok_of_aOk {p s l c k : Int} {n : Nat} (h : aOk p s l c k n = true) : ok p s l c k = true := by
  cases ho : ok p s l c k
  · rw [aOk_n ho] at h; cases h
  · rfl
set_option maxHeartbeats 8000000 in
theorem iMay (p s l c k : Int) (a : Option Addr) (n cc : Nat) (me : Int) (h : Hd) (ch : Int) (w : World) (hn : n ≤ 16777216) :
    Calls Tryz.prog 18 #[.agg #[.int .i64 p, .int .i64 s, .int .i64 l, .int .i64 c, .int .i64 k], .slice a n cc, .int .i64 me, .agg h.ar, .int .i64 ch] w fun e w' => e = .returned (.bool (mayB p s l c k n me h ch)) ∧ Below w.heap.size w w' := by
  unfold mayB
  cases e1 : aOk p s l c k n
  · simp only [Bool.false_and]
    go_enter Tryz.func18, Tryz.ntmps18
    go_upto_region 1 with fail
    refine wp_at (fun W => At W w.heap.size #[.int .i64 p, .int .i64 s, .int .i64 l, .int .i64 c, .int .i64 k] 35 ∧ At W (w.heap.size + 1) h.ar 28 ∧ Below w.heap.size w W) (two_box w _ _ _ _) ?_
    rintro W ⟨P, A, z⟩
    obtain ⟨d0, d1, d2, d3, d4⟩ := P.five
    go_wp2_with (first
      | (go_at_call 41; refine (iArena _ _ _ _ _ _ _ _ _ (by omega)).mono ?_; rintro e w1 ⟨rfl, hb⟩; rw [e1]; clear d0 d1 d2 d3 d4; replace P := P.keep hb; replace A := A.keep hb; replace z := z.trans (hb.mono z.size); clear hb; obtain ⟨d0, d1, d2, d3, d4⟩ := P.five; have c0 : w1.cell? ⟨w.heap.size + 1, 0, none⟩ = some (.bool h.up) := A.cell 0; have c5 : w1.cell? ⟨w.heap.size + 1, 5, none⟩ = some (.int .i64 h.at_) := A.cell 5))
    go_returns
    exact ⟨rfl, z⟩
  · have ho := ok_of_aOk e1
    cases e2 : inB me 0 (p - 1)
    · simp only [Bool.true_and, Bool.false_and]
      go_enter Tryz.func18, Tryz.ntmps18
      go_upto_region 1 with fail
      refine wp_at (fun W => At W w.heap.size #[.int .i64 p, .int .i64 s, .int .i64 l, .int .i64 c, .int .i64 k] 35 ∧ At W (w.heap.size + 1) h.ar 28 ∧ Below w.heap.size w W) (two_box w _ _ _ _) ?_
      rintro W ⟨P, A, z⟩
      obtain ⟨d0, d1, d2, d3, d4⟩ := P.five
      go_wp2_with (first
        | (go_at_call 41; refine (iArena _ _ _ _ _ _ _ _ _ (by omega)).mono ?_; rintro e w1 ⟨rfl, hb⟩; rw [e1]; clear d0 d1 d2 d3 d4; replace P := P.keep hb; replace A := A.keep hb; replace z := z.trans (hb.mono z.size); clear hb; obtain ⟨d0, d1, d2, d3, d4⟩ := P.five; have c0 : w1.cell? ⟨w.heap.size + 1, 0, none⟩ = some (.bool h.up) := A.cell 0; have c5 : w1.cell? ⟨w.heap.size + 1, 5, none⟩ = some (.int .i64 h.at_) := A.cell 5)
        | (go_at_call 42; refine (iHas _ _ _ _ _ _ ho _).mono ?_; rintro e w2 ⟨rfl, hb⟩; rw [e2]; clear d0 d1 d2 d3 d4; replace P := P.keep hb; replace A := A.keep hb; replace z := z.trans (hb.mono z.size); clear hb; obtain ⟨d0, d1, d2, d3, d4⟩ := P.five; have c0 : w2.cell? ⟨w.heap.size + 1, 0, none⟩ = some (.bool h.up) := A.cell 0; have c5 : w2.cell? ⟨w.heap.size + 1, 5, none⟩ = some (.int .i64 h.at_) := A.cell 5; (try rw [e4] at c0)))
      go_returns
      exact ⟨rfl, z⟩
    · cases e3 : hOk p s l c k h
      · simp only [Bool.true_and, Bool.false_and]
        go_enter Tryz.func18, Tryz.ntmps18
        go_upto_region 1 with fail
        refine wp_at (fun W => At W w.heap.size #[.int .i64 p, .int .i64 s, .int .i64 l, .int .i64 c, .int .i64 k] 35 ∧ At W (w.heap.size + 1) h.ar 28 ∧ Below w.heap.size w W) (two_box w _ _ _ _) ?_
        rintro W ⟨P, A, z⟩
        obtain ⟨d0, d1, d2, d3, d4⟩ := P.five
        go_wp2_with (first
          | (go_at_call 41; refine (iArena _ _ _ _ _ _ _ _ _ (by omega)).mono ?_; rintro e w1 ⟨rfl, hb⟩; rw [e1]; clear d0 d1 d2 d3 d4; replace P := P.keep hb; replace A := A.keep hb; replace z := z.trans (hb.mono z.size); clear hb; obtain ⟨d0, d1, d2, d3, d4⟩ := P.five; have c0 : w1.cell? ⟨w.heap.size + 1, 0, none⟩ = some (.bool h.up) := A.cell 0; have c5 : w1.cell? ⟨w.heap.size + 1, 5, none⟩ = some (.int .i64 h.at_) := A.cell 5)
          | (go_at_call 42; refine (iHas _ _ _ _ _ _ ho _).mono ?_; rintro e w2 ⟨rfl, hb⟩; rw [e2]; clear d0 d1 d2 d3 d4; replace P := P.keep hb; replace A := A.keep hb; replace z := z.trans (hb.mono z.size); clear hb; obtain ⟨d0, d1, d2, d3, d4⟩ := P.five; have c0 : w2.cell? ⟨w.heap.size + 1, 0, none⟩ = some (.bool h.up) := A.cell 0; have c5 : w2.cell? ⟨w.heap.size + 1, 5, none⟩ = some (.int .i64 h.at_) := A.cell 5; (try rw [e4] at c0))
          | (refine loadHg (by rfl) (.tmp 8) rfl (w.heap.size + 1) h rfl A ?_)
          | (go_at_call 43; refine (iHandOk _ _ _ _ _ h _).mono ?_; rintro e w3 ⟨rfl, hb⟩; rw [e3]; clear d0 d1 d2 d3 d4; replace P := P.keep hb; replace A := A.keep hb; replace z := z.trans (hb.mono z.size); clear hb; obtain ⟨d0, d1, d2, d3, d4⟩ := P.five; have c0 : w3.cell? ⟨w.heap.size + 1, 0, none⟩ = some (.bool h.up) := A.cell 0; have c5 : w3.cell? ⟨w.heap.size + 1, 5, none⟩ = some (.int .i64 h.at_) := A.cell 5; (try rw [e4] at c0)))
        go_returns
        exact ⟨rfl, z⟩
      · cases e4 : h.up
        · simp only [Bool.true_and, Bool.false_and]
          go_enter Tryz.func18, Tryz.ntmps18
          go_upto_region 1 with fail
          refine wp_at (fun W => At W w.heap.size #[.int .i64 p, .int .i64 s, .int .i64 l, .int .i64 c, .int .i64 k] 35 ∧ At W (w.heap.size + 1) h.ar 28 ∧ Below w.heap.size w W) (two_box w _ _ _ _) ?_
          rintro W ⟨P, A, z⟩
          obtain ⟨d0, d1, d2, d3, d4⟩ := P.five
          go_wp2_with (first
            | (go_at_call 41; refine (iArena _ _ _ _ _ _ _ _ _ (by omega)).mono ?_; rintro e w1 ⟨rfl, hb⟩; rw [e1]; clear d0 d1 d2 d3 d4; replace P := P.keep hb; replace A := A.keep hb; replace z := z.trans (hb.mono z.size); clear hb; obtain ⟨d0, d1, d2, d3, d4⟩ := P.five; have c0 : w1.cell? ⟨w.heap.size + 1, 0, none⟩ = some (.bool h.up) := A.cell 0; have c5 : w1.cell? ⟨w.heap.size + 1, 5, none⟩ = some (.int .i64 h.at_) := A.cell 5)
            | (go_at_call 42; refine (iHas _ _ _ _ _ _ ho _).mono ?_; rintro e w2 ⟨rfl, hb⟩; rw [e2]; clear d0 d1 d2 d3 d4; replace P := P.keep hb; replace A := A.keep hb; replace z := z.trans (hb.mono z.size); clear hb; obtain ⟨d0, d1, d2, d3, d4⟩ := P.five; have c0 : w2.cell? ⟨w.heap.size + 1, 0, none⟩ = some (.bool h.up) := A.cell 0; have c5 : w2.cell? ⟨w.heap.size + 1, 5, none⟩ = some (.int .i64 h.at_) := A.cell 5; (try rw [e4] at c0))
            | (refine loadHg (by rfl) (.tmp 8) rfl (w.heap.size + 1) h rfl A ?_)
            | (go_at_call 43; refine (iHandOk _ _ _ _ _ h _).mono ?_; rintro e w3 ⟨rfl, hb⟩; rw [e3]; clear d0 d1 d2 d3 d4; replace P := P.keep hb; replace A := A.keep hb; replace z := z.trans (hb.mono z.size); clear hb; obtain ⟨d0, d1, d2, d3, d4⟩ := P.five; have c0 : w3.cell? ⟨w.heap.size + 1, 0, none⟩ = some (.bool h.up) := A.cell 0; have c5 : w3.cell? ⟨w.heap.size + 1, 5, none⟩ = some (.int .i64 h.at_) := A.cell 5; (try rw [e4] at c0)))
          go_returns
          exact ⟨rfl, z⟩
        · simp only [Bool.true_and]
          go_enter Tryz.func18, Tryz.ntmps18
          go_upto_region 1 with fail
          refine wp_at (fun W => At W w.heap.size #[.int .i64 p, .int .i64 s, .int .i64 l, .int .i64 c, .int .i64 k] 35 ∧ At W (w.heap.size + 1) h.ar 28 ∧ Below w.heap.size w W) (two_box w _ _ _ _) ?_
          rintro W ⟨P, A, z⟩
          obtain ⟨d0, d1, d2, d3, d4⟩ := P.five
          go_wp2_with (first
            | (go_at_call 41; refine (iArena _ _ _ _ _ _ _ _ _ (by omega)).mono ?_; rintro e w1 ⟨rfl, hb⟩; rw [e1]; clear d0 d1 d2 d3 d4; replace P := P.keep hb; replace A := A.keep hb; replace z := z.trans (hb.mono z.size); clear hb; obtain ⟨d0, d1, d2, d3, d4⟩ := P.five; have c0 : w1.cell? ⟨w.heap.size + 1, 0, none⟩ = some (.bool h.up) := A.cell 0; have c5 : w1.cell? ⟨w.heap.size + 1, 5, none⟩ = some (.int .i64 h.at_) := A.cell 5)
            | (go_at_call 42; refine (iHas _ _ _ _ _ _ ho _).mono ?_; rintro e w2 ⟨rfl, hb⟩; rw [e2]; clear d0 d1 d2 d3 d4; replace P := P.keep hb; replace A := A.keep hb; replace z := z.trans (hb.mono z.size); clear hb; obtain ⟨d0, d1, d2, d3, d4⟩ := P.five; have c0 : w2.cell? ⟨w.heap.size + 1, 0, none⟩ = some (.bool h.up) := A.cell 0; have c5 : w2.cell? ⟨w.heap.size + 1, 5, none⟩ = some (.int .i64 h.at_) := A.cell 5; (try rw [e4] at c0))
            | (refine loadHg (by rfl) (.tmp 8) rfl (w.heap.size + 1) h rfl A ?_)
            | (go_at_call 43; refine (iHandOk _ _ _ _ _ h _).mono ?_; rintro e w3 ⟨rfl, hb⟩; rw [e3]; clear d0 d1 d2 d3 d4; replace P := P.keep hb; replace A := A.keep hb; replace z := z.trans (hb.mono z.size); clear hb; obtain ⟨d0, d1, d2, d3, d4⟩ := P.five; have c0 : w3.cell? ⟨w.heap.size + 1, 0, none⟩ = some (.bool h.up) := A.cell 0; have c5 : w3.cell? ⟨w.heap.size + 1, 5, none⟩ = some (.int .i64 h.at_) := A.cell 5; (try rw [e4] at c0))
            | (go_at_call 44; refine (iLayer _ _).mono ?_; rintro e w4 ⟨rfl, rfl⟩))
          go_returns
          exact ⟨ret_b (by first | rfl | rw [Bool.eq_iff_iff]), z⟩
set_option maxHeartbeats 8000000 in
theorem sMay (p s l c k : Int) (a : Option Addr) (n cc : Nat) (me : Int) (h : Hd) (ch : Int) (w : World) (hn : n ≤ 16777216) :
    Calls Tryz.prog 14 #[.agg #[.int .i64 p, .int .i64 s, .int .i64 l, .int .i64 c, .int .i64 k], .slice a n cc, .int .i64 me, .agg h.ar, .int .i64 ch] w fun e w' => e = .returned (.bool (mayB p s l c k n me h ch)) ∧ Below w.heap.size w w' := by
  unfold mayB
  cases e1 : aOk p s l c k n
  · simp only [Bool.false_and]
    go_enter Tryz.func14, Tryz.ntmps14
    go_upto_region 1 with fail
    refine wp_at (fun W => At W w.heap.size #[.int .i64 p, .int .i64 s, .int .i64 l, .int .i64 c, .int .i64 k] 35 ∧ At W (w.heap.size + 1) h.ar 28 ∧ Below w.heap.size w W) (two_box w _ _ _ _) ?_
    rintro W ⟨P, A, z⟩
    obtain ⟨d0, d1, d2, d3, d4⟩ := P.five
    go_wp2_with (first
      | (go_at_call 25; refine (sArena _ _ _ _ _ _ _ _ _ (by omega)).mono ?_; rintro e w1 ⟨rfl, hb⟩; rw [e1]; clear d0 d1 d2 d3 d4; replace P := P.keep hb; replace A := A.keep hb; replace z := z.trans (hb.mono z.size); clear hb; obtain ⟨d0, d1, d2, d3, d4⟩ := P.five; have c0 : w1.cell? ⟨w.heap.size + 1, 0, none⟩ = some (.bool h.up) := A.cell 0; have c5 : w1.cell? ⟨w.heap.size + 1, 5, none⟩ = some (.int .i64 h.at_) := A.cell 5))
    go_returns
    exact ⟨rfl, z⟩
  · have ho := ok_of_aOk e1
    cases e2 : inB me 0 (p - 1)
    · simp only [Bool.true_and, Bool.false_and]
      go_enter Tryz.func14, Tryz.ntmps14
      go_upto_region 1 with fail
      refine wp_at (fun W => At W w.heap.size #[.int .i64 p, .int .i64 s, .int .i64 l, .int .i64 c, .int .i64 k] 35 ∧ At W (w.heap.size + 1) h.ar 28 ∧ Below w.heap.size w W) (two_box w _ _ _ _) ?_
      rintro W ⟨P, A, z⟩
      obtain ⟨d0, d1, d2, d3, d4⟩ := P.five
      go_wp2_with (first
        | (go_at_call 25; refine (sArena _ _ _ _ _ _ _ _ _ (by omega)).mono ?_; rintro e w1 ⟨rfl, hb⟩; rw [e1]; clear d0 d1 d2 d3 d4; replace P := P.keep hb; replace A := A.keep hb; replace z := z.trans (hb.mono z.size); clear hb; obtain ⟨d0, d1, d2, d3, d4⟩ := P.five; have c0 : w1.cell? ⟨w.heap.size + 1, 0, none⟩ = some (.bool h.up) := A.cell 0; have c5 : w1.cell? ⟨w.heap.size + 1, 5, none⟩ = some (.int .i64 h.at_) := A.cell 5)
        | (go_at_call 26; refine (sHas _ _ _ _ _ _ ho _).mono ?_; rintro e w2 ⟨rfl, hb⟩; rw [e2]; clear d0 d1 d2 d3 d4; replace P := P.keep hb; replace A := A.keep hb; replace z := z.trans (hb.mono z.size); clear hb; obtain ⟨d0, d1, d2, d3, d4⟩ := P.five; have c0 : w2.cell? ⟨w.heap.size + 1, 0, none⟩ = some (.bool h.up) := A.cell 0; have c5 : w2.cell? ⟨w.heap.size + 1, 5, none⟩ = some (.int .i64 h.at_) := A.cell 5; (try rw [e4] at c0)))
      go_returns
      exact ⟨rfl, z⟩
    · cases e3 : hOk p s l c k h
      · simp only [Bool.true_and, Bool.false_and]
        go_enter Tryz.func14, Tryz.ntmps14
        go_upto_region 1 with fail
        refine wp_at (fun W => At W w.heap.size #[.int .i64 p, .int .i64 s, .int .i64 l, .int .i64 c, .int .i64 k] 35 ∧ At W (w.heap.size + 1) h.ar 28 ∧ Below w.heap.size w W) (two_box w _ _ _ _) ?_
        rintro W ⟨P, A, z⟩
        obtain ⟨d0, d1, d2, d3, d4⟩ := P.five
        go_wp2_with (first
          | (go_at_call 25; refine (sArena _ _ _ _ _ _ _ _ _ (by omega)).mono ?_; rintro e w1 ⟨rfl, hb⟩; rw [e1]; clear d0 d1 d2 d3 d4; replace P := P.keep hb; replace A := A.keep hb; replace z := z.trans (hb.mono z.size); clear hb; obtain ⟨d0, d1, d2, d3, d4⟩ := P.five; have c0 : w1.cell? ⟨w.heap.size + 1, 0, none⟩ = some (.bool h.up) := A.cell 0; have c5 : w1.cell? ⟨w.heap.size + 1, 5, none⟩ = some (.int .i64 h.at_) := A.cell 5)
          | (go_at_call 26; refine (sHas _ _ _ _ _ _ ho _).mono ?_; rintro e w2 ⟨rfl, hb⟩; rw [e2]; clear d0 d1 d2 d3 d4; replace P := P.keep hb; replace A := A.keep hb; replace z := z.trans (hb.mono z.size); clear hb; obtain ⟨d0, d1, d2, d3, d4⟩ := P.five; have c0 : w2.cell? ⟨w.heap.size + 1, 0, none⟩ = some (.bool h.up) := A.cell 0; have c5 : w2.cell? ⟨w.heap.size + 1, 5, none⟩ = some (.int .i64 h.at_) := A.cell 5; (try rw [e4] at c0))
          | (refine loadHg (by rfl) (.tmp 8) rfl (w.heap.size + 1) h rfl A ?_)
          | (go_at_call 27; refine (sHandOk _ _ _ _ _ h _).mono ?_; rintro e w3 ⟨rfl, hb⟩; rw [e3]; clear d0 d1 d2 d3 d4; replace P := P.keep hb; replace A := A.keep hb; replace z := z.trans (hb.mono z.size); clear hb; obtain ⟨d0, d1, d2, d3, d4⟩ := P.five; have c0 : w3.cell? ⟨w.heap.size + 1, 0, none⟩ = some (.bool h.up) := A.cell 0; have c5 : w3.cell? ⟨w.heap.size + 1, 5, none⟩ = some (.int .i64 h.at_) := A.cell 5; (try rw [e4] at c0)))
        go_returns
        exact ⟨rfl, z⟩
      · cases e4 : h.up
        · simp only [Bool.true_and, Bool.false_and]
          go_enter Tryz.func14, Tryz.ntmps14
          go_upto_region 1 with fail
          refine wp_at (fun W => At W w.heap.size #[.int .i64 p, .int .i64 s, .int .i64 l, .int .i64 c, .int .i64 k] 35 ∧ At W (w.heap.size + 1) h.ar 28 ∧ Below w.heap.size w W) (two_box w _ _ _ _) ?_
          rintro W ⟨P, A, z⟩
          obtain ⟨d0, d1, d2, d3, d4⟩ := P.five
          go_wp2_with (first
            | (go_at_call 25; refine (sArena _ _ _ _ _ _ _ _ _ (by omega)).mono ?_; rintro e w1 ⟨rfl, hb⟩; rw [e1]; clear d0 d1 d2 d3 d4; replace P := P.keep hb; replace A := A.keep hb; replace z := z.trans (hb.mono z.size); clear hb; obtain ⟨d0, d1, d2, d3, d4⟩ := P.five; have c0 : w1.cell? ⟨w.heap.size + 1, 0, none⟩ = some (.bool h.up) := A.cell 0; have c5 : w1.cell? ⟨w.heap.size + 1, 5, none⟩ = some (.int .i64 h.at_) := A.cell 5)
            | (go_at_call 26; refine (sHas _ _ _ _ _ _ ho _).mono ?_; rintro e w2 ⟨rfl, hb⟩; rw [e2]; clear d0 d1 d2 d3 d4; replace P := P.keep hb; replace A := A.keep hb; replace z := z.trans (hb.mono z.size); clear hb; obtain ⟨d0, d1, d2, d3, d4⟩ := P.five; have c0 : w2.cell? ⟨w.heap.size + 1, 0, none⟩ = some (.bool h.up) := A.cell 0; have c5 : w2.cell? ⟨w.heap.size + 1, 5, none⟩ = some (.int .i64 h.at_) := A.cell 5; (try rw [e4] at c0))
            | (refine loadHg (by rfl) (.tmp 8) rfl (w.heap.size + 1) h rfl A ?_)
            | (go_at_call 27; refine (sHandOk _ _ _ _ _ h _).mono ?_; rintro e w3 ⟨rfl, hb⟩; rw [e3]; clear d0 d1 d2 d3 d4; replace P := P.keep hb; replace A := A.keep hb; replace z := z.trans (hb.mono z.size); clear hb; obtain ⟨d0, d1, d2, d3, d4⟩ := P.five; have c0 : w3.cell? ⟨w.heap.size + 1, 0, none⟩ = some (.bool h.up) := A.cell 0; have c5 : w3.cell? ⟨w.heap.size + 1, 5, none⟩ = some (.int .i64 h.at_) := A.cell 5; (try rw [e4] at c0)))
          go_returns
          exact ⟨rfl, z⟩
        · simp only [Bool.true_and]
          go_enter Tryz.func14, Tryz.ntmps14
          go_upto_region 1 with fail
          refine wp_at (fun W => At W w.heap.size #[.int .i64 p, .int .i64 s, .int .i64 l, .int .i64 c, .int .i64 k] 35 ∧ At W (w.heap.size + 1) h.ar 28 ∧ Below w.heap.size w W) (two_box w _ _ _ _) ?_
          rintro W ⟨P, A, z⟩
          obtain ⟨d0, d1, d2, d3, d4⟩ := P.five
          go_wp2_with (first
            | (go_at_call 25; refine (sArena _ _ _ _ _ _ _ _ _ (by omega)).mono ?_; rintro e w1 ⟨rfl, hb⟩; rw [e1]; clear d0 d1 d2 d3 d4; replace P := P.keep hb; replace A := A.keep hb; replace z := z.trans (hb.mono z.size); clear hb; obtain ⟨d0, d1, d2, d3, d4⟩ := P.five; have c0 : w1.cell? ⟨w.heap.size + 1, 0, none⟩ = some (.bool h.up) := A.cell 0; have c5 : w1.cell? ⟨w.heap.size + 1, 5, none⟩ = some (.int .i64 h.at_) := A.cell 5)
            | (go_at_call 26; refine (sHas _ _ _ _ _ _ ho _).mono ?_; rintro e w2 ⟨rfl, hb⟩; rw [e2]; clear d0 d1 d2 d3 d4; replace P := P.keep hb; replace A := A.keep hb; replace z := z.trans (hb.mono z.size); clear hb; obtain ⟨d0, d1, d2, d3, d4⟩ := P.five; have c0 : w2.cell? ⟨w.heap.size + 1, 0, none⟩ = some (.bool h.up) := A.cell 0; have c5 : w2.cell? ⟨w.heap.size + 1, 5, none⟩ = some (.int .i64 h.at_) := A.cell 5; (try rw [e4] at c0))
            | (refine loadHg (by rfl) (.tmp 8) rfl (w.heap.size + 1) h rfl A ?_)
            | (go_at_call 27; refine (sHandOk _ _ _ _ _ h _).mono ?_; rintro e w3 ⟨rfl, hb⟩; rw [e3]; clear d0 d1 d2 d3 d4; replace P := P.keep hb; replace A := A.keep hb; replace z := z.trans (hb.mono z.size); clear hb; obtain ⟨d0, d1, d2, d3, d4⟩ := P.five; have c0 : w3.cell? ⟨w.heap.size + 1, 0, none⟩ = some (.bool h.up) := A.cell 0; have c5 : w3.cell? ⟨w.heap.size + 1, 5, none⟩ = some (.int .i64 h.at_) := A.cell 5; (try rw [e4] at c0))
            | (go_at_call 28; refine (sLayer _ _).mono ?_; rintro e w4 ⟨rfl, hb⟩; replace z := z.trans (hb.mono z.size); clear hb))
          go_returns
          exact ⟨ret_b (by first | rfl | rw [Bool.eq_iff_iff]), z⟩
end Go.Proofs.YtgmoemjiffglbaaGreat
namespace Go.Proofs.YtgmoemjiffglbaaGreat
open Go.RowKit
set_option maxRecDepth 100000
set_option linter.unusedVariables false
set_option linter.unusedSimpArgs false
theorem goes_in {P : Program} {f : FuncId} {fn : Func} (hf : P.funcs[f]? = some fn) (hn : (fn.name == "runtime.NumGoroutine") = false) (hb : fn.body.isNone = false) (args : Array Value) (w : World) : (callFunc f args).run P w = .ok (.enter f args) w := by
  have h1 : fn.name ≠ "runtime.NumGoroutine" := by simpa using hn
  have h2 : fn.body ≠ none := by intro e; rw [e] at hb; cases hb
  simp [callFunc, hf, h1, h2]
def Bdx (xs : List Int) : Prop := ∀ x ∈ xs, 0 ≤ x ∧ x ≤ 18446744073709551615
/-- The words and the plan of a step keep their measure. -/
structure Meas (st t : I8) : Prop where
  n : t.n = st.n
  p : t.p = st.p
  s : t.s = st.s
  l : t.l = st.l
  c : t.c = st.c
  k : t.k = st.k
  bd : Bdx st.xs → Bdx t.xs
theorem Meas.refl (st : I8) : Meas st st := ⟨rfl, rfl, rfl, rfl, rfl, rfl, id⟩
theorem Meas.trans {a b c : I8} (h : Meas a b) (k : Meas b c) : Meas a c := ⟨k.n.trans h.n, k.p.trans h.p, k.s.trans h.s, k.l.trans h.l, k.c.trans h.c, k.k.trans h.k, fun x => k.bd (h.bd x)⟩
theorem Meas.hand (st : I8) (h : Hd) : Meas st { st with h := h } := ⟨rfl, rfl, rfl, rfl, rfl, rfl, id⟩
theorem Meas.wrO {st t : I8} {a k p i v : Int} (h : st.wrO a k p i v = some t) : Meas st t := by
  unfold I8.wrO at h
  split at h
  · rename_i hw
    cases h
    exact ⟨rfl, rfl, rfl, rfl, rfl, rfl, fun b => wrote_bd b (pk_bd hw.1) a⟩
  · cases h
/-- What a step comes to, if it is done. -/
noncomputable def fin8 (r : Option I8) : Option I8 := match r with
  | some t => if hOk t.p t.s t.l t.c t.k t.h = true then some t else none
  | none => none
/-- How a step's face answers. -/
def Told8 (w : World) (B : Nat) (r : Option I8) (e : Ending) (w' : World) : Prop := match r with
  | some t => (∃ g, e = .returned (.tuple #[.agg (doneVs (.slice (some ⟨g, 0, none⟩) t.n t.n) t.h t.d).toArray, .bool true]) ∧ w.heap.size ≤ g ∧ Ws w' g t.n t.n t.xs) ∧ Below B w w'
  | none => e = .returned (.tuple #[.agg doneZ.toArray, .bool false]) ∧ Below B w w'
theorem iCaught (nx : FuncId) (B q : Nat) (HC : ∀ w, (callFunc nx #[.pointer (some ⟨q, 0, none⟩)]).run Tryz.prog w = .ok (.enter nx #[.pointer (some ⟨q, 0, none⟩)]) w) (st : I8) (w : World) (S : IAt w B q st) (hn : st.n ≤ 16777216) (bd : Bdx st.xs) (r : Option I8) (HN : ∀ w1, IAt w1 B q st → Calls Tryz.prog nx #[.pointer (some ⟨q, 0, none⟩)] w1 (Ends B q st.pv w1 r)) (HM : ∀ t, r = some t → Meas st t) :
    Calls Tryz.prog 20 #[.pointer (some ⟨q, 0, none⟩), .func (.func nx) #[.pointer (some ⟨q, 0, none⟩)] #[]] w (Told8 w B (fin8 r)) := by
  cases r with
  | none => exact iCaughtN nx B q HC st w S HN
  | some t =>
    have M := HM t rfl
    cases hk : hOk t.p t.s t.l t.c t.k t.h
    · have e : fin8 (some t) = none := by unfold fin8; simp only [hk]; rfl
      rw [e]
      exact iCaughtD nx B q HC st w S t HN hk
    · have e : fin8 (some t) = some t := by unfold fin8; simp only [hk]; rfl
      rw [e]
      refine (iCaughtY nx B q HC st w S t HN hk (by rw [M.n]; exact hn) (M.bd bd)).mono ?_
      rintro e w' ⟨g, h1, h2, h3, h4⟩
      exact ⟨⟨g, h1, h2, h3⟩, h4⟩
theorem Wso.fresh {w : World} {b n : Nat} {st : I8} {ps : List (Nat × Nat)} {Z : Nat} (hl : st.xs.length = st.n) (P : Pgs w Z st.pv ps ((st.n + 63) / 64) st.xs) (A : At w b st.ar st.ty) (hb : Z ≤ b) (h1 : st.pv.ownBlock ≠ some b) (h2 : ∀ p ∈ ps, p.1 ≠ b) : IAt w Z b st :=
  ⟨⟨st.pv, ps, A, rfl, rfl, P, h1, h2⟩, hl, hb⟩
theorem resDn2 {fn : Func} {T : Array Value} {w : World} {b : Nat} {v u : Value} {h : Hd} {d : Dd} {t : TypeId} (i j : Nat) (hr : fn.results = #[.cell i 32, .tmp j]) (hT : T.getD i undef = .pointer (some ⟨b, 0, none⟩)) (hj : T.getD j undef = u) (Z : At w b (doneVs v h d).toArray t) :
    (results fn T).run Tryz.prog w = .ok (.tuple #[.agg (doneVs v h d).toArray, u]) w := by
  have e : (asAddr (T.getD i undef)).run Tryz.prog w = .ok ⟨b, 0, none⟩ w := by rw [hT]; rfl
  have l : (loadVar 32 ⟨b, 0, none⟩).run Tryz.prog w = .ok (.agg (doneVs v h d).toArray) w := run_loadVar_mid w b 0 32 (doneVs v h d) _ Z.range Tryz.underlying32 rfl (infoDn v h d)
  simp only [results, hr, List.mapM_toArray, List.mapM_cons, List.mapM_nil, Sem.run_bind, Sem.run_map, Sem.run_pure, e, Result.andThen_ok, l, hj]
  rfl
theorem storeIn {ops : Array Oper} {rest : List Oper} {op : Oper} {a : Act} {w : World} {Q : Exit → Act → World → Prop} (hgd : op.guard = none) (x y : Operand) (ho : op.op = .store 54 x y) (st : I8) (hp : st.pv.oneCell' = true) (hx : a.eval x = .pointer (some ⟨w.heap.size, 0, none⟩)) (hy : a.eval y = .agg st.ar) {cs : Array Value} {t : TypeId} (hs : cs.size = 49)
    (hh : ∀ w', At w' w.heap.size st.ar t → Below w.heap.size w w' → wpList Tryz.prog ops Q rest (a.put op.dst undef) w') : wpList Tryz.prog ops Q (op :: rest) a (w.alloc (.cells cs t)) :=
  newV (vs := st.vs) (infoI st) (st.one hp) hgd x y ho hx hy (by rw [hs]; rfl) fun w' Z hb _ => hh w' Z hb
end Go.Proofs.YtgmoemjiffglbaaGreat
