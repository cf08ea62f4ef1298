/-
  The program's step under way: how it lies in memory; the places that it names; what it reads and writes, and how it gives up.
  The program's step under way: what is read and written by it, or given up; a reply.
  The program's step under way: what AtSay, an intent, AtNote, AtMark and the gets of AtOpen do.
  The program's deed of a swap.
  The program's step under way: what AtOpen and AtSwap do.
  The program's step under way: what AtSwap does; the next thing.
-/
import Derived.Test.YtgmoemjiffglbaaGreatMi
import Derived.WalkLawsBesides
namespace Go.Proofs.YtgmoemjiffglbaaGreat
open Go.RowKit
set_option maxRecDepth 100000
set_option linter.unusedVariables false
set_option linter.unusedSimpArgs false
/-- A step that is being done by the program. -/
structure I8 where
  p : Int
  s : Int
  l : Int
  c : Int
  k : Int
  pv : Value
  n : Nat
  xs : List Int
  h : Hd
  d : Dd
  ty : TypeId
def I8.vs (st : I8) : List Value := [.int .i64 st.p, .int .i64 st.s, .int .i64 st.l, .int .i64 st.c, .int .i64 st.k, st.pv, .int .i64 st.n] ++ st.h.vs ++ st.d.vs
def I8.ar (st : I8) : Array Value := st.vs.toArray
def IAt (w : World) (B q : Nat) (st : I8) : Prop := Wso w B q 5 st.n st.xs st.ar st.ty
theorem IAt.keep {w w' : World} {B q : Nat} {st : I8} (h : IAt w B q st) (hb : Below w.heap.size w w') : IAt w' B q st := Wso.keep h hb
theorem IAt.is {w : World} {B q : Nat} {st : I8} (h : IAt w B q st) : At w q st.ar st.ty := Wso.at_ h
theorem IAt.lt {w : World} {B q : Nat} {st : I8} (h : IAt w B q st) : q < w.heap.size := h.is.lt
theorem IAt.put {w : World} {B q : Nat} {st st' : I8} (h : IAt w B q st) (i : Nat) (v : Value) (hi : 7 ≤ i) (e : st.ar.setIfInBounds i v = st'.ar) (en : st'.n = st.n) (ex : st'.xs = st.xs) (et : st'.ty = st.ty := by rfl) : IAt (w.setCell ⟨q, i, none⟩ v) B q st' := by
  unfold IAt
  rw [← e, en, ex, et]
  exact Wso.put h i v (by omega) (by omega)
theorem I8.pl (st : I8) : ∀ j v, [Value.int .i64 st.p, .int .i64 st.s, .int .i64 st.l, .int .i64 st.c, .int .i64 st.k][j]? = some v → st.ar[0 + j]? = some v := fun j v hv =>
  sub_at [] [Value.int .i64 st.p, .int .i64 st.s, .int .i64 st.l, .int .i64 st.c, .int .i64 st.k] ([st.pv, .int .i64 st.n] ++ st.h.vs ++ st.d.vs) j v hv
theorem I8.hl (st : I8) : ∀ j v, st.h.vs[j]? = some v → st.ar[7 + j]? = some v := fun j v hv =>
  sub_at [Value.int .i64 st.p, .int .i64 st.s, .int .i64 st.l, .int .i64 st.c, .int .i64 st.k, st.pv, .int .i64 st.n] st.h.vs st.d.vs j v hv
theorem I8.dl (st : I8) : ∀ j v, st.d.vs[j]? = some v → st.ar[43 + j]? = some v := fun j v hv => by
  have := sub_at ([Value.int .i64 st.p, .int .i64 st.s, .int .i64 st.l, .int .i64 st.c, .int .i64 st.k, st.pv, .int .i64 st.n] ++ st.h.vs) st.d.vs [] j v hv
  simp only [List.append_nil, List.length_append, List.length_cons, List.length_nil, Hd.len] at this
  exact this
theorem ld_sub {W : World} {b o : Nat} {vs : List Value} {cs : Array Value} {t ty : TypeId} {d : TypeDesc} (A : At W b cs t) (hr : ∀ j v, vs[j]? = some v → cs[o + j]? = some v) (hu : Tryz.prog.underlying ty = some d) (hd : d.isRow = true) (hi : (Tryz.prog.info? ty).map (·.size) = some vs.length) (w : World) (hw : Cls W w) : (loadVar ty ⟨b, o, none⟩).run Tryz.prog w = .ok (.agg vs.toArray) w :=
  run_loadVar_mid w b o ty vs d (fun j v hj => by rw [(A.keep hw.below).cell]; exact hr j v hj) hu hd hi
theorem q_field {P : Program} {o : Oper} {a : Act} {C : World → Prop} {K : Act → Prop} (t : TypeId) (x : Operand) (i : Nat) (u v : Value) (ho : o.op = .field t x i) (hx : a.eval x = u)
    (h : ∀ w, (Instr.field t u i).run P w = .ok v w) (hk : K (a.put o.dst v)) : o.quiet P a C K :=
  ⟨v, fun w hw => by
    unfold Oper.quietAt execOp
    simp only [ho, hx, Sem.run_bind, Sem.run_map, Sem.run_pure, Result.andThen_ok, h w]
    exact ⟨rfl, rfl⟩, hk⟩
theorem wordF1 (x0 x1 x2 x3 : Int) (w : World) : (Instr.field 85 (.agg #[.int .i64 x0, .int .i64 x1, .int .i64 x2, .int .i64 x3]) 1).run Tryz.prog w = .ok (.int .i64 x1) w := by
  simp [Instr.field, go_sem, asAgg]
theorem wordF3 (x0 x1 x2 x3 : Int) (w : World) : (Instr.field 85 (.agg #[.int .i64 x0, .int .i64 x1, .int .i64 x2, .int .i64 x3]) 3).run Tryz.prog w = .ok (.int .i64 x3) w := by
  simp [Instr.field, go_sem, asAgg]
def I8.slot (st : I8) (f : Int) : Int := vSlot st.p st.s st.l st.c st.k st.h.for_ f
def I8.note (st : I8) : Int := vNote st.p st.s st.l st.c st.k (uP st.h.seen) st.h.for_
theorem iFieldAt (B q : Nat) (st : I8) (f : Int) (w : World) (S : IAt w B q st) :
    Calls Tryz.prog 91 #[.pointer (some ⟨q, 0, none⟩), .int .i64 f] w fun e w' => e = .returned (.int .i64 (st.slot f)) ∧ Below w.heap.size w w' := by
  have A := S.is
  have lp : ∀ w', Cls w w' → (loadVar 35 ⟨q, 0, none⟩).run Tryz.prog w' = .ok (.agg #[.int .i64 st.p, .int .i64 st.s, .int .i64 st.l, .int .i64 st.c, .int .i64 st.k]) w' := ld_sub (o := 0) A st.pl Tryz.underlying35 rfl (by kernel_rfl)
  have lf : ∀ w', Cls w w' → (loadVar 2 ⟨q, 18, none⟩).run Tryz.prog w' = .ok (.int .i64 st.h.for_) w' := ld_i A Tryz.underlying2 rfl
  clear A
  go_enter Tryz.func91, Tryz.ntmps91
  go_upto_region 1 with fail
  refine wp_region_cls (by kernel_rfl) (by kernel_rfl) ?_
  repeat' (first
    | go_big_quiet_skip
    | (go_big_quiet_want; first
      | (refine q_load _ _ _ _ rfl rfl (by assumption) ?_; simp only [Act.put, List.setIfInBounds_toArray, List.set_cons_zero, List.set_cons_succ]; go_big_quiet_on)
      | (go_big_quiet_op; first
        | go_big_quiet_on
        | (refine ⟨_, fun _ _ => rfl, ?_⟩; go_big_quiet_on)
        | (apply Exists.intro; refine ⟨fun w' hw' => ?_, ?_⟩
           · (go_at_call 114; exact cls_below hw' (iSlot _ _ _ _ _ _ _ _))
           go_big_quiet_on))))
  all_goals (refine wpQuiet_nil ?_; intro w2 hw2)
  go_wp2
  go_ret
  exact ⟨rfl, hw2.below⟩
/-- What giving up says. -/
def gu : List PanicEntry := [{ v := .iface 9 (.string ⟨#[116, 104, 105, 115, 32, 99, 97, 110, 39, 116, 32, 98, 101, 32, 100, 111, 110, 101]⟩), recovered := false }]
theorem iGiveUp (w : World) : Calls Tryz.prog 83 #[] w fun e w' => e = .panicked gu ∧ w' = w := by
  go_enter Tryz.func83, Tryz.ntmps83
  go_wp2
  exact ⟨rfl, rfl, rfl⟩
end Go.Proofs.YtgmoemjiffglbaaGreat
namespace Go.Proofs.YtgmoemjiffglbaaGreat
open Go.RowKit
set_option maxRecDepth 100000
set_option linter.unusedVariables false
set_option linter.unusedSimpArgs false
/-- How a part of a step ends: it has made this of the step, or it has given up. -/
def Ends (B q : Nat) (pv : Value) (w : World) (r : Option I8) (e : Ending) (w' : World) : Prop :=
  match r with
  | some st => e = .returned (.tuple #[]) ∧ IAt w' B q st ∧ Kq q pv w w'
  | none => e = .panicked gu ∧ Kq q pv w w'
theorem IAt.bl {w : World} {B q : Nat} {st : I8} (h : IAt w B q st) : B ≤ w.heap.size := by
  have h1 := h.qB
  have h2 := h.lt
  omega
theorem IAt.fz {w : World} {B q : Nat} {st : I8} (h : IAt w B q st) (i : Nat) : w.frozen? ⟨q, i, none⟩ = false := h.is.frozen i
theorem iStReadY (B q : Nat) (st : I8) (a : Int) (w : World) (S : IAt w B q st) (hn : st.n ≤ 16777216) (ht : thr a st.n = true) :
    Calls Tryz.prog 88 #[.pointer (some ⟨q, 0, none⟩), .int .i64 a] w fun e w' => e = .returned (.int .u64 (red st.xs a)) ∧ w' = w := by
  obtain ⟨v, hv⟩ : ∃ v : Int, Hid (red st.xs a = v) := ⟨_, rfl⟩
  rw [hv.out]
  go_enter Tryz.func88, Tryz.ntmps88
  go_wp2_with (go_at_call 112; refine (ioRead B q 5 st.n st.xs _ _ st.ar _ S hn).mono ?_; rintro e w1 ⟨rfl, rfl⟩; rw [ht, hv.out])
  go_ret
  exact ⟨rfl, rfl⟩
theorem iStReadN (B q : Nat) (st : I8) (a : Int) (w : World) (S : IAt w B q st) (hn : st.n ≤ 16777216) (ht : thr a st.n = false) :
    Calls Tryz.prog 88 #[.pointer (some ⟨q, 0, none⟩), .int .i64 a] w fun e w' => e = .panicked gu ∧ w' = w := by
  obtain ⟨v, hv⟩ : ∃ v : Int, Hid (red st.xs a = v) := ⟨_, rfl⟩
  go_enter Tryz.func88, Tryz.ntmps88
  go_wp2_with (first
    | (go_at_call 112; refine (ioRead B q 5 st.n st.xs _ _ st.ar _ S hn).mono ?_; rintro e w1 ⟨rfl, rfl⟩; rw [ht, hv.out])
    | (go_at_call 83; refine (iGiveUp _).mono ?_; rintro e w1 ⟨rfl, rfl⟩))
  exact ⟨rfl, rfl, rfl⟩
/-- A word written at a place. -/
def I8.wrO (st : I8) (a k p i v : Int) : Option I8 := if wOk k p i v = true ∧ thr a st.n = true then some { st with xs := wrote st.xs a (pk k p i v) } else none
theorem iPackedY (k p i v : Int) (w : World) (h : wOk k p i v = true) :
    Calls Tryz.prog 86 #[.agg #[.int .i64 k, .int .i64 p, .int .i64 i, .int .i64 v]] w fun e w' => e = .returned (.int .u64 (pk k p i v)) ∧ Below w.heap.size w w' := by
  go_enter Tryz.func86, Tryz.ntmps86
  go_wp2_with (go_at_call 109; refine (iPackY _ _ _ _ _ h).mono ?_; rintro e w1 ⟨rfl, hb⟩)
  go_returns
  exact ⟨rfl, ((Below.refl w.heap.size w).alloc (Nat.le_refl _) _).trans (hb.mono (by simp))⟩
theorem iPackedN (k p i v : Int) (w : World) (h : wOk k p i v = false) :
    Calls Tryz.prog 86 #[.agg #[.int .i64 k, .int .i64 p, .int .i64 i, .int .i64 v]] w fun e w' => e = .panicked gu ∧ Below w.heap.size w w' := by
  go_enter Tryz.func86, Tryz.ntmps86
  go_wp2_with (first
    | (go_at_call 109; refine (iPackN _ _ _ _ _ h).mono ?_; rintro e w1 ⟨rfl, hb⟩)
    | (go_at_call 83; refine (iGiveUp _).mono ?_; rintro e w2 ⟨rfl, rfl⟩))
  exact ⟨rfl, rfl, ((Below.refl w.heap.size w).alloc (Nat.le_refl _) _).trans (hb.mono (by simp))⟩
set_option maxHeartbeats 2000000 in
theorem iStWrite (B q : Nat) (st : I8) (a k p i v : Int) (w : World) (S : IAt w B q st) (hn : st.n ≤ 16777216) :
    Calls Tryz.prog 48 #[.pointer (some ⟨q, 0, none⟩), .int .i64 a, .agg #[.int .i64 k, .int .i64 p, .int .i64 i, .int .i64 v]] w (Ends B q st.pv w (st.wrO a k p i v)) := by
  have Bl := S.bl
  cases ho : wOk k p i v
  · have e : st.wrO a k p i v = none := by unfold I8.wrO; rw [ho]; simp
    rw [e]
    unfold Ends
    go_enter Tryz.func48, Tryz.ntmps48
    go_upto_region 1 with fail
    refine wp_at (fun W => At W w.heap.size #[.int .i64 k, .int .i64 p, .int .i64 i, .int .i64 v] 85 ∧ IAt W B q st ∧ Below w.heap.size w W) ⟨by exact At.new w _ _, S.keep ((Below.refl _ _).alloc (Nat.le_refl _) _), (Below.refl _ _).alloc (Nat.le_refl _) _⟩ ?_
    clear S
    rintro w1 ⟨U, S, z⟩
    have lw : ∀ w', Cls w1 w' → (loadVar 85 ⟨w.heap.size, 0, none⟩).run Tryz.prog w' = .ok (.agg #[.int .i64 k, .int .i64 p, .int .i64 i, .int .i64 v]) w' := ld_agg (vs := [.int .i64 k, .int .i64 p, .int .i64 i, .int .i64 v]) U Tryz.underlying85 rfl (by kernel_rfl)
    clear U
    refine wp_region_dies (C := Cls w1) [0, 1, 2, 3, 4] 5 (by simp only [List.map_cons, List.map_nil, List.getD_cons_succ, List.getD_cons_zero]; rfl) (by kernel_rfl) rfl (by kernel_rfl) (by kernel_rfl) (by kernel_rfl) (by decide) ⟨(Below.refl _ _).drew⟩ (fun c a d v w h => by cases d <;> exact h) ?_
    repeat' (first
      | go_big_quiet_skip
      | (go_big_quiet_want; first
        | (refine q_load _ _ _ _ rfl rfl (by assumption) ?_; simp only [Act.put, List.setIfInBounds_toArray, List.set_cons_zero, List.set_cons_succ]; go_big_quiet_on)
        | (go_big_quiet_op; first
          | go_big_quiet_on
          | (refine ⟨_, fun _ _ => rfl, ?_⟩; go_big_quiet_on))))
    refine wpQuiet_nil ?_
    refine ⟨by rfl, fun w2 hw2 => ?_⟩
    go_simp
    go_at_call 86
    refine (iPackedN _ _ _ _ _ ho).mono ?_
    rintro e w3 ⟨rfl, hb⟩
    exact ⟨rfl, rfl, (Kq.of_below z).trans ((Kq.of_below hw2.below).trans (Kq.of_below hb))⟩
  · cases ht : thr a st.n
    · have e : st.wrO a k p i v = none := by unfold I8.wrO; rw [ht]; simp
      rw [e]
      unfold Ends
      go_enter Tryz.func48, Tryz.ntmps48
      go_upto_region 1 with fail
      refine wp_at (fun W => At W w.heap.size #[.int .i64 k, .int .i64 p, .int .i64 i, .int .i64 v] 85 ∧ IAt W B q st ∧ Below w.heap.size w W) ⟨by exact At.new w _ _, S.keep ((Below.refl _ _).alloc (Nat.le_refl _) _), (Below.refl _ _).alloc (Nat.le_refl _) _⟩ ?_
      clear S
      rintro w1 ⟨U, S, z⟩
      have lw : ∀ w', Cls w1 w' → (loadVar 85 ⟨w.heap.size, 0, none⟩).run Tryz.prog w' = .ok (.agg #[.int .i64 k, .int .i64 p, .int .i64 i, .int .i64 v]) w' := ld_agg (vs := [.int .i64 k, .int .i64 p, .int .i64 i, .int .i64 v]) U Tryz.underlying85 rfl (by kernel_rfl)
      clear U
      refine wp_region_bar2 (C := Cls w1) rfl rfl rfl (by kernel_rfl) (by kernel_rfl) ⟨(Below.refl _ _).drew⟩ ?_
      simp only [List.dropLast]
      repeat' (first
        | go_big_quiet_skip
        | (go_big_quiet_want; first
          | (refine q_load _ _ _ _ rfl rfl (by assumption) ?_; simp only [Act.put, List.setIfInBounds_toArray, List.set_cons_zero, List.set_cons_succ]; go_big_quiet_on)
          | (go_big_quiet_op; first
            | go_big_quiet_on
            | (refine ⟨_, fun _ _ => rfl, ?_⟩; go_big_quiet_on)
            | (apply Exists.intro; refine ⟨fun w' hw' => ?_, ?_⟩
               · (go_at_call 86; exact cls_below hw' (iPackedY _ _ _ _ _ ho))
               go_big_quiet_on))))
      refine wpQuiet_nil ?_
      intro w2 hw2
      go_wp2_with (first
        | (go_at_call 85; refine (ioWrite B q 5 st.n st.xs _ _ _ st.ar _ (S.keep hw2.below) hn st.pv rfl).mono ?_; rintro e w3 ⟨rfl, S2, z2⟩; rw [ht])
        | (go_at_call 83; refine (iGiveUp _).mono ?_; rintro e w4 ⟨rfl, rfl⟩))
      exact ⟨rfl, rfl, (Kq.of_below z).trans ((Kq.of_below hw2.below).trans z2)⟩
    · have e : st.wrO a k p i v = some { st with xs := wrote st.xs a (pk k p i v) } := by unfold I8.wrO; rw [if_pos ⟨ho, ht⟩]
      rw [e]
      unfold Ends
      go_enter Tryz.func48, Tryz.ntmps48
      go_upto_region 1 with fail
      refine wp_at (fun W => At W w.heap.size #[.int .i64 k, .int .i64 p, .int .i64 i, .int .i64 v] 85 ∧ IAt W B q st ∧ Below w.heap.size w W) ⟨by exact At.new w _ _, S.keep ((Below.refl _ _).alloc (Nat.le_refl _) _), (Below.refl _ _).alloc (Nat.le_refl _) _⟩ ?_
      clear S
      rintro w1 ⟨U, S, z⟩
      have lw : ∀ w', Cls w1 w' → (loadVar 85 ⟨w.heap.size, 0, none⟩).run Tryz.prog w' = .ok (.agg #[.int .i64 k, .int .i64 p, .int .i64 i, .int .i64 v]) w' := ld_agg (vs := [.int .i64 k, .int .i64 p, .int .i64 i, .int .i64 v]) U Tryz.underlying85 rfl (by kernel_rfl)
      clear U
      refine wp_region_bar2 (C := Cls w1) rfl rfl rfl (by kernel_rfl) (by kernel_rfl) ⟨(Below.refl _ _).drew⟩ ?_
      simp only [List.dropLast]
      repeat' (first
        | go_big_quiet_skip
        | (go_big_quiet_want; first
          | (refine q_load _ _ _ _ rfl rfl (by assumption) ?_; simp only [Act.put, List.setIfInBounds_toArray, List.set_cons_zero, List.set_cons_succ]; go_big_quiet_on)
          | (go_big_quiet_op; first
            | go_big_quiet_on
            | (refine ⟨_, fun _ _ => rfl, ?_⟩; go_big_quiet_on)
            | (apply Exists.intro; refine ⟨fun w' hw' => ?_, ?_⟩
               · (go_at_call 86; exact cls_below hw' (iPackedY _ _ _ _ _ ho))
               go_big_quiet_on))))
      refine wpQuiet_nil ?_
      intro w2 hw2
      go_wp2_with (go_at_call 85; refine (ioWrite B q 5 st.n st.xs _ _ _ st.ar _ (S.keep hw2.below) hn st.pv rfl).mono ?_; rintro e w3 ⟨rfl, S2, z2⟩; rw [ht])
      first | go_end0 | refine bodyPost_ret (results_none rfl _ _ _) rfl ?_
      exact ⟨rfl, S2, (Kq.of_below z).trans ((Kq.of_below hw2.below).trans z2)⟩
/-- Reply, Out, and the next At. -/
def I8.rep (st : I8) (r o : Int) : I8 := { st with h := { st.h with reply := r, out := o, at_ := 2 } }
theorem iReply (B q : Nat) (st : I8) (r o : Int) (w : World) (S : IAt w B q st) :
    Calls Tryz.prog 95 #[.pointer (some ⟨q, 0, none⟩), .int .i64 r, .int .i64 o] w (Ends B q st.pv w (some (st.rep r o))) := by
  have c39 : w.cell? ⟨q, 39, none⟩ = some (.int .i64 st.h.reply) := S.is.cell 39
  have c40 : w.cell? ⟨q, 40, none⟩ = some (.int .i64 st.h.out) := S.is.cell 40
  have c12 : w.cell? ⟨q, 12, none⟩ = some (.int .i64 st.h.at_) := S.is.cell 12
  have f39 := S.fz 39
  have f40 := S.fz 40
  have f12 := S.fz 12
  have FIN : Hid (IAt (((w.setCell ⟨q, 39, none⟩ (.int .i64 r)).setCell ⟨q, 40, none⟩ (.int .i64 o)).setCell ⟨q, 12, none⟩ (.int .i64 2)) B q (st.rep r o)) :=
    ((S.put (st' := { st with h := { st.h with reply := r } }) 39 _ (by omega) rfl rfl rfl).put (st' := { st with h := { st.h with reply := r, out := o } }) 40 _ (by omega) rfl rfl rfl).put 12 _ (by omega) rfl rfl rfl
  have qB : B ≤ q := S.qB
  go_enter Tryz.func95, Tryz.ntmps95
  go_wp2
  first | go_end0 | refine bodyPost_ret (results_none rfl _ _ _) rfl ?_
  exact ⟨rfl, FIN.out, (((Kq.refl _ _ _).set 39 _).set 40 _).set 12 _⟩
end Go.Proofs.YtgmoemjiffglbaaGreat
namespace Go.Proofs.YtgmoemjiffglbaaGreat
open Go.RowKit
set_option maxRecDepth 100000
set_option linter.unusedVariables false
set_option linter.unusedSimpArgs false
/-- The next At. -/
def I8.to (st : I8) (a : Int) : I8 := { st with h := { st.h with at_ := a } }
theorem I8.wrO_pv {st st' : I8} {a k p i v : Int} (h : st.wrO a k p i v = some st') : st'.pv = st.pv := by
  unfold I8.wrO at h
  split at h
  · cases h; rfl
  · cases h
theorem I8.wrO_some {st st' : I8} {a k p i v : Int} (h : st.wrO a k p i v = some st') : st'.n = st.n := by
  unfold I8.wrO at h
  split at h
  · cases h; rfl
  · cases h
theorem stB {B q : Nat} {pv : Value} {w0 w : World} (h : Kq q pv w0 w) (hq : B ≤ q) (i : Nat) (v : Value) : Kq q pv w0 (w.setCell ⟨q, i, none⟩ v) := h.set i v
theorem IAt.to {w : World} {B q : Nat} {st : I8} (h : IAt w B q st) (a : Int) : IAt (w.setCell ⟨q, 12, none⟩ (.int .i64 a)) B q (st.to a) := h.put 12 _ (by omega) rfl rfl rfl
def I8.sayO (st : I8) : Option I8 := (st.wrO (st.slot 4) st.h.reply 0 st.h.out st.h.number).map fun t => t.to 3
def I8.markO (st : I8) : Option I8 := (st.wrO st.note 0 0 0 (uS st.h.seen)).map fun t => t.to 8
/-- Last is one more, and the intent is written. -/
def I8.more (st : I8) : I8 := { st with h := { st.h with last := wrap64 (st.h.last + 1) } }
def I8.intO (st : I8) (kind block : Int) : Option I8 := st.more.wrO (st.slot 2) kind 0 block (wrap64 (st.h.last + 1))
/-- The note is held against what was seen. -/
def I8.noteO (st : I8) : Option I8 := if thr st.note st.n = true then some (st.to (if red st.xs st.note < uS st.h.seen then 7 else 8)) else none
theorem uS_bd {x : Int} (h : 0 ≤ x) : 0 ≤ uS x ∧ uS x ≤ 4294967295 := by unfold uS; omega
theorem cvS {x : Int} (h : 0 ≤ x) : IntKind.u64.wrap (uS x) = uS x := by have := uS_bd h; rw [IntKind.wrap_u64]; omega
end Go.Proofs.YtgmoemjiffglbaaGreat
namespace Go.Proofs.YtgmoemjiffglbaaGreat
open Go.RowKit
set_option maxRecDepth 100000
set_option linter.unusedVariables false
set_option linter.unusedSimpArgs false
theorem resD {fn : Func} {T : Array Value} {w : World} {b : Nat} {d : Dd} {t : TypeId} (i : Nat) (hr : fn.results = #[.cell i 30]) (hT : T.getD i undef = .pointer (some ⟨b, 0, none⟩)) (Z : At w b d.vs.toArray t) :
    (results fn T).run Tryz.prog w = .ok (.agg d.vs.toArray) w := by
  have e : (asAddr (T.getD i undef)).run Tryz.prog w = .ok ⟨b, 0, none⟩ w := by rw [hT]; rfl
  have l : (loadVar 30 ⟨b, 0, none⟩).run Tryz.prog w = .ok (.agg d.vs.toArray) w := run_loadVar_mid w b 0 30 d.vs _ Z.range Tryz.underlying30 rfl (by kernel_rfl)
  simp only [results, hr, List.mapM_toArray, List.mapM_cons, List.mapM_nil, Sem.run_bind, Sem.run_map, Sem.run_pure, e, Result.andThen_ok, l]
  rfl

set_option maxHeartbeats 8000000 in
theorem deed_1_3 (h : Hd) (hc : h.code = 1) (w : World) :
    Calls Tryz.prog 94 #[.agg h.ar, .int .i64 3] w fun e w' => e = .returned (.agg (Dd.vs ⟨3, h.for_, 0, h.block, h.b, 0⟩).toArray) ∧ Below w.heap.size w w' := by
  go_enter Tryz.func94, Tryz.ntmps94
  go_upto_region 1 with fail
  refine wp_at (fun W => At W w.heap.size h.ar 28 ∧ At W (w.heap.size + 1) Dd.zero.vs.toArray 30 ∧ Below w.heap.size w W) (two_box w _ _ _ _) ?_
  rintro w1 ⟨A, R, z⟩
  obtain ⟨rb, hh2⟩ : ∃ rb, Hid (w.heap.size + 1 = rb) := ⟨_, rfl⟩
  rw [hh2.out] at R
  simp only [hh2.out]
  obtain ⟨hb, hh1⟩ : ∃ hb, Hid (w.heap.size = hb) := ⟨_, rfl⟩
  rw [hh1.out] at A z
  simp only [hh1.out]
  have hq : hb ≤ w1.heap.size := by have := z.size; have := hh1.out; omega
  have c6 : w1.cell? ⟨hb, 6, none⟩ = some (.int .i64 1) := (A.cell 6).trans (by show some (Value.int .i64 h.code) = _; rw [hc])
  have c8 : w1.cell? ⟨hb, 8, none⟩ = some (.int .i64 h.b) := A.cell 8
  have c10 : w1.cell? ⟨hb, 10, none⟩ = some (.int .i64 h.number) := A.cell 10
  have c11 : w1.cell? ⟨hb, 11, none⟩ = some (.int .i64 h.for_) := A.cell 11
  have c20 : w1.cell? ⟨hb, 20, none⟩ = some (.int .i64 h.block) := A.cell 20
  go_upto_region 2 with (first
    | (refine wpList_built rfl 30 #[(0, .tmp 6), (1, .tmp 8), (2, .tmp 10), (3, .tmp 12)] rfl [(0, .int .i64 3), (1, .int .i64 h.for_), (2, .int .i64 h.number), (3, .int .i64 h.block)] rfl _ (bDeed _ _ _ _) ?_)
    | (refine newV (vs := Dd.vs ⟨3, h.for_, h.number, h.block, 0, 0⟩) (by kernel_rfl) (Dd.one _) rfl (.tmp 5) (.tmp 13) rfl rfl rfl rfl ?_; intro w2 D hb2 lt2; clear c6 c8 c10 c11 c20; have hrl := R.lt; have hal := A.lt; replace R := R.keep hb2; replace A := A.keep hb2; have hz2 := hq; replace z := z.trans (hb2.mono hq); clear hb2))
  obtain ⟨b2, hb2⟩ : ∃ q, Hid (w1.heap.size = q) := ⟨_, rfl⟩
  rw [hb2.out] at D hz2 hrl hal
  rw [hb2.out]
  have hrb : rb ≠ b2 := by omega
  have hab : hb ≠ b2 := by omega
  have hz3 : hb ≤ rb := by have := hh1.out; have := hh2.out; omega

  have c6 : w2.cell? ⟨hb, 6, none⟩ = some (.int .i64 1) := (A.cell 6).trans (by show some (Value.int .i64 h.code) = _; rw [hc])
  have c8 : w2.cell? ⟨hb, 8, none⟩ = some (.int .i64 h.b) := A.cell 8
  have c10 : w2.cell? ⟨hb, 10, none⟩ = some (.int .i64 h.number) := A.cell 10
  have c11 : w2.cell? ⟨hb, 11, none⟩ = some (.int .i64 h.for_) := A.cell 11
  have c20 : w2.cell? ⟨hb, 20, none⟩ = some (.int .i64 h.block) := A.cell 20
  have e2 : w2.cell? ⟨b2, 2, none⟩ = some _ := (D.cell 2).trans rfl
  have g2 : w2.frozen? ⟨b2, 2, none⟩ = false := D.frozen 2
  have e4 : w2.cell? ⟨b2, 4, none⟩ = some _ := (D.cell 4).trans rfl
  have g4 : w2.frozen? ⟨b2, 4, none⟩ = false := D.frozen 4
  go_upto_region 13 with fail
  refine wp_at (fun W => At W b2 (Dd.vs ⟨3, h.for_, 0, h.block, h.b, 0⟩).toArray 30 ∧ At W rb Dd.zero.vs.toArray 30 ∧ Below hb w W) ⟨((D.set 2 _).set 4 _), ((R.other (a := ⟨b2, 2, none⟩) hrb _).other (a := ⟨b2, 4, none⟩) hrb _), (Below.setCell (Below.setCell z (p := ⟨b2, 2, none⟩) hz2 _) (p := ⟨b2, 4, none⟩) hz2 _)⟩ ?_
  clear c6 c8 c10 c11 c20 e2 g2 e4 g4 D z A R
  rintro W ⟨D, R, z⟩
  go_wp2_with (first
    | (refine loadV (Dd.vs ⟨3, h.for_, 0, h.block, h.b, 0⟩) Tryz.underlying30 rfl (by kernel_rfl) rfl (.tmp 5) rfl b2 0 rfl D (fun j v hj => by rw [Nat.zero_add]; simpa using hj) ?_)
    | (refine storeV (vs := Dd.vs ⟨3, h.for_, 0, h.block, h.b, 0⟩) (by kernel_rfl) (Dd.one _) rfl (.tmp 4) (.tmp 44) rfl rb rfl rfl R rfl ?_; intro W3 R3 kk))
  refine bodyPost_ret (resD (d := ⟨3, h.for_, 0, h.block, h.b, 0⟩) 4 rfl rfl R3) rfl ?_
  exact ⟨rfl, by rw [hh1.out]; exact z.trans (kk.below hz3 (by have := z.size; have := hh1.out; omega))⟩

set_option maxHeartbeats 8000000 in
theorem deed_1_4 (h : Hd) (hc : h.code = 1) (w : World) :
    Calls Tryz.prog 94 #[.agg h.ar, .int .i64 4] w fun e w' => e = .returned (.agg (Dd.vs ⟨4, h.for_, 0, h.block, h.value, 0⟩).toArray) ∧ Below w.heap.size w w' := by
  go_enter Tryz.func94, Tryz.ntmps94
  go_upto_region 1 with fail
  refine wp_at (fun W => At W w.heap.size h.ar 28 ∧ At W (w.heap.size + 1) Dd.zero.vs.toArray 30 ∧ Below w.heap.size w W) (two_box w _ _ _ _) ?_
  rintro w1 ⟨A, R, z⟩
  obtain ⟨rb, hh2⟩ : ∃ rb, Hid (w.heap.size + 1 = rb) := ⟨_, rfl⟩
  rw [hh2.out] at R
  simp only [hh2.out]
  obtain ⟨hb, hh1⟩ : ∃ hb, Hid (w.heap.size = hb) := ⟨_, rfl⟩
  rw [hh1.out] at A z
  simp only [hh1.out]
  have hq : hb ≤ w1.heap.size := by have := z.size; have := hh1.out; omega
  have c6 : w1.cell? ⟨hb, 6, none⟩ = some (.int .i64 1) := (A.cell 6).trans (by show some (Value.int .i64 h.code) = _; rw [hc])
  have c10 : w1.cell? ⟨hb, 10, none⟩ = some (.int .i64 h.number) := A.cell 10
  have c11 : w1.cell? ⟨hb, 11, none⟩ = some (.int .i64 h.for_) := A.cell 11
  have c20 : w1.cell? ⟨hb, 20, none⟩ = some (.int .i64 h.block) := A.cell 20
  have c23 : w1.cell? ⟨hb, 23, none⟩ = some (.int .i64 h.value) := A.cell 23
  go_upto_region 2 with (first
    | (refine wpList_built rfl 30 #[(0, .tmp 6), (1, .tmp 8), (2, .tmp 10), (3, .tmp 12)] rfl [(0, .int .i64 4), (1, .int .i64 h.for_), (2, .int .i64 h.number), (3, .int .i64 h.block)] rfl _ (bDeed _ _ _ _) ?_)
    | (refine newV (vs := Dd.vs ⟨4, h.for_, h.number, h.block, 0, 0⟩) (by kernel_rfl) (Dd.one _) rfl (.tmp 5) (.tmp 13) rfl rfl rfl rfl ?_; intro w2 D hb2 lt2; clear c6 c10 c11 c20 c23; have hrl := R.lt; have hal := A.lt; replace R := R.keep hb2; replace A := A.keep hb2; have hz2 := hq; replace z := z.trans (hb2.mono hq); clear hb2))
  obtain ⟨b2, hb2⟩ : ∃ q, Hid (w1.heap.size = q) := ⟨_, rfl⟩
  rw [hb2.out] at D hz2 hrl hal
  rw [hb2.out]
  have hrb : rb ≠ b2 := by omega
  have hab : hb ≠ b2 := by omega
  have hz3 : hb ≤ rb := by have := hh1.out; have := hh2.out; omega

  have c6 : w2.cell? ⟨hb, 6, none⟩ = some (.int .i64 1) := (A.cell 6).trans (by show some (Value.int .i64 h.code) = _; rw [hc])
  have c10 : w2.cell? ⟨hb, 10, none⟩ = some (.int .i64 h.number) := A.cell 10
  have c11 : w2.cell? ⟨hb, 11, none⟩ = some (.int .i64 h.for_) := A.cell 11
  have c20 : w2.cell? ⟨hb, 20, none⟩ = some (.int .i64 h.block) := A.cell 20
  have c23 : w2.cell? ⟨hb, 23, none⟩ = some (.int .i64 h.value) := A.cell 23
  have e2 : w2.cell? ⟨b2, 2, none⟩ = some _ := (D.cell 2).trans rfl
  have g2 : w2.frozen? ⟨b2, 2, none⟩ = false := D.frozen 2
  have e4 : w2.cell? ⟨b2, 4, none⟩ = some _ := (D.cell 4).trans rfl
  have g4 : w2.frozen? ⟨b2, 4, none⟩ = false := D.frozen 4
  go_upto_region 13 with fail
  refine wp_at (fun W => At W b2 (Dd.vs ⟨4, h.for_, 0, h.block, h.value, 0⟩).toArray 30 ∧ At W rb Dd.zero.vs.toArray 30 ∧ Below hb w W) ⟨((D.set 2 _).set 4 _), ((R.other (a := ⟨b2, 2, none⟩) hrb _).other (a := ⟨b2, 4, none⟩) hrb _), (Below.setCell (Below.setCell z (p := ⟨b2, 2, none⟩) hz2 _) (p := ⟨b2, 4, none⟩) hz2 _)⟩ ?_
  clear c6 c10 c11 c20 c23 e2 g2 e4 g4 D z A R
  rintro W ⟨D, R, z⟩
  go_wp2_with (first
    | (refine loadV (Dd.vs ⟨4, h.for_, 0, h.block, h.value, 0⟩) Tryz.underlying30 rfl (by kernel_rfl) rfl (.tmp 5) rfl b2 0 rfl D (fun j v hj => by rw [Nat.zero_add]; simpa using hj) ?_)
    | (refine storeV (vs := Dd.vs ⟨4, h.for_, 0, h.block, h.value, 0⟩) (by kernel_rfl) (Dd.one _) rfl (.tmp 4) (.tmp 44) rfl rb rfl rfl R rfl ?_; intro W3 R3 kk))
  refine bodyPost_ret (resD (d := ⟨4, h.for_, 0, h.block, h.value, 0⟩) 4 rfl rfl R3) rfl ?_
  exact ⟨rfl, by rw [hh1.out]; exact z.trans (kk.below hz3 (by have := z.size; have := hh1.out; omega))⟩

set_option maxHeartbeats 8000000 in
theorem deed_1_5 (h : Hd) (hc : h.code = 1) (w : World) :
    Calls Tryz.prog 94 #[.agg h.ar, .int .i64 5] w fun e w' => e = .returned (.agg (Dd.vs ⟨5, h.for_, 0, h.block, h.b, 0⟩).toArray) ∧ Below w.heap.size w w' := by
  go_enter Tryz.func94, Tryz.ntmps94
  go_upto_region 1 with fail
  refine wp_at (fun W => At W w.heap.size h.ar 28 ∧ At W (w.heap.size + 1) Dd.zero.vs.toArray 30 ∧ Below w.heap.size w W) (two_box w _ _ _ _) ?_
  rintro w1 ⟨A, R, z⟩
  obtain ⟨rb, hh2⟩ : ∃ rb, Hid (w.heap.size + 1 = rb) := ⟨_, rfl⟩
  rw [hh2.out] at R
  simp only [hh2.out]
  obtain ⟨hb, hh1⟩ : ∃ hb, Hid (w.heap.size = hb) := ⟨_, rfl⟩
  rw [hh1.out] at A z
  simp only [hh1.out]
  have hq : hb ≤ w1.heap.size := by have := z.size; have := hh1.out; omega
  have c6 : w1.cell? ⟨hb, 6, none⟩ = some (.int .i64 1) := (A.cell 6).trans (by show some (Value.int .i64 h.code) = _; rw [hc])
  have c8 : w1.cell? ⟨hb, 8, none⟩ = some (.int .i64 h.b) := A.cell 8
  have c10 : w1.cell? ⟨hb, 10, none⟩ = some (.int .i64 h.number) := A.cell 10
  have c11 : w1.cell? ⟨hb, 11, none⟩ = some (.int .i64 h.for_) := A.cell 11
  have c20 : w1.cell? ⟨hb, 20, none⟩ = some (.int .i64 h.block) := A.cell 20
  go_upto_region 2 with (first
    | (refine wpList_built rfl 30 #[(0, .tmp 6), (1, .tmp 8), (2, .tmp 10), (3, .tmp 12)] rfl [(0, .int .i64 5), (1, .int .i64 h.for_), (2, .int .i64 h.number), (3, .int .i64 h.block)] rfl _ (bDeed _ _ _ _) ?_)
    | (refine newV (vs := Dd.vs ⟨5, h.for_, h.number, h.block, 0, 0⟩) (by kernel_rfl) (Dd.one _) rfl (.tmp 5) (.tmp 13) rfl rfl rfl rfl ?_; intro w2 D hb2 lt2; clear c6 c8 c10 c11 c20; have hrl := R.lt; have hal := A.lt; replace R := R.keep hb2; replace A := A.keep hb2; have hz2 := hq; replace z := z.trans (hb2.mono hq); clear hb2))
  obtain ⟨b2, hb2⟩ : ∃ q, Hid (w1.heap.size = q) := ⟨_, rfl⟩
  rw [hb2.out] at D hz2 hrl hal
  rw [hb2.out]
  have hrb : rb ≠ b2 := by omega
  have hab : hb ≠ b2 := by omega
  have hz3 : hb ≤ rb := by have := hh1.out; have := hh2.out; omega

  have c6 : w2.cell? ⟨hb, 6, none⟩ = some (.int .i64 1) := (A.cell 6).trans (by show some (Value.int .i64 h.code) = _; rw [hc])
  have c8 : w2.cell? ⟨hb, 8, none⟩ = some (.int .i64 h.b) := A.cell 8
  have c10 : w2.cell? ⟨hb, 10, none⟩ = some (.int .i64 h.number) := A.cell 10
  have c11 : w2.cell? ⟨hb, 11, none⟩ = some (.int .i64 h.for_) := A.cell 11
  have c20 : w2.cell? ⟨hb, 20, none⟩ = some (.int .i64 h.block) := A.cell 20
  have e2 : w2.cell? ⟨b2, 2, none⟩ = some _ := (D.cell 2).trans rfl
  have g2 : w2.frozen? ⟨b2, 2, none⟩ = false := D.frozen 2
  have e4 : w2.cell? ⟨b2, 4, none⟩ = some _ := (D.cell 4).trans rfl
  have g4 : w2.frozen? ⟨b2, 4, none⟩ = false := D.frozen 4
  go_upto_region 13 with fail
  refine wp_at (fun W => At W b2 (Dd.vs ⟨5, h.for_, 0, h.block, h.b, 0⟩).toArray 30 ∧ At W rb Dd.zero.vs.toArray 30 ∧ Below hb w W) ⟨((D.set 2 _).set 4 _), ((R.other (a := ⟨b2, 2, none⟩) hrb _).other (a := ⟨b2, 4, none⟩) hrb _), (Below.setCell (Below.setCell z (p := ⟨b2, 2, none⟩) hz2 _) (p := ⟨b2, 4, none⟩) hz2 _)⟩ ?_
  clear c6 c8 c10 c11 c20 e2 g2 e4 g4 D z A R
  rintro W ⟨D, R, z⟩
  go_wp2_with (first
    | (refine loadV (Dd.vs ⟨5, h.for_, 0, h.block, h.b, 0⟩) Tryz.underlying30 rfl (by kernel_rfl) rfl (.tmp 5) rfl b2 0 rfl D (fun j v hj => by rw [Nat.zero_add]; simpa using hj) ?_)
    | (refine storeV (vs := Dd.vs ⟨5, h.for_, 0, h.block, h.b, 0⟩) (by kernel_rfl) (Dd.one _) rfl (.tmp 4) (.tmp 44) rfl rb rfl rfl R rfl ?_; intro W3 R3 kk))
  refine bodyPost_ret (resD (d := ⟨5, h.for_, 0, h.block, h.b, 0⟩) 4 rfl rfl R3) rfl ?_
  exact ⟨rfl, by rw [hh1.out]; exact z.trans (kk.below hz3 (by have := z.size; have := hh1.out; omega))⟩

set_option maxHeartbeats 8000000 in
theorem deed_1_6 (h : Hd) (hc : h.code = 1) (w : World) :
    Calls Tryz.prog 94 #[.agg h.ar, .int .i64 6] w fun e w' => e = .returned (.agg (Dd.vs ⟨6, h.for_, 0, h.block, h.value, 0⟩).toArray) ∧ Below w.heap.size w w' := by
  go_enter Tryz.func94, Tryz.ntmps94
  go_upto_region 1 with fail
  refine wp_at (fun W => At W w.heap.size h.ar 28 ∧ At W (w.heap.size + 1) Dd.zero.vs.toArray 30 ∧ Below w.heap.size w W) (two_box w _ _ _ _) ?_
  rintro w1 ⟨A, R, z⟩
  obtain ⟨rb, hh2⟩ : ∃ rb, Hid (w.heap.size + 1 = rb) := ⟨_, rfl⟩
  rw [hh2.out] at R
  simp only [hh2.out]
  obtain ⟨hb, hh1⟩ : ∃ hb, Hid (w.heap.size = hb) := ⟨_, rfl⟩
  rw [hh1.out] at A z
  simp only [hh1.out]
  have hq : hb ≤ w1.heap.size := by have := z.size; have := hh1.out; omega
  have c6 : w1.cell? ⟨hb, 6, none⟩ = some (.int .i64 1) := (A.cell 6).trans (by show some (Value.int .i64 h.code) = _; rw [hc])
  have c10 : w1.cell? ⟨hb, 10, none⟩ = some (.int .i64 h.number) := A.cell 10
  have c11 : w1.cell? ⟨hb, 11, none⟩ = some (.int .i64 h.for_) := A.cell 11
  have c20 : w1.cell? ⟨hb, 20, none⟩ = some (.int .i64 h.block) := A.cell 20
  have c23 : w1.cell? ⟨hb, 23, none⟩ = some (.int .i64 h.value) := A.cell 23
  go_upto_region 2 with (first
    | (refine wpList_built rfl 30 #[(0, .tmp 6), (1, .tmp 8), (2, .tmp 10), (3, .tmp 12)] rfl [(0, .int .i64 6), (1, .int .i64 h.for_), (2, .int .i64 h.number), (3, .int .i64 h.block)] rfl _ (bDeed _ _ _ _) ?_)
    | (refine newV (vs := Dd.vs ⟨6, h.for_, h.number, h.block, 0, 0⟩) (by kernel_rfl) (Dd.one _) rfl (.tmp 5) (.tmp 13) rfl rfl rfl rfl ?_; intro w2 D hb2 lt2; clear c6 c10 c11 c20 c23; have hrl := R.lt; have hal := A.lt; replace R := R.keep hb2; replace A := A.keep hb2; have hz2 := hq; replace z := z.trans (hb2.mono hq); clear hb2))
  obtain ⟨b2, hb2⟩ : ∃ q, Hid (w1.heap.size = q) := ⟨_, rfl⟩
  rw [hb2.out] at D hz2 hrl hal
  rw [hb2.out]
  have hrb : rb ≠ b2 := by omega
  have hab : hb ≠ b2 := by omega
  have hz3 : hb ≤ rb := by have := hh1.out; have := hh2.out; omega

  have c6 : w2.cell? ⟨hb, 6, none⟩ = some (.int .i64 1) := (A.cell 6).trans (by show some (Value.int .i64 h.code) = _; rw [hc])
  have c10 : w2.cell? ⟨hb, 10, none⟩ = some (.int .i64 h.number) := A.cell 10
  have c11 : w2.cell? ⟨hb, 11, none⟩ = some (.int .i64 h.for_) := A.cell 11
  have c20 : w2.cell? ⟨hb, 20, none⟩ = some (.int .i64 h.block) := A.cell 20
  have c23 : w2.cell? ⟨hb, 23, none⟩ = some (.int .i64 h.value) := A.cell 23
  have e2 : w2.cell? ⟨b2, 2, none⟩ = some _ := (D.cell 2).trans rfl
  have g2 : w2.frozen? ⟨b2, 2, none⟩ = false := D.frozen 2
  have e4 : w2.cell? ⟨b2, 4, none⟩ = some _ := (D.cell 4).trans rfl
  have g4 : w2.frozen? ⟨b2, 4, none⟩ = false := D.frozen 4
  go_upto_region 13 with fail
  refine wp_at (fun W => At W b2 (Dd.vs ⟨6, h.for_, 0, h.block, h.value, 0⟩).toArray 30 ∧ At W rb Dd.zero.vs.toArray 30 ∧ Below hb w W) ⟨((D.set 2 _).set 4 _), ((R.other (a := ⟨b2, 2, none⟩) hrb _).other (a := ⟨b2, 4, none⟩) hrb _), (Below.setCell (Below.setCell z (p := ⟨b2, 2, none⟩) hz2 _) (p := ⟨b2, 4, none⟩) hz2 _)⟩ ?_
  clear c6 c10 c11 c20 c23 e2 g2 e4 g4 D z A R
  rintro W ⟨D, R, z⟩
  go_wp2_with (first
    | (refine loadV (Dd.vs ⟨6, h.for_, 0, h.block, h.value, 0⟩) Tryz.underlying30 rfl (by kernel_rfl) rfl (.tmp 5) rfl b2 0 rfl D (fun j v hj => by rw [Nat.zero_add]; simpa using hj) ?_)
    | (refine storeV (vs := Dd.vs ⟨6, h.for_, 0, h.block, h.value, 0⟩) (by kernel_rfl) (Dd.one _) rfl (.tmp 4) (.tmp 44) rfl rb rfl rfl R rfl ?_; intro W3 R3 kk))
  refine bodyPost_ret (resD (d := ⟨6, h.for_, 0, h.block, h.value, 0⟩) 4 rfl rfl R3) rfl ?_
  exact ⟨rfl, by rw [hh1.out]; exact z.trans (kk.below hz3 (by have := z.size; have := hh1.out; omega))⟩

set_option maxHeartbeats 8000000 in
theorem deed_1_7 (h : Hd) (hc : h.code = 1) (w : World) :
    Calls Tryz.prog 94 #[.agg h.ar, .int .i64 7] w fun e w' => e = .returned (.agg (Dd.vs ⟨7, h.for_, 0, h.a, h.c, 0⟩).toArray) ∧ Below w.heap.size w w' := by
  go_enter Tryz.func94, Tryz.ntmps94
  go_upto_region 1 with fail
  refine wp_at (fun W => At W w.heap.size h.ar 28 ∧ At W (w.heap.size + 1) Dd.zero.vs.toArray 30 ∧ Below w.heap.size w W) (two_box w _ _ _ _) ?_
  rintro w1 ⟨A, R, z⟩
  obtain ⟨rb, hh2⟩ : ∃ rb, Hid (w.heap.size + 1 = rb) := ⟨_, rfl⟩
  rw [hh2.out] at R
  simp only [hh2.out]
  obtain ⟨hb, hh1⟩ : ∃ hb, Hid (w.heap.size = hb) := ⟨_, rfl⟩
  rw [hh1.out] at A z
  simp only [hh1.out]
  have hq : hb ≤ w1.heap.size := by have := z.size; have := hh1.out; omega
  have c6 : w1.cell? ⟨hb, 6, none⟩ = some (.int .i64 1) := (A.cell 6).trans (by show some (Value.int .i64 h.code) = _; rw [hc])
  have c7 : w1.cell? ⟨hb, 7, none⟩ = some (.int .i64 h.a) := A.cell 7
  have c9 : w1.cell? ⟨hb, 9, none⟩ = some (.int .i64 h.c) := A.cell 9
  have c10 : w1.cell? ⟨hb, 10, none⟩ = some (.int .i64 h.number) := A.cell 10
  have c11 : w1.cell? ⟨hb, 11, none⟩ = some (.int .i64 h.for_) := A.cell 11
  have c20 : w1.cell? ⟨hb, 20, none⟩ = some (.int .i64 h.block) := A.cell 20
  go_upto_region 2 with (first
    | (refine wpList_built rfl 30 #[(0, .tmp 6), (1, .tmp 8), (2, .tmp 10), (3, .tmp 12)] rfl [(0, .int .i64 7), (1, .int .i64 h.for_), (2, .int .i64 h.number), (3, .int .i64 h.block)] rfl _ (bDeed _ _ _ _) ?_)
    | (refine newV (vs := Dd.vs ⟨7, h.for_, h.number, h.block, 0, 0⟩) (by kernel_rfl) (Dd.one _) rfl (.tmp 5) (.tmp 13) rfl rfl rfl rfl ?_; intro w2 D hb2 lt2; clear c6 c7 c9 c10 c11 c20; have hrl := R.lt; have hal := A.lt; replace R := R.keep hb2; replace A := A.keep hb2; have hz2 := hq; replace z := z.trans (hb2.mono hq); clear hb2))
  obtain ⟨b2, hb2⟩ : ∃ q, Hid (w1.heap.size = q) := ⟨_, rfl⟩
  rw [hb2.out] at D hz2 hrl hal
  rw [hb2.out]
  have hrb : rb ≠ b2 := by omega
  have hab : hb ≠ b2 := by omega
  have hz3 : hb ≤ rb := by have := hh1.out; have := hh2.out; omega

  have c6 : w2.cell? ⟨hb, 6, none⟩ = some (.int .i64 1) := (A.cell 6).trans (by show some (Value.int .i64 h.code) = _; rw [hc])
  have c7 : w2.cell? ⟨hb, 7, none⟩ = some (.int .i64 h.a) := A.cell 7
  have c9 : w2.cell? ⟨hb, 9, none⟩ = some (.int .i64 h.c) := A.cell 9
  have c10 : w2.cell? ⟨hb, 10, none⟩ = some (.int .i64 h.number) := A.cell 10
  have c11 : w2.cell? ⟨hb, 11, none⟩ = some (.int .i64 h.for_) := A.cell 11
  have c20 : w2.cell? ⟨hb, 20, none⟩ = some (.int .i64 h.block) := A.cell 20
  have e2 : w2.cell? ⟨b2, 2, none⟩ = some _ := (D.cell 2).trans rfl
  have g2 : w2.frozen? ⟨b2, 2, none⟩ = false := D.frozen 2
  go_upto_region 12 with fail
  refine wp_at (fun W => At W hb h.ar 28 ∧ At W b2 (Dd.vs ⟨7, h.for_, 0, h.block, 0, 0⟩).toArray 30 ∧ At W rb Dd.zero.vs.toArray 30 ∧ Below hb w W) ⟨(A.other (a := ⟨b2, 2, none⟩) hab _), (D.set 2 _), (R.other (a := ⟨b2, 2, none⟩) hrb _), (Below.setCell z (p := ⟨b2, 2, none⟩) hz2 _)⟩ ?_
  clear c6 c7 c9 c10 c11 c20 e2 g2 D z A R
  rintro W0 ⟨A, D, R, z⟩
  have c7 : W0.cell? ⟨hb, 7, none⟩ = some (.int .i64 h.a) := A.cell 7
  have c9 : W0.cell? ⟨hb, 9, none⟩ = some (.int .i64 h.c) := A.cell 9
  have e3 : W0.cell? ⟨b2, 3, none⟩ = some _ := (D.cell 3).trans rfl
  have g3 : W0.frozen? ⟨b2, 3, none⟩ = false := D.frozen 3
  have e4 : W0.cell? ⟨b2, 4, none⟩ = some _ := (D.cell 4).trans rfl
  have g4 : W0.frozen? ⟨b2, 4, none⟩ = false := D.frozen 4
  have hba : b2 ≠ hb := Ne.symm hab
  have AD := A.keep (Below.refl W0.heap.size W0).drew
  have DD := D.keep (Below.refl W0.heap.size W0).drew
  have RD := R.keep (Below.refl W0.heap.size W0).drew
  go_region_held3 (fun w' => w'.cell? ⟨hb, 7, none⟩ = some (.int .i64 h.a) ∧ w'.cell? ⟨hb, 9, none⟩ = some (.int .i64 h.c)) (go_keep) (fail)
  all_goals go_upto_region 13 with fail
  all_goals refine wp_at (fun W => At W b2 (Dd.vs ⟨7, h.for_, 0, h.a, h.c, 0⟩).toArray 30 ∧ At W rb Dd.zero.vs.toArray 30 ∧ Below hb w W) (by
    first
      | exact ⟨(DD.set 3 _).set 4 _, (RD.other (a := ⟨b2, 3, none⟩) hrb _).other (a := ⟨b2, 4, none⟩) hrb _, Below.setCell (Below.setCell z.drew (p := ⟨b2, 3, none⟩) hz2 _) (p := ⟨b2, 4, none⟩) hz2 _⟩
      | exact ⟨(DD.set 4 _).set 3 _, (RD.other (a := ⟨b2, 4, none⟩) hrb _).other (a := ⟨b2, 3, none⟩) hrb _, Below.setCell (Below.setCell z.drew (p := ⟨b2, 4, none⟩) hz2 _) (p := ⟨b2, 3, none⟩) hz2 _⟩) ?_
  all_goals clear c7 c9 e3 g3 e4 g4 D z A R AD DD RD
  all_goals rintro W ⟨D, R, z⟩
  all_goals
    go_wp2_with (first
      | (refine loadV (Dd.vs ⟨7, h.for_, 0, h.a, h.c, 0⟩) Tryz.underlying30 rfl (by kernel_rfl) rfl (.tmp 5) rfl b2 0 rfl D (fun j v hj => by rw [Nat.zero_add]; simpa using hj) ?_)
      | (refine storeV (vs := Dd.vs ⟨7, h.for_, 0, h.a, h.c, 0⟩) (by kernel_rfl) (Dd.one _) rfl (.tmp 4) (.tmp 44) rfl rb rfl rfl R rfl ?_; intro W3 R3 kk))
    refine bodyPost_ret (resD (d := ⟨7, h.for_, 0, h.a, h.c, 0⟩) 4 rfl rfl R3) rfl ?_
    exact ⟨rfl, by rw [hh1.out]; exact z.trans (kk.below hz3 (by have := z.size; have := hh1.out; omega))⟩

set_option maxHeartbeats 8000000 in
theorem deed_1_n (h : Hd) (kind : Int) (k3 : ¬ kind = 3) (k4 : ¬ kind = 4) (k5 : ¬ kind = 5) (k6 : ¬ kind = 6) (k7 : ¬ kind = 7) (hc : h.code = 1) (w : World) :
    Calls Tryz.prog 94 #[.agg h.ar, .int .i64 kind] w fun e w' => e = .returned (.agg (Dd.vs ⟨kind, h.for_, 0, h.block, 0, 0⟩).toArray) ∧ Below w.heap.size w w' := by
  go_enter Tryz.func94, Tryz.ntmps94
  go_upto_region 1 with fail
  refine wp_at (fun W => At W w.heap.size h.ar 28 ∧ At W (w.heap.size + 1) Dd.zero.vs.toArray 30 ∧ Below w.heap.size w W) (two_box w _ _ _ _) ?_
  rintro w1 ⟨A, R, z⟩
  obtain ⟨rb, hh2⟩ : ∃ rb, Hid (w.heap.size + 1 = rb) := ⟨_, rfl⟩
  rw [hh2.out] at R
  simp only [hh2.out]
  obtain ⟨hb, hh1⟩ : ∃ hb, Hid (w.heap.size = hb) := ⟨_, rfl⟩
  rw [hh1.out] at A z
  simp only [hh1.out]
  have hq : hb ≤ w1.heap.size := by have := z.size; have := hh1.out; omega
  have c6 : w1.cell? ⟨hb, 6, none⟩ = some (.int .i64 1) := (A.cell 6).trans (by show some (Value.int .i64 h.code) = _; rw [hc])
  have c10 : w1.cell? ⟨hb, 10, none⟩ = some (.int .i64 h.number) := A.cell 10
  have c11 : w1.cell? ⟨hb, 11, none⟩ = some (.int .i64 h.for_) := A.cell 11
  have c20 : w1.cell? ⟨hb, 20, none⟩ = some (.int .i64 h.block) := A.cell 20
  go_upto_region 2 with (first
    | (refine wpList_built rfl 30 #[(0, .tmp 6), (1, .tmp 8), (2, .tmp 10), (3, .tmp 12)] rfl [(0, .int .i64 kind), (1, .int .i64 h.for_), (2, .int .i64 h.number), (3, .int .i64 h.block)] rfl _ (bDeed _ _ _ _) ?_)
    | (refine newV (vs := Dd.vs ⟨kind, h.for_, h.number, h.block, 0, 0⟩) (by kernel_rfl) (Dd.one _) rfl (.tmp 5) (.tmp 13) rfl rfl rfl rfl ?_; intro w2 D hb2 lt2; clear c6 c10 c11 c20; have hrl := R.lt; have hal := A.lt; replace R := R.keep hb2; replace A := A.keep hb2; have hz2 := hq; replace z := z.trans (hb2.mono hq); clear hb2))
  obtain ⟨b2, hb2⟩ : ∃ q, Hid (w1.heap.size = q) := ⟨_, rfl⟩
  rw [hb2.out] at D hz2 hrl hal
  rw [hb2.out]
  have hrb : rb ≠ b2 := by omega
  have hab : hb ≠ b2 := by omega
  have hz3 : hb ≤ rb := by have := hh1.out; have := hh2.out; omega

  have c6 : w2.cell? ⟨hb, 6, none⟩ = some (.int .i64 1) := (A.cell 6).trans (by show some (Value.int .i64 h.code) = _; rw [hc])
  have c10 : w2.cell? ⟨hb, 10, none⟩ = some (.int .i64 h.number) := A.cell 10
  have c11 : w2.cell? ⟨hb, 11, none⟩ = some (.int .i64 h.for_) := A.cell 11
  have c20 : w2.cell? ⟨hb, 20, none⟩ = some (.int .i64 h.block) := A.cell 20
  have e2 : w2.cell? ⟨b2, 2, none⟩ = some _ := (D.cell 2).trans rfl
  have g2 : w2.frozen? ⟨b2, 2, none⟩ = false := D.frozen 2
  go_upto_region 13 with fail
  refine wp_at (fun W => At W b2 (Dd.vs ⟨kind, h.for_, 0, h.block, 0, 0⟩).toArray 30 ∧ At W rb Dd.zero.vs.toArray 30 ∧ Below hb w W) ⟨(D.set 2 _), (R.other (a := ⟨b2, 2, none⟩) hrb _), (Below.setCell z (p := ⟨b2, 2, none⟩) hz2 _)⟩ ?_
  clear c6 c10 c11 c20 e2 g2 D z A R
  rintro W ⟨D, R, z⟩
  go_wp2_with (first
    | (refine loadV (Dd.vs ⟨kind, h.for_, 0, h.block, 0, 0⟩) Tryz.underlying30 rfl (by kernel_rfl) rfl (.tmp 5) rfl b2 0 rfl D (fun j v hj => by rw [Nat.zero_add]; simpa using hj) ?_)
    | (refine storeV (vs := Dd.vs ⟨kind, h.for_, 0, h.block, 0, 0⟩) (by kernel_rfl) (Dd.one _) rfl (.tmp 4) (.tmp 44) rfl rb rfl rfl R rfl ?_; intro W3 R3 kk))
  refine bodyPost_ret (resD (d := ⟨kind, h.for_, 0, h.block, 0, 0⟩) 4 rfl rfl R3) rfl ?_
  exact ⟨rfl, by rw [hh1.out]; exact z.trans (kk.below hz3 (by have := z.size; have := hh1.out; omega))⟩

set_option maxHeartbeats 8000000 in
theorem deed_13_3 (h : Hd) (hc : h.code = 13) (w : World) :
    Calls Tryz.prog 94 #[.agg h.ar, .int .i64 3] w fun e w' => e = .returned (.agg (Dd.vs ⟨3, h.for_, 0, h.block, h.b, 0⟩).toArray) ∧ Below w.heap.size w w' := by
  go_enter Tryz.func94, Tryz.ntmps94
  go_upto_region 1 with fail
  refine wp_at (fun W => At W w.heap.size h.ar 28 ∧ At W (w.heap.size + 1) Dd.zero.vs.toArray 30 ∧ Below w.heap.size w W) (two_box w _ _ _ _) ?_
  rintro w1 ⟨A, R, z⟩
  obtain ⟨rb, hh2⟩ : ∃ rb, Hid (w.heap.size + 1 = rb) := ⟨_, rfl⟩
  rw [hh2.out] at R
  simp only [hh2.out]
  obtain ⟨hb, hh1⟩ : ∃ hb, Hid (w.heap.size = hb) := ⟨_, rfl⟩
  rw [hh1.out] at A z
  simp only [hh1.out]
  have hq : hb ≤ w1.heap.size := by have := z.size; have := hh1.out; omega
  have c6 : w1.cell? ⟨hb, 6, none⟩ = some (.int .i64 13) := (A.cell 6).trans (by show some (Value.int .i64 h.code) = _; rw [hc])
  have c8 : w1.cell? ⟨hb, 8, none⟩ = some (.int .i64 h.b) := A.cell 8
  have c10 : w1.cell? ⟨hb, 10, none⟩ = some (.int .i64 h.number) := A.cell 10
  have c11 : w1.cell? ⟨hb, 11, none⟩ = some (.int .i64 h.for_) := A.cell 11
  have c20 : w1.cell? ⟨hb, 20, none⟩ = some (.int .i64 h.block) := A.cell 20
  go_upto_region 2 with (first
    | (refine wpList_built rfl 30 #[(0, .tmp 6), (1, .tmp 8), (2, .tmp 10), (3, .tmp 12)] rfl [(0, .int .i64 3), (1, .int .i64 h.for_), (2, .int .i64 h.number), (3, .int .i64 h.block)] rfl _ (bDeed _ _ _ _) ?_)
    | (refine newV (vs := Dd.vs ⟨3, h.for_, h.number, h.block, 0, 0⟩) (by kernel_rfl) (Dd.one _) rfl (.tmp 5) (.tmp 13) rfl rfl rfl rfl ?_; intro w2 D hb2 lt2; clear c6 c8 c10 c11 c20; have hrl := R.lt; have hal := A.lt; replace R := R.keep hb2; replace A := A.keep hb2; have hz2 := hq; replace z := z.trans (hb2.mono hq); clear hb2))
  obtain ⟨b2, hb2⟩ : ∃ q, Hid (w1.heap.size = q) := ⟨_, rfl⟩
  rw [hb2.out] at D hz2 hrl hal
  rw [hb2.out]
  have hrb : rb ≠ b2 := by omega
  have hab : hb ≠ b2 := by omega
  have hz3 : hb ≤ rb := by have := hh1.out; have := hh2.out; omega

  have c6 : w2.cell? ⟨hb, 6, none⟩ = some (.int .i64 13) := (A.cell 6).trans (by show some (Value.int .i64 h.code) = _; rw [hc])
  have c8 : w2.cell? ⟨hb, 8, none⟩ = some (.int .i64 h.b) := A.cell 8
  have c10 : w2.cell? ⟨hb, 10, none⟩ = some (.int .i64 h.number) := A.cell 10
  have c11 : w2.cell? ⟨hb, 11, none⟩ = some (.int .i64 h.for_) := A.cell 11
  have c20 : w2.cell? ⟨hb, 20, none⟩ = some (.int .i64 h.block) := A.cell 20
  have e2 : w2.cell? ⟨b2, 2, none⟩ = some _ := (D.cell 2).trans rfl
  have g2 : w2.frozen? ⟨b2, 2, none⟩ = false := D.frozen 2
  have e4 : w2.cell? ⟨b2, 4, none⟩ = some _ := (D.cell 4).trans rfl
  have g4 : w2.frozen? ⟨b2, 4, none⟩ = false := D.frozen 4
  go_upto_region 13 with fail
  refine wp_at (fun W => At W b2 (Dd.vs ⟨3, h.for_, 0, h.block, h.b, 0⟩).toArray 30 ∧ At W rb Dd.zero.vs.toArray 30 ∧ Below hb w W) ⟨((D.set 2 _).set 4 _), ((R.other (a := ⟨b2, 2, none⟩) hrb _).other (a := ⟨b2, 4, none⟩) hrb _), (Below.setCell (Below.setCell z (p := ⟨b2, 2, none⟩) hz2 _) (p := ⟨b2, 4, none⟩) hz2 _)⟩ ?_
  clear c6 c8 c10 c11 c20 e2 g2 e4 g4 D z A R
  rintro W ⟨D, R, z⟩
  go_wp2_with (first
    | (refine loadV (Dd.vs ⟨3, h.for_, 0, h.block, h.b, 0⟩) Tryz.underlying30 rfl (by kernel_rfl) rfl (.tmp 5) rfl b2 0 rfl D (fun j v hj => by rw [Nat.zero_add]; simpa using hj) ?_)
    | (refine storeV (vs := Dd.vs ⟨3, h.for_, 0, h.block, h.b, 0⟩) (by kernel_rfl) (Dd.one _) rfl (.tmp 4) (.tmp 44) rfl rb rfl rfl R rfl ?_; intro W3 R3 kk))
  refine bodyPost_ret (resD (d := ⟨3, h.for_, 0, h.block, h.b, 0⟩) 4 rfl rfl R3) rfl ?_
  exact ⟨rfl, by rw [hh1.out]; exact z.trans (kk.below hz3 (by have := z.size; have := hh1.out; omega))⟩

set_option maxHeartbeats 8000000 in
theorem deed_13_4 (h : Hd) (hc : h.code = 13) (w : World) :
    Calls Tryz.prog 94 #[.agg h.ar, .int .i64 4] w fun e w' => e = .returned (.agg (Dd.vs ⟨4, h.for_, 0, h.block, h.value, 0⟩).toArray) ∧ Below w.heap.size w w' := by
  go_enter Tryz.func94, Tryz.ntmps94
  go_upto_region 1 with fail
  refine wp_at (fun W => At W w.heap.size h.ar 28 ∧ At W (w.heap.size + 1) Dd.zero.vs.toArray 30 ∧ Below w.heap.size w W) (two_box w _ _ _ _) ?_
  rintro w1 ⟨A, R, z⟩
  obtain ⟨rb, hh2⟩ : ∃ rb, Hid (w.heap.size + 1 = rb) := ⟨_, rfl⟩
  rw [hh2.out] at R
  simp only [hh2.out]
  obtain ⟨hb, hh1⟩ : ∃ hb, Hid (w.heap.size = hb) := ⟨_, rfl⟩
  rw [hh1.out] at A z
  simp only [hh1.out]
  have hq : hb ≤ w1.heap.size := by have := z.size; have := hh1.out; omega
  have c6 : w1.cell? ⟨hb, 6, none⟩ = some (.int .i64 13) := (A.cell 6).trans (by show some (Value.int .i64 h.code) = _; rw [hc])
  have c10 : w1.cell? ⟨hb, 10, none⟩ = some (.int .i64 h.number) := A.cell 10
  have c11 : w1.cell? ⟨hb, 11, none⟩ = some (.int .i64 h.for_) := A.cell 11
  have c20 : w1.cell? ⟨hb, 20, none⟩ = some (.int .i64 h.block) := A.cell 20
  have c23 : w1.cell? ⟨hb, 23, none⟩ = some (.int .i64 h.value) := A.cell 23
  go_upto_region 2 with (first
    | (refine wpList_built rfl 30 #[(0, .tmp 6), (1, .tmp 8), (2, .tmp 10), (3, .tmp 12)] rfl [(0, .int .i64 4), (1, .int .i64 h.for_), (2, .int .i64 h.number), (3, .int .i64 h.block)] rfl _ (bDeed _ _ _ _) ?_)
    | (refine newV (vs := Dd.vs ⟨4, h.for_, h.number, h.block, 0, 0⟩) (by kernel_rfl) (Dd.one _) rfl (.tmp 5) (.tmp 13) rfl rfl rfl rfl ?_; intro w2 D hb2 lt2; clear c6 c10 c11 c20 c23; have hrl := R.lt; have hal := A.lt; replace R := R.keep hb2; replace A := A.keep hb2; have hz2 := hq; replace z := z.trans (hb2.mono hq); clear hb2))
  obtain ⟨b2, hb2⟩ : ∃ q, Hid (w1.heap.size = q) := ⟨_, rfl⟩
  rw [hb2.out] at D hz2 hrl hal
  rw [hb2.out]
  have hrb : rb ≠ b2 := by omega
  have hab : hb ≠ b2 := by omega
  have hz3 : hb ≤ rb := by have := hh1.out; have := hh2.out; omega

  have c6 : w2.cell? ⟨hb, 6, none⟩ = some (.int .i64 13) := (A.cell 6).trans (by show some (Value.int .i64 h.code) = _; rw [hc])
  have c10 : w2.cell? ⟨hb, 10, none⟩ = some (.int .i64 h.number) := A.cell 10
  have c11 : w2.cell? ⟨hb, 11, none⟩ = some (.int .i64 h.for_) := A.cell 11
  have c20 : w2.cell? ⟨hb, 20, none⟩ = some (.int .i64 h.block) := A.cell 20
  have c23 : w2.cell? ⟨hb, 23, none⟩ = some (.int .i64 h.value) := A.cell 23
  have e2 : w2.cell? ⟨b2, 2, none⟩ = some _ := (D.cell 2).trans rfl
  have g2 : w2.frozen? ⟨b2, 2, none⟩ = false := D.frozen 2
  have e4 : w2.cell? ⟨b2, 4, none⟩ = some _ := (D.cell 4).trans rfl
  have g4 : w2.frozen? ⟨b2, 4, none⟩ = false := D.frozen 4
  go_upto_region 13 with fail
  refine wp_at (fun W => At W b2 (Dd.vs ⟨4, h.for_, 0, h.block, h.value, 0⟩).toArray 30 ∧ At W rb Dd.zero.vs.toArray 30 ∧ Below hb w W) ⟨((D.set 2 _).set 4 _), ((R.other (a := ⟨b2, 2, none⟩) hrb _).other (a := ⟨b2, 4, none⟩) hrb _), (Below.setCell (Below.setCell z (p := ⟨b2, 2, none⟩) hz2 _) (p := ⟨b2, 4, none⟩) hz2 _)⟩ ?_
  clear c6 c10 c11 c20 c23 e2 g2 e4 g4 D z A R
  rintro W ⟨D, R, z⟩
  go_wp2_with (first
    | (refine loadV (Dd.vs ⟨4, h.for_, 0, h.block, h.value, 0⟩) Tryz.underlying30 rfl (by kernel_rfl) rfl (.tmp 5) rfl b2 0 rfl D (fun j v hj => by rw [Nat.zero_add]; simpa using hj) ?_)
    | (refine storeV (vs := Dd.vs ⟨4, h.for_, 0, h.block, h.value, 0⟩) (by kernel_rfl) (Dd.one _) rfl (.tmp 4) (.tmp 44) rfl rb rfl rfl R rfl ?_; intro W3 R3 kk))
  refine bodyPost_ret (resD (d := ⟨4, h.for_, 0, h.block, h.value, 0⟩) 4 rfl rfl R3) rfl ?_
  exact ⟨rfl, by rw [hh1.out]; exact z.trans (kk.below hz3 (by have := z.size; have := hh1.out; omega))⟩

set_option maxHeartbeats 8000000 in
theorem deed_13_5 (h : Hd) (hc : h.code = 13) (w : World) :
    Calls Tryz.prog 94 #[.agg h.ar, .int .i64 5] w fun e w' => e = .returned (.agg (Dd.vs ⟨5, h.for_, 0, h.block, h.b, 0⟩).toArray) ∧ Below w.heap.size w w' := by
  go_enter Tryz.func94, Tryz.ntmps94
  go_upto_region 1 with fail
  refine wp_at (fun W => At W w.heap.size h.ar 28 ∧ At W (w.heap.size + 1) Dd.zero.vs.toArray 30 ∧ Below w.heap.size w W) (two_box w _ _ _ _) ?_
  rintro w1 ⟨A, R, z⟩
  obtain ⟨rb, hh2⟩ : ∃ rb, Hid (w.heap.size + 1 = rb) := ⟨_, rfl⟩
  rw [hh2.out] at R
  simp only [hh2.out]
  obtain ⟨hb, hh1⟩ : ∃ hb, Hid (w.heap.size = hb) := ⟨_, rfl⟩
  rw [hh1.out] at A z
  simp only [hh1.out]
  have hq : hb ≤ w1.heap.size := by have := z.size; have := hh1.out; omega
  have c6 : w1.cell? ⟨hb, 6, none⟩ = some (.int .i64 13) := (A.cell 6).trans (by show some (Value.int .i64 h.code) = _; rw [hc])
  have c8 : w1.cell? ⟨hb, 8, none⟩ = some (.int .i64 h.b) := A.cell 8
  have c10 : w1.cell? ⟨hb, 10, none⟩ = some (.int .i64 h.number) := A.cell 10
  have c11 : w1.cell? ⟨hb, 11, none⟩ = some (.int .i64 h.for_) := A.cell 11
  have c20 : w1.cell? ⟨hb, 20, none⟩ = some (.int .i64 h.block) := A.cell 20
  go_upto_region 2 with (first
    | (refine wpList_built rfl 30 #[(0, .tmp 6), (1, .tmp 8), (2, .tmp 10), (3, .tmp 12)] rfl [(0, .int .i64 5), (1, .int .i64 h.for_), (2, .int .i64 h.number), (3, .int .i64 h.block)] rfl _ (bDeed _ _ _ _) ?_)
    | (refine newV (vs := Dd.vs ⟨5, h.for_, h.number, h.block, 0, 0⟩) (by kernel_rfl) (Dd.one _) rfl (.tmp 5) (.tmp 13) rfl rfl rfl rfl ?_; intro w2 D hb2 lt2; clear c6 c8 c10 c11 c20; have hrl := R.lt; have hal := A.lt; replace R := R.keep hb2; replace A := A.keep hb2; have hz2 := hq; replace z := z.trans (hb2.mono hq); clear hb2))
  obtain ⟨b2, hb2⟩ : ∃ q, Hid (w1.heap.size = q) := ⟨_, rfl⟩
  rw [hb2.out] at D hz2 hrl hal
  rw [hb2.out]
  have hrb : rb ≠ b2 := by omega
  have hab : hb ≠ b2 := by omega
  have hz3 : hb ≤ rb := by have := hh1.out; have := hh2.out; omega

  have c6 : w2.cell? ⟨hb, 6, none⟩ = some (.int .i64 13) := (A.cell 6).trans (by show some (Value.int .i64 h.code) = _; rw [hc])
  have c8 : w2.cell? ⟨hb, 8, none⟩ = some (.int .i64 h.b) := A.cell 8
  have c10 : w2.cell? ⟨hb, 10, none⟩ = some (.int .i64 h.number) := A.cell 10
  have c11 : w2.cell? ⟨hb, 11, none⟩ = some (.int .i64 h.for_) := A.cell 11
  have c20 : w2.cell? ⟨hb, 20, none⟩ = some (.int .i64 h.block) := A.cell 20
  have e2 : w2.cell? ⟨b2, 2, none⟩ = some _ := (D.cell 2).trans rfl
  have g2 : w2.frozen? ⟨b2, 2, none⟩ = false := D.frozen 2
  have e4 : w2.cell? ⟨b2, 4, none⟩ = some _ := (D.cell 4).trans rfl
  have g4 : w2.frozen? ⟨b2, 4, none⟩ = false := D.frozen 4
  go_upto_region 13 with fail
  refine wp_at (fun W => At W b2 (Dd.vs ⟨5, h.for_, 0, h.block, h.b, 0⟩).toArray 30 ∧ At W rb Dd.zero.vs.toArray 30 ∧ Below hb w W) ⟨((D.set 2 _).set 4 _), ((R.other (a := ⟨b2, 2, none⟩) hrb _).other (a := ⟨b2, 4, none⟩) hrb _), (Below.setCell (Below.setCell z (p := ⟨b2, 2, none⟩) hz2 _) (p := ⟨b2, 4, none⟩) hz2 _)⟩ ?_
  clear c6 c8 c10 c11 c20 e2 g2 e4 g4 D z A R
  rintro W ⟨D, R, z⟩
  go_wp2_with (first
    | (refine loadV (Dd.vs ⟨5, h.for_, 0, h.block, h.b, 0⟩) Tryz.underlying30 rfl (by kernel_rfl) rfl (.tmp 5) rfl b2 0 rfl D (fun j v hj => by rw [Nat.zero_add]; simpa using hj) ?_)
    | (refine storeV (vs := Dd.vs ⟨5, h.for_, 0, h.block, h.b, 0⟩) (by kernel_rfl) (Dd.one _) rfl (.tmp 4) (.tmp 44) rfl rb rfl rfl R rfl ?_; intro W3 R3 kk))
  refine bodyPost_ret (resD (d := ⟨5, h.for_, 0, h.block, h.b, 0⟩) 4 rfl rfl R3) rfl ?_
  exact ⟨rfl, by rw [hh1.out]; exact z.trans (kk.below hz3 (by have := z.size; have := hh1.out; omega))⟩

set_option maxHeartbeats 8000000 in
theorem deed_13_6 (h : Hd) (hc : h.code = 13) (w : World) :
    Calls Tryz.prog 94 #[.agg h.ar, .int .i64 6] w fun e w' => e = .returned (.agg (Dd.vs ⟨6, h.for_, 0, h.block, h.value, 0⟩).toArray) ∧ Below w.heap.size w w' := by
  go_enter Tryz.func94, Tryz.ntmps94
  go_upto_region 1 with fail
  refine wp_at (fun W => At W w.heap.size h.ar 28 ∧ At W (w.heap.size + 1) Dd.zero.vs.toArray 30 ∧ Below w.heap.size w W) (two_box w _ _ _ _) ?_
  rintro w1 ⟨A, R, z⟩
  obtain ⟨rb, hh2⟩ : ∃ rb, Hid (w.heap.size + 1 = rb) := ⟨_, rfl⟩
  rw [hh2.out] at R
  simp only [hh2.out]
  obtain ⟨hb, hh1⟩ : ∃ hb, Hid (w.heap.size = hb) := ⟨_, rfl⟩
  rw [hh1.out] at A z
  simp only [hh1.out]
  have hq : hb ≤ w1.heap.size := by have := z.size; have := hh1.out; omega
  have c6 : w1.cell? ⟨hb, 6, none⟩ = some (.int .i64 13) := (A.cell 6).trans (by show some (Value.int .i64 h.code) = _; rw [hc])
  have c10 : w1.cell? ⟨hb, 10, none⟩ = some (.int .i64 h.number) := A.cell 10
  have c11 : w1.cell? ⟨hb, 11, none⟩ = some (.int .i64 h.for_) := A.cell 11
  have c20 : w1.cell? ⟨hb, 20, none⟩ = some (.int .i64 h.block) := A.cell 20
  have c23 : w1.cell? ⟨hb, 23, none⟩ = some (.int .i64 h.value) := A.cell 23
  go_upto_region 2 with (first
    | (refine wpList_built rfl 30 #[(0, .tmp 6), (1, .tmp 8), (2, .tmp 10), (3, .tmp 12)] rfl [(0, .int .i64 6), (1, .int .i64 h.for_), (2, .int .i64 h.number), (3, .int .i64 h.block)] rfl _ (bDeed _ _ _ _) ?_)
    | (refine newV (vs := Dd.vs ⟨6, h.for_, h.number, h.block, 0, 0⟩) (by kernel_rfl) (Dd.one _) rfl (.tmp 5) (.tmp 13) rfl rfl rfl rfl ?_; intro w2 D hb2 lt2; clear c6 c10 c11 c20 c23; have hrl := R.lt; have hal := A.lt; replace R := R.keep hb2; replace A := A.keep hb2; have hz2 := hq; replace z := z.trans (hb2.mono hq); clear hb2))
  obtain ⟨b2, hb2⟩ : ∃ q, Hid (w1.heap.size = q) := ⟨_, rfl⟩
  rw [hb2.out] at D hz2 hrl hal
  rw [hb2.out]
  have hrb : rb ≠ b2 := by omega
  have hab : hb ≠ b2 := by omega
  have hz3 : hb ≤ rb := by have := hh1.out; have := hh2.out; omega

  have c6 : w2.cell? ⟨hb, 6, none⟩ = some (.int .i64 13) := (A.cell 6).trans (by show some (Value.int .i64 h.code) = _; rw [hc])
  have c10 : w2.cell? ⟨hb, 10, none⟩ = some (.int .i64 h.number) := A.cell 10
  have c11 : w2.cell? ⟨hb, 11, none⟩ = some (.int .i64 h.for_) := A.cell 11
  have c20 : w2.cell? ⟨hb, 20, none⟩ = some (.int .i64 h.block) := A.cell 20
  have c23 : w2.cell? ⟨hb, 23, none⟩ = some (.int .i64 h.value) := A.cell 23
  have e2 : w2.cell? ⟨b2, 2, none⟩ = some _ := (D.cell 2).trans rfl
  have g2 : w2.frozen? ⟨b2, 2, none⟩ = false := D.frozen 2
  have e4 : w2.cell? ⟨b2, 4, none⟩ = some _ := (D.cell 4).trans rfl
  have g4 : w2.frozen? ⟨b2, 4, none⟩ = false := D.frozen 4
  go_upto_region 13 with fail
  refine wp_at (fun W => At W b2 (Dd.vs ⟨6, h.for_, 0, h.block, h.value, 0⟩).toArray 30 ∧ At W rb Dd.zero.vs.toArray 30 ∧ Below hb w W) ⟨((D.set 2 _).set 4 _), ((R.other (a := ⟨b2, 2, none⟩) hrb _).other (a := ⟨b2, 4, none⟩) hrb _), (Below.setCell (Below.setCell z (p := ⟨b2, 2, none⟩) hz2 _) (p := ⟨b2, 4, none⟩) hz2 _)⟩ ?_
  clear c6 c10 c11 c20 c23 e2 g2 e4 g4 D z A R
  rintro W ⟨D, R, z⟩
  go_wp2_with (first
    | (refine loadV (Dd.vs ⟨6, h.for_, 0, h.block, h.value, 0⟩) Tryz.underlying30 rfl (by kernel_rfl) rfl (.tmp 5) rfl b2 0 rfl D (fun j v hj => by rw [Nat.zero_add]; simpa using hj) ?_)
    | (refine storeV (vs := Dd.vs ⟨6, h.for_, 0, h.block, h.value, 0⟩) (by kernel_rfl) (Dd.one _) rfl (.tmp 4) (.tmp 44) rfl rb rfl rfl R rfl ?_; intro W3 R3 kk))
  refine bodyPost_ret (resD (d := ⟨6, h.for_, 0, h.block, h.value, 0⟩) 4 rfl rfl R3) rfl ?_
  exact ⟨rfl, by rw [hh1.out]; exact z.trans (kk.below hz3 (by have := z.size; have := hh1.out; omega))⟩

set_option maxHeartbeats 8000000 in
theorem deed_13_7 (h : Hd) (hc : h.code = 13) (w : World) :
    Calls Tryz.prog 94 #[.agg h.ar, .int .i64 7] w fun e w' => e = .returned (.agg (Dd.vs ⟨7, h.for_, 0, h.a, h.c, 0⟩).toArray) ∧ Below w.heap.size w w' := by
  go_enter Tryz.func94, Tryz.ntmps94
  go_upto_region 1 with fail
  refine wp_at (fun W => At W w.heap.size h.ar 28 ∧ At W (w.heap.size + 1) Dd.zero.vs.toArray 30 ∧ Below w.heap.size w W) (two_box w _ _ _ _) ?_
  rintro w1 ⟨A, R, z⟩
  obtain ⟨rb, hh2⟩ : ∃ rb, Hid (w.heap.size + 1 = rb) := ⟨_, rfl⟩
  rw [hh2.out] at R
  simp only [hh2.out]
  obtain ⟨hb, hh1⟩ : ∃ hb, Hid (w.heap.size = hb) := ⟨_, rfl⟩
  rw [hh1.out] at A z
  simp only [hh1.out]
  have hq : hb ≤ w1.heap.size := by have := z.size; have := hh1.out; omega
  have c6 : w1.cell? ⟨hb, 6, none⟩ = some (.int .i64 13) := (A.cell 6).trans (by show some (Value.int .i64 h.code) = _; rw [hc])
  have c7 : w1.cell? ⟨hb, 7, none⟩ = some (.int .i64 h.a) := A.cell 7
  have c9 : w1.cell? ⟨hb, 9, none⟩ = some (.int .i64 h.c) := A.cell 9
  have c10 : w1.cell? ⟨hb, 10, none⟩ = some (.int .i64 h.number) := A.cell 10
  have c11 : w1.cell? ⟨hb, 11, none⟩ = some (.int .i64 h.for_) := A.cell 11
  have c20 : w1.cell? ⟨hb, 20, none⟩ = some (.int .i64 h.block) := A.cell 20
  go_upto_region 2 with (first
    | (refine wpList_built rfl 30 #[(0, .tmp 6), (1, .tmp 8), (2, .tmp 10), (3, .tmp 12)] rfl [(0, .int .i64 7), (1, .int .i64 h.for_), (2, .int .i64 h.number), (3, .int .i64 h.block)] rfl _ (bDeed _ _ _ _) ?_)
    | (refine newV (vs := Dd.vs ⟨7, h.for_, h.number, h.block, 0, 0⟩) (by kernel_rfl) (Dd.one _) rfl (.tmp 5) (.tmp 13) rfl rfl rfl rfl ?_; intro w2 D hb2 lt2; clear c6 c7 c9 c10 c11 c20; have hrl := R.lt; have hal := A.lt; replace R := R.keep hb2; replace A := A.keep hb2; have hz2 := hq; replace z := z.trans (hb2.mono hq); clear hb2))
  obtain ⟨b2, hb2⟩ : ∃ q, Hid (w1.heap.size = q) := ⟨_, rfl⟩
  rw [hb2.out] at D hz2 hrl hal
  rw [hb2.out]
  have hrb : rb ≠ b2 := by omega
  have hab : hb ≠ b2 := by omega
  have hz3 : hb ≤ rb := by have := hh1.out; have := hh2.out; omega

  have c6 : w2.cell? ⟨hb, 6, none⟩ = some (.int .i64 13) := (A.cell 6).trans (by show some (Value.int .i64 h.code) = _; rw [hc])
  have c7 : w2.cell? ⟨hb, 7, none⟩ = some (.int .i64 h.a) := A.cell 7
  have c9 : w2.cell? ⟨hb, 9, none⟩ = some (.int .i64 h.c) := A.cell 9
  have c10 : w2.cell? ⟨hb, 10, none⟩ = some (.int .i64 h.number) := A.cell 10
  have c11 : w2.cell? ⟨hb, 11, none⟩ = some (.int .i64 h.for_) := A.cell 11
  have c20 : w2.cell? ⟨hb, 20, none⟩ = some (.int .i64 h.block) := A.cell 20
  have e2 : w2.cell? ⟨b2, 2, none⟩ = some _ := (D.cell 2).trans rfl
  have g2 : w2.frozen? ⟨b2, 2, none⟩ = false := D.frozen 2
  go_upto_region 12 with fail
  refine wp_at (fun W => At W hb h.ar 28 ∧ At W b2 (Dd.vs ⟨7, h.for_, 0, h.block, 0, 0⟩).toArray 30 ∧ At W rb Dd.zero.vs.toArray 30 ∧ Below hb w W) ⟨(A.other (a := ⟨b2, 2, none⟩) hab _), (D.set 2 _), (R.other (a := ⟨b2, 2, none⟩) hrb _), (Below.setCell z (p := ⟨b2, 2, none⟩) hz2 _)⟩ ?_
  clear c6 c7 c9 c10 c11 c20 e2 g2 D z A R
  rintro W0 ⟨A, D, R, z⟩
  have c7 : W0.cell? ⟨hb, 7, none⟩ = some (.int .i64 h.a) := A.cell 7
  have c9 : W0.cell? ⟨hb, 9, none⟩ = some (.int .i64 h.c) := A.cell 9
  have e3 : W0.cell? ⟨b2, 3, none⟩ = some _ := (D.cell 3).trans rfl
  have g3 : W0.frozen? ⟨b2, 3, none⟩ = false := D.frozen 3
  have e4 : W0.cell? ⟨b2, 4, none⟩ = some _ := (D.cell 4).trans rfl
  have g4 : W0.frozen? ⟨b2, 4, none⟩ = false := D.frozen 4
  have hba : b2 ≠ hb := Ne.symm hab
  have AD := A.keep (Below.refl W0.heap.size W0).drew
  have DD := D.keep (Below.refl W0.heap.size W0).drew
  have RD := R.keep (Below.refl W0.heap.size W0).drew
  go_region_held3 (fun w' => w'.cell? ⟨hb, 7, none⟩ = some (.int .i64 h.a) ∧ w'.cell? ⟨hb, 9, none⟩ = some (.int .i64 h.c)) (go_keep) (fail)
  all_goals go_upto_region 13 with fail
  all_goals refine wp_at (fun W => At W b2 (Dd.vs ⟨7, h.for_, 0, h.a, h.c, 0⟩).toArray 30 ∧ At W rb Dd.zero.vs.toArray 30 ∧ Below hb w W) (by
    first
      | exact ⟨(DD.set 3 _).set 4 _, (RD.other (a := ⟨b2, 3, none⟩) hrb _).other (a := ⟨b2, 4, none⟩) hrb _, Below.setCell (Below.setCell z.drew (p := ⟨b2, 3, none⟩) hz2 _) (p := ⟨b2, 4, none⟩) hz2 _⟩
      | exact ⟨(DD.set 4 _).set 3 _, (RD.other (a := ⟨b2, 4, none⟩) hrb _).other (a := ⟨b2, 3, none⟩) hrb _, Below.setCell (Below.setCell z.drew (p := ⟨b2, 4, none⟩) hz2 _) (p := ⟨b2, 3, none⟩) hz2 _⟩) ?_
  all_goals clear c7 c9 e3 g3 e4 g4 D z A R AD DD RD
  all_goals rintro W ⟨D, R, z⟩
  all_goals
    go_wp2_with (first
      | (refine loadV (Dd.vs ⟨7, h.for_, 0, h.a, h.c, 0⟩) Tryz.underlying30 rfl (by kernel_rfl) rfl (.tmp 5) rfl b2 0 rfl D (fun j v hj => by rw [Nat.zero_add]; simpa using hj) ?_)
      | (refine storeV (vs := Dd.vs ⟨7, h.for_, 0, h.a, h.c, 0⟩) (by kernel_rfl) (Dd.one _) rfl (.tmp 4) (.tmp 44) rfl rb rfl rfl R rfl ?_; intro W3 R3 kk))
    refine bodyPost_ret (resD (d := ⟨7, h.for_, 0, h.a, h.c, 0⟩) 4 rfl rfl R3) rfl ?_
    exact ⟨rfl, by rw [hh1.out]; exact z.trans (kk.below hz3 (by have := z.size; have := hh1.out; omega))⟩

set_option maxHeartbeats 8000000 in
theorem deed_13_n (h : Hd) (kind : Int) (k3 : ¬ kind = 3) (k4 : ¬ kind = 4) (k5 : ¬ kind = 5) (k6 : ¬ kind = 6) (k7 : ¬ kind = 7) (hc : h.code = 13) (w : World) :
    Calls Tryz.prog 94 #[.agg h.ar, .int .i64 kind] w fun e w' => e = .returned (.agg (Dd.vs ⟨kind, h.for_, 0, h.block, 0, 0⟩).toArray) ∧ Below w.heap.size w w' := by
  go_enter Tryz.func94, Tryz.ntmps94
  go_upto_region 1 with fail
  refine wp_at (fun W => At W w.heap.size h.ar 28 ∧ At W (w.heap.size + 1) Dd.zero.vs.toArray 30 ∧ Below w.heap.size w W) (two_box w _ _ _ _) ?_
  rintro w1 ⟨A, R, z⟩
  obtain ⟨rb, hh2⟩ : ∃ rb, Hid (w.heap.size + 1 = rb) := ⟨_, rfl⟩
  rw [hh2.out] at R
  simp only [hh2.out]
  obtain ⟨hb, hh1⟩ : ∃ hb, Hid (w.heap.size = hb) := ⟨_, rfl⟩
  rw [hh1.out] at A z
  simp only [hh1.out]
  have hq : hb ≤ w1.heap.size := by have := z.size; have := hh1.out; omega
  have c6 : w1.cell? ⟨hb, 6, none⟩ = some (.int .i64 13) := (A.cell 6).trans (by show some (Value.int .i64 h.code) = _; rw [hc])
  have c10 : w1.cell? ⟨hb, 10, none⟩ = some (.int .i64 h.number) := A.cell 10
  have c11 : w1.cell? ⟨hb, 11, none⟩ = some (.int .i64 h.for_) := A.cell 11
  have c20 : w1.cell? ⟨hb, 20, none⟩ = some (.int .i64 h.block) := A.cell 20
  go_upto_region 2 with (first
    | (refine wpList_built rfl 30 #[(0, .tmp 6), (1, .tmp 8), (2, .tmp 10), (3, .tmp 12)] rfl [(0, .int .i64 kind), (1, .int .i64 h.for_), (2, .int .i64 h.number), (3, .int .i64 h.block)] rfl _ (bDeed _ _ _ _) ?_)
    | (refine newV (vs := Dd.vs ⟨kind, h.for_, h.number, h.block, 0, 0⟩) (by kernel_rfl) (Dd.one _) rfl (.tmp 5) (.tmp 13) rfl rfl rfl rfl ?_; intro w2 D hb2 lt2; clear c6 c10 c11 c20; have hrl := R.lt; have hal := A.lt; replace R := R.keep hb2; replace A := A.keep hb2; have hz2 := hq; replace z := z.trans (hb2.mono hq); clear hb2))
  obtain ⟨b2, hb2⟩ : ∃ q, Hid (w1.heap.size = q) := ⟨_, rfl⟩
  rw [hb2.out] at D hz2 hrl hal
  rw [hb2.out]
  have hrb : rb ≠ b2 := by omega
  have hab : hb ≠ b2 := by omega
  have hz3 : hb ≤ rb := by have := hh1.out; have := hh2.out; omega

  have c6 : w2.cell? ⟨hb, 6, none⟩ = some (.int .i64 13) := (A.cell 6).trans (by show some (Value.int .i64 h.code) = _; rw [hc])
  have c10 : w2.cell? ⟨hb, 10, none⟩ = some (.int .i64 h.number) := A.cell 10
  have c11 : w2.cell? ⟨hb, 11, none⟩ = some (.int .i64 h.for_) := A.cell 11
  have c20 : w2.cell? ⟨hb, 20, none⟩ = some (.int .i64 h.block) := A.cell 20
  have e2 : w2.cell? ⟨b2, 2, none⟩ = some _ := (D.cell 2).trans rfl
  have g2 : w2.frozen? ⟨b2, 2, none⟩ = false := D.frozen 2
  go_upto_region 13 with fail
  refine wp_at (fun W => At W b2 (Dd.vs ⟨kind, h.for_, 0, h.block, 0, 0⟩).toArray 30 ∧ At W rb Dd.zero.vs.toArray 30 ∧ Below hb w W) ⟨(D.set 2 _), (R.other (a := ⟨b2, 2, none⟩) hrb _), (Below.setCell z (p := ⟨b2, 2, none⟩) hz2 _)⟩ ?_
  clear c6 c10 c11 c20 e2 g2 D z A R
  rintro W ⟨D, R, z⟩
  go_wp2_with (first
    | (refine loadV (Dd.vs ⟨kind, h.for_, 0, h.block, 0, 0⟩) Tryz.underlying30 rfl (by kernel_rfl) rfl (.tmp 5) rfl b2 0 rfl D (fun j v hj => by rw [Nat.zero_add]; simpa using hj) ?_)
    | (refine storeV (vs := Dd.vs ⟨kind, h.for_, 0, h.block, 0, 0⟩) (by kernel_rfl) (Dd.one _) rfl (.tmp 4) (.tmp 44) rfl rb rfl rfl R rfl ?_; intro W3 R3 kk))
  refine bodyPost_ret (resD (d := ⟨kind, h.for_, 0, h.block, 0, 0⟩) 4 rfl rfl R3) rfl ?_
  exact ⟨rfl, by rw [hh1.out]; exact z.trans (kk.below hz3 (by have := z.size; have := hh1.out; omega))⟩

set_option maxHeartbeats 8000000 in
theorem deed_n_3 (h : Hd) (h1 : ¬ h.code = 1) (h2 : ¬ h.code = 13) (w : World) :
    Calls Tryz.prog 94 #[.agg h.ar, .int .i64 3] w fun e w' => e = .returned (.agg (Dd.vs ⟨3, h.for_, h.number, h.block, h.b, 0⟩).toArray) ∧ Below w.heap.size w w' := by
  have x1 : (h.code == 1) = false := by simp [h1]
  have x13 : (h.code == 13) = false := by simp [h2]
  go_enter Tryz.func94, Tryz.ntmps94
  go_upto_region 1 with fail
  refine wp_at (fun W => At W w.heap.size h.ar 28 ∧ At W (w.heap.size + 1) Dd.zero.vs.toArray 30 ∧ Below w.heap.size w W) (two_box w _ _ _ _) ?_
  rintro w1 ⟨A, R, z⟩
  obtain ⟨rb, hh2⟩ : ∃ rb, Hid (w.heap.size + 1 = rb) := ⟨_, rfl⟩
  rw [hh2.out] at R
  simp only [hh2.out]
  obtain ⟨hb, hh1⟩ : ∃ hb, Hid (w.heap.size = hb) := ⟨_, rfl⟩
  rw [hh1.out] at A z
  simp only [hh1.out]
  have hq : hb ≤ w1.heap.size := by have := z.size; have := hh1.out; omega
  have c6 : w1.cell? ⟨hb, 6, none⟩ = some (.int .i64 h.code) := A.cell 6
  have c8 : w1.cell? ⟨hb, 8, none⟩ = some (.int .i64 h.b) := A.cell 8
  have c10 : w1.cell? ⟨hb, 10, none⟩ = some (.int .i64 h.number) := A.cell 10
  have c11 : w1.cell? ⟨hb, 11, none⟩ = some (.int .i64 h.for_) := A.cell 11
  have c20 : w1.cell? ⟨hb, 20, none⟩ = some (.int .i64 h.block) := A.cell 20
  go_upto_region 2 with (first
    | (refine wpList_built rfl 30 #[(0, .tmp 6), (1, .tmp 8), (2, .tmp 10), (3, .tmp 12)] rfl [(0, .int .i64 3), (1, .int .i64 h.for_), (2, .int .i64 h.number), (3, .int .i64 h.block)] rfl _ (bDeed _ _ _ _) ?_)
    | (refine newV (vs := Dd.vs ⟨3, h.for_, h.number, h.block, 0, 0⟩) (by kernel_rfl) (Dd.one _) rfl (.tmp 5) (.tmp 13) rfl rfl rfl rfl ?_; intro w2 D hb2 lt2; clear c6 c8 c10 c11 c20; have hrl := R.lt; have hal := A.lt; replace R := R.keep hb2; replace A := A.keep hb2; have hz2 := hq; replace z := z.trans (hb2.mono hq); clear hb2))
  obtain ⟨b2, hb2⟩ : ∃ q, Hid (w1.heap.size = q) := ⟨_, rfl⟩
  rw [hb2.out] at D hz2 hrl hal
  rw [hb2.out]
  have hrb : rb ≠ b2 := by omega
  have hab : hb ≠ b2 := by omega
  have hz3 : hb ≤ rb := by have := hh1.out; have := hh2.out; omega

  have c6 : w2.cell? ⟨hb, 6, none⟩ = some (.int .i64 h.code) := A.cell 6
  have c8 : w2.cell? ⟨hb, 8, none⟩ = some (.int .i64 h.b) := A.cell 8
  have c10 : w2.cell? ⟨hb, 10, none⟩ = some (.int .i64 h.number) := A.cell 10
  have c11 : w2.cell? ⟨hb, 11, none⟩ = some (.int .i64 h.for_) := A.cell 11
  have c20 : w2.cell? ⟨hb, 20, none⟩ = some (.int .i64 h.block) := A.cell 20
  have e4 : w2.cell? ⟨b2, 4, none⟩ = some _ := (D.cell 4).trans rfl
  have g4 : w2.frozen? ⟨b2, 4, none⟩ = false := D.frozen 4
  go_upto_region 13 with fail
  refine wp_at (fun W => At W b2 (Dd.vs ⟨3, h.for_, h.number, h.block, h.b, 0⟩).toArray 30 ∧ At W rb Dd.zero.vs.toArray 30 ∧ Below hb w W) ⟨(D.set 4 _), (R.other (a := ⟨b2, 4, none⟩) hrb _), (Below.setCell z (p := ⟨b2, 4, none⟩) hz2 _)⟩ ?_
  clear c6 c8 c10 c11 c20 e4 g4 D z A R
  rintro W ⟨D, R, z⟩
  go_wp2_with (first
    | (refine loadV (Dd.vs ⟨3, h.for_, h.number, h.block, h.b, 0⟩) Tryz.underlying30 rfl (by kernel_rfl) rfl (.tmp 5) rfl b2 0 rfl D (fun j v hj => by rw [Nat.zero_add]; simpa using hj) ?_)
    | (refine storeV (vs := Dd.vs ⟨3, h.for_, h.number, h.block, h.b, 0⟩) (by kernel_rfl) (Dd.one _) rfl (.tmp 4) (.tmp 44) rfl rb rfl rfl R rfl ?_; intro W3 R3 kk))
  refine bodyPost_ret (resD (d := ⟨3, h.for_, h.number, h.block, h.b, 0⟩) 4 rfl rfl R3) rfl ?_
  exact ⟨rfl, by rw [hh1.out]; exact z.trans (kk.below hz3 (by have := z.size; have := hh1.out; omega))⟩

set_option maxHeartbeats 8000000 in
theorem deed_n_4 (h : Hd) (h1 : ¬ h.code = 1) (h2 : ¬ h.code = 13) (w : World) :
    Calls Tryz.prog 94 #[.agg h.ar, .int .i64 4] w fun e w' => e = .returned (.agg (Dd.vs ⟨4, h.for_, h.number, h.block, h.value, 0⟩).toArray) ∧ Below w.heap.size w w' := by
  have x1 : (h.code == 1) = false := by simp [h1]
  have x13 : (h.code == 13) = false := by simp [h2]
  go_enter Tryz.func94, Tryz.ntmps94
  go_upto_region 1 with fail
  refine wp_at (fun W => At W w.heap.size h.ar 28 ∧ At W (w.heap.size + 1) Dd.zero.vs.toArray 30 ∧ Below w.heap.size w W) (two_box w _ _ _ _) ?_
  rintro w1 ⟨A, R, z⟩
  obtain ⟨rb, hh2⟩ : ∃ rb, Hid (w.heap.size + 1 = rb) := ⟨_, rfl⟩
  rw [hh2.out] at R
  simp only [hh2.out]
  obtain ⟨hb, hh1⟩ : ∃ hb, Hid (w.heap.size = hb) := ⟨_, rfl⟩
  rw [hh1.out] at A z
  simp only [hh1.out]
  have hq : hb ≤ w1.heap.size := by have := z.size; have := hh1.out; omega
  have c6 : w1.cell? ⟨hb, 6, none⟩ = some (.int .i64 h.code) := A.cell 6
  have c10 : w1.cell? ⟨hb, 10, none⟩ = some (.int .i64 h.number) := A.cell 10
  have c11 : w1.cell? ⟨hb, 11, none⟩ = some (.int .i64 h.for_) := A.cell 11
  have c20 : w1.cell? ⟨hb, 20, none⟩ = some (.int .i64 h.block) := A.cell 20
  have c23 : w1.cell? ⟨hb, 23, none⟩ = some (.int .i64 h.value) := A.cell 23
  go_upto_region 2 with (first
    | (refine wpList_built rfl 30 #[(0, .tmp 6), (1, .tmp 8), (2, .tmp 10), (3, .tmp 12)] rfl [(0, .int .i64 4), (1, .int .i64 h.for_), (2, .int .i64 h.number), (3, .int .i64 h.block)] rfl _ (bDeed _ _ _ _) ?_)
    | (refine newV (vs := Dd.vs ⟨4, h.for_, h.number, h.block, 0, 0⟩) (by kernel_rfl) (Dd.one _) rfl (.tmp 5) (.tmp 13) rfl rfl rfl rfl ?_; intro w2 D hb2 lt2; clear c6 c10 c11 c20 c23; have hrl := R.lt; have hal := A.lt; replace R := R.keep hb2; replace A := A.keep hb2; have hz2 := hq; replace z := z.trans (hb2.mono hq); clear hb2))
  obtain ⟨b2, hb2⟩ : ∃ q, Hid (w1.heap.size = q) := ⟨_, rfl⟩
  rw [hb2.out] at D hz2 hrl hal
  rw [hb2.out]
  have hrb : rb ≠ b2 := by omega
  have hab : hb ≠ b2 := by omega
  have hz3 : hb ≤ rb := by have := hh1.out; have := hh2.out; omega

  have c6 : w2.cell? ⟨hb, 6, none⟩ = some (.int .i64 h.code) := A.cell 6
  have c10 : w2.cell? ⟨hb, 10, none⟩ = some (.int .i64 h.number) := A.cell 10
  have c11 : w2.cell? ⟨hb, 11, none⟩ = some (.int .i64 h.for_) := A.cell 11
  have c20 : w2.cell? ⟨hb, 20, none⟩ = some (.int .i64 h.block) := A.cell 20
  have c23 : w2.cell? ⟨hb, 23, none⟩ = some (.int .i64 h.value) := A.cell 23
  have e4 : w2.cell? ⟨b2, 4, none⟩ = some _ := (D.cell 4).trans rfl
  have g4 : w2.frozen? ⟨b2, 4, none⟩ = false := D.frozen 4
  go_upto_region 13 with fail
  refine wp_at (fun W => At W b2 (Dd.vs ⟨4, h.for_, h.number, h.block, h.value, 0⟩).toArray 30 ∧ At W rb Dd.zero.vs.toArray 30 ∧ Below hb w W) ⟨(D.set 4 _), (R.other (a := ⟨b2, 4, none⟩) hrb _), (Below.setCell z (p := ⟨b2, 4, none⟩) hz2 _)⟩ ?_
  clear c6 c10 c11 c20 c23 e4 g4 D z A R
  rintro W ⟨D, R, z⟩
  go_wp2_with (first
    | (refine loadV (Dd.vs ⟨4, h.for_, h.number, h.block, h.value, 0⟩) Tryz.underlying30 rfl (by kernel_rfl) rfl (.tmp 5) rfl b2 0 rfl D (fun j v hj => by rw [Nat.zero_add]; simpa using hj) ?_)
    | (refine storeV (vs := Dd.vs ⟨4, h.for_, h.number, h.block, h.value, 0⟩) (by kernel_rfl) (Dd.one _) rfl (.tmp 4) (.tmp 44) rfl rb rfl rfl R rfl ?_; intro W3 R3 kk))
  refine bodyPost_ret (resD (d := ⟨4, h.for_, h.number, h.block, h.value, 0⟩) 4 rfl rfl R3) rfl ?_
  exact ⟨rfl, by rw [hh1.out]; exact z.trans (kk.below hz3 (by have := z.size; have := hh1.out; omega))⟩

set_option maxHeartbeats 8000000 in
theorem deed_n_5 (h : Hd) (h1 : ¬ h.code = 1) (h2 : ¬ h.code = 13) (w : World) :
    Calls Tryz.prog 94 #[.agg h.ar, .int .i64 5] w fun e w' => e = .returned (.agg (Dd.vs ⟨5, h.for_, h.number, h.block, h.b, 0⟩).toArray) ∧ Below w.heap.size w w' := by
  have x1 : (h.code == 1) = false := by simp [h1]
  have x13 : (h.code == 13) = false := by simp [h2]
  go_enter Tryz.func94, Tryz.ntmps94
  go_upto_region 1 with fail
  refine wp_at (fun W => At W w.heap.size h.ar 28 ∧ At W (w.heap.size + 1) Dd.zero.vs.toArray 30 ∧ Below w.heap.size w W) (two_box w _ _ _ _) ?_
  rintro w1 ⟨A, R, z⟩
  obtain ⟨rb, hh2⟩ : ∃ rb, Hid (w.heap.size + 1 = rb) := ⟨_, rfl⟩
  rw [hh2.out] at R
  simp only [hh2.out]
  obtain ⟨hb, hh1⟩ : ∃ hb, Hid (w.heap.size = hb) := ⟨_, rfl⟩
  rw [hh1.out] at A z
  simp only [hh1.out]
  have hq : hb ≤ w1.heap.size := by have := z.size; have := hh1.out; omega
  have c6 : w1.cell? ⟨hb, 6, none⟩ = some (.int .i64 h.code) := A.cell 6
  have c8 : w1.cell? ⟨hb, 8, none⟩ = some (.int .i64 h.b) := A.cell 8
  have c10 : w1.cell? ⟨hb, 10, none⟩ = some (.int .i64 h.number) := A.cell 10
  have c11 : w1.cell? ⟨hb, 11, none⟩ = some (.int .i64 h.for_) := A.cell 11
  have c20 : w1.cell? ⟨hb, 20, none⟩ = some (.int .i64 h.block) := A.cell 20
  go_upto_region 2 with (first
    | (refine wpList_built rfl 30 #[(0, .tmp 6), (1, .tmp 8), (2, .tmp 10), (3, .tmp 12)] rfl [(0, .int .i64 5), (1, .int .i64 h.for_), (2, .int .i64 h.number), (3, .int .i64 h.block)] rfl _ (bDeed _ _ _ _) ?_)
    | (refine newV (vs := Dd.vs ⟨5, h.for_, h.number, h.block, 0, 0⟩) (by kernel_rfl) (Dd.one _) rfl (.tmp 5) (.tmp 13) rfl rfl rfl rfl ?_; intro w2 D hb2 lt2; clear c6 c8 c10 c11 c20; have hrl := R.lt; have hal := A.lt; replace R := R.keep hb2; replace A := A.keep hb2; have hz2 := hq; replace z := z.trans (hb2.mono hq); clear hb2))
  obtain ⟨b2, hb2⟩ : ∃ q, Hid (w1.heap.size = q) := ⟨_, rfl⟩
  rw [hb2.out] at D hz2 hrl hal
  rw [hb2.out]
  have hrb : rb ≠ b2 := by omega
  have hab : hb ≠ b2 := by omega
  have hz3 : hb ≤ rb := by have := hh1.out; have := hh2.out; omega

  have c6 : w2.cell? ⟨hb, 6, none⟩ = some (.int .i64 h.code) := A.cell 6
  have c8 : w2.cell? ⟨hb, 8, none⟩ = some (.int .i64 h.b) := A.cell 8
  have c10 : w2.cell? ⟨hb, 10, none⟩ = some (.int .i64 h.number) := A.cell 10
  have c11 : w2.cell? ⟨hb, 11, none⟩ = some (.int .i64 h.for_) := A.cell 11
  have c20 : w2.cell? ⟨hb, 20, none⟩ = some (.int .i64 h.block) := A.cell 20
  have e4 : w2.cell? ⟨b2, 4, none⟩ = some _ := (D.cell 4).trans rfl
  have g4 : w2.frozen? ⟨b2, 4, none⟩ = false := D.frozen 4
  go_upto_region 13 with fail
  refine wp_at (fun W => At W b2 (Dd.vs ⟨5, h.for_, h.number, h.block, h.b, 0⟩).toArray 30 ∧ At W rb Dd.zero.vs.toArray 30 ∧ Below hb w W) ⟨(D.set 4 _), (R.other (a := ⟨b2, 4, none⟩) hrb _), (Below.setCell z (p := ⟨b2, 4, none⟩) hz2 _)⟩ ?_
  clear c6 c8 c10 c11 c20 e4 g4 D z A R
  rintro W ⟨D, R, z⟩
  go_wp2_with (first
    | (refine loadV (Dd.vs ⟨5, h.for_, h.number, h.block, h.b, 0⟩) Tryz.underlying30 rfl (by kernel_rfl) rfl (.tmp 5) rfl b2 0 rfl D (fun j v hj => by rw [Nat.zero_add]; simpa using hj) ?_)
    | (refine storeV (vs := Dd.vs ⟨5, h.for_, h.number, h.block, h.b, 0⟩) (by kernel_rfl) (Dd.one _) rfl (.tmp 4) (.tmp 44) rfl rb rfl rfl R rfl ?_; intro W3 R3 kk))
  refine bodyPost_ret (resD (d := ⟨5, h.for_, h.number, h.block, h.b, 0⟩) 4 rfl rfl R3) rfl ?_
  exact ⟨rfl, by rw [hh1.out]; exact z.trans (kk.below hz3 (by have := z.size; have := hh1.out; omega))⟩

set_option maxHeartbeats 8000000 in
theorem deed_n_6 (h : Hd) (h1 : ¬ h.code = 1) (h2 : ¬ h.code = 13) (w : World) :
    Calls Tryz.prog 94 #[.agg h.ar, .int .i64 6] w fun e w' => e = .returned (.agg (Dd.vs ⟨6, h.for_, h.number, h.block, h.value, 0⟩).toArray) ∧ Below w.heap.size w w' := by
  have x1 : (h.code == 1) = false := by simp [h1]
  have x13 : (h.code == 13) = false := by simp [h2]
  go_enter Tryz.func94, Tryz.ntmps94
  go_upto_region 1 with fail
  refine wp_at (fun W => At W w.heap.size h.ar 28 ∧ At W (w.heap.size + 1) Dd.zero.vs.toArray 30 ∧ Below w.heap.size w W) (two_box w _ _ _ _) ?_
  rintro w1 ⟨A, R, z⟩
  obtain ⟨rb, hh2⟩ : ∃ rb, Hid (w.heap.size + 1 = rb) := ⟨_, rfl⟩
  rw [hh2.out] at R
  simp only [hh2.out]
  obtain ⟨hb, hh1⟩ : ∃ hb, Hid (w.heap.size = hb) := ⟨_, rfl⟩
  rw [hh1.out] at A z
  simp only [hh1.out]
  have hq : hb ≤ w1.heap.size := by have := z.size; have := hh1.out; omega
  have c6 : w1.cell? ⟨hb, 6, none⟩ = some (.int .i64 h.code) := A.cell 6
  have c10 : w1.cell? ⟨hb, 10, none⟩ = some (.int .i64 h.number) := A.cell 10
  have c11 : w1.cell? ⟨hb, 11, none⟩ = some (.int .i64 h.for_) := A.cell 11
  have c20 : w1.cell? ⟨hb, 20, none⟩ = some (.int .i64 h.block) := A.cell 20
  have c23 : w1.cell? ⟨hb, 23, none⟩ = some (.int .i64 h.value) := A.cell 23
  go_upto_region 2 with (first
    | (refine wpList_built rfl 30 #[(0, .tmp 6), (1, .tmp 8), (2, .tmp 10), (3, .tmp 12)] rfl [(0, .int .i64 6), (1, .int .i64 h.for_), (2, .int .i64 h.number), (3, .int .i64 h.block)] rfl _ (bDeed _ _ _ _) ?_)
    | (refine newV (vs := Dd.vs ⟨6, h.for_, h.number, h.block, 0, 0⟩) (by kernel_rfl) (Dd.one _) rfl (.tmp 5) (.tmp 13) rfl rfl rfl rfl ?_; intro w2 D hb2 lt2; clear c6 c10 c11 c20 c23; have hrl := R.lt; have hal := A.lt; replace R := R.keep hb2; replace A := A.keep hb2; have hz2 := hq; replace z := z.trans (hb2.mono hq); clear hb2))
  obtain ⟨b2, hb2⟩ : ∃ q, Hid (w1.heap.size = q) := ⟨_, rfl⟩
  rw [hb2.out] at D hz2 hrl hal
  rw [hb2.out]
  have hrb : rb ≠ b2 := by omega
  have hab : hb ≠ b2 := by omega
  have hz3 : hb ≤ rb := by have := hh1.out; have := hh2.out; omega

  have c6 : w2.cell? ⟨hb, 6, none⟩ = some (.int .i64 h.code) := A.cell 6
  have c10 : w2.cell? ⟨hb, 10, none⟩ = some (.int .i64 h.number) := A.cell 10
  have c11 : w2.cell? ⟨hb, 11, none⟩ = some (.int .i64 h.for_) := A.cell 11
  have c20 : w2.cell? ⟨hb, 20, none⟩ = some (.int .i64 h.block) := A.cell 20
  have c23 : w2.cell? ⟨hb, 23, none⟩ = some (.int .i64 h.value) := A.cell 23
  have e4 : w2.cell? ⟨b2, 4, none⟩ = some _ := (D.cell 4).trans rfl
  have g4 : w2.frozen? ⟨b2, 4, none⟩ = false := D.frozen 4
  go_upto_region 13 with fail
  refine wp_at (fun W => At W b2 (Dd.vs ⟨6, h.for_, h.number, h.block, h.value, 0⟩).toArray 30 ∧ At W rb Dd.zero.vs.toArray 30 ∧ Below hb w W) ⟨(D.set 4 _), (R.other (a := ⟨b2, 4, none⟩) hrb _), (Below.setCell z (p := ⟨b2, 4, none⟩) hz2 _)⟩ ?_
  clear c6 c10 c11 c20 c23 e4 g4 D z A R
  rintro W ⟨D, R, z⟩
  go_wp2_with (first
    | (refine loadV (Dd.vs ⟨6, h.for_, h.number, h.block, h.value, 0⟩) Tryz.underlying30 rfl (by kernel_rfl) rfl (.tmp 5) rfl b2 0 rfl D (fun j v hj => by rw [Nat.zero_add]; simpa using hj) ?_)
    | (refine storeV (vs := Dd.vs ⟨6, h.for_, h.number, h.block, h.value, 0⟩) (by kernel_rfl) (Dd.one _) rfl (.tmp 4) (.tmp 44) rfl rb rfl rfl R rfl ?_; intro W3 R3 kk))
  refine bodyPost_ret (resD (d := ⟨6, h.for_, h.number, h.block, h.value, 0⟩) 4 rfl rfl R3) rfl ?_
  exact ⟨rfl, by rw [hh1.out]; exact z.trans (kk.below hz3 (by have := z.size; have := hh1.out; omega))⟩

set_option maxHeartbeats 8000000 in
theorem deed_n_7 (h : Hd) (h1 : ¬ h.code = 1) (h2 : ¬ h.code = 13) (w : World) :
    Calls Tryz.prog 94 #[.agg h.ar, .int .i64 7] w fun e w' => e = .returned (.agg (Dd.vs ⟨7, h.for_, h.number, h.a, h.c, 0⟩).toArray) ∧ Below w.heap.size w w' := by
  have x1 : (h.code == 1) = false := by simp [h1]
  have x13 : (h.code == 13) = false := by simp [h2]
  go_enter Tryz.func94, Tryz.ntmps94
  go_upto_region 1 with fail
  refine wp_at (fun W => At W w.heap.size h.ar 28 ∧ At W (w.heap.size + 1) Dd.zero.vs.toArray 30 ∧ Below w.heap.size w W) (two_box w _ _ _ _) ?_
  rintro w1 ⟨A, R, z⟩
  obtain ⟨rb, hh2⟩ : ∃ rb, Hid (w.heap.size + 1 = rb) := ⟨_, rfl⟩
  rw [hh2.out] at R
  simp only [hh2.out]
  obtain ⟨hb, hh1⟩ : ∃ hb, Hid (w.heap.size = hb) := ⟨_, rfl⟩
  rw [hh1.out] at A z
  simp only [hh1.out]
  have hq : hb ≤ w1.heap.size := by have := z.size; have := hh1.out; omega
  have c6 : w1.cell? ⟨hb, 6, none⟩ = some (.int .i64 h.code) := A.cell 6
  have c7 : w1.cell? ⟨hb, 7, none⟩ = some (.int .i64 h.a) := A.cell 7
  have c9 : w1.cell? ⟨hb, 9, none⟩ = some (.int .i64 h.c) := A.cell 9
  have c10 : w1.cell? ⟨hb, 10, none⟩ = some (.int .i64 h.number) := A.cell 10
  have c11 : w1.cell? ⟨hb, 11, none⟩ = some (.int .i64 h.for_) := A.cell 11
  have c20 : w1.cell? ⟨hb, 20, none⟩ = some (.int .i64 h.block) := A.cell 20
  go_upto_region 2 with (first
    | (refine wpList_built rfl 30 #[(0, .tmp 6), (1, .tmp 8), (2, .tmp 10), (3, .tmp 12)] rfl [(0, .int .i64 7), (1, .int .i64 h.for_), (2, .int .i64 h.number), (3, .int .i64 h.block)] rfl _ (bDeed _ _ _ _) ?_)
    | (refine newV (vs := Dd.vs ⟨7, h.for_, h.number, h.block, 0, 0⟩) (by kernel_rfl) (Dd.one _) rfl (.tmp 5) (.tmp 13) rfl rfl rfl rfl ?_; intro w2 D hb2 lt2; clear c6 c7 c9 c10 c11 c20; have hrl := R.lt; have hal := A.lt; replace R := R.keep hb2; replace A := A.keep hb2; have hz2 := hq; replace z := z.trans (hb2.mono hq); clear hb2))
  obtain ⟨b2, hb2⟩ : ∃ q, Hid (w1.heap.size = q) := ⟨_, rfl⟩
  rw [hb2.out] at D hz2 hrl hal
  rw [hb2.out]
  have hrb : rb ≠ b2 := by omega
  have hab : hb ≠ b2 := by omega
  have hz3 : hb ≤ rb := by have := hh1.out; have := hh2.out; omega

  have c6 : w2.cell? ⟨hb, 6, none⟩ = some (.int .i64 h.code) := A.cell 6
  have c7 : w2.cell? ⟨hb, 7, none⟩ = some (.int .i64 h.a) := A.cell 7
  have c9 : w2.cell? ⟨hb, 9, none⟩ = some (.int .i64 h.c) := A.cell 9
  have c10 : w2.cell? ⟨hb, 10, none⟩ = some (.int .i64 h.number) := A.cell 10
  have c11 : w2.cell? ⟨hb, 11, none⟩ = some (.int .i64 h.for_) := A.cell 11
  have c20 : w2.cell? ⟨hb, 20, none⟩ = some (.int .i64 h.block) := A.cell 20
  skip
  go_upto_region 12 with fail
  refine wp_at (fun W => At W hb h.ar 28 ∧ At W b2 (Dd.vs ⟨7, h.for_, h.number, h.block, 0, 0⟩).toArray 30 ∧ At W rb Dd.zero.vs.toArray 30 ∧ Below hb w W) ⟨A, D, R, z⟩ ?_
  clear c6 c7 c9 c10 c11 c20  D z A R
  rintro W0 ⟨A, D, R, z⟩
  have c7 : W0.cell? ⟨hb, 7, none⟩ = some (.int .i64 h.a) := A.cell 7
  have c9 : W0.cell? ⟨hb, 9, none⟩ = some (.int .i64 h.c) := A.cell 9
  have e3 : W0.cell? ⟨b2, 3, none⟩ = some _ := (D.cell 3).trans rfl
  have g3 : W0.frozen? ⟨b2, 3, none⟩ = false := D.frozen 3
  have e4 : W0.cell? ⟨b2, 4, none⟩ = some _ := (D.cell 4).trans rfl
  have g4 : W0.frozen? ⟨b2, 4, none⟩ = false := D.frozen 4
  have hba : b2 ≠ hb := Ne.symm hab
  have AD := A.keep (Below.refl W0.heap.size W0).drew
  have DD := D.keep (Below.refl W0.heap.size W0).drew
  have RD := R.keep (Below.refl W0.heap.size W0).drew
  go_region_held3 (fun w' => w'.cell? ⟨hb, 7, none⟩ = some (.int .i64 h.a) ∧ w'.cell? ⟨hb, 9, none⟩ = some (.int .i64 h.c)) (go_keep) (fail)
  all_goals go_upto_region 13 with fail
  all_goals refine wp_at (fun W => At W b2 (Dd.vs ⟨7, h.for_, h.number, h.a, h.c, 0⟩).toArray 30 ∧ At W rb Dd.zero.vs.toArray 30 ∧ Below hb w W) (by
    first
      | exact ⟨(DD.set 3 _).set 4 _, (RD.other (a := ⟨b2, 3, none⟩) hrb _).other (a := ⟨b2, 4, none⟩) hrb _, Below.setCell (Below.setCell z.drew (p := ⟨b2, 3, none⟩) hz2 _) (p := ⟨b2, 4, none⟩) hz2 _⟩
      | exact ⟨(DD.set 4 _).set 3 _, (RD.other (a := ⟨b2, 4, none⟩) hrb _).other (a := ⟨b2, 3, none⟩) hrb _, Below.setCell (Below.setCell z.drew (p := ⟨b2, 4, none⟩) hz2 _) (p := ⟨b2, 3, none⟩) hz2 _⟩) ?_
  all_goals clear c7 c9 e3 g3 e4 g4 D z A R AD DD RD
  all_goals rintro W ⟨D, R, z⟩
  all_goals
    go_wp2_with (first
      | (refine loadV (Dd.vs ⟨7, h.for_, h.number, h.a, h.c, 0⟩) Tryz.underlying30 rfl (by kernel_rfl) rfl (.tmp 5) rfl b2 0 rfl D (fun j v hj => by rw [Nat.zero_add]; simpa using hj) ?_)
      | (refine storeV (vs := Dd.vs ⟨7, h.for_, h.number, h.a, h.c, 0⟩) (by kernel_rfl) (Dd.one _) rfl (.tmp 4) (.tmp 44) rfl rb rfl rfl R rfl ?_; intro W3 R3 kk))
    refine bodyPost_ret (resD (d := ⟨7, h.for_, h.number, h.a, h.c, 0⟩) 4 rfl rfl R3) rfl ?_
    exact ⟨rfl, by rw [hh1.out]; exact z.trans (kk.below hz3 (by have := z.size; have := hh1.out; omega))⟩

set_option maxHeartbeats 8000000 in
theorem deed_n_n (h : Hd) (kind : Int) (k3 : ¬ kind = 3) (k4 : ¬ kind = 4) (k5 : ¬ kind = 5) (k6 : ¬ kind = 6) (k7 : ¬ kind = 7) (h1 : ¬ h.code = 1) (h2 : ¬ h.code = 13) (w : World) :
    Calls Tryz.prog 94 #[.agg h.ar, .int .i64 kind] w fun e w' => e = .returned (.agg (Dd.vs ⟨kind, h.for_, h.number, h.block, 0, 0⟩).toArray) ∧ Below w.heap.size w w' := by
  have x1 : (h.code == 1) = false := by simp [h1]
  have x13 : (h.code == 13) = false := by simp [h2]
  go_enter Tryz.func94, Tryz.ntmps94
  go_upto_region 1 with fail
  refine wp_at (fun W => At W w.heap.size h.ar 28 ∧ At W (w.heap.size + 1) Dd.zero.vs.toArray 30 ∧ Below w.heap.size w W) (two_box w _ _ _ _) ?_
  rintro w1 ⟨A, R, z⟩
  obtain ⟨rb, hh2⟩ : ∃ rb, Hid (w.heap.size + 1 = rb) := ⟨_, rfl⟩
  rw [hh2.out] at R
  simp only [hh2.out]
  obtain ⟨hb, hh1⟩ : ∃ hb, Hid (w.heap.size = hb) := ⟨_, rfl⟩
  rw [hh1.out] at A z
  simp only [hh1.out]
  have hq : hb ≤ w1.heap.size := by have := z.size; have := hh1.out; omega
  have c6 : w1.cell? ⟨hb, 6, none⟩ = some (.int .i64 h.code) := A.cell 6
  have c10 : w1.cell? ⟨hb, 10, none⟩ = some (.int .i64 h.number) := A.cell 10
  have c11 : w1.cell? ⟨hb, 11, none⟩ = some (.int .i64 h.for_) := A.cell 11
  have c20 : w1.cell? ⟨hb, 20, none⟩ = some (.int .i64 h.block) := A.cell 20
  go_upto_region 2 with (first
    | (refine wpList_built rfl 30 #[(0, .tmp 6), (1, .tmp 8), (2, .tmp 10), (3, .tmp 12)] rfl [(0, .int .i64 kind), (1, .int .i64 h.for_), (2, .int .i64 h.number), (3, .int .i64 h.block)] rfl _ (bDeed _ _ _ _) ?_)
    | (refine newV (vs := Dd.vs ⟨kind, h.for_, h.number, h.block, 0, 0⟩) (by kernel_rfl) (Dd.one _) rfl (.tmp 5) (.tmp 13) rfl rfl rfl rfl ?_; intro w2 D hb2 lt2; clear c6 c10 c11 c20; have hrl := R.lt; have hal := A.lt; replace R := R.keep hb2; replace A := A.keep hb2; have hz2 := hq; replace z := z.trans (hb2.mono hq); clear hb2))
  obtain ⟨b2, hb2⟩ : ∃ q, Hid (w1.heap.size = q) := ⟨_, rfl⟩
  rw [hb2.out] at D hz2 hrl hal
  rw [hb2.out]
  have hrb : rb ≠ b2 := by omega
  have hab : hb ≠ b2 := by omega
  have hz3 : hb ≤ rb := by have := hh1.out; have := hh2.out; omega

  have c6 : w2.cell? ⟨hb, 6, none⟩ = some (.int .i64 h.code) := A.cell 6
  have c10 : w2.cell? ⟨hb, 10, none⟩ = some (.int .i64 h.number) := A.cell 10
  have c11 : w2.cell? ⟨hb, 11, none⟩ = some (.int .i64 h.for_) := A.cell 11
  have c20 : w2.cell? ⟨hb, 20, none⟩ = some (.int .i64 h.block) := A.cell 20
  skip
  go_upto_region 13 with fail
  refine wp_at (fun W => At W b2 (Dd.vs ⟨kind, h.for_, h.number, h.block, 0, 0⟩).toArray 30 ∧ At W rb Dd.zero.vs.toArray 30 ∧ Below hb w W) ⟨D, R, z⟩ ?_
  clear c6 c10 c11 c20  D z A R
  rintro W ⟨D, R, z⟩
  go_wp2_with (first
    | (refine loadV (Dd.vs ⟨kind, h.for_, h.number, h.block, 0, 0⟩) Tryz.underlying30 rfl (by kernel_rfl) rfl (.tmp 5) rfl b2 0 rfl D (fun j v hj => by rw [Nat.zero_add]; simpa using hj) ?_)
    | (refine storeV (vs := Dd.vs ⟨kind, h.for_, h.number, h.block, 0, 0⟩) (by kernel_rfl) (Dd.one _) rfl (.tmp 4) (.tmp 44) rfl rb rfl rfl R rfl ?_; intro W3 R3 kk))
  refine bodyPost_ret (resD (d := ⟨kind, h.for_, h.number, h.block, 0, 0⟩) 4 rfl rfl R3) rfl ?_
  exact ⟨rfl, by rw [hh1.out]; exact z.trans (kk.below hz3 (by have := z.size; have := hh1.out; omega))⟩

theorem iDeed (h : Hd) (kind : Int) (w : World) :
    Calls Tryz.prog 94 #[.agg h.ar, .int .i64 kind] w fun e w' => e = .returned (.agg (h.told kind).vs.toArray) ∧ Below w.heap.size w w' := by
  unfold Hd.told
  by_cases c1 : h.code = 1
  · rw [if_pos c1]
    by_cases k3 : kind = 3
    · subst k3; exact deed_1_3 h c1 w
    by_cases k5 : kind = 5
    · subst k5; exact deed_1_5 h c1 w
    by_cases k4 : kind = 4
    · subst k4; exact deed_1_4 h c1 w
    by_cases k6 : kind = 6
    · subst k6; exact deed_1_6 h c1 w
    by_cases k7 : kind = 7
    · subst k7; exact deed_1_7 h c1 w
    rw [if_neg k7, if_neg k3, if_neg k5, if_neg k4, if_neg k6, if_neg k7]
    exact deed_1_n h kind k3 k4 k5 k6 k7 c1 w
  · rw [if_neg c1]
    by_cases c13 : h.code = 13
    · rw [if_pos c13]
      by_cases k3 : kind = 3
      · subst k3; exact deed_13_3 h c13 w
      by_cases k5 : kind = 5
      · subst k5; exact deed_13_5 h c13 w
      by_cases k4 : kind = 4
      · subst k4; exact deed_13_4 h c13 w
      by_cases k6 : kind = 6
      · subst k6; exact deed_13_6 h c13 w
      by_cases k7 : kind = 7
      · subst k7; exact deed_13_7 h c13 w
      rw [if_neg k7, if_neg k3, if_neg k5, if_neg k4, if_neg k6, if_neg k7]
      exact deed_13_n h kind k3 k4 k5 k6 k7 c13 w
    · rw [if_neg c13]
      by_cases k3 : kind = 3
      · subst k3; exact deed_n_3 h c1 c13 w
      by_cases k5 : kind = 5
      · subst k5; exact deed_n_5 h c1 c13 w
      by_cases k4 : kind = 4
      · subst k4; exact deed_n_4 h c1 c13 w
      by_cases k6 : kind = 6
      · subst k6; exact deed_n_6 h c1 c13 w
      by_cases k7 : kind = 7
      · subst k7; exact deed_n_7 h c1 c13 w
      rw [if_neg k7, if_neg k3, if_neg k5, if_neg k4, if_neg k6, if_neg k7]
      exact deed_n_n h kind k3 k4 k5 k6 k7 c1 c13 w
end Go.Proofs.YtgmoemjiffglbaaGreat
namespace Go.Proofs.YtgmoemjiffglbaaGreat
open Go.RowKit
set_option maxRecDepth 100000
set_option linter.unusedVariables false
set_option linter.unusedSimpArgs false
def I8.getR (st : I8) (a : Int) : I8 := if st.k ≤ st.h.kept then st.rep 8 0 else st.to a
/-- Last and Number of a new call. -/
def I8.numb (st : I8) : I8 := { st with h := { st.h with last := wrap64 (st.h.last + 1), number := wrap64 (st.h.last + 1) } }
/-- What AtOpen does behind its write. -/
def I8.openR (t : I8) : Option I8 :=
  if t.h.code = 2 then some (t.to 9) else if t.h.code = 6 then some (t.to 9) else if t.h.code = 8 then some (t.to 9) else
  if t.h.code = 3 then some (t.to 14) else if t.h.code = 4 then some (t.to 14) else if t.h.code = 5 then some (t.to 14) else
  if t.h.code = 7 then some (t.getR 25) else if t.h.code = 9 then some (t.getR 41) else if t.h.code = 10 then some (t.to 49) else if t.h.code = 11 then some (t.to 49) else
  if t.h.code = 12 then some { t with h := { t.h with kept := 0, index := 1, at_ := 69 } } else
  if t.h.code = 13 then some { t with h := { t.h with for_ := t.h.a, mine := t.h.last, at_ := 52 } } else
  if t.h.code = 14 then some (t.to 51) else none
def I8.openO (st : I8) : Option I8 := (st.numb.wrO (st.numb.slot 1) st.numb.h.code 0 st.numb.h.a st.numb.h.number).bind I8.openR
end Go.Proofs.YtgmoemjiffglbaaGreat
namespace Go.Proofs.YtgmoemjiffglbaaGreat
open Go.RowKit
set_option maxRecDepth 100000
set_option linter.unusedVariables false
set_option linter.unusedSimpArgs false
theorem IAt.deed {w : World} {B q : Nat} {st : I8} (S : IAt w B q st) (d : Dd) : IAt (w.setCells q 43 d.vs) B q { st with d := d } :=
  (((((S.put (st' := { st with d := { st.d with kind := d.kind } }) 43 _ (by omega) rfl rfl rfl).put (st' := { st with d := { st.d with kind := d.kind, slot := d.slot } }) 44 _ (by omega) rfl rfl rfl).put (st' := { st with d := { st.d with kind := d.kind, slot := d.slot, number := d.number } }) 45 _ (by omega) rfl rfl rfl).put (st' := { st with d := { st.d with kind := d.kind, slot := d.slot, number := d.number, item := d.item } }) 46 _ (by omega) rfl rfl rfl).put (st' := { st with d := { st.d with kind := d.kind, slot := d.slot, number := d.number, item := d.item, value := d.value } }) 47 _ (by omega) rfl rfl rfl).put (st' := { st with d := d }) 48 _ (by omega) rfl rfl rfl
theorem storeI {ops : Array Oper} {rest : List Oper} {op : Oper} {a : Act} {w : World} {Q : Exit → Act → World → Prop} (hgd : op.guard = none) (x y : Operand) (ho : op.op = .store 30 x y)
    (B q : Nat) (st : I8) (d : Dd) (hx : a.eval x = .pointer (some ⟨q, 43, none⟩)) (hy : a.eval y = .agg d.vs.toArray) (S : IAt w B q st)
    (h : ∀ w', IAt w' B q { st with d := d } → (∀ a0 pv, Kq q pv a0 w → Kq q pv a0 w') → wpList Tryz.prog ops Q rest (a.put op.dst undef) w') : wpList Tryz.prog ops Q (op :: rest) a w :=
  wpList_store_mid hgd 30 x y ho q 43 d.vs.toArray hx hy (S.is.there 43 6 (by show 49 ≤ 49; omega)) (by kernel_rfl) (all_oneCell_toArray d.one) (h _ (S.deed d) (fun a0 pv hb => Kq.sets d.vs 43 w hb))
def I8.turned (st : I8) : I8 := { st with xs := swapped st.xs st.h.addr st.h.seen st.h.put }
/-- A swap; where it is done, its deed. -/
def I8.swapO (st : I8) : I8 := if swaps st.xs st.h.addr st.h.seen = true then (if st.h.does = 0 then st.turned.to st.h.good else I8.to { st.turned with d := st.h.told st.h.does } st.h.good) else st.turned.to st.h.bad
/-- The next thing of a step of this chapter. -/
def I8.next (st : I8) : Option I8 :=
  if st.h.at_ = 1 then st.openO else if st.h.at_ = 2 then st.sayO else if st.h.at_ = 3 then (st.intO 0 0).map fun t => t.to 4 else
  if st.h.at_ = 4 then (st.wrO (st.slot 5) 0 0 0 0).map fun t => t.to 5 else if st.h.at_ = 5 then (st.wrO (st.slot 6) 0 0 0 0).map fun t => t.to 0 else
  if st.h.at_ = 6 then st.noteO else if st.h.at_ = 7 then st.markO else some st.swapO
end Go.Proofs.YtgmoemjiffglbaaGreat
