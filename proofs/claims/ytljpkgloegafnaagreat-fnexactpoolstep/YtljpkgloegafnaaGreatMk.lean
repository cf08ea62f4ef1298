/-
  The program's step under way: how it lies in memory; the places that it names; what it reads and writes, and how it gives up.
  The program's step under way: what is read and written by it, or given up; a reply.
  The program's step under way: what AtSay, an intent, AtNote, AtMark and the gets of AtOpen do.
  The program's deed of a swap.
  The program's step under way: what AtOpen and AtSwap do.
  The program's step under way: what AtSwap does; the next thing.
-/
import Derived.Test.YtljpkgloegafnaaGreatMj
import Derived.WalkLawsBesides
namespace Go.Proofs.YtljpkgloegafnaaGreat
open Go.RowKit
set_option maxRecDepth 100000
set_option linter.unusedVariables false
set_option linter.unusedSimpArgs false
/-- A step that is being done by the program. -/
structure I8 where
  p : Int
  s : Int
  l : Int
  c : Int
  k : Int
  pv : Value
  n : Nat
  xs : List Int
  h : Hd
  d : Dd
  ty : TypeId
def I8.vs (st : I8) : List Value := [.int .i64 st.p, .int .i64 st.s, .int .i64 st.l, .int .i64 st.c, .int .i64 st.k, st.pv, .int .i64 st.n] ++ st.h.vs ++ st.d.vs
def I8.ar (st : I8) : Array Value := st.vs.toArray
def IAt (w : World) (B q : Nat) (st : I8) : Prop := Wso w B q 5 st.n st.xs st.ar st.ty
theorem IAt.keep {w w' : World} {B q : Nat} {st : I8} (h : IAt w B q st) (hb : Below w.heap.size w w') : IAt w' B q st := Wso.keep h hb
theorem IAt.is {w : World} {B q : Nat} {st : I8} (h : IAt w B q st) : At w q st.ar st.ty := Wso.at_ h
theorem IAt.lt {w : World} {B q : Nat} {st : I8} (h : IAt w B q st) : q < w.heap.size := h.is.lt
theorem IAt.put {w : World} {B q : Nat} {st st' : I8} (h : IAt w B q st) (i : Nat) (v : Value) (hi : 7 ≤ i) (e : st.ar.setIfInBounds i v = st'.ar) (en : st'.n = st.n) (ex : st'.xs = st.xs) (et : st'.ty = st.ty := by rfl) : IAt (w.setCell ⟨q, i, none⟩ v) B q st' := by
  unfold IAt
  rw [← e, en, ex, et]
  exact Wso.put h i v (by omega) (by omega)
theorem I8.pl (st : I8) : ∀ j v, [Value.int .i64 st.p, .int .i64 st.s, .int .i64 st.l, .int .i64 st.c, .int .i64 st.k][j]? = some v → st.ar[0 + j]? = some v := fun j v hv =>
  sub_at [] [Value.int .i64 st.p, .int .i64 st.s, .int .i64 st.l, .int .i64 st.c, .int .i64 st.k] ([st.pv, .int .i64 st.n] ++ st.h.vs ++ st.d.vs) j v hv
theorem I8.hl (st : I8) : ∀ j v, st.h.vs[j]? = some v → st.ar[7 + j]? = some v := fun j v hv =>
  sub_at [Value.int .i64 st.p, .int .i64 st.s, .int .i64 st.l, .int .i64 st.c, .int .i64 st.k, st.pv, .int .i64 st.n] st.h.vs st.d.vs j v hv
theorem I8.dl (st : I8) : ∀ j v, st.d.vs[j]? = some v → st.ar[43 + j]? = some v := fun j v hv => by
  have := sub_at ([Value.int .i64 st.p, .int .i64 st.s, .int .i64 st.l, .int .i64 st.c, .int .i64 st.k, st.pv, .int .i64 st.n] ++ st.h.vs) st.d.vs [] j v hv
  simp only [List.append_nil, List.length_append, List.length_cons, List.length_nil, Hd.len] at this
  exact this
theorem ld_sub {W : World} {b o : Nat} {vs : List Value} {cs : Array Value} {t ty : TypeId} {d : TypeDesc} (A : At W b cs t) (hr : ∀ j v, vs[j]? = some v → cs[o + j]? = some v) (hu : Tryz.prog.underlying ty = some d) (hd : d.isRow = true) (hi : (Tryz.prog.info? ty).map (·.size) = some vs.length) (w : World) (hw : Cls W w) : (loadVar ty ⟨b, o, none⟩).run Tryz.prog w = .ok (.agg vs.toArray) w :=
  run_loadVar_mid w b o ty vs d (fun j v hj => by rw [(A.keep hw.below).cell]; exact hr j v hj) hu hd hi
theorem q_field {P : Program} {o : Oper} {a : Act} {C : World → Prop} {K : Act → Prop} (t : TypeId) (x : Operand) (i : Nat) (u v : Value) (ho : o.op = .field t x i) (hx : a.eval x = u)
    (h : ∀ w, (Instr.field t u i).run P w = .ok v w) (hk : K (a.put o.dst v)) : o.quiet P a C K :=
  ⟨v, fun w hw => by
    unfold Oper.quietAt execOp
    simp only [ho, hx, Sem.run_bind, Sem.run_map, Sem.run_pure, Result.andThen_ok, h w]
    exact ⟨rfl, rfl⟩, hk⟩
theorem wordF1 (x0 x1 x2 x3 : Int) (w : World) : (Instr.field 69 (.agg #[.int .i64 x0, .int .i64 x1, .int .i64 x2, .int .i64 x3]) 1).run Tryz.prog w = .ok (.int .i64 x1) w := by
  simp [Instr.field, go_sem, asAgg]
theorem wordF3 (x0 x1 x2 x3 : Int) (w : World) : (Instr.field 69 (.agg #[.int .i64 x0, .int .i64 x1, .int .i64 x2, .int .i64 x3]) 3).run Tryz.prog w = .ok (.int .i64 x3) w := by
  simp [Instr.field, go_sem, asAgg]
def I8.slot (st : I8) (f : Int) : Int := vSlot st.p st.s st.l st.c st.k st.h.for_ f
def I8.note (st : I8) : Int := vNote st.p st.s st.l st.c st.k (uP st.h.seen) st.h.for_
theorem iFieldAt (B q : Nat) (st : I8) (f : Int) (w : World) (S : IAt w B q st) :
    Calls Tryz.prog 57 #[.pointer (some ⟨q, 0, none⟩), .int .i64 f] w fun e w' => e = .returned (.int .i64 (st.slot f)) ∧ Below w.heap.size w w' := by
  have A := S.is
  have lp : ∀ w', Cls w w' → (loadVar 35 ⟨q, 0, none⟩).run Tryz.prog w' = .ok (.agg #[.int .i64 st.p, .int .i64 st.s, .int .i64 st.l, .int .i64 st.c, .int .i64 st.k]) w' := ld_sub (o := 0) A st.pl Tryz.underlying35 rfl (by kernel_rfl)
  have lf : ∀ w', Cls w w' → (loadVar 2 ⟨q, 18, none⟩).run Tryz.prog w' = .ok (.int .i64 st.h.for_) w' := ld_i A Tryz.underlying2 rfl
  clear A
  go_enter Tryz.func57, Tryz.ntmps57
  go_upto_region 1 with fail
  refine wp_region_cls (by kernel_rfl) (by kernel_rfl) ?_
  repeat' (first
    | go_big_quiet_skip
    | (go_big_quiet_want; first
      | (refine q_load _ _ _ _ rfl rfl (by assumption) ?_; simp only [Act.put, List.setIfInBounds_toArray, List.set_cons_zero, List.set_cons_succ]; go_big_quiet_on)
      | (go_big_quiet_op; first
        | go_big_quiet_on
        | (refine ⟨_, fun _ _ => rfl, ?_⟩; go_big_quiet_on)
        | (apply Exists.intro; refine ⟨fun w' hw' => ?_, ?_⟩
           · (go_at_call 108; exact cls_below hw' (iSlot _ _ _ _ _ _ _ _))
           go_big_quiet_on))))
  all_goals (refine wpQuiet_nil ?_; intro w2 hw2)
  go_wp2
  go_ret
  exact ⟨rfl, hw2.below⟩
theorem iNoteAt (B q : Nat) (st : I8) (w : World) (S : IAt w B q st) (hs : 0 ≤ st.h.seen ∧ st.h.seen ≤ 18446744073709551615) :
    Calls Tryz.prog 109 #[.pointer (some ⟨q, 0, none⟩)] w fun e w' => e = .returned (.int .i64 st.note) ∧ Below w.heap.size w w' := by
  have A := S.is
  have lp : ∀ w', Cls w w' → (loadVar 35 ⟨q, 0, none⟩).run Tryz.prog w' = .ok (.agg #[.int .i64 st.p, .int .i64 st.s, .int .i64 st.l, .int .i64 st.c, .int .i64 st.k]) w' := ld_sub (o := 0) A st.pl Tryz.underlying35 rfl (by kernel_rfl)
  have lf : ∀ w', Cls w w' → (loadVar 2 ⟨q, 18, none⟩).run Tryz.prog w' = .ok (.int .i64 st.h.for_) w' := ld_i A Tryz.underlying2 rfl
  have ls : ∀ w', Cls w w' → (loadVar 25 ⟨q, 22, none⟩).run Tryz.prog w' = .ok (.int .u64 st.h.seen) w' := ld_i A Tryz.underlying25 rfl
  clear A
  go_enter Tryz.func109, Tryz.ntmps109
  go_upto_region 1 with fail
  refine wp_region_cls (by kernel_rfl) (by kernel_rfl) ?_
  repeat' (first
    | go_big_quiet_skip
    | (go_big_quiet_want; first
      | (refine q_load _ _ _ _ rfl rfl (by assumption) ?_; simp only [Act.put, List.setIfInBounds_toArray, List.set_cons_zero, List.set_cons_succ]; go_big_quiet_on)
      | (refine q_field _ _ _ _ _ rfl rfl (wordF1 _ _ _ _) ?_; simp only [Act.put, List.setIfInBounds_toArray, List.set_cons_zero, List.set_cons_succ]; go_big_quiet_on)
      | (go_big_quiet_op; first
        | go_big_quiet_on
        | (refine ⟨_, fun _ _ => rfl, ?_⟩; go_big_quiet_on)
        | (apply Exists.intro; refine ⟨fun w' hw' => ?_, ?_⟩
           · (first
             | (go_at_call 110; exact cls_below hw' (iUnpack _ hs.1 hs.2 _))
             | (go_at_call 135; exact cls_below hw' (iNote _ _ _ _ _ _ _ _)))
           go_big_quiet_on))))
  all_goals (refine wpQuiet_nil ?_; intro w2 hw2)
  go_wp2
  go_ret
  exact ⟨rfl, hw2.below⟩
/-- What giving up says. -/
def gu : List PanicEntry := [{ v := .iface 9 (.string ⟨#[116, 104, 105, 115, 32, 99, 97, 110, 39, 116, 32, 98, 101, 32, 100, 111, 110, 101]⟩), recovered := false }]
theorem iGiveUp (w : World) : Calls Tryz.prog 103 #[] w fun e w' => e = .panicked gu ∧ w' = w := by
  go_enter Tryz.func103, Tryz.ntmps103
  go_wp2
  exact ⟨rfl, rfl, rfl⟩
end Go.Proofs.YtljpkgloegafnaaGreat
namespace Go.Proofs.YtljpkgloegafnaaGreat
open Go.RowKit
set_option maxRecDepth 100000
set_option linter.unusedVariables false
set_option linter.unusedSimpArgs false
/-- How a part of a step ends: it has made this of the step, or it has given up. -/
def Ends (B q : Nat) (pv : Value) (w : World) (r : Option I8) (e : Ending) (w' : World) : Prop :=
  match r with
  | some st => e = .returned (.tuple #[]) ∧ IAt w' B q st ∧ Kq q pv w w'
  | none => e = .panicked gu ∧ Kq q pv w w'
theorem IAt.bl {w : World} {B q : Nat} {st : I8} (h : IAt w B q st) : B ≤ w.heap.size := by
  have h1 := h.qB
  have h2 := h.lt
  omega
theorem IAt.fz {w : World} {B q : Nat} {st : I8} (h : IAt w B q st) (i : Nat) : w.frozen? ⟨q, i, none⟩ = false := h.is.frozen i
theorem iStReadY (B q : Nat) (st : I8) (a : Int) (w : World) (S : IAt w B q st) (hn : st.n ≤ 16777216) (ht : thr a st.n = true) :
    Calls Tryz.prog 78 #[.pointer (some ⟨q, 0, none⟩), .int .i64 a] w fun e w' => e = .returned (.int .u64 (red st.xs a)) ∧ w' = w := by
  obtain ⟨v, hv⟩ : ∃ v : Int, Hid (red st.xs a = v) := ⟨_, rfl⟩
  rw [hv.out]
  go_enter Tryz.func78, Tryz.ntmps78
  go_wp2_with (go_at_call 120; refine (ioRead B q 5 st.n st.xs _ _ st.ar _ S hn).mono ?_; rintro e w1 ⟨rfl, rfl⟩; rw [ht, hv.out])
  go_ret
  exact ⟨rfl, rfl⟩
theorem iStReadN (B q : Nat) (st : I8) (a : Int) (w : World) (S : IAt w B q st) (hn : st.n ≤ 16777216) (ht : thr a st.n = false) :
    Calls Tryz.prog 78 #[.pointer (some ⟨q, 0, none⟩), .int .i64 a] w fun e w' => e = .panicked gu ∧ w' = w := by
  obtain ⟨v, hv⟩ : ∃ v : Int, Hid (red st.xs a = v) := ⟨_, rfl⟩
  go_enter Tryz.func78, Tryz.ntmps78
  go_wp2_with (first
    | (go_at_call 120; refine (ioRead B q 5 st.n st.xs _ _ st.ar _ S hn).mono ?_; rintro e w1 ⟨rfl, rfl⟩; rw [ht, hv.out])
    | (go_at_call 103; refine (iGiveUp _).mono ?_; rintro e w1 ⟨rfl, rfl⟩))
  exact ⟨rfl, rfl, rfl⟩
/-- A word written at a place. -/
def I8.wrO (st : I8) (a k p i v : Int) : Option I8 := if wOk k p i v = true ∧ thr a st.n = true then some { st with xs := wrote st.xs a (pk k p i v) } else none
theorem iPackedY (k p i v : Int) (w : World) (h : wOk k p i v = true) :
    Calls Tryz.prog 107 #[.agg #[.int .i64 k, .int .i64 p, .int .i64 i, .int .i64 v]] w fun e w' => e = .returned (.int .u64 (pk k p i v)) ∧ Below w.heap.size w w' := by
  go_enter Tryz.func107, Tryz.ntmps107
  go_wp2_with (go_at_call 134; refine (iPackY _ _ _ _ _ h).mono ?_; rintro e w1 ⟨rfl, hb⟩)
  go_returns
  exact ⟨rfl, ((Below.refl w.heap.size w).alloc (Nat.le_refl _) _).trans (hb.mono (by simp))⟩
theorem iPackedN (k p i v : Int) (w : World) (h : wOk k p i v = false) :
    Calls Tryz.prog 107 #[.agg #[.int .i64 k, .int .i64 p, .int .i64 i, .int .i64 v]] w fun e w' => e = .panicked gu ∧ Below w.heap.size w w' := by
  go_enter Tryz.func107, Tryz.ntmps107
  go_wp2_with (first
    | (go_at_call 134; refine (iPackN _ _ _ _ _ h).mono ?_; rintro e w1 ⟨rfl, hb⟩)
    | (go_at_call 103; refine (iGiveUp _).mono ?_; rintro e w2 ⟨rfl, rfl⟩))
  exact ⟨rfl, rfl, ((Below.refl w.heap.size w).alloc (Nat.le_refl _) _).trans (hb.mono (by simp))⟩
set_option maxHeartbeats 2000000 in
theorem iStWrite (B q : Nat) (st : I8) (a k p i v : Int) (w : World) (S : IAt w B q st) (hn : st.n ≤ 16777216) :
    Calls Tryz.prog 56 #[.pointer (some ⟨q, 0, none⟩), .int .i64 a, .agg #[.int .i64 k, .int .i64 p, .int .i64 i, .int .i64 v]] w (Ends B q st.pv w (st.wrO a k p i v)) := by
  have Bl := S.bl
  cases ho : wOk k p i v
  · have e : st.wrO a k p i v = none := by unfold I8.wrO; rw [ho]; simp
    rw [e]
    unfold Ends
    go_enter Tryz.func56, Tryz.ntmps56
    go_upto_region 1 with fail
    refine wp_at (fun W => At W w.heap.size #[.int .i64 k, .int .i64 p, .int .i64 i, .int .i64 v] 69 ∧ IAt W B q st ∧ Below w.heap.size w W) ⟨by exact At.new w _ _, S.keep ((Below.refl _ _).alloc (Nat.le_refl _) _), (Below.refl _ _).alloc (Nat.le_refl _) _⟩ ?_
    clear S
    rintro w1 ⟨U, S, z⟩
    have lw : ∀ w', Cls w1 w' → (loadVar 69 ⟨w.heap.size, 0, none⟩).run Tryz.prog w' = .ok (.agg #[.int .i64 k, .int .i64 p, .int .i64 i, .int .i64 v]) w' := ld_agg (vs := [.int .i64 k, .int .i64 p, .int .i64 i, .int .i64 v]) U Tryz.underlying69 rfl (by kernel_rfl)
    clear U
    refine wp_region_dies (C := Cls w1) [0, 1, 2, 3, 4] 5 (by simp only [List.map_cons, List.map_nil, List.getD_cons_succ, List.getD_cons_zero]; rfl) (by kernel_rfl) rfl (by kernel_rfl) (by kernel_rfl) (by kernel_rfl) (by decide) ⟨(Below.refl _ _).drew⟩ (fun c a d v w h => by cases d <;> exact h) ?_
    repeat' (first
      | go_big_quiet_skip
      | (go_big_quiet_want; first
        | (refine q_load _ _ _ _ rfl rfl (by assumption) ?_; simp only [Act.put, List.setIfInBounds_toArray, List.set_cons_zero, List.set_cons_succ]; go_big_quiet_on)
        | (go_big_quiet_op; first
          | go_big_quiet_on
          | (refine ⟨_, fun _ _ => rfl, ?_⟩; go_big_quiet_on))))
    refine wpQuiet_nil ?_
    refine ⟨by rfl, fun w2 hw2 => ?_⟩
    go_simp
    go_at_call 107
    refine (iPackedN _ _ _ _ _ ho).mono ?_
    rintro e w3 ⟨rfl, hb⟩
    exact ⟨rfl, rfl, (Kq.of_below z).trans ((Kq.of_below hw2.below).trans (Kq.of_below hb))⟩
  · cases ht : thr a st.n
    · have e : st.wrO a k p i v = none := by unfold I8.wrO; rw [ht]; simp
      rw [e]
      unfold Ends
      go_enter Tryz.func56, Tryz.ntmps56
      go_upto_region 1 with fail
      refine wp_at (fun W => At W w.heap.size #[.int .i64 k, .int .i64 p, .int .i64 i, .int .i64 v] 69 ∧ IAt W B q st ∧ Below w.heap.size w W) ⟨by exact At.new w _ _, S.keep ((Below.refl _ _).alloc (Nat.le_refl _) _), (Below.refl _ _).alloc (Nat.le_refl _) _⟩ ?_
      clear S
      rintro w1 ⟨U, S, z⟩
      have lw : ∀ w', Cls w1 w' → (loadVar 69 ⟨w.heap.size, 0, none⟩).run Tryz.prog w' = .ok (.agg #[.int .i64 k, .int .i64 p, .int .i64 i, .int .i64 v]) w' := ld_agg (vs := [.int .i64 k, .int .i64 p, .int .i64 i, .int .i64 v]) U Tryz.underlying69 rfl (by kernel_rfl)
      clear U
      refine wp_region_bar2 (C := Cls w1) rfl rfl rfl (by kernel_rfl) (by kernel_rfl) ⟨(Below.refl _ _).drew⟩ ?_
      simp only [List.dropLast]
      repeat' (first
        | go_big_quiet_skip
        | (go_big_quiet_want; first
          | (refine q_load _ _ _ _ rfl rfl (by assumption) ?_; simp only [Act.put, List.setIfInBounds_toArray, List.set_cons_zero, List.set_cons_succ]; go_big_quiet_on)
          | (go_big_quiet_op; first
            | go_big_quiet_on
            | (refine ⟨_, fun _ _ => rfl, ?_⟩; go_big_quiet_on)
            | (apply Exists.intro; refine ⟨fun w' hw' => ?_, ?_⟩
               · (go_at_call 107; exact cls_below hw' (iPackedY _ _ _ _ _ ho))
               go_big_quiet_on))))
      refine wpQuiet_nil ?_
      intro w2 hw2
      go_wp2_with (first
        | (go_at_call 106; refine (ioWrite B q 5 st.n st.xs _ _ _ st.ar _ (S.keep hw2.below) hn st.pv rfl).mono ?_; rintro e w3 ⟨rfl, S2, z2⟩; rw [ht])
        | (go_at_call 103; refine (iGiveUp _).mono ?_; rintro e w4 ⟨rfl, rfl⟩))
      exact ⟨rfl, rfl, (Kq.of_below z).trans ((Kq.of_below hw2.below).trans z2)⟩
    · have e : st.wrO a k p i v = some { st with xs := wrote st.xs a (pk k p i v) } := by unfold I8.wrO; rw [if_pos ⟨ho, ht⟩]
      rw [e]
      unfold Ends
      go_enter Tryz.func56, Tryz.ntmps56
      go_upto_region 1 with fail
      refine wp_at (fun W => At W w.heap.size #[.int .i64 k, .int .i64 p, .int .i64 i, .int .i64 v] 69 ∧ IAt W B q st ∧ Below w.heap.size w W) ⟨by exact At.new w _ _, S.keep ((Below.refl _ _).alloc (Nat.le_refl _) _), (Below.refl _ _).alloc (Nat.le_refl _) _⟩ ?_
      clear S
      rintro w1 ⟨U, S, z⟩
      have lw : ∀ w', Cls w1 w' → (loadVar 69 ⟨w.heap.size, 0, none⟩).run Tryz.prog w' = .ok (.agg #[.int .i64 k, .int .i64 p, .int .i64 i, .int .i64 v]) w' := ld_agg (vs := [.int .i64 k, .int .i64 p, .int .i64 i, .int .i64 v]) U Tryz.underlying69 rfl (by kernel_rfl)
      clear U
      refine wp_region_bar2 (C := Cls w1) rfl rfl rfl (by kernel_rfl) (by kernel_rfl) ⟨(Below.refl _ _).drew⟩ ?_
      simp only [List.dropLast]
      repeat' (first
        | go_big_quiet_skip
        | (go_big_quiet_want; first
          | (refine q_load _ _ _ _ rfl rfl (by assumption) ?_; simp only [Act.put, List.setIfInBounds_toArray, List.set_cons_zero, List.set_cons_succ]; go_big_quiet_on)
          | (go_big_quiet_op; first
            | go_big_quiet_on
            | (refine ⟨_, fun _ _ => rfl, ?_⟩; go_big_quiet_on)
            | (apply Exists.intro; refine ⟨fun w' hw' => ?_, ?_⟩
               · (go_at_call 107; exact cls_below hw' (iPackedY _ _ _ _ _ ho))
               go_big_quiet_on))))
      refine wpQuiet_nil ?_
      intro w2 hw2
      go_wp2_with (go_at_call 106; refine (ioWrite B q 5 st.n st.xs _ _ _ st.ar _ (S.keep hw2.below) hn st.pv rfl).mono ?_; rintro e w3 ⟨rfl, S2, z2⟩; rw [ht])
      first | go_end0 | refine bodyPost_ret (results_none rfl _ _ _) rfl ?_
      exact ⟨rfl, S2, (Kq.of_below z).trans ((Kq.of_below hw2.below).trans z2)⟩
/-- Reply, Out, and the next At. -/
def I8.rep (st : I8) (r o : Int) : I8 := { st with h := { st.h with reply := r, out := o, at_ := 2 } }
theorem iReply (B q : Nat) (st : I8) (r o : Int) (w : World) (S : IAt w B q st) :
    Calls Tryz.prog 77 #[.pointer (some ⟨q, 0, none⟩), .int .i64 r, .int .i64 o] w (Ends B q st.pv w (some (st.rep r o))) := by
  have c39 : w.cell? ⟨q, 39, none⟩ = some (.int .i64 st.h.reply) := S.is.cell 39
  have c40 : w.cell? ⟨q, 40, none⟩ = some (.int .i64 st.h.out) := S.is.cell 40
  have c12 : w.cell? ⟨q, 12, none⟩ = some (.int .i64 st.h.at_) := S.is.cell 12
  have f39 := S.fz 39
  have f40 := S.fz 40
  have f12 := S.fz 12
  have FIN : Hid (IAt (((w.setCell ⟨q, 39, none⟩ (.int .i64 r)).setCell ⟨q, 40, none⟩ (.int .i64 o)).setCell ⟨q, 12, none⟩ (.int .i64 2)) B q (st.rep r o)) :=
    ((S.put (st' := { st with h := { st.h with reply := r } }) 39 _ (by omega) rfl rfl rfl).put (st' := { st with h := { st.h with reply := r, out := o } }) 40 _ (by omega) rfl rfl rfl).put 12 _ (by omega) rfl rfl rfl
  have qB : B ≤ q := S.qB
  go_enter Tryz.func77, Tryz.ntmps77
  go_wp2
  first | go_end0 | refine bodyPost_ret (results_none rfl _ _ _) rfl ?_
  exact ⟨rfl, FIN.out, (((Kq.refl _ _ _).set 39 _).set 40 _).set 12 _⟩
end Go.Proofs.YtljpkgloegafnaaGreat
namespace Go.Proofs.YtljpkgloegafnaaGreat
open Go.RowKit
set_option maxRecDepth 100000
set_option linter.unusedVariables false
set_option linter.unusedSimpArgs false
/-- The next At. -/
def I8.to (st : I8) (a : Int) : I8 := { st with h := { st.h with at_ := a } }
theorem I8.wrO_pv {st st' : I8} {a k p i v : Int} (h : st.wrO a k p i v = some st') : st'.pv = st.pv := by
  unfold I8.wrO at h
  split at h
  · cases h; rfl
  · cases h
theorem I8.wrO_some {st st' : I8} {a k p i v : Int} (h : st.wrO a k p i v = some st') : st'.n = st.n := by
  unfold I8.wrO at h
  split at h
  · cases h; rfl
  · cases h
theorem stB {B q : Nat} {pv : Value} {w0 w : World} (h : Kq q pv w0 w) (hq : B ≤ q) (i : Nat) (v : Value) : Kq q pv w0 (w.setCell ⟨q, i, none⟩ v) := h.set i v
theorem IAt.to {w : World} {B q : Nat} {st : I8} (h : IAt w B q st) (a : Int) : IAt (w.setCell ⟨q, 12, none⟩ (.int .i64 a)) B q (st.to a) := h.put 12 _ (by omega) rfl rfl rfl
def I8.sayO (st : I8) : Option I8 := (st.wrO (st.slot 4) st.h.reply 0 st.h.out st.h.number).map fun t => t.to 3
set_option maxHeartbeats 1000000 in
theorem iSay (B q : Nat) (st : I8) (w : World) (S : IAt w B q st) (hn : st.n ≤ 16777216) :
    Calls Tryz.prog 54 #[.pointer (some ⟨q, 0, none⟩)] w (Ends B q st.pv w st.sayO) := by
  have A := S.is
  have Bl := S.bl
  have qB : B ≤ q := S.qB
  have l1 : ∀ w', Cls w w' → (loadVar 2 ⟨q, 39, none⟩).run Tryz.prog w' = .ok (.int .i64 st.h.reply) w' := ld_i A Tryz.underlying2 rfl
  have l2 : ∀ w', Cls w w' → (loadVar 2 ⟨q, 40, none⟩).run Tryz.prog w' = .ok (.int .i64 st.h.out) w' := ld_i A Tryz.underlying2 rfl
  have l3 : ∀ w', Cls w w' → (loadVar 2 ⟨q, 17, none⟩).run Tryz.prog w' = .ok (.int .i64 st.h.number) w' := ld_i A Tryz.underlying2 rfl
  clear A
  unfold I8.sayO
  cases hr : st.wrO (st.slot 4) st.h.reply 0 st.h.out st.h.number with
  | none =>
    simp only [Option.map_none]
    unfold Ends
    go_enter Tryz.func54, Tryz.ntmps54
    go_upto_region 1 with fail
    refine wp_region_bar (C := Cls w) rfl rfl (by kernel_rfl) (by kernel_rfl) ⟨(Below.refl _ _).drew⟩ ?_
    simp only [List.dropLast]
    repeat' (first
      | go_big_quiet_skip
      | (go_big_quiet_want; first
        | (refine q_load _ _ _ _ rfl rfl (by assumption) ?_; simp only [Act.put, List.setIfInBounds_toArray, List.set_cons_zero, List.set_cons_succ]; go_big_quiet_on)
        | (go_big_quiet_op; first
          | go_big_quiet_on
          | (refine ⟨_, fun _ _ => rfl, ?_⟩; go_big_quiet_on)
          | (apply Exists.intro; refine ⟨fun w' hw' => ?_, ?_⟩
             · (first
               | (go_at_call 57; exact cls_below hw' (iFieldAt B q st _ _ (S.keep hw'.below))))
             go_big_quiet_on))))
    refine wpQuiet_nil ?_
    intro w2 hw2
    go_wp2_with (go_at_call 56; refine (iStWrite B q st _ _ _ _ _ _ (S.keep hw2.below) hn).mono ?_; intro e w3 hE; rw [hr] at hE; obtain ⟨rfl, z3⟩ := hE)
    exact ⟨rfl, rfl, (Kq.of_below hw2.below).trans z3⟩
  | some t =>
    simp only [Option.map_some]
    unfold Ends
    go_enter Tryz.func54, Tryz.ntmps54
    go_upto_region 1 with fail
    refine wp_region_bar (C := Cls w) rfl rfl (by kernel_rfl) (by kernel_rfl) ⟨(Below.refl _ _).drew⟩ ?_
    simp only [List.dropLast]
    repeat' (first
      | go_big_quiet_skip
      | (go_big_quiet_want; first
        | (refine q_load _ _ _ _ rfl rfl (by assumption) ?_; simp only [Act.put, List.setIfInBounds_toArray, List.set_cons_zero, List.set_cons_succ]; go_big_quiet_on)
        | (go_big_quiet_op; first
          | go_big_quiet_on
          | (refine ⟨_, fun _ _ => rfl, ?_⟩; go_big_quiet_on)
          | (apply Exists.intro; refine ⟨fun w' hw' => ?_, ?_⟩
             · (first
               | (go_at_call 57; exact cls_below hw' (iFieldAt B q st _ _ (S.keep hw'.below))))
             go_big_quiet_on))))
    refine wpQuiet_nil ?_
    intro w2 hw2
    go_wp2_with (go_at_call 56; refine (iStWrite B q st _ _ _ _ _ _ (S.keep hw2.below) hn).mono ?_; intro e w3 hE; rw [hr] at hE; obtain ⟨rfl, S3, z3⟩ := hE; have c12 : w3.cell? ⟨q, 12, none⟩ = some (.int .i64 t.h.at_) := S3.is.cell 12; have f12 := S3.fz 12)
    first | go_end0 | refine bodyPost_ret (results_none rfl _ _ _) rfl ?_
    exact ⟨rfl, S3.to 3, stB ((Kq.of_below hw2.below).trans z3) qB _ _⟩
def I8.markO (st : I8) : Option I8 := (st.wrO st.note 0 0 0 (uS st.h.seen)).map fun t => t.to 8
set_option maxHeartbeats 1000000 in
theorem iMark (B q : Nat) (st : I8) (hs : 0 ≤ st.h.seen ∧ st.h.seen ≤ 18446744073709551615) (w : World) (S : IAt w B q st) (hn : st.n ≤ 16777216) :
    Calls Tryz.prog 59 #[.pointer (some ⟨q, 0, none⟩)] w (Ends B q st.pv w st.markO) := by
  have A := S.is
  have Bl := S.bl
  have qB : B ≤ q := S.qB
  have l1 : ∀ w', Cls w w' → (loadVar 25 ⟨q, 22, none⟩).run Tryz.prog w' = .ok (.int .u64 st.h.seen) w' := ld_i A Tryz.underlying25 rfl
  clear A
  unfold I8.markO
  cases hr : st.wrO st.note 0 0 0 (uS st.h.seen) with
  | none =>
    simp only [Option.map_none]
    unfold Ends
    go_enter Tryz.func59, Tryz.ntmps59
    go_upto_region 0 with fail
    refine wp_region_bar (C := Cls w) rfl rfl (by kernel_rfl) (by kernel_rfl) ⟨(Below.refl _ _).drew⟩ ?_
    simp only [List.dropLast]
    repeat' (first
      | go_big_quiet_skip
      | (go_big_quiet_want; first
        | (refine q_load _ _ _ _ rfl rfl (by assumption) ?_; simp only [Act.put, List.setIfInBounds_toArray, List.set_cons_zero, List.set_cons_succ]; go_big_quiet_on)
        | (refine q_field _ _ _ _ _ rfl rfl (wordF3 _ _ _ _) ?_; simp only [Act.put, List.setIfInBounds_toArray, List.set_cons_zero, List.set_cons_succ]; go_big_quiet_on)
        | (go_big_quiet_op; first
          | go_big_quiet_on
          | (refine ⟨_, fun _ _ => rfl, ?_⟩; go_big_quiet_on)
          | (apply Exists.intro; refine ⟨fun w' hw' => ?_, ?_⟩
             · (first
               | (go_at_call 109; exact cls_below hw' (iNoteAt B q st _ (S.keep hw'.below) hs))
               | (go_at_call 110; exact cls_below hw' (iUnpack _ hs.1 hs.2 _)))
             go_big_quiet_on))))
    refine wpQuiet_nil ?_
    intro w2 hw2
    go_wp2_with (go_at_call 56; refine (iStWrite B q st _ _ _ _ _ _ (S.keep hw2.below) hn).mono ?_; intro e w3 hE; rw [hr] at hE; obtain ⟨rfl, z3⟩ := hE)
    exact ⟨rfl, rfl, (Kq.of_below hw2.below).trans z3⟩
  | some t =>
    simp only [Option.map_some]
    unfold Ends
    go_enter Tryz.func59, Tryz.ntmps59
    go_upto_region 0 with fail
    refine wp_region_bar (C := Cls w) rfl rfl (by kernel_rfl) (by kernel_rfl) ⟨(Below.refl _ _).drew⟩ ?_
    simp only [List.dropLast]
    repeat' (first
      | go_big_quiet_skip
      | (go_big_quiet_want; first
        | (refine q_load _ _ _ _ rfl rfl (by assumption) ?_; simp only [Act.put, List.setIfInBounds_toArray, List.set_cons_zero, List.set_cons_succ]; go_big_quiet_on)
        | (refine q_field _ _ _ _ _ rfl rfl (wordF3 _ _ _ _) ?_; simp only [Act.put, List.setIfInBounds_toArray, List.set_cons_zero, List.set_cons_succ]; go_big_quiet_on)
        | (go_big_quiet_op; first
          | go_big_quiet_on
          | (refine ⟨_, fun _ _ => rfl, ?_⟩; go_big_quiet_on)
          | (apply Exists.intro; refine ⟨fun w' hw' => ?_, ?_⟩
             · (first
               | (go_at_call 109; exact cls_below hw' (iNoteAt B q st _ (S.keep hw'.below) hs))
               | (go_at_call 110; exact cls_below hw' (iUnpack _ hs.1 hs.2 _)))
             go_big_quiet_on))))
    refine wpQuiet_nil ?_
    intro w2 hw2
    go_wp2_with (go_at_call 56; refine (iStWrite B q st _ _ _ _ _ _ (S.keep hw2.below) hn).mono ?_; intro e w3 hE; rw [hr] at hE; obtain ⟨rfl, S3, z3⟩ := hE; have c12 : w3.cell? ⟨q, 12, none⟩ = some (.int .i64 t.h.at_) := S3.is.cell 12; have f12 := S3.fz 12)
    first | go_end0 | refine bodyPost_ret (results_none rfl _ _ _) rfl ?_
    exact ⟨rfl, S3.to 8, stB ((Kq.of_below hw2.below).trans z3) qB _ _⟩
/-- Last is one more, and the intent is written. -/
def I8.more (st : I8) : I8 := { st with h := { st.h with last := wrap64 (st.h.last + 1) } }
def I8.intO (st : I8) (kind block : Int) : Option I8 := st.more.wrO (st.slot 2) kind 0 block (wrap64 (st.h.last + 1))
set_option maxHeartbeats 1000000 in
theorem iIntend (B q : Nat) (st : I8) (kind block : Int) (w : World) (S : IAt w B q st) (hn : st.n ≤ 16777216) :
    Calls Tryz.prog 55 #[.pointer (some ⟨q, 0, none⟩), .int .i64 kind, .int .i64 block] w (Ends B q st.pv w (st.intO kind block)) := by
  have Bl := S.bl
  have qB : B ≤ q := S.qB
  have c19 : w.cell? ⟨q, 19, none⟩ = some (.int .i64 st.h.last) := S.is.cell 19
  have f19 := S.fz 19
  unfold I8.intO
  have S0 : IAt (w.setCell ⟨q, 19, none⟩ (.int .i64 (wrap64 (st.h.last + 1)))) B q st.more := S.put 19 _ (by omega) rfl rfl rfl
  have z0 := stB (Kq.refl q st.pv w) qB 19 (.int .i64 (wrap64 (st.h.last + 1)))
  have hpv : Hid (st.more.pv = st.pv) := rfl
  have hsl : st.more.slot 2 = st.slot 2 := rfl
  have hla : st.more.h.last = wrap64 (st.h.last + 1) := rfl
  rw [← hsl, ← hla]
  have hn0 : st.more.n ≤ 16777216 := hn
  cases hr : st.more.wrO (st.more.slot 2) kind 0 block st.more.h.last
  all_goals
    unfold Ends
    go_enter Tryz.func55, Tryz.ntmps55
    go_upto_region 1 with fail
    change Code.wp _ _ _ _ (w.setCell ⟨q, 19, none⟩ (.int .i64 (wrap64 (st.h.last + 1))))
    clear c19 f19 S
    generalize w.setCell ⟨q, 19, none⟩ (.int .i64 (wrap64 (st.h.last + 1))) = w1 at *
    clear hsl hla hn
    generalize st.more = st at *
    have S := S0
    have hn := hn0
    have A := S.is
    have Bl1 := S.bl
    have l1 : ∀ w', Cls w1 w' → (loadVar 2 ⟨q, 19, none⟩).run Tryz.prog w' = .ok (.int .i64 st.h.last) w' := ld_i A Tryz.underlying2 rfl
    clear A
    refine wp_region_bar (C := Cls w1) rfl rfl (by kernel_rfl) (by kernel_rfl) ⟨(Below.refl _ _).drew⟩ ?_
    simp only [List.dropLast]
    repeat' (first
      | go_big_quiet_skip
      | (go_big_quiet_want; first
        | (refine q_load _ _ _ _ rfl rfl (by assumption) ?_; simp only [Act.put, List.setIfInBounds_toArray, List.set_cons_zero, List.set_cons_succ]; go_big_quiet_on)
        | (go_big_quiet_op; first
          | go_big_quiet_on
          | (refine ⟨_, fun _ _ => rfl, ?_⟩; go_big_quiet_on)
          | (apply Exists.intro; refine ⟨fun w' hw' => ?_, ?_⟩
             · (first
               | (go_at_call 57; exact cls_below hw' (iFieldAt B q st _ _ (S.keep hw'.below))))
             go_big_quiet_on))))
    refine wpQuiet_nil ?_
    intro w2 hw2
  · go_wp2_with (go_at_call 56; refine (iStWrite B q st _ _ _ _ _ _ (S.keep hw2.below) hn).mono ?_; intro e w3 hE; rw [hr] at hE; obtain ⟨rfl, z3⟩ := hE; rw [hpv.out] at z3)
    exact ⟨rfl, rfl, (z0.trans (Kq.of_below hw2.below)).trans z3⟩
  · go_wp2_with (go_at_call 56; refine (iStWrite B q st _ _ _ _ _ _ (S.keep hw2.below) hn).mono ?_; intro e w3 hE; rw [hr] at hE; obtain ⟨rfl, S3, z3⟩ := hE; rw [hpv.out] at z3)
    first | go_end0 | refine bodyPost_ret (results_none rfl _ _ _) rfl ?_
    exact ⟨rfl, S3, (z0.trans (Kq.of_below hw2.below)).trans z3⟩
/-- The note is held against what was seen. -/
def I8.noteO (st : I8) : Option I8 := if thr st.note st.n = true then some (st.to (if red st.xs st.note < uS st.h.seen then 7 else 8)) else none
theorem uS_bd {x : Int} (h : 0 ≤ x) : 0 ≤ uS x ∧ uS x ≤ 4294967295 := by unfold uS; omega
theorem cvS {x : Int} (h : 0 ≤ x) : IntKind.u64.wrap (uS x) = uS x := by have := uS_bd h; rw [IntKind.wrap_u64]; omega
set_option maxHeartbeats 1000000 in
theorem iNtY (B q : Nat) (st : I8) (w : World) (S : IAt w B q st) (hn : st.n ≤ 16777216) (hs : 0 ≤ st.h.seen ∧ st.h.seen ≤ 18446744073709551615) (ht : thr st.note st.n = true) :
    Calls Tryz.prog 58 #[.pointer (some ⟨q, 0, none⟩)] w (Ends B q st.pv w st.noteO) := by
  have A := S.is
  have Bl := S.bl
  have qB : B ≤ q := S.qB
  have l1 : ∀ w', Cls w w' → (loadVar 25 ⟨q, 22, none⟩).run Tryz.prog w' = .ok (.int .u64 st.h.seen) w' := ld_i A Tryz.underlying25 rfl
  clear A
  obtain ⟨v, hv⟩ : ∃ v : Int, Hid (red st.xs st.note = v) := ⟨_, rfl⟩
  obtain ⟨y, hy⟩ : ∃ y : Int, Hid (uS st.h.seen = y) := ⟨_, rfl⟩
  have hw0 := cvS hs.1
  have e : st.noteO = some (st.to (if v < y then 7 else 8)) := by unfold I8.noteO; rw [if_pos ht, hv.out, hy.out]
  rw [e]
  rw [hy.out] at hw0
  unfold Ends
  by_cases hvy : v < y
  all_goals first | rw [if_pos hvy] | rw [if_neg hvy]
  all_goals
    go_enter Tryz.func58, Tryz.ntmps58
    go_upto_region 0 with fail
    refine wp_region_cls (by kernel_rfl) (by kernel_rfl) ?_
    repeat' (first
      | go_big_quiet_skip
      | (go_big_quiet_want; first
        | (refine q_load _ _ _ _ rfl rfl (by assumption) ?_; simp only [Act.put, List.setIfInBounds_toArray, List.set_cons_zero, List.set_cons_succ]; go_big_quiet_on)
        | (refine q_field _ _ _ _ _ rfl rfl (wordF3 _ _ _ _) ?_; simp only [Act.put, List.setIfInBounds_toArray, List.set_cons_zero, List.set_cons_succ]; go_big_quiet_on)
        | (go_big_quiet_op; first
          | go_big_quiet_on
          | (refine ⟨_, fun _ _ => rfl, ?_⟩; go_big_quiet_on)
          | (apply Exists.intro; refine ⟨fun w' hw' => ?_, ?_⟩
             · (first
               | (go_at_call 109; exact cls_below hw' (iNoteAt B q st _ (S.keep hw'.below) hs))
               | (go_at_call 78; exact cls_same hw' (by have hq := iStReadY B q st st.note w' (S.keep hw'.below) hn ht; rw [hv.out] at hq; exact hq))
               | (go_at_call 110; exact cls_below hw' (by have hq := iUnpack _ hs.1 hs.2 w'; rw [hy.out] at hq; exact hq)))
             go_big_quiet_on))))
    refine wpQuiet_nil ?_
    intro w2 hw2
    have S3 := S.keep hw2.below
    have c12 : w2.cell? ⟨q, 12, none⟩ = some (.int .i64 st.h.at_) := S3.is.cell 12
    have f12 := S3.fz 12
    go_wp2
    first | go_end0 | refine bodyPost_ret (results_none rfl _ _ _) rfl ?_
    exact ⟨rfl, S3.to _, stB (Kq.of_below hw2.below) qB _ _⟩
theorem iNtN (B q : Nat) (st : I8) (w : World) (S : IAt w B q st) (hn : st.n ≤ 16777216) (hs : 0 ≤ st.h.seen ∧ st.h.seen ≤ 18446744073709551615) (ht : thr st.note st.n = false) :
    Calls Tryz.prog 58 #[.pointer (some ⟨q, 0, none⟩)] w (Ends B q st.pv w st.noteO) := by
  have Bl := S.bl
  have e : st.noteO = none := by unfold I8.noteO; rw [ht]; simp
  rw [e]
  unfold Ends
  have A := S.is
  have qB : B ≤ q := S.qB
  have l1 : ∀ w', Cls w w' → (loadVar 25 ⟨q, 22, none⟩).run Tryz.prog w' = .ok (.int .u64 st.h.seen) w' := ld_i A Tryz.underlying25 rfl
  clear A
  go_enter Tryz.func58, Tryz.ntmps58
  go_upto_region 0 with fail
  refine wp_region_dies (C := Cls w) [0, 1, 2, 4, 5, 6, 7, 8] 3 (by simp only [List.map_cons, List.map_nil, List.getD_cons_succ, List.getD_cons_zero]; rfl) (by kernel_rfl) rfl (by kernel_rfl) (by kernel_rfl) (by kernel_rfl) (by decide) ⟨(Below.refl _ _).drew⟩ (fun c a d v w h => by cases d <;> exact h) ?_
  repeat' (first
    | go_big_quiet_skip
    | (go_big_quiet_want; first
      | (refine q_load _ _ _ _ rfl rfl (by assumption) ?_; simp only [Act.put, List.setIfInBounds_toArray, List.set_cons_zero, List.set_cons_succ]; go_big_quiet_on)
      | (go_big_quiet_op; first
        | go_big_quiet_on
        | (refine ⟨_, fun _ _ => rfl, ?_⟩; go_big_quiet_on)
        | (apply Exists.intro; refine ⟨fun w' hw' => ?_, ?_⟩
           · (first
             | (go_at_call 109; exact cls_below hw' (iNoteAt B q st _ (S.keep hw'.below) hs)))
           go_big_quiet_on))))
  refine wpQuiet_nil ?_
  refine ⟨by rfl, fun w2 hw2 => ?_⟩
  go_simp
  go_at_call 78
  refine (iStReadN B q st _ _ (S.keep hw2.below) hn ht).mono ?_
  rintro e w3 ⟨rfl, rfl⟩
  exact ⟨rfl, rfl, Kq.of_below hw2.below⟩
theorem iNote8 (B q : Nat) (st : I8) (w : World) (S : IAt w B q st) (hn : st.n ≤ 16777216) (hs : 0 ≤ st.h.seen ∧ st.h.seen ≤ 18446744073709551615) :
    Calls Tryz.prog 58 #[.pointer (some ⟨q, 0, none⟩)] w (Ends B q st.pv w st.noteO) := by
  cases ht : thr st.note st.n
  · exact iNtN B q st w S hn hs ht
  · exact iNtY B q st w S hn hs ht
end Go.Proofs.YtljpkgloegafnaaGreat
namespace Go.Proofs.YtljpkgloegafnaaGreat
open Go.RowKit
set_option maxRecDepth 100000
set_option linter.unusedVariables false
set_option linter.unusedSimpArgs false
theorem resD {fn : Func} {T : Array Value} {w : World} {b : Nat} {d : Dd} {t : TypeId} (i : Nat) (hr : fn.results = #[.cell i 30]) (hT : T.getD i undef = .pointer (some ⟨b, 0, none⟩)) (Z : At w b d.vs.toArray t) :
    (results fn T).run Tryz.prog w = .ok (.agg d.vs.toArray) w := by
  have e : (asAddr (T.getD i undef)).run Tryz.prog w = .ok ⟨b, 0, none⟩ w := by rw [hT]; rfl
  have l : (loadVar 30 ⟨b, 0, none⟩).run Tryz.prog w = .ok (.agg d.vs.toArray) w := run_loadVar_mid w b 0 30 d.vs _ Z.range Tryz.underlying30 rfl (by kernel_rfl)
  simp only [results, hr, List.mapM_toArray, List.mapM_cons, List.mapM_nil, Sem.run_bind, Sem.run_map, Sem.run_pure, e, Result.andThen_ok, l]
  rfl

set_option maxHeartbeats 8000000 in
theorem deed_1_3 (h : Hd) (hc : h.code = 1) (w : World) :
    Calls Tryz.prog 112 #[.agg h.ar, .int .i64 3] w fun e w' => e = .returned (.agg (Dd.vs ⟨3, h.for_, 0, h.block, h.b, 0⟩).toArray) ∧ Below w.heap.size w w' := by
  go_enter Tryz.func112, Tryz.ntmps112
  go_upto_region 1 with fail
  refine wp_at (fun W => At W w.heap.size h.ar 28 ∧ At W (w.heap.size + 1) Dd.zero.vs.toArray 30 ∧ Below w.heap.size w W) (two_box w _ _ _ _) ?_
  rintro w1 ⟨A, R, z⟩
  obtain ⟨rb, hh2⟩ : ∃ rb, Hid (w.heap.size + 1 = rb) := ⟨_, rfl⟩
  rw [hh2.out] at R
  simp only [hh2.out]
  obtain ⟨hb, hh1⟩ : ∃ hb, Hid (w.heap.size = hb) := ⟨_, rfl⟩
  rw [hh1.out] at A z
  simp only [hh1.out]
  have hq : hb ≤ w1.heap.size := by have := z.size; have := hh1.out; omega
  have c6 : w1.cell? ⟨hb, 6, none⟩ = some (.int .i64 1) := (A.cell 6).trans (by show some (Value.int .i64 h.code) = _; rw [hc])
  have c8 : w1.cell? ⟨hb, 8, none⟩ = some (.int .i64 h.b) := A.cell 8
  have c10 : w1.cell? ⟨hb, 10, none⟩ = some (.int .i64 h.number) := A.cell 10
  have c11 : w1.cell? ⟨hb, 11, none⟩ = some (.int .i64 h.for_) := A.cell 11
  have c20 : w1.cell? ⟨hb, 20, none⟩ = some (.int .i64 h.block) := A.cell 20
  go_upto_region 2 with (first
    | (refine wpList_built rfl 30 #[(0, .tmp 6), (1, .tmp 8), (2, .tmp 10), (3, .tmp 12)] rfl [(0, .int .i64 3), (1, .int .i64 h.for_), (2, .int .i64 h.number), (3, .int .i64 h.block)] rfl _ (bDeed _ _ _ _) ?_)
    | (refine newV (vs := Dd.vs ⟨3, h.for_, h.number, h.block, 0, 0⟩) (by kernel_rfl) (Dd.one _) rfl (.tmp 5) (.tmp 13) rfl rfl rfl rfl ?_; intro w2 D hb2 lt2; clear c6 c8 c10 c11 c20; have hrl := R.lt; have hal := A.lt; replace R := R.keep hb2; replace A := A.keep hb2; have hz2 := hq; replace z := z.trans (hb2.mono hq); clear hb2))
  obtain ⟨b2, hb2⟩ : ∃ q, Hid (w1.heap.size = q) := ⟨_, rfl⟩
  rw [hb2.out] at D hz2 hrl hal
  rw [hb2.out]
  have hrb : rb ≠ b2 := by omega
  have hab : hb ≠ b2 := by omega
  have hz3 : hb ≤ rb := by have := hh1.out; have := hh2.out; omega

  have c6 : w2.cell? ⟨hb, 6, none⟩ = some (.int .i64 1) := (A.cell 6).trans (by show some (Value.int .i64 h.code) = _; rw [hc])
  have c8 : w2.cell? ⟨hb, 8, none⟩ = some (.int .i64 h.b) := A.cell 8
  have c10 : w2.cell? ⟨hb, 10, none⟩ = some (.int .i64 h.number) := A.cell 10
  have c11 : w2.cell? ⟨hb, 11, none⟩ = some (.int .i64 h.for_) := A.cell 11
  have c20 : w2.cell? ⟨hb, 20, none⟩ = some (.int .i64 h.block) := A.cell 20
  have e2 : w2.cell? ⟨b2, 2, none⟩ = some _ := (D.cell 2).trans rfl
  have g2 : w2.frozen? ⟨b2, 2, none⟩ = false := D.frozen 2
  have e4 : w2.cell? ⟨b2, 4, none⟩ = some _ := (D.cell 4).trans rfl
  have g4 : w2.frozen? ⟨b2, 4, none⟩ = false := D.frozen 4
  go_upto_region 13 with fail
  refine wp_at (fun W => At W b2 (Dd.vs ⟨3, h.for_, 0, h.block, h.b, 0⟩).toArray 30 ∧ At W rb Dd.zero.vs.toArray 30 ∧ Below hb w W) ⟨((D.set 2 _).set 4 _), ((R.other (a := ⟨b2, 2, none⟩) hrb _).other (a := ⟨b2, 4, none⟩) hrb _), (Below.setCell (Below.setCell z (p := ⟨b2, 2, none⟩) hz2 _) (p := ⟨b2, 4, none⟩) hz2 _)⟩ ?_
  clear c6 c8 c10 c11 c20 e2 g2 e4 g4 D z A R
  rintro W ⟨D, R, z⟩
  go_wp2_with (first
    | (refine loadV (Dd.vs ⟨3, h.for_, 0, h.block, h.b, 0⟩) Tryz.underlying30 rfl (by kernel_rfl) rfl (.tmp 5) rfl b2 0 rfl D (fun j v hj => by rw [Nat.zero_add]; simpa using hj) ?_)
    | (refine storeV (vs := Dd.vs ⟨3, h.for_, 0, h.block, h.b, 0⟩) (by kernel_rfl) (Dd.one _) rfl (.tmp 4) (.tmp 44) rfl rb rfl rfl R rfl ?_; intro W3 R3 kk))
  refine bodyPost_ret (resD (d := ⟨3, h.for_, 0, h.block, h.b, 0⟩) 4 rfl rfl R3) rfl ?_
  exact ⟨rfl, by rw [hh1.out]; exact z.trans (kk.below hz3 (by have := z.size; have := hh1.out; omega))⟩

set_option maxHeartbeats 8000000 in
theorem deed_1_4 (h : Hd) (hc : h.code = 1) (w : World) :
    Calls Tryz.prog 112 #[.agg h.ar, .int .i64 4] w fun e w' => e = .returned (.agg (Dd.vs ⟨4, h.for_, 0, h.block, h.value, 0⟩).toArray) ∧ Below w.heap.size w w' := by
  go_enter Tryz.func112, Tryz.ntmps112
  go_upto_region 1 with fail
  refine wp_at (fun W => At W w.heap.size h.ar 28 ∧ At W (w.heap.size + 1) Dd.zero.vs.toArray 30 ∧ Below w.heap.size w W) (two_box w _ _ _ _) ?_
  rintro w1 ⟨A, R, z⟩
  obtain ⟨rb, hh2⟩ : ∃ rb, Hid (w.heap.size + 1 = rb) := ⟨_, rfl⟩
  rw [hh2.out] at R
  simp only [hh2.out]
  obtain ⟨hb, hh1⟩ : ∃ hb, Hid (w.heap.size = hb) := ⟨_, rfl⟩
  rw [hh1.out] at A z
  simp only [hh1.out]
  have hq : hb ≤ w1.heap.size := by have := z.size; have := hh1.out; omega
  have c6 : w1.cell? ⟨hb, 6, none⟩ = some (.int .i64 1) := (A.cell 6).trans (by show some (Value.int .i64 h.code) = _; rw [hc])
  have c10 : w1.cell? ⟨hb, 10, none⟩ = some (.int .i64 h.number) := A.cell 10
  have c11 : w1.cell? ⟨hb, 11, none⟩ = some (.int .i64 h.for_) := A.cell 11
  have c20 : w1.cell? ⟨hb, 20, none⟩ = some (.int .i64 h.block) := A.cell 20
  have c23 : w1.cell? ⟨hb, 23, none⟩ = some (.int .i64 h.value) := A.cell 23
  go_upto_region 2 with (first
    | (refine wpList_built rfl 30 #[(0, .tmp 6), (1, .tmp 8), (2, .tmp 10), (3, .tmp 12)] rfl [(0, .int .i64 4), (1, .int .i64 h.for_), (2, .int .i64 h.number), (3, .int .i64 h.block)] rfl _ (bDeed _ _ _ _) ?_)
    | (refine newV (vs := Dd.vs ⟨4, h.for_, h.number, h.block, 0, 0⟩) (by kernel_rfl) (Dd.one _) rfl (.tmp 5) (.tmp 13) rfl rfl rfl rfl ?_; intro w2 D hb2 lt2; clear c6 c10 c11 c20 c23; have hrl := R.lt; have hal := A.lt; replace R := R.keep hb2; replace A := A.keep hb2; have hz2 := hq; replace z := z.trans (hb2.mono hq); clear hb2))
  obtain ⟨b2, hb2⟩ : ∃ q, Hid (w1.heap.size = q) := ⟨_, rfl⟩
  rw [hb2.out] at D hz2 hrl hal
  rw [hb2.out]
  have hrb : rb ≠ b2 := by omega
  have hab : hb ≠ b2 := by omega
  have hz3 : hb ≤ rb := by have := hh1.out; have := hh2.out; omega

  have c6 : w2.cell? ⟨hb, 6, none⟩ = some (.int .i64 1) := (A.cell 6).trans (by show some (Value.int .i64 h.code) = _; rw [hc])
  have c10 : w2.cell? ⟨hb, 10, none⟩ = some (.int .i64 h.number) := A.cell 10
  have c11 : w2.cell? ⟨hb, 11, none⟩ = some (.int .i64 h.for_) := A.cell 11
  have c20 : w2.cell? ⟨hb, 20, none⟩ = some (.int .i64 h.block) := A.cell 20
  have c23 : w2.cell? ⟨hb, 23, none⟩ = some (.int .i64 h.value) := A.cell 23
  have e2 : w2.cell? ⟨b2, 2, none⟩ = some _ := (D.cell 2).trans rfl
  have g2 : w2.frozen? ⟨b2, 2, none⟩ = false := D.frozen 2
  have e4 : w2.cell? ⟨b2, 4, none⟩ = some _ := (D.cell 4).trans rfl
  have g4 : w2.frozen? ⟨b2, 4, none⟩ = false := D.frozen 4
  go_upto_region 13 with fail
  refine wp_at (fun W => At W b2 (Dd.vs ⟨4, h.for_, 0, h.block, h.value, 0⟩).toArray 30 ∧ At W rb Dd.zero.vs.toArray 30 ∧ Below hb w W) ⟨((D.set 2 _).set 4 _), ((R.other (a := ⟨b2, 2, none⟩) hrb _).other (a := ⟨b2, 4, none⟩) hrb _), (Below.setCell (Below.setCell z (p := ⟨b2, 2, none⟩) hz2 _) (p := ⟨b2, 4, none⟩) hz2 _)⟩ ?_
  clear c6 c10 c11 c20 c23 e2 g2 e4 g4 D z A R
  rintro W ⟨D, R, z⟩
  go_wp2_with (first
    | (refine loadV (Dd.vs ⟨4, h.for_, 0, h.block, h.value, 0⟩) Tryz.underlying30 rfl (by kernel_rfl) rfl (.tmp 5) rfl b2 0 rfl D (fun j v hj => by rw [Nat.zero_add]; simpa using hj) ?_)
    | (refine storeV (vs := Dd.vs ⟨4, h.for_, 0, h.block, h.value, 0⟩) (by kernel_rfl) (Dd.one _) rfl (.tmp 4) (.tmp 44) rfl rb rfl rfl R rfl ?_; intro W3 R3 kk))
  refine bodyPost_ret (resD (d := ⟨4, h.for_, 0, h.block, h.value, 0⟩) 4 rfl rfl R3) rfl ?_
  exact ⟨rfl, by rw [hh1.out]; exact z.trans (kk.below hz3 (by have := z.size; have := hh1.out; omega))⟩

set_option maxHeartbeats 8000000 in
theorem deed_1_5 (h : Hd) (hc : h.code = 1) (w : World) :
    Calls Tryz.prog 112 #[.agg h.ar, .int .i64 5] w fun e w' => e = .returned (.agg (Dd.vs ⟨5, h.for_, 0, h.block, h.b, 0⟩).toArray) ∧ Below w.heap.size w w' := by
  go_enter Tryz.func112, Tryz.ntmps112
  go_upto_region 1 with fail
  refine wp_at (fun W => At W w.heap.size h.ar 28 ∧ At W (w.heap.size + 1) Dd.zero.vs.toArray 30 ∧ Below w.heap.size w W) (two_box w _ _ _ _) ?_
  rintro w1 ⟨A, R, z⟩
  obtain ⟨rb, hh2⟩ : ∃ rb, Hid (w.heap.size + 1 = rb) := ⟨_, rfl⟩
  rw [hh2.out] at R
  simp only [hh2.out]
  obtain ⟨hb, hh1⟩ : ∃ hb, Hid (w.heap.size = hb) := ⟨_, rfl⟩
  rw [hh1.out] at A z
  simp only [hh1.out]
  have hq : hb ≤ w1.heap.size := by have := z.size; have := hh1.out; omega
  have c6 : w1.cell? ⟨hb, 6, none⟩ = some (.int .i64 1) := (A.cell 6).trans (by show some (Value.int .i64 h.code) = _; rw [hc])
  have c8 : w1.cell? ⟨hb, 8, none⟩ = some (.int .i64 h.b) := A.cell 8
  have c10 : w1.cell? ⟨hb, 10, none⟩ = some (.int .i64 h.number) := A.cell 10
  have c11 : w1.cell? ⟨hb, 11, none⟩ = some (.int .i64 h.for_) := A.cell 11
  have c20 : w1.cell? ⟨hb, 20, none⟩ = some (.int .i64 h.block) := A.cell 20
  go_upto_region 2 with (first
    | (refine wpList_built rfl 30 #[(0, .tmp 6), (1, .tmp 8), (2, .tmp 10), (3, .tmp 12)] rfl [(0, .int .i64 5), (1, .int .i64 h.for_), (2, .int .i64 h.number), (3, .int .i64 h.block)] rfl _ (bDeed _ _ _ _) ?_)
    | (refine newV (vs := Dd.vs ⟨5, h.for_, h.number, h.block, 0, 0⟩) (by kernel_rfl) (Dd.one _) rfl (.tmp 5) (.tmp 13) rfl rfl rfl rfl ?_; intro w2 D hb2 lt2; clear c6 c8 c10 c11 c20; have hrl := R.lt; have hal := A.lt; replace R := R.keep hb2; replace A := A.keep hb2; have hz2 := hq; replace z := z.trans (hb2.mono hq); clear hb2))
  obtain ⟨b2, hb2⟩ : ∃ q, Hid (w1.heap.size = q) := ⟨_, rfl⟩
  rw [hb2.out] at D hz2 hrl hal
  rw [hb2.out]
  have hrb : rb ≠ b2 := by omega
  have hab : hb ≠ b2 := by omega
  have hz3 : hb ≤ rb := by have := hh1.out; have := hh2.out; omega

  have c6 : w2.cell? ⟨hb, 6, none⟩ = some (.int .i64 1) := (A.cell 6).trans (by show some (Value.int .i64 h.code) = _; rw [hc])
  have c8 : w2.cell? ⟨hb, 8, none⟩ = some (.int .i64 h.b) := A.cell 8
  have c10 : w2.cell? ⟨hb, 10, none⟩ = some (.int .i64 h.number) := A.cell 10
  have c11 : w2.cell? ⟨hb, 11, none⟩ = some (.int .i64 h.for_) := A.cell 11
  have c20 : w2.cell? ⟨hb, 20, none⟩ = some (.int .i64 h.block) := A.cell 20
  have e2 : w2.cell? ⟨b2, 2, none⟩ = some _ := (D.cell 2).trans rfl
  have g2 : w2.frozen? ⟨b2, 2, none⟩ = false := D.frozen 2
  have e4 : w2.cell? ⟨b2, 4, none⟩ = some _ := (D.cell 4).trans rfl
  have g4 : w2.frozen? ⟨b2, 4, none⟩ = false := D.frozen 4
  go_upto_region 13 with fail
  refine wp_at (fun W => At W b2 (Dd.vs ⟨5, h.for_, 0, h.block, h.b, 0⟩).toArray 30 ∧ At W rb Dd.zero.vs.toArray 30 ∧ Below hb w W) ⟨((D.set 2 _).set 4 _), ((R.other (a := ⟨b2, 2, none⟩) hrb _).other (a := ⟨b2, 4, none⟩) hrb _), (Below.setCell (Below.setCell z (p := ⟨b2, 2, none⟩) hz2 _) (p := ⟨b2, 4, none⟩) hz2 _)⟩ ?_
  clear c6 c8 c10 c11 c20 e2 g2 e4 g4 D z A R
  rintro W ⟨D, R, z⟩
  go_wp2_with (first
    | (refine loadV (Dd.vs ⟨5, h.for_, 0, h.block, h.b, 0⟩) Tryz.underlying30 rfl (by kernel_rfl) rfl (.tmp 5) rfl b2 0 rfl D (fun j v hj => by rw [Nat.zero_add]; simpa using hj) ?_)
    | (refine storeV (vs := Dd.vs ⟨5, h.for_, 0, h.block, h.b, 0⟩) (by kernel_rfl) (Dd.one _) rfl (.tmp 4) (.tmp 44) rfl rb rfl rfl R rfl ?_; intro W3 R3 kk))
  refine bodyPost_ret (resD (d := ⟨5, h.for_, 0, h.block, h.b, 0⟩) 4 rfl rfl R3) rfl ?_
  exact ⟨rfl, by rw [hh1.out]; exact z.trans (kk.below hz3 (by have := z.size; have := hh1.out; omega))⟩

set_option maxHeartbeats 8000000 in
theorem deed_1_6 (h : Hd) (hc : h.code = 1) (w : World) :
    Calls Tryz.prog 112 #[.agg h.ar, .int .i64 6] w fun e w' => e = .returned (.agg (Dd.vs ⟨6, h.for_, 0, h.block, h.value, 0⟩).toArray) ∧ Below w.heap.size w w' := by
  go_enter Tryz.func112, Tryz.ntmps112
  go_upto_region 1 with fail
  refine wp_at (fun W => At W w.heap.size h.ar 28 ∧ At W (w.heap.size + 1) Dd.zero.vs.toArray 30 ∧ Below w.heap.size w W) (two_box w _ _ _ _) ?_
  rintro w1 ⟨A, R, z⟩
  obtain ⟨rb, hh2⟩ : ∃ rb, Hid (w.heap.size + 1 = rb) := ⟨_, rfl⟩
  rw [hh2.out] at R
  simp only [hh2.out]
  obtain ⟨hb, hh1⟩ : ∃ hb, Hid (w.heap.size = hb) := ⟨_, rfl⟩
  rw [hh1.out] at A z
  simp only [hh1.out]
  have hq : hb ≤ w1.heap.size := by have := z.size; have := hh1.out; omega
  have c6 : w1.cell? ⟨hb, 6, none⟩ = some (.int .i64 1) := (A.cell 6).trans (by show some (Value.int .i64 h.code) = _; rw [hc])
  have c10 : w1.cell? ⟨hb, 10, none⟩ = some (.int .i64 h.number) := A.cell 10
  have c11 : w1.cell? ⟨hb, 11, none⟩ = some (.int .i64 h.for_) := A.cell 11
  have c20 : w1.cell? ⟨hb, 20, none⟩ = some (.int .i64 h.block) := A.cell 20
  have c23 : w1.cell? ⟨hb, 23, none⟩ = some (.int .i64 h.value) := A.cell 23
  go_upto_region 2 with (first
    | (refine wpList_built rfl 30 #[(0, .tmp 6), (1, .tmp 8), (2, .tmp 10), (3, .tmp 12)] rfl [(0, .int .i64 6), (1, .int .i64 h.for_), (2, .int .i64 h.number), (3, .int .i64 h.block)] rfl _ (bDeed _ _ _ _) ?_)
    | (refine newV (vs := Dd.vs ⟨6, h.for_, h.number, h.block, 0, 0⟩) (by kernel_rfl) (Dd.one _) rfl (.tmp 5) (.tmp 13) rfl rfl rfl rfl ?_; intro w2 D hb2 lt2; clear c6 c10 c11 c20 c23; have hrl := R.lt; have hal := A.lt; replace R := R.keep hb2; replace A := A.keep hb2; have hz2 := hq; replace z := z.trans (hb2.mono hq); clear hb2))
  obtain ⟨b2, hb2⟩ : ∃ q, Hid (w1.heap.size = q) := ⟨_, rfl⟩
  rw [hb2.out] at D hz2 hrl hal
  rw [hb2.out]
  have hrb : rb ≠ b2 := by omega
  have hab : hb ≠ b2 := by omega
  have hz3 : hb ≤ rb := by have := hh1.out; have := hh2.out; omega

  have c6 : w2.cell? ⟨hb, 6, none⟩ = some (.int .i64 1) := (A.cell 6).trans (by show some (Value.int .i64 h.code) = _; rw [hc])
  have c10 : w2.cell? ⟨hb, 10, none⟩ = some (.int .i64 h.number) := A.cell 10
  have c11 : w2.cell? ⟨hb, 11, none⟩ = some (.int .i64 h.for_) := A.cell 11
  have c20 : w2.cell? ⟨hb, 20, none⟩ = some (.int .i64 h.block) := A.cell 20
  have c23 : w2.cell? ⟨hb, 23, none⟩ = some (.int .i64 h.value) := A.cell 23
  have e2 : w2.cell? ⟨b2, 2, none⟩ = some _ := (D.cell 2).trans rfl
  have g2 : w2.frozen? ⟨b2, 2, none⟩ = false := D.frozen 2
  have e4 : w2.cell? ⟨b2, 4, none⟩ = some _ := (D.cell 4).trans rfl
  have g4 : w2.frozen? ⟨b2, 4, none⟩ = false := D.frozen 4
  go_upto_region 13 with fail
  refine wp_at (fun W => At W b2 (Dd.vs ⟨6, h.for_, 0, h.block, h.value, 0⟩).toArray 30 ∧ At W rb Dd.zero.vs.toArray 30 ∧ Below hb w W) ⟨((D.set 2 _).set 4 _), ((R.other (a := ⟨b2, 2, none⟩) hrb _).other (a := ⟨b2, 4, none⟩) hrb _), (Below.setCell (Below.setCell z (p := ⟨b2, 2, none⟩) hz2 _) (p := ⟨b2, 4, none⟩) hz2 _)⟩ ?_
  clear c6 c10 c11 c20 c23 e2 g2 e4 g4 D z A R
  rintro W ⟨D, R, z⟩
  go_wp2_with (first
    | (refine loadV (Dd.vs ⟨6, h.for_, 0, h.block, h.value, 0⟩) Tryz.underlying30 rfl (by kernel_rfl) rfl (.tmp 5) rfl b2 0 rfl D (fun j v hj => by rw [Nat.zero_add]; simpa using hj) ?_)
    | (refine storeV (vs := Dd.vs ⟨6, h.for_, 0, h.block, h.value, 0⟩) (by kernel_rfl) (Dd.one _) rfl (.tmp 4) (.tmp 44) rfl rb rfl rfl R rfl ?_; intro W3 R3 kk))
  refine bodyPost_ret (resD (d := ⟨6, h.for_, 0, h.block, h.value, 0⟩) 4 rfl rfl R3) rfl ?_
  exact ⟨rfl, by rw [hh1.out]; exact z.trans (kk.below hz3 (by have := z.size; have := hh1.out; omega))⟩

set_option maxHeartbeats 8000000 in
theorem deed_1_7 (h : Hd) (hc : h.code = 1) (w : World) :
    Calls Tryz.prog 112 #[.agg h.ar, .int .i64 7] w fun e w' => e = .returned (.agg (Dd.vs ⟨7, h.for_, 0, h.a, h.c, 0⟩).toArray) ∧ Below w.heap.size w w' := by
  go_enter Tryz.func112, Tryz.ntmps112
  go_upto_region 1 with fail
  refine wp_at (fun W => At W w.heap.size h.ar 28 ∧ At W (w.heap.size + 1) Dd.zero.vs.toArray 30 ∧ Below w.heap.size w W) (two_box w _ _ _ _) ?_
  rintro w1 ⟨A, R, z⟩
  obtain ⟨rb, hh2⟩ : ∃ rb, Hid (w.heap.size + 1 = rb) := ⟨_, rfl⟩
  rw [hh2.out] at R
  simp only [hh2.out]
  obtain ⟨hb, hh1⟩ : ∃ hb, Hid (w.heap.size = hb) := ⟨_, rfl⟩
  rw [hh1.out] at A z
  simp only [hh1.out]
  have hq : hb ≤ w1.heap.size := by have := z.size; have := hh1.out; omega
  have c6 : w1.cell? ⟨hb, 6, none⟩ = some (.int .i64 1) := (A.cell 6).trans (by show some (Value.int .i64 h.code) = _; rw [hc])
  have c7 : w1.cell? ⟨hb, 7, none⟩ = some (.int .i64 h.a) := A.cell 7
  have c9 : w1.cell? ⟨hb, 9, none⟩ = some (.int .i64 h.c) := A.cell 9
  have c10 : w1.cell? ⟨hb, 10, none⟩ = some (.int .i64 h.number) := A.cell 10
  have c11 : w1.cell? ⟨hb, 11, none⟩ = some (.int .i64 h.for_) := A.cell 11
  have c20 : w1.cell? ⟨hb, 20, none⟩ = some (.int .i64 h.block) := A.cell 20
  go_upto_region 2 with (first
    | (refine wpList_built rfl 30 #[(0, .tmp 6), (1, .tmp 8), (2, .tmp 10), (3, .tmp 12)] rfl [(0, .int .i64 7), (1, .int .i64 h.for_), (2, .int .i64 h.number), (3, .int .i64 h.block)] rfl _ (bDeed _ _ _ _) ?_)
    | (refine newV (vs := Dd.vs ⟨7, h.for_, h.number, h.block, 0, 0⟩) (by kernel_rfl) (Dd.one _) rfl (.tmp 5) (.tmp 13) rfl rfl rfl rfl ?_; intro w2 D hb2 lt2; clear c6 c7 c9 c10 c11 c20; have hrl := R.lt; have hal := A.lt; replace R := R.keep hb2; replace A := A.keep hb2; have hz2 := hq; replace z := z.trans (hb2.mono hq); clear hb2))
  obtain ⟨b2, hb2⟩ : ∃ q, Hid (w1.heap.size = q) := ⟨_, rfl⟩
  rw [hb2.out] at D hz2 hrl hal
  rw [hb2.out]
  have hrb : rb ≠ b2 := by omega
  have hab : hb ≠ b2 := by omega
  have hz3 : hb ≤ rb := by have := hh1.out; have := hh2.out; omega

  have c6 : w2.cell? ⟨hb, 6, none⟩ = some (.int .i64 1) := (A.cell 6).trans (by show some (Value.int .i64 h.code) = _; rw [hc])
  have c7 : w2.cell? ⟨hb, 7, none⟩ = some (.int .i64 h.a) := A.cell 7
  have c9 : w2.cell? ⟨hb, 9, none⟩ = some (.int .i64 h.c) := A.cell 9
  have c10 : w2.cell? ⟨hb, 10, none⟩ = some (.int .i64 h.number) := A.cell 10
  have c11 : w2.cell? ⟨hb, 11, none⟩ = some (.int .i64 h.for_) := A.cell 11
  have c20 : w2.cell? ⟨hb, 20, none⟩ = some (.int .i64 h.block) := A.cell 20
  have e2 : w2.cell? ⟨b2, 2, none⟩ = some _ := (D.cell 2).trans rfl
  have g2 : w2.frozen? ⟨b2, 2, none⟩ = false := D.frozen 2
  go_upto_region 12 with fail
  refine wp_at (fun W => At W hb h.ar 28 ∧ At W b2 (Dd.vs ⟨7, h.for_, 0, h.block, 0, 0⟩).toArray 30 ∧ At W rb Dd.zero.vs.toArray 30 ∧ Below hb w W) ⟨(A.other (a := ⟨b2, 2, none⟩) hab _), (D.set 2 _), (R.other (a := ⟨b2, 2, none⟩) hrb _), (Below.setCell z (p := ⟨b2, 2, none⟩) hz2 _)⟩ ?_
  clear c6 c7 c9 c10 c11 c20 e2 g2 D z A R
  rintro W0 ⟨A, D, R, z⟩
  have c7 : W0.cell? ⟨hb, 7, none⟩ = some (.int .i64 h.a) := A.cell 7
  have c9 : W0.cell? ⟨hb, 9, none⟩ = some (.int .i64 h.c) := A.cell 9
  have e3 : W0.cell? ⟨b2, 3, none⟩ = some _ := (D.cell 3).trans rfl
  have g3 : W0.frozen? ⟨b2, 3, none⟩ = false := D.frozen 3
  have e4 : W0.cell? ⟨b2, 4, none⟩ = some _ := (D.cell 4).trans rfl
  have g4 : W0.frozen? ⟨b2, 4, none⟩ = false := D.frozen 4
  have hba : b2 ≠ hb := Ne.symm hab
  have AD := A.keep (Below.refl W0.heap.size W0).drew
  have DD := D.keep (Below.refl W0.heap.size W0).drew
  have RD := R.keep (Below.refl W0.heap.size W0).drew
  go_region_held3 (fun w' => w'.cell? ⟨hb, 7, none⟩ = some (.int .i64 h.a) ∧ w'.cell? ⟨hb, 9, none⟩ = some (.int .i64 h.c)) (go_keep) (fail)
  all_goals go_upto_region 13 with fail
  all_goals refine wp_at (fun W => At W b2 (Dd.vs ⟨7, h.for_, 0, h.a, h.c, 0⟩).toArray 30 ∧ At W rb Dd.zero.vs.toArray 30 ∧ Below hb w W) (by
    first
      | exact ⟨(DD.set 3 _).set 4 _, (RD.other (a := ⟨b2, 3, none⟩) hrb _).other (a := ⟨b2, 4, none⟩) hrb _, Below.setCell (Below.setCell z.drew (p := ⟨b2, 3, none⟩) hz2 _) (p := ⟨b2, 4, none⟩) hz2 _⟩
      | exact ⟨(DD.set 4 _).set 3 _, (RD.other (a := ⟨b2, 4, none⟩) hrb _).other (a := ⟨b2, 3, none⟩) hrb _, Below.setCell (Below.setCell z.drew (p := ⟨b2, 4, none⟩) hz2 _) (p := ⟨b2, 3, none⟩) hz2 _⟩) ?_
  all_goals clear c7 c9 e3 g3 e4 g4 D z A R AD DD RD
  all_goals rintro W ⟨D, R, z⟩
  all_goals
    go_wp2_with (first
      | (refine loadV (Dd.vs ⟨7, h.for_, 0, h.a, h.c, 0⟩) Tryz.underlying30 rfl (by kernel_rfl) rfl (.tmp 5) rfl b2 0 rfl D (fun j v hj => by rw [Nat.zero_add]; simpa using hj) ?_)
      | (refine storeV (vs := Dd.vs ⟨7, h.for_, 0, h.a, h.c, 0⟩) (by kernel_rfl) (Dd.one _) rfl (.tmp 4) (.tmp 44) rfl rb rfl rfl R rfl ?_; intro W3 R3 kk))
    refine bodyPost_ret (resD (d := ⟨7, h.for_, 0, h.a, h.c, 0⟩) 4 rfl rfl R3) rfl ?_
    exact ⟨rfl, by rw [hh1.out]; exact z.trans (kk.below hz3 (by have := z.size; have := hh1.out; omega))⟩

set_option maxHeartbeats 8000000 in
theorem deed_1_n (h : Hd) (kind : Int) (k3 : ¬ kind = 3) (k4 : ¬ kind = 4) (k5 : ¬ kind = 5) (k6 : ¬ kind = 6) (k7 : ¬ kind = 7) (hc : h.code = 1) (w : World) :
    Calls Tryz.prog 112 #[.agg h.ar, .int .i64 kind] w fun e w' => e = .returned (.agg (Dd.vs ⟨kind, h.for_, 0, h.block, 0, 0⟩).toArray) ∧ Below w.heap.size w w' := by
  go_enter Tryz.func112, Tryz.ntmps112
  go_upto_region 1 with fail
  refine wp_at (fun W => At W w.heap.size h.ar 28 ∧ At W (w.heap.size + 1) Dd.zero.vs.toArray 30 ∧ Below w.heap.size w W) (two_box w _ _ _ _) ?_
  rintro w1 ⟨A, R, z⟩
  obtain ⟨rb, hh2⟩ : ∃ rb, Hid (w.heap.size + 1 = rb) := ⟨_, rfl⟩
  rw [hh2.out] at R
  simp only [hh2.out]
  obtain ⟨hb, hh1⟩ : ∃ hb, Hid (w.heap.size = hb) := ⟨_, rfl⟩
  rw [hh1.out] at A z
  simp only [hh1.out]
  have hq : hb ≤ w1.heap.size := by have := z.size; have := hh1.out; omega
  have c6 : w1.cell? ⟨hb, 6, none⟩ = some (.int .i64 1) := (A.cell 6).trans (by show some (Value.int .i64 h.code) = _; rw [hc])
  have c10 : w1.cell? ⟨hb, 10, none⟩ = some (.int .i64 h.number) := A.cell 10
  have c11 : w1.cell? ⟨hb, 11, none⟩ = some (.int .i64 h.for_) := A.cell 11
  have c20 : w1.cell? ⟨hb, 20, none⟩ = some (.int .i64 h.block) := A.cell 20
  go_upto_region 2 with (first
    | (refine wpList_built rfl 30 #[(0, .tmp 6), (1, .tmp 8), (2, .tmp 10), (3, .tmp 12)] rfl [(0, .int .i64 kind), (1, .int .i64 h.for_), (2, .int .i64 h.number), (3, .int .i64 h.block)] rfl _ (bDeed _ _ _ _) ?_)
    | (refine newV (vs := Dd.vs ⟨kind, h.for_, h.number, h.block, 0, 0⟩) (by kernel_rfl) (Dd.one _) rfl (.tmp 5) (.tmp 13) rfl rfl rfl rfl ?_; intro w2 D hb2 lt2; clear c6 c10 c11 c20; have hrl := R.lt; have hal := A.lt; replace R := R.keep hb2; replace A := A.keep hb2; have hz2 := hq; replace z := z.trans (hb2.mono hq); clear hb2))
  obtain ⟨b2, hb2⟩ : ∃ q, Hid (w1.heap.size = q) := ⟨_, rfl⟩
  rw [hb2.out] at D hz2 hrl hal
  rw [hb2.out]
  have hrb : rb ≠ b2 := by omega
  have hab : hb ≠ b2 := by omega
  have hz3 : hb ≤ rb := by have := hh1.out; have := hh2.out; omega

  have c6 : w2.cell? ⟨hb, 6, none⟩ = some (.int .i64 1) := (A.cell 6).trans (by show some (Value.int .i64 h.code) = _; rw [hc])
  have c10 : w2.cell? ⟨hb, 10, none⟩ = some (.int .i64 h.number) := A.cell 10
  have c11 : w2.cell? ⟨hb, 11, none⟩ = some (.int .i64 h.for_) := A.cell 11
  have c20 : w2.cell? ⟨hb, 20, none⟩ = some (.int .i64 h.block) := A.cell 20
  have e2 : w2.cell? ⟨b2, 2, none⟩ = some _ := (D.cell 2).trans rfl
  have g2 : w2.frozen? ⟨b2, 2, none⟩ = false := D.frozen 2
  go_upto_region 13 with fail
  refine wp_at (fun W => At W b2 (Dd.vs ⟨kind, h.for_, 0, h.block, 0, 0⟩).toArray 30 ∧ At W rb Dd.zero.vs.toArray 30 ∧ Below hb w W) ⟨(D.set 2 _), (R.other (a := ⟨b2, 2, none⟩) hrb _), (Below.setCell z (p := ⟨b2, 2, none⟩) hz2 _)⟩ ?_
  clear c6 c10 c11 c20 e2 g2 D z A R
  rintro W ⟨D, R, z⟩
  go_wp2_with (first
    | (refine loadV (Dd.vs ⟨kind, h.for_, 0, h.block, 0, 0⟩) Tryz.underlying30 rfl (by kernel_rfl) rfl (.tmp 5) rfl b2 0 rfl D (fun j v hj => by rw [Nat.zero_add]; simpa using hj) ?_)
    | (refine storeV (vs := Dd.vs ⟨kind, h.for_, 0, h.block, 0, 0⟩) (by kernel_rfl) (Dd.one _) rfl (.tmp 4) (.tmp 44) rfl rb rfl rfl R rfl ?_; intro W3 R3 kk))
  refine bodyPost_ret (resD (d := ⟨kind, h.for_, 0, h.block, 0, 0⟩) 4 rfl rfl R3) rfl ?_
  exact ⟨rfl, by rw [hh1.out]; exact z.trans (kk.below hz3 (by have := z.size; have := hh1.out; omega))⟩

set_option maxHeartbeats 8000000 in
theorem deed_13_3 (h : Hd) (hc : h.code = 13) (w : World) :
    Calls Tryz.prog 112 #[.agg h.ar, .int .i64 3] w fun e w' => e = .returned (.agg (Dd.vs ⟨3, h.for_, 0, h.block, h.b, 0⟩).toArray) ∧ Below w.heap.size w w' := by
  go_enter Tryz.func112, Tryz.ntmps112
  go_upto_region 1 with fail
  refine wp_at (fun W => At W w.heap.size h.ar 28 ∧ At W (w.heap.size + 1) Dd.zero.vs.toArray 30 ∧ Below w.heap.size w W) (two_box w _ _ _ _) ?_
  rintro w1 ⟨A, R, z⟩
  obtain ⟨rb, hh2⟩ : ∃ rb, Hid (w.heap.size + 1 = rb) := ⟨_, rfl⟩
  rw [hh2.out] at R
  simp only [hh2.out]
  obtain ⟨hb, hh1⟩ : ∃ hb, Hid (w.heap.size = hb) := ⟨_, rfl⟩
  rw [hh1.out] at A z
  simp only [hh1.out]
  have hq : hb ≤ w1.heap.size := by have := z.size; have := hh1.out; omega
  have c6 : w1.cell? ⟨hb, 6, none⟩ = some (.int .i64 13) := (A.cell 6).trans (by show some (Value.int .i64 h.code) = _; rw [hc])
  have c8 : w1.cell? ⟨hb, 8, none⟩ = some (.int .i64 h.b) := A.cell 8
  have c10 : w1.cell? ⟨hb, 10, none⟩ = some (.int .i64 h.number) := A.cell 10
  have c11 : w1.cell? ⟨hb, 11, none⟩ = some (.int .i64 h.for_) := A.cell 11
  have c20 : w1.cell? ⟨hb, 20, none⟩ = some (.int .i64 h.block) := A.cell 20
  go_upto_region 2 with (first
    | (refine wpList_built rfl 30 #[(0, .tmp 6), (1, .tmp 8), (2, .tmp 10), (3, .tmp 12)] rfl [(0, .int .i64 3), (1, .int .i64 h.for_), (2, .int .i64 h.number), (3, .int .i64 h.block)] rfl _ (bDeed _ _ _ _) ?_)
    | (refine newV (vs := Dd.vs ⟨3, h.for_, h.number, h.block, 0, 0⟩) (by kernel_rfl) (Dd.one _) rfl (.tmp 5) (.tmp 13) rfl rfl rfl rfl ?_; intro w2 D hb2 lt2; clear c6 c8 c10 c11 c20; have hrl := R.lt; have hal := A.lt; replace R := R.keep hb2; replace A := A.keep hb2; have hz2 := hq; replace z := z.trans (hb2.mono hq); clear hb2))
  obtain ⟨b2, hb2⟩ : ∃ q, Hid (w1.heap.size = q) := ⟨_, rfl⟩
  rw [hb2.out] at D hz2 hrl hal
  rw [hb2.out]
  have hrb : rb ≠ b2 := by omega
  have hab : hb ≠ b2 := by omega
  have hz3 : hb ≤ rb := by have := hh1.out; have := hh2.out; omega

  have c6 : w2.cell? ⟨hb, 6, none⟩ = some (.int .i64 13) := (A.cell 6).trans (by show some (Value.int .i64 h.code) = _; rw [hc])
  have c8 : w2.cell? ⟨hb, 8, none⟩ = some (.int .i64 h.b) := A.cell 8
  have c10 : w2.cell? ⟨hb, 10, none⟩ = some (.int .i64 h.number) := A.cell 10
  have c11 : w2.cell? ⟨hb, 11, none⟩ = some (.int .i64 h.for_) := A.cell 11
  have c20 : w2.cell? ⟨hb, 20, none⟩ = some (.int .i64 h.block) := A.cell 20
  have e2 : w2.cell? ⟨b2, 2, none⟩ = some _ := (D.cell 2).trans rfl
  have g2 : w2.frozen? ⟨b2, 2, none⟩ = false := D.frozen 2
  have e4 : w2.cell? ⟨b2, 4, none⟩ = some _ := (D.cell 4).trans rfl
  have g4 : w2.frozen? ⟨b2, 4, none⟩ = false := D.frozen 4
  go_upto_region 13 with fail
  refine wp_at (fun W => At W b2 (Dd.vs ⟨3, h.for_, 0, h.block, h.b, 0⟩).toArray 30 ∧ At W rb Dd.zero.vs.toArray 30 ∧ Below hb w W) ⟨((D.set 2 _).set 4 _), ((R.other (a := ⟨b2, 2, none⟩) hrb _).other (a := ⟨b2, 4, none⟩) hrb _), (Below.setCell (Below.setCell z (p := ⟨b2, 2, none⟩) hz2 _) (p := ⟨b2, 4, none⟩) hz2 _)⟩ ?_
  clear c6 c8 c10 c11 c20 e2 g2 e4 g4 D z A R
  rintro W ⟨D, R, z⟩
  go_wp2_with (first
    | (refine loadV (Dd.vs ⟨3, h.for_, 0, h.block, h.b, 0⟩) Tryz.underlying30 rfl (by kernel_rfl) rfl (.tmp 5) rfl b2 0 rfl D (fun j v hj => by rw [Nat.zero_add]; simpa using hj) ?_)
    | (refine storeV (vs := Dd.vs ⟨3, h.for_, 0, h.block, h.b, 0⟩) (by kernel_rfl) (Dd.one _) rfl (.tmp 4) (.tmp 44) rfl rb rfl rfl R rfl ?_; intro W3 R3 kk))
  refine bodyPost_ret (resD (d := ⟨3, h.for_, 0, h.block, h.b, 0⟩) 4 rfl rfl R3) rfl ?_
  exact ⟨rfl, by rw [hh1.out]; exact z.trans (kk.below hz3 (by have := z.size; have := hh1.out; omega))⟩

set_option maxHeartbeats 8000000 in
theorem deed_13_4 (h : Hd) (hc : h.code = 13) (w : World) :
    Calls Tryz.prog 112 #[.agg h.ar, .int .i64 4] w fun e w' => e = .returned (.agg (Dd.vs ⟨4, h.for_, 0, h.block, h.value, 0⟩).toArray) ∧ Below w.heap.size w w' := by
  go_enter Tryz.func112, Tryz.ntmps112
  go_upto_region 1 with fail
  refine wp_at (fun W => At W w.heap.size h.ar 28 ∧ At W (w.heap.size + 1) Dd.zero.vs.toArray 30 ∧ Below w.heap.size w W) (two_box w _ _ _ _) ?_
  rintro w1 ⟨A, R, z⟩
  obtain ⟨rb, hh2⟩ : ∃ rb, Hid (w.heap.size + 1 = rb) := ⟨_, rfl⟩
  rw [hh2.out] at R
  simp only [hh2.out]
  obtain ⟨hb, hh1⟩ : ∃ hb, Hid (w.heap.size = hb) := ⟨_, rfl⟩
  rw [hh1.out] at A z
  simp only [hh1.out]
  have hq : hb ≤ w1.heap.size := by have := z.size; have := hh1.out; omega
  have c6 : w1.cell? ⟨hb, 6, none⟩ = some (.int .i64 13) := (A.cell 6).trans (by show some (Value.int .i64 h.code) = _; rw [hc])
  have c10 : w1.cell? ⟨hb, 10, none⟩ = some (.int .i64 h.number) := A.cell 10
  have c11 : w1.cell? ⟨hb, 11, none⟩ = some (.int .i64 h.for_) := A.cell 11
  have c20 : w1.cell? ⟨hb, 20, none⟩ = some (.int .i64 h.block) := A.cell 20
  have c23 : w1.cell? ⟨hb, 23, none⟩ = some (.int .i64 h.value) := A.cell 23
  go_upto_region 2 with (first
    | (refine wpList_built rfl 30 #[(0, .tmp 6), (1, .tmp 8), (2, .tmp 10), (3, .tmp 12)] rfl [(0, .int .i64 4), (1, .int .i64 h.for_), (2, .int .i64 h.number), (3, .int .i64 h.block)] rfl _ (bDeed _ _ _ _) ?_)
    | (refine newV (vs := Dd.vs ⟨4, h.for_, h.number, h.block, 0, 0⟩) (by kernel_rfl) (Dd.one _) rfl (.tmp 5) (.tmp 13) rfl rfl rfl rfl ?_; intro w2 D hb2 lt2; clear c6 c10 c11 c20 c23; have hrl := R.lt; have hal := A.lt; replace R := R.keep hb2; replace A := A.keep hb2; have hz2 := hq; replace z := z.trans (hb2.mono hq); clear hb2))
  obtain ⟨b2, hb2⟩ : ∃ q, Hid (w1.heap.size = q) := ⟨_, rfl⟩
  rw [hb2.out] at D hz2 hrl hal
  rw [hb2.out]
  have hrb : rb ≠ b2 := by omega
  have hab : hb ≠ b2 := by omega
  have hz3 : hb ≤ rb := by have := hh1.out; have := hh2.out; omega

  have c6 : w2.cell? ⟨hb, 6, none⟩ = some (.int .i64 13) := (A.cell 6).trans (by show some (Value.int .i64 h.code) = _; rw [hc])
  have c10 : w2.cell? ⟨hb, 10, none⟩ = some (.int .i64 h.number) := A.cell 10
  have c11 : w2.cell? ⟨hb, 11, none⟩ = some (.int .i64 h.for_) := A.cell 11
  have c20 : w2.cell? ⟨hb, 20, none⟩ = some (.int .i64 h.block) := A.cell 20
  have c23 : w2.cell? ⟨hb, 23, none⟩ = some (.int .i64 h.value) := A.cell 23
  have e2 : w2.cell? ⟨b2, 2, none⟩ = some _ := (D.cell 2).trans rfl
  have g2 : w2.frozen? ⟨b2, 2, none⟩ = false := D.frozen 2
  have e4 : w2.cell? ⟨b2, 4, none⟩ = some _ := (D.cell 4).trans rfl
  have g4 : w2.frozen? ⟨b2, 4, none⟩ = false := D.frozen 4
  go_upto_region 13 with fail
  refine wp_at (fun W => At W b2 (Dd.vs ⟨4, h.for_, 0, h.block, h.value, 0⟩).toArray 30 ∧ At W rb Dd.zero.vs.toArray 30 ∧ Below hb w W) ⟨((D.set 2 _).set 4 _), ((R.other (a := ⟨b2, 2, none⟩) hrb _).other (a := ⟨b2, 4, none⟩) hrb _), (Below.setCell (Below.setCell z (p := ⟨b2, 2, none⟩) hz2 _) (p := ⟨b2, 4, none⟩) hz2 _)⟩ ?_
  clear c6 c10 c11 c20 c23 e2 g2 e4 g4 D z A R
  rintro W ⟨D, R, z⟩
  go_wp2_with (first
    | (refine loadV (Dd.vs ⟨4, h.for_, 0, h.block, h.value, 0⟩) Tryz.underlying30 rfl (by kernel_rfl) rfl (.tmp 5) rfl b2 0 rfl D (fun j v hj => by rw [Nat.zero_add]; simpa using hj) ?_)
    | (refine storeV (vs := Dd.vs ⟨4, h.for_, 0, h.block, h.value, 0⟩) (by kernel_rfl) (Dd.one _) rfl (.tmp 4) (.tmp 44) rfl rb rfl rfl R rfl ?_; intro W3 R3 kk))
  refine bodyPost_ret (resD (d := ⟨4, h.for_, 0, h.block, h.value, 0⟩) 4 rfl rfl R3) rfl ?_
  exact ⟨rfl, by rw [hh1.out]; exact z.trans (kk.below hz3 (by have := z.size; have := hh1.out; omega))⟩

set_option maxHeartbeats 8000000 in
theorem deed_13_5 (h : Hd) (hc : h.code = 13) (w : World) :
    Calls Tryz.prog 112 #[.agg h.ar, .int .i64 5] w fun e w' => e = .returned (.agg (Dd.vs ⟨5, h.for_, 0, h.block, h.b, 0⟩).toArray) ∧ Below w.heap.size w w' := by
  go_enter Tryz.func112, Tryz.ntmps112
  go_upto_region 1 with fail
  refine wp_at (fun W => At W w.heap.size h.ar 28 ∧ At W (w.heap.size + 1) Dd.zero.vs.toArray 30 ∧ Below w.heap.size w W) (two_box w _ _ _ _) ?_
  rintro w1 ⟨A, R, z⟩
  obtain ⟨rb, hh2⟩ : ∃ rb, Hid (w.heap.size + 1 = rb) := ⟨_, rfl⟩
  rw [hh2.out] at R
  simp only [hh2.out]
  obtain ⟨hb, hh1⟩ : ∃ hb, Hid (w.heap.size = hb) := ⟨_, rfl⟩
  rw [hh1.out] at A z
  simp only [hh1.out]
  have hq : hb ≤ w1.heap.size := by have := z.size; have := hh1.out; omega
  have c6 : w1.cell? ⟨hb, 6, none⟩ = some (.int .i64 13) := (A.cell 6).trans (by show some (Value.int .i64 h.code) = _; rw [hc])
  have c8 : w1.cell? ⟨hb, 8, none⟩ = some (.int .i64 h.b) := A.cell 8
  have c10 : w1.cell? ⟨hb, 10, none⟩ = some (.int .i64 h.number) := A.cell 10
  have c11 : w1.cell? ⟨hb, 11, none⟩ = some (.int .i64 h.for_) := A.cell 11
  have c20 : w1.cell? ⟨hb, 20, none⟩ = some (.int .i64 h.block) := A.cell 20
  go_upto_region 2 with (first
    | (refine wpList_built rfl 30 #[(0, .tmp 6), (1, .tmp 8), (2, .tmp 10), (3, .tmp 12)] rfl [(0, .int .i64 5), (1, .int .i64 h.for_), (2, .int .i64 h.number), (3, .int .i64 h.block)] rfl _ (bDeed _ _ _ _) ?_)
    | (refine newV (vs := Dd.vs ⟨5, h.for_, h.number, h.block, 0, 0⟩) (by kernel_rfl) (Dd.one _) rfl (.tmp 5) (.tmp 13) rfl rfl rfl rfl ?_; intro w2 D hb2 lt2; clear c6 c8 c10 c11 c20; have hrl := R.lt; have hal := A.lt; replace R := R.keep hb2; replace A := A.keep hb2; have hz2 := hq; replace z := z.trans (hb2.mono hq); clear hb2))
  obtain ⟨b2, hb2⟩ : ∃ q, Hid (w1.heap.size = q) := ⟨_, rfl⟩
  rw [hb2.out] at D hz2 hrl hal
  rw [hb2.out]
  have hrb : rb ≠ b2 := by omega
  have hab : hb ≠ b2 := by omega
  have hz3 : hb ≤ rb := by have := hh1.out; have := hh2.out; omega

  have c6 : w2.cell? ⟨hb, 6, none⟩ = some (.int .i64 13) := (A.cell 6).trans (by show some (Value.int .i64 h.code) = _; rw [hc])
  have c8 : w2.cell? ⟨hb, 8, none⟩ = some (.int .i64 h.b) := A.cell 8
  have c10 : w2.cell? ⟨hb, 10, none⟩ = some (.int .i64 h.number) := A.cell 10
  have c11 : w2.cell? ⟨hb, 11, none⟩ = some (.int .i64 h.for_) := A.cell 11
  have c20 : w2.cell? ⟨hb, 20, none⟩ = some (.int .i64 h.block) := A.cell 20
  have e2 : w2.cell? ⟨b2, 2, none⟩ = some _ := (D.cell 2).trans rfl
  have g2 : w2.frozen? ⟨b2, 2, none⟩ = false := D.frozen 2
  have e4 : w2.cell? ⟨b2, 4, none⟩ = some _ := (D.cell 4).trans rfl
  have g4 : w2.frozen? ⟨b2, 4, none⟩ = false := D.frozen 4
  go_upto_region 13 with fail
  refine wp_at (fun W => At W b2 (Dd.vs ⟨5, h.for_, 0, h.block, h.b, 0⟩).toArray 30 ∧ At W rb Dd.zero.vs.toArray 30 ∧ Below hb w W) ⟨((D.set 2 _).set 4 _), ((R.other (a := ⟨b2, 2, none⟩) hrb _).other (a := ⟨b2, 4, none⟩) hrb _), (Below.setCell (Below.setCell z (p := ⟨b2, 2, none⟩) hz2 _) (p := ⟨b2, 4, none⟩) hz2 _)⟩ ?_
  clear c6 c8 c10 c11 c20 e2 g2 e4 g4 D z A R
  rintro W ⟨D, R, z⟩
  go_wp2_with (first
    | (refine loadV (Dd.vs ⟨5, h.for_, 0, h.block, h.b, 0⟩) Tryz.underlying30 rfl (by kernel_rfl) rfl (.tmp 5) rfl b2 0 rfl D (fun j v hj => by rw [Nat.zero_add]; simpa using hj) ?_)
    | (refine storeV (vs := Dd.vs ⟨5, h.for_, 0, h.block, h.b, 0⟩) (by kernel_rfl) (Dd.one _) rfl (.tmp 4) (.tmp 44) rfl rb rfl rfl R rfl ?_; intro W3 R3 kk))
  refine bodyPost_ret (resD (d := ⟨5, h.for_, 0, h.block, h.b, 0⟩) 4 rfl rfl R3) rfl ?_
  exact ⟨rfl, by rw [hh1.out]; exact z.trans (kk.below hz3 (by have := z.size; have := hh1.out; omega))⟩

set_option maxHeartbeats 8000000 in
theorem deed_13_6 (h : Hd) (hc : h.code = 13) (w : World) :
    Calls Tryz.prog 112 #[.agg h.ar, .int .i64 6] w fun e w' => e = .returned (.agg (Dd.vs ⟨6, h.for_, 0, h.block, h.value, 0⟩).toArray) ∧ Below w.heap.size w w' := by
  go_enter Tryz.func112, Tryz.ntmps112
  go_upto_region 1 with fail
  refine wp_at (fun W => At W w.heap.size h.ar 28 ∧ At W (w.heap.size + 1) Dd.zero.vs.toArray 30 ∧ Below w.heap.size w W) (two_box w _ _ _ _) ?_
  rintro w1 ⟨A, R, z⟩
  obtain ⟨rb, hh2⟩ : ∃ rb, Hid (w.heap.size + 1 = rb) := ⟨_, rfl⟩
  rw [hh2.out] at R
  simp only [hh2.out]
  obtain ⟨hb, hh1⟩ : ∃ hb, Hid (w.heap.size = hb) := ⟨_, rfl⟩
  rw [hh1.out] at A z
  simp only [hh1.out]
  have hq : hb ≤ w1.heap.size := by have := z.size; have := hh1.out; omega
  have c6 : w1.cell? ⟨hb, 6, none⟩ = some (.int .i64 13) := (A.cell 6).trans (by show some (Value.int .i64 h.code) = _; rw [hc])
  have c10 : w1.cell? ⟨hb, 10, none⟩ = some (.int .i64 h.number) := A.cell 10
  have c11 : w1.cell? ⟨hb, 11, none⟩ = some (.int .i64 h.for_) := A.cell 11
  have c20 : w1.cell? ⟨hb, 20, none⟩ = some (.int .i64 h.block) := A.cell 20
  have c23 : w1.cell? ⟨hb, 23, none⟩ = some (.int .i64 h.value) := A.cell 23
  go_upto_region 2 with (first
    | (refine wpList_built rfl 30 #[(0, .tmp 6), (1, .tmp 8), (2, .tmp 10), (3, .tmp 12)] rfl [(0, .int .i64 6), (1, .int .i64 h.for_), (2, .int .i64 h.number), (3, .int .i64 h.block)] rfl _ (bDeed _ _ _ _) ?_)
    | (refine newV (vs := Dd.vs ⟨6, h.for_, h.number, h.block, 0, 0⟩) (by kernel_rfl) (Dd.one _) rfl (.tmp 5) (.tmp 13) rfl rfl rfl rfl ?_; intro w2 D hb2 lt2; clear c6 c10 c11 c20 c23; have hrl := R.lt; have hal := A.lt; replace R := R.keep hb2; replace A := A.keep hb2; have hz2 := hq; replace z := z.trans (hb2.mono hq); clear hb2))
  obtain ⟨b2, hb2⟩ : ∃ q, Hid (w1.heap.size = q) := ⟨_, rfl⟩
  rw [hb2.out] at D hz2 hrl hal
  rw [hb2.out]
  have hrb : rb ≠ b2 := by omega
  have hab : hb ≠ b2 := by omega
  have hz3 : hb ≤ rb := by have := hh1.out; have := hh2.out; omega

  have c6 : w2.cell? ⟨hb, 6, none⟩ = some (.int .i64 13) := (A.cell 6).trans (by show some (Value.int .i64 h.code) = _; rw [hc])
  have c10 : w2.cell? ⟨hb, 10, none⟩ = some (.int .i64 h.number) := A.cell 10
  have c11 : w2.cell? ⟨hb, 11, none⟩ = some (.int .i64 h.for_) := A.cell 11
  have c20 : w2.cell? ⟨hb, 20, none⟩ = some (.int .i64 h.block) := A.cell 20
  have c23 : w2.cell? ⟨hb, 23, none⟩ = some (.int .i64 h.value) := A.cell 23
  have e2 : w2.cell? ⟨b2, 2, none⟩ = some _ := (D.cell 2).trans rfl
  have g2 : w2.frozen? ⟨b2, 2, none⟩ = false := D.frozen 2
  have e4 : w2.cell? ⟨b2, 4, none⟩ = some _ := (D.cell 4).trans rfl
  have g4 : w2.frozen? ⟨b2, 4, none⟩ = false := D.frozen 4
  go_upto_region 13 with fail
  refine wp_at (fun W => At W b2 (Dd.vs ⟨6, h.for_, 0, h.block, h.value, 0⟩).toArray 30 ∧ At W rb Dd.zero.vs.toArray 30 ∧ Below hb w W) ⟨((D.set 2 _).set 4 _), ((R.other (a := ⟨b2, 2, none⟩) hrb _).other (a := ⟨b2, 4, none⟩) hrb _), (Below.setCell (Below.setCell z (p := ⟨b2, 2, none⟩) hz2 _) (p := ⟨b2, 4, none⟩) hz2 _)⟩ ?_
  clear c6 c10 c11 c20 c23 e2 g2 e4 g4 D z A R
  rintro W ⟨D, R, z⟩
  go_wp2_with (first
    | (refine loadV (Dd.vs ⟨6, h.for_, 0, h.block, h.value, 0⟩) Tryz.underlying30 rfl (by kernel_rfl) rfl (.tmp 5) rfl b2 0 rfl D (fun j v hj => by rw [Nat.zero_add]; simpa using hj) ?_)
    | (refine storeV (vs := Dd.vs ⟨6, h.for_, 0, h.block, h.value, 0⟩) (by kernel_rfl) (Dd.one _) rfl (.tmp 4) (.tmp 44) rfl rb rfl rfl R rfl ?_; intro W3 R3 kk))
  refine bodyPost_ret (resD (d := ⟨6, h.for_, 0, h.block, h.value, 0⟩) 4 rfl rfl R3) rfl ?_
  exact ⟨rfl, by rw [hh1.out]; exact z.trans (kk.below hz3 (by have := z.size; have := hh1.out; omega))⟩

set_option maxHeartbeats 8000000 in
theorem deed_13_7 (h : Hd) (hc : h.code = 13) (w : World) :
    Calls Tryz.prog 112 #[.agg h.ar, .int .i64 7] w fun e w' => e = .returned (.agg (Dd.vs ⟨7, h.for_, 0, h.a, h.c, 0⟩).toArray) ∧ Below w.heap.size w w' := by
  go_enter Tryz.func112, Tryz.ntmps112
  go_upto_region 1 with fail
  refine wp_at (fun W => At W w.heap.size h.ar 28 ∧ At W (w.heap.size + 1) Dd.zero.vs.toArray 30 ∧ Below w.heap.size w W) (two_box w _ _ _ _) ?_
  rintro w1 ⟨A, R, z⟩
  obtain ⟨rb, hh2⟩ : ∃ rb, Hid (w.heap.size + 1 = rb) := ⟨_, rfl⟩
  rw [hh2.out] at R
  simp only [hh2.out]
  obtain ⟨hb, hh1⟩ : ∃ hb, Hid (w.heap.size = hb) := ⟨_, rfl⟩
  rw [hh1.out] at A z
  simp only [hh1.out]
  have hq : hb ≤ w1.heap.size := by have := z.size; have := hh1.out; omega
  have c6 : w1.cell? ⟨hb, 6, none⟩ = some (.int .i64 13) := (A.cell 6).trans (by show some (Value.int .i64 h.code) = _; rw [hc])
  have c7 : w1.cell? ⟨hb, 7, none⟩ = some (.int .i64 h.a) := A.cell 7
  have c9 : w1.cell? ⟨hb, 9, none⟩ = some (.int .i64 h.c) := A.cell 9
  have c10 : w1.cell? ⟨hb, 10, none⟩ = some (.int .i64 h.number) := A.cell 10
  have c11 : w1.cell? ⟨hb, 11, none⟩ = some (.int .i64 h.for_) := A.cell 11
  have c20 : w1.cell? ⟨hb, 20, none⟩ = some (.int .i64 h.block) := A.cell 20
  go_upto_region 2 with (first
    | (refine wpList_built rfl 30 #[(0, .tmp 6), (1, .tmp 8), (2, .tmp 10), (3, .tmp 12)] rfl [(0, .int .i64 7), (1, .int .i64 h.for_), (2, .int .i64 h.number), (3, .int .i64 h.block)] rfl _ (bDeed _ _ _ _) ?_)
    | (refine newV (vs := Dd.vs ⟨7, h.for_, h.number, h.block, 0, 0⟩) (by kernel_rfl) (Dd.one _) rfl (.tmp 5) (.tmp 13) rfl rfl rfl rfl ?_; intro w2 D hb2 lt2; clear c6 c7 c9 c10 c11 c20; have hrl := R.lt; have hal := A.lt; replace R := R.keep hb2; replace A := A.keep hb2; have hz2 := hq; replace z := z.trans (hb2.mono hq); clear hb2))
  obtain ⟨b2, hb2⟩ : ∃ q, Hid (w1.heap.size = q) := ⟨_, rfl⟩
  rw [hb2.out] at D hz2 hrl hal
  rw [hb2.out]
  have hrb : rb ≠ b2 := by omega
  have hab : hb ≠ b2 := by omega
  have hz3 : hb ≤ rb := by have := hh1.out; have := hh2.out; omega

  have c6 : w2.cell? ⟨hb, 6, none⟩ = some (.int .i64 13) := (A.cell 6).trans (by show some (Value.int .i64 h.code) = _; rw [hc])
  have c7 : w2.cell? ⟨hb, 7, none⟩ = some (.int .i64 h.a) := A.cell 7
  have c9 : w2.cell? ⟨hb, 9, none⟩ = some (.int .i64 h.c) := A.cell 9
  have c10 : w2.cell? ⟨hb, 10, none⟩ = some (.int .i64 h.number) := A.cell 10
  have c11 : w2.cell? ⟨hb, 11, none⟩ = some (.int .i64 h.for_) := A.cell 11
  have c20 : w2.cell? ⟨hb, 20, none⟩ = some (.int .i64 h.block) := A.cell 20
  have e2 : w2.cell? ⟨b2, 2, none⟩ = some _ := (D.cell 2).trans rfl
  have g2 : w2.frozen? ⟨b2, 2, none⟩ = false := D.frozen 2
  go_upto_region 12 with fail
  refine wp_at (fun W => At W hb h.ar 28 ∧ At W b2 (Dd.vs ⟨7, h.for_, 0, h.block, 0, 0⟩).toArray 30 ∧ At W rb Dd.zero.vs.toArray 30 ∧ Below hb w W) ⟨(A.other (a := ⟨b2, 2, none⟩) hab _), (D.set 2 _), (R.other (a := ⟨b2, 2, none⟩) hrb _), (Below.setCell z (p := ⟨b2, 2, none⟩) hz2 _)⟩ ?_
  clear c6 c7 c9 c10 c11 c20 e2 g2 D z A R
  rintro W0 ⟨A, D, R, z⟩
  have c7 : W0.cell? ⟨hb, 7, none⟩ = some (.int .i64 h.a) := A.cell 7
  have c9 : W0.cell? ⟨hb, 9, none⟩ = some (.int .i64 h.c) := A.cell 9
  have e3 : W0.cell? ⟨b2, 3, none⟩ = some _ := (D.cell 3).trans rfl
  have g3 : W0.frozen? ⟨b2, 3, none⟩ = false := D.frozen 3
  have e4 : W0.cell? ⟨b2, 4, none⟩ = some _ := (D.cell 4).trans rfl
  have g4 : W0.frozen? ⟨b2, 4, none⟩ = false := D.frozen 4
  have hba : b2 ≠ hb := Ne.symm hab
  have AD := A.keep (Below.refl W0.heap.size W0).drew
  have DD := D.keep (Below.refl W0.heap.size W0).drew
  have RD := R.keep (Below.refl W0.heap.size W0).drew
  go_region_held3 (fun w' => w'.cell? ⟨hb, 7, none⟩ = some (.int .i64 h.a) ∧ w'.cell? ⟨hb, 9, none⟩ = some (.int .i64 h.c)) (go_keep) (fail)
  all_goals go_upto_region 13 with fail
  all_goals refine wp_at (fun W => At W b2 (Dd.vs ⟨7, h.for_, 0, h.a, h.c, 0⟩).toArray 30 ∧ At W rb Dd.zero.vs.toArray 30 ∧ Below hb w W) (by
    first
      | exact ⟨(DD.set 3 _).set 4 _, (RD.other (a := ⟨b2, 3, none⟩) hrb _).other (a := ⟨b2, 4, none⟩) hrb _, Below.setCell (Below.setCell z.drew (p := ⟨b2, 3, none⟩) hz2 _) (p := ⟨b2, 4, none⟩) hz2 _⟩
      | exact ⟨(DD.set 4 _).set 3 _, (RD.other (a := ⟨b2, 4, none⟩) hrb _).other (a := ⟨b2, 3, none⟩) hrb _, Below.setCell (Below.setCell z.drew (p := ⟨b2, 4, none⟩) hz2 _) (p := ⟨b2, 3, none⟩) hz2 _⟩) ?_
  all_goals clear c7 c9 e3 g3 e4 g4 D z A R AD DD RD
  all_goals rintro W ⟨D, R, z⟩
  all_goals
    go_wp2_with (first
      | (refine loadV (Dd.vs ⟨7, h.for_, 0, h.a, h.c, 0⟩) Tryz.underlying30 rfl (by kernel_rfl) rfl (.tmp 5) rfl b2 0 rfl D (fun j v hj => by rw [Nat.zero_add]; simpa using hj) ?_)
      | (refine storeV (vs := Dd.vs ⟨7, h.for_, 0, h.a, h.c, 0⟩) (by kernel_rfl) (Dd.one _) rfl (.tmp 4) (.tmp 44) rfl rb rfl rfl R rfl ?_; intro W3 R3 kk))
    refine bodyPost_ret (resD (d := ⟨7, h.for_, 0, h.a, h.c, 0⟩) 4 rfl rfl R3) rfl ?_
    exact ⟨rfl, by rw [hh1.out]; exact z.trans (kk.below hz3 (by have := z.size; have := hh1.out; omega))⟩

set_option maxHeartbeats 8000000 in
theorem deed_13_n (h : Hd) (kind : Int) (k3 : ¬ kind = 3) (k4 : ¬ kind = 4) (k5 : ¬ kind = 5) (k6 : ¬ kind = 6) (k7 : ¬ kind = 7) (hc : h.code = 13) (w : World) :
    Calls Tryz.prog 112 #[.agg h.ar, .int .i64 kind] w fun e w' => e = .returned (.agg (Dd.vs ⟨kind, h.for_, 0, h.block, 0, 0⟩).toArray) ∧ Below w.heap.size w w' := by
  go_enter Tryz.func112, Tryz.ntmps112
  go_upto_region 1 with fail
  refine wp_at (fun W => At W w.heap.size h.ar 28 ∧ At W (w.heap.size + 1) Dd.zero.vs.toArray 30 ∧ Below w.heap.size w W) (two_box w _ _ _ _) ?_
  rintro w1 ⟨A, R, z⟩
  obtain ⟨rb, hh2⟩ : ∃ rb, Hid (w.heap.size + 1 = rb) := ⟨_, rfl⟩
  rw [hh2.out] at R
  simp only [hh2.out]
  obtain ⟨hb, hh1⟩ : ∃ hb, Hid (w.heap.size = hb) := ⟨_, rfl⟩
  rw [hh1.out] at A z
  simp only [hh1.out]
  have hq : hb ≤ w1.heap.size := by have := z.size; have := hh1.out; omega
  have c6 : w1.cell? ⟨hb, 6, none⟩ = some (.int .i64 13) := (A.cell 6).trans (by show some (Value.int .i64 h.code) = _; rw [hc])
  have c10 : w1.cell? ⟨hb, 10, none⟩ = some (.int .i64 h.number) := A.cell 10
  have c11 : w1.cell? ⟨hb, 11, none⟩ = some (.int .i64 h.for_) := A.cell 11
  have c20 : w1.cell? ⟨hb, 20, none⟩ = some (.int .i64 h.block) := A.cell 20
  go_upto_region 2 with (first
    | (refine wpList_built rfl 30 #[(0, .tmp 6), (1, .tmp 8), (2, .tmp 10), (3, .tmp 12)] rfl [(0, .int .i64 kind), (1, .int .i64 h.for_), (2, .int .i64 h.number), (3, .int .i64 h.block)] rfl _ (bDeed _ _ _ _) ?_)
    | (refine newV (vs := Dd.vs ⟨kind, h.for_, h.number, h.block, 0, 0⟩) (by kernel_rfl) (Dd.one _) rfl (.tmp 5) (.tmp 13) rfl rfl rfl rfl ?_; intro w2 D hb2 lt2; clear c6 c10 c11 c20; have hrl := R.lt; have hal := A.lt; replace R := R.keep hb2; replace A := A.keep hb2; have hz2 := hq; replace z := z.trans (hb2.mono hq); clear hb2))
  obtain ⟨b2, hb2⟩ : ∃ q, Hid (w1.heap.size = q) := ⟨_, rfl⟩
  rw [hb2.out] at D hz2 hrl hal
  rw [hb2.out]
  have hrb : rb ≠ b2 := by omega
  have hab : hb ≠ b2 := by omega
  have hz3 : hb ≤ rb := by have := hh1.out; have := hh2.out; omega

  have c6 : w2.cell? ⟨hb, 6, none⟩ = some (.int .i64 13) := (A.cell 6).trans (by show some (Value.int .i64 h.code) = _; rw [hc])
  have c10 : w2.cell? ⟨hb, 10, none⟩ = some (.int .i64 h.number) := A.cell 10
  have c11 : w2.cell? ⟨hb, 11, none⟩ = some (.int .i64 h.for_) := A.cell 11
  have c20 : w2.cell? ⟨hb, 20, none⟩ = some (.int .i64 h.block) := A.cell 20
  have e2 : w2.cell? ⟨b2, 2, none⟩ = some _ := (D.cell 2).trans rfl
  have g2 : w2.frozen? ⟨b2, 2, none⟩ = false := D.frozen 2
  go_upto_region 13 with fail
  refine wp_at (fun W => At W b2 (Dd.vs ⟨kind, h.for_, 0, h.block, 0, 0⟩).toArray 30 ∧ At W rb Dd.zero.vs.toArray 30 ∧ Below hb w W) ⟨(D.set 2 _), (R.other (a := ⟨b2, 2, none⟩) hrb _), (Below.setCell z (p := ⟨b2, 2, none⟩) hz2 _)⟩ ?_
  clear c6 c10 c11 c20 e2 g2 D z A R
  rintro W ⟨D, R, z⟩
  go_wp2_with (first
    | (refine loadV (Dd.vs ⟨kind, h.for_, 0, h.block, 0, 0⟩) Tryz.underlying30 rfl (by kernel_rfl) rfl (.tmp 5) rfl b2 0 rfl D (fun j v hj => by rw [Nat.zero_add]; simpa using hj) ?_)
    | (refine storeV (vs := Dd.vs ⟨kind, h.for_, 0, h.block, 0, 0⟩) (by kernel_rfl) (Dd.one _) rfl (.tmp 4) (.tmp 44) rfl rb rfl rfl R rfl ?_; intro W3 R3 kk))
  refine bodyPost_ret (resD (d := ⟨kind, h.for_, 0, h.block, 0, 0⟩) 4 rfl rfl R3) rfl ?_
  exact ⟨rfl, by rw [hh1.out]; exact z.trans (kk.below hz3 (by have := z.size; have := hh1.out; omega))⟩

set_option maxHeartbeats 8000000 in
theorem deed_n_3 (h : Hd) (h1 : ¬ h.code = 1) (h2 : ¬ h.code = 13) (w : World) :
    Calls Tryz.prog 112 #[.agg h.ar, .int .i64 3] w fun e w' => e = .returned (.agg (Dd.vs ⟨3, h.for_, h.number, h.block, h.b, 0⟩).toArray) ∧ Below w.heap.size w w' := by
  have x1 : (h.code == 1) = false := by simp [h1]
  have x13 : (h.code == 13) = false := by simp [h2]
  go_enter Tryz.func112, Tryz.ntmps112
  go_upto_region 1 with fail
  refine wp_at (fun W => At W w.heap.size h.ar 28 ∧ At W (w.heap.size + 1) Dd.zero.vs.toArray 30 ∧ Below w.heap.size w W) (two_box w _ _ _ _) ?_
  rintro w1 ⟨A, R, z⟩
  obtain ⟨rb, hh2⟩ : ∃ rb, Hid (w.heap.size + 1 = rb) := ⟨_, rfl⟩
  rw [hh2.out] at R
  simp only [hh2.out]
  obtain ⟨hb, hh1⟩ : ∃ hb, Hid (w.heap.size = hb) := ⟨_, rfl⟩
  rw [hh1.out] at A z
  simp only [hh1.out]
  have hq : hb ≤ w1.heap.size := by have := z.size; have := hh1.out; omega
  have c6 : w1.cell? ⟨hb, 6, none⟩ = some (.int .i64 h.code) := A.cell 6
  have c8 : w1.cell? ⟨hb, 8, none⟩ = some (.int .i64 h.b) := A.cell 8
  have c10 : w1.cell? ⟨hb, 10, none⟩ = some (.int .i64 h.number) := A.cell 10
  have c11 : w1.cell? ⟨hb, 11, none⟩ = some (.int .i64 h.for_) := A.cell 11
  have c20 : w1.cell? ⟨hb, 20, none⟩ = some (.int .i64 h.block) := A.cell 20
  go_upto_region 2 with (first
    | (refine wpList_built rfl 30 #[(0, .tmp 6), (1, .tmp 8), (2, .tmp 10), (3, .tmp 12)] rfl [(0, .int .i64 3), (1, .int .i64 h.for_), (2, .int .i64 h.number), (3, .int .i64 h.block)] rfl _ (bDeed _ _ _ _) ?_)
    | (refine newV (vs := Dd.vs ⟨3, h.for_, h.number, h.block, 0, 0⟩) (by kernel_rfl) (Dd.one _) rfl (.tmp 5) (.tmp 13) rfl rfl rfl rfl ?_; intro w2 D hb2 lt2; clear c6 c8 c10 c11 c20; have hrl := R.lt; have hal := A.lt; replace R := R.keep hb2; replace A := A.keep hb2; have hz2 := hq; replace z := z.trans (hb2.mono hq); clear hb2))
  obtain ⟨b2, hb2⟩ : ∃ q, Hid (w1.heap.size = q) := ⟨_, rfl⟩
  rw [hb2.out] at D hz2 hrl hal
  rw [hb2.out]
  have hrb : rb ≠ b2 := by omega
  have hab : hb ≠ b2 := by omega
  have hz3 : hb ≤ rb := by have := hh1.out; have := hh2.out; omega

  have c6 : w2.cell? ⟨hb, 6, none⟩ = some (.int .i64 h.code) := A.cell 6
  have c8 : w2.cell? ⟨hb, 8, none⟩ = some (.int .i64 h.b) := A.cell 8
  have c10 : w2.cell? ⟨hb, 10, none⟩ = some (.int .i64 h.number) := A.cell 10
  have c11 : w2.cell? ⟨hb, 11, none⟩ = some (.int .i64 h.for_) := A.cell 11
  have c20 : w2.cell? ⟨hb, 20, none⟩ = some (.int .i64 h.block) := A.cell 20
  have e4 : w2.cell? ⟨b2, 4, none⟩ = some _ := (D.cell 4).trans rfl
  have g4 : w2.frozen? ⟨b2, 4, none⟩ = false := D.frozen 4
  go_upto_region 13 with fail
  refine wp_at (fun W => At W b2 (Dd.vs ⟨3, h.for_, h.number, h.block, h.b, 0⟩).toArray 30 ∧ At W rb Dd.zero.vs.toArray 30 ∧ Below hb w W) ⟨(D.set 4 _), (R.other (a := ⟨b2, 4, none⟩) hrb _), (Below.setCell z (p := ⟨b2, 4, none⟩) hz2 _)⟩ ?_
  clear c6 c8 c10 c11 c20 e4 g4 D z A R
  rintro W ⟨D, R, z⟩
  go_wp2_with (first
    | (refine loadV (Dd.vs ⟨3, h.for_, h.number, h.block, h.b, 0⟩) Tryz.underlying30 rfl (by kernel_rfl) rfl (.tmp 5) rfl b2 0 rfl D (fun j v hj => by rw [Nat.zero_add]; simpa using hj) ?_)
    | (refine storeV (vs := Dd.vs ⟨3, h.for_, h.number, h.block, h.b, 0⟩) (by kernel_rfl) (Dd.one _) rfl (.tmp 4) (.tmp 44) rfl rb rfl rfl R rfl ?_; intro W3 R3 kk))
  refine bodyPost_ret (resD (d := ⟨3, h.for_, h.number, h.block, h.b, 0⟩) 4 rfl rfl R3) rfl ?_
  exact ⟨rfl, by rw [hh1.out]; exact z.trans (kk.below hz3 (by have := z.size; have := hh1.out; omega))⟩

set_option maxHeartbeats 8000000 in
theorem deed_n_4 (h : Hd) (h1 : ¬ h.code = 1) (h2 : ¬ h.code = 13) (w : World) :
    Calls Tryz.prog 112 #[.agg h.ar, .int .i64 4] w fun e w' => e = .returned (.agg (Dd.vs ⟨4, h.for_, h.number, h.block, h.value, 0⟩).toArray) ∧ Below w.heap.size w w' := by
  have x1 : (h.code == 1) = false := by simp [h1]
  have x13 : (h.code == 13) = false := by simp [h2]
  go_enter Tryz.func112, Tryz.ntmps112
  go_upto_region 1 with fail
  refine wp_at (fun W => At W w.heap.size h.ar 28 ∧ At W (w.heap.size + 1) Dd.zero.vs.toArray 30 ∧ Below w.heap.size w W) (two_box w _ _ _ _) ?_
  rintro w1 ⟨A, R, z⟩
  obtain ⟨rb, hh2⟩ : ∃ rb, Hid (w.heap.size + 1 = rb) := ⟨_, rfl⟩
  rw [hh2.out] at R
  simp only [hh2.out]
  obtain ⟨hb, hh1⟩ : ∃ hb, Hid (w.heap.size = hb) := ⟨_, rfl⟩
  rw [hh1.out] at A z
  simp only [hh1.out]
  have hq : hb ≤ w1.heap.size := by have := z.size; have := hh1.out; omega
  have c6 : w1.cell? ⟨hb, 6, none⟩ = some (.int .i64 h.code) := A.cell 6
  have c10 : w1.cell? ⟨hb, 10, none⟩ = some (.int .i64 h.number) := A.cell 10
  have c11 : w1.cell? ⟨hb, 11, none⟩ = some (.int .i64 h.for_) := A.cell 11
  have c20 : w1.cell? ⟨hb, 20, none⟩ = some (.int .i64 h.block) := A.cell 20
  have c23 : w1.cell? ⟨hb, 23, none⟩ = some (.int .i64 h.value) := A.cell 23
  go_upto_region 2 with (first
    | (refine wpList_built rfl 30 #[(0, .tmp 6), (1, .tmp 8), (2, .tmp 10), (3, .tmp 12)] rfl [(0, .int .i64 4), (1, .int .i64 h.for_), (2, .int .i64 h.number), (3, .int .i64 h.block)] rfl _ (bDeed _ _ _ _) ?_)
    | (refine newV (vs := Dd.vs ⟨4, h.for_, h.number, h.block, 0, 0⟩) (by kernel_rfl) (Dd.one _) rfl (.tmp 5) (.tmp 13) rfl rfl rfl rfl ?_; intro w2 D hb2 lt2; clear c6 c10 c11 c20 c23; have hrl := R.lt; have hal := A.lt; replace R := R.keep hb2; replace A := A.keep hb2; have hz2 := hq; replace z := z.trans (hb2.mono hq); clear hb2))
  obtain ⟨b2, hb2⟩ : ∃ q, Hid (w1.heap.size = q) := ⟨_, rfl⟩
  rw [hb2.out] at D hz2 hrl hal
  rw [hb2.out]
  have hrb : rb ≠ b2 := by omega
  have hab : hb ≠ b2 := by omega
  have hz3 : hb ≤ rb := by have := hh1.out; have := hh2.out; omega

  have c6 : w2.cell? ⟨hb, 6, none⟩ = some (.int .i64 h.code) := A.cell 6
  have c10 : w2.cell? ⟨hb, 10, none⟩ = some (.int .i64 h.number) := A.cell 10
  have c11 : w2.cell? ⟨hb, 11, none⟩ = some (.int .i64 h.for_) := A.cell 11
  have c20 : w2.cell? ⟨hb, 20, none⟩ = some (.int .i64 h.block) := A.cell 20
  have c23 : w2.cell? ⟨hb, 23, none⟩ = some (.int .i64 h.value) := A.cell 23
  have e4 : w2.cell? ⟨b2, 4, none⟩ = some _ := (D.cell 4).trans rfl
  have g4 : w2.frozen? ⟨b2, 4, none⟩ = false := D.frozen 4
  go_upto_region 13 with fail
  refine wp_at (fun W => At W b2 (Dd.vs ⟨4, h.for_, h.number, h.block, h.value, 0⟩).toArray 30 ∧ At W rb Dd.zero.vs.toArray 30 ∧ Below hb w W) ⟨(D.set 4 _), (R.other (a := ⟨b2, 4, none⟩) hrb _), (Below.setCell z (p := ⟨b2, 4, none⟩) hz2 _)⟩ ?_
  clear c6 c10 c11 c20 c23 e4 g4 D z A R
  rintro W ⟨D, R, z⟩
  go_wp2_with (first
    | (refine loadV (Dd.vs ⟨4, h.for_, h.number, h.block, h.value, 0⟩) Tryz.underlying30 rfl (by kernel_rfl) rfl (.tmp 5) rfl b2 0 rfl D (fun j v hj => by rw [Nat.zero_add]; simpa using hj) ?_)
    | (refine storeV (vs := Dd.vs ⟨4, h.for_, h.number, h.block, h.value, 0⟩) (by kernel_rfl) (Dd.one _) rfl (.tmp 4) (.tmp 44) rfl rb rfl rfl R rfl ?_; intro W3 R3 kk))
  refine bodyPost_ret (resD (d := ⟨4, h.for_, h.number, h.block, h.value, 0⟩) 4 rfl rfl R3) rfl ?_
  exact ⟨rfl, by rw [hh1.out]; exact z.trans (kk.below hz3 (by have := z.size; have := hh1.out; omega))⟩

set_option maxHeartbeats 8000000 in
theorem deed_n_5 (h : Hd) (h1 : ¬ h.code = 1) (h2 : ¬ h.code = 13) (w : World) :
    Calls Tryz.prog 112 #[.agg h.ar, .int .i64 5] w fun e w' => e = .returned (.agg (Dd.vs ⟨5, h.for_, h.number, h.block, h.b, 0⟩).toArray) ∧ Below w.heap.size w w' := by
  have x1 : (h.code == 1) = false := by simp [h1]
  have x13 : (h.code == 13) = false := by simp [h2]
  go_enter Tryz.func112, Tryz.ntmps112
  go_upto_region 1 with fail
  refine wp_at (fun W => At W w.heap.size h.ar 28 ∧ At W (w.heap.size + 1) Dd.zero.vs.toArray 30 ∧ Below w.heap.size w W) (two_box w _ _ _ _) ?_
  rintro w1 ⟨A, R, z⟩
  obtain ⟨rb, hh2⟩ : ∃ rb, Hid (w.heap.size + 1 = rb) := ⟨_, rfl⟩
  rw [hh2.out] at R
  simp only [hh2.out]
  obtain ⟨hb, hh1⟩ : ∃ hb, Hid (w.heap.size = hb) := ⟨_, rfl⟩
  rw [hh1.out] at A z
  simp only [hh1.out]
  have hq : hb ≤ w1.heap.size := by have := z.size; have := hh1.out; omega
  have c6 : w1.cell? ⟨hb, 6, none⟩ = some (.int .i64 h.code) := A.cell 6
  have c8 : w1.cell? ⟨hb, 8, none⟩ = some (.int .i64 h.b) := A.cell 8
  have c10 : w1.cell? ⟨hb, 10, none⟩ = some (.int .i64 h.number) := A.cell 10
  have c11 : w1.cell? ⟨hb, 11, none⟩ = some (.int .i64 h.for_) := A.cell 11
  have c20 : w1.cell? ⟨hb, 20, none⟩ = some (.int .i64 h.block) := A.cell 20
  go_upto_region 2 with (first
    | (refine wpList_built rfl 30 #[(0, .tmp 6), (1, .tmp 8), (2, .tmp 10), (3, .tmp 12)] rfl [(0, .int .i64 5), (1, .int .i64 h.for_), (2, .int .i64 h.number), (3, .int .i64 h.block)] rfl _ (bDeed _ _ _ _) ?_)
    | (refine newV (vs := Dd.vs ⟨5, h.for_, h.number, h.block, 0, 0⟩) (by kernel_rfl) (Dd.one _) rfl (.tmp 5) (.tmp 13) rfl rfl rfl rfl ?_; intro w2 D hb2 lt2; clear c6 c8 c10 c11 c20; have hrl := R.lt; have hal := A.lt; replace R := R.keep hb2; replace A := A.keep hb2; have hz2 := hq; replace z := z.trans (hb2.mono hq); clear hb2))
  obtain ⟨b2, hb2⟩ : ∃ q, Hid (w1.heap.size = q) := ⟨_, rfl⟩
  rw [hb2.out] at D hz2 hrl hal
  rw [hb2.out]
  have hrb : rb ≠ b2 := by omega
  have hab : hb ≠ b2 := by omega
  have hz3 : hb ≤ rb := by have := hh1.out; have := hh2.out; omega

  have c6 : w2.cell? ⟨hb, 6, none⟩ = some (.int .i64 h.code) := A.cell 6
  have c8 : w2.cell? ⟨hb, 8, none⟩ = some (.int .i64 h.b) := A.cell 8
  have c10 : w2.cell? ⟨hb, 10, none⟩ = some (.int .i64 h.number) := A.cell 10
  have c11 : w2.cell? ⟨hb, 11, none⟩ = some (.int .i64 h.for_) := A.cell 11
  have c20 : w2.cell? ⟨hb, 20, none⟩ = some (.int .i64 h.block) := A.cell 20
  have e4 : w2.cell? ⟨b2, 4, none⟩ = some _ := (D.cell 4).trans rfl
  have g4 : w2.frozen? ⟨b2, 4, none⟩ = false := D.frozen 4
  go_upto_region 13 with fail
  refine wp_at (fun W => At W b2 (Dd.vs ⟨5, h.for_, h.number, h.block, h.b, 0⟩).toArray 30 ∧ At W rb Dd.zero.vs.toArray 30 ∧ Below hb w W) ⟨(D.set 4 _), (R.other (a := ⟨b2, 4, none⟩) hrb _), (Below.setCell z (p := ⟨b2, 4, none⟩) hz2 _)⟩ ?_
  clear c6 c8 c10 c11 c20 e4 g4 D z A R
  rintro W ⟨D, R, z⟩
  go_wp2_with (first
    | (refine loadV (Dd.vs ⟨5, h.for_, h.number, h.block, h.b, 0⟩) Tryz.underlying30 rfl (by kernel_rfl) rfl (.tmp 5) rfl b2 0 rfl D (fun j v hj => by rw [Nat.zero_add]; simpa using hj) ?_)
    | (refine storeV (vs := Dd.vs ⟨5, h.for_, h.number, h.block, h.b, 0⟩) (by kernel_rfl) (Dd.one _) rfl (.tmp 4) (.tmp 44) rfl rb rfl rfl R rfl ?_; intro W3 R3 kk))
  refine bodyPost_ret (resD (d := ⟨5, h.for_, h.number, h.block, h.b, 0⟩) 4 rfl rfl R3) rfl ?_
  exact ⟨rfl, by rw [hh1.out]; exact z.trans (kk.below hz3 (by have := z.size; have := hh1.out; omega))⟩

set_option maxHeartbeats 8000000 in
theorem deed_n_6 (h : Hd) (h1 : ¬ h.code = 1) (h2 : ¬ h.code = 13) (w : World) :
    Calls Tryz.prog 112 #[.agg h.ar, .int .i64 6] w fun e w' => e = .returned (.agg (Dd.vs ⟨6, h.for_, h.number, h.block, h.value, 0⟩).toArray) ∧ Below w.heap.size w w' := by
  have x1 : (h.code == 1) = false := by simp [h1]
  have x13 : (h.code == 13) = false := by simp [h2]
  go_enter Tryz.func112, Tryz.ntmps112
  go_upto_region 1 with fail
  refine wp_at (fun W => At W w.heap.size h.ar 28 ∧ At W (w.heap.size + 1) Dd.zero.vs.toArray 30 ∧ Below w.heap.size w W) (two_box w _ _ _ _) ?_
  rintro w1 ⟨A, R, z⟩
  obtain ⟨rb, hh2⟩ : ∃ rb, Hid (w.heap.size + 1 = rb) := ⟨_, rfl⟩
  rw [hh2.out] at R
  simp only [hh2.out]
  obtain ⟨hb, hh1⟩ : ∃ hb, Hid (w.heap.size = hb) := ⟨_, rfl⟩
  rw [hh1.out] at A z
  simp only [hh1.out]
  have hq : hb ≤ w1.heap.size := by have := z.size; have := hh1.out; omega
  have c6 : w1.cell? ⟨hb, 6, none⟩ = some (.int .i64 h.code) := A.cell 6
  have c10 : w1.cell? ⟨hb, 10, none⟩ = some (.int .i64 h.number) := A.cell 10
  have c11 : w1.cell? ⟨hb, 11, none⟩ = some (.int .i64 h.for_) := A.cell 11
  have c20 : w1.cell? ⟨hb, 20, none⟩ = some (.int .i64 h.block) := A.cell 20
  have c23 : w1.cell? ⟨hb, 23, none⟩ = some (.int .i64 h.value) := A.cell 23
  go_upto_region 2 with (first
    | (refine wpList_built rfl 30 #[(0, .tmp 6), (1, .tmp 8), (2, .tmp 10), (3, .tmp 12)] rfl [(0, .int .i64 6), (1, .int .i64 h.for_), (2, .int .i64 h.number), (3, .int .i64 h.block)] rfl _ (bDeed _ _ _ _) ?_)
    | (refine newV (vs := Dd.vs ⟨6, h.for_, h.number, h.block, 0, 0⟩) (by kernel_rfl) (Dd.one _) rfl (.tmp 5) (.tmp 13) rfl rfl rfl rfl ?_; intro w2 D hb2 lt2; clear c6 c10 c11 c20 c23; have hrl := R.lt; have hal := A.lt; replace R := R.keep hb2; replace A := A.keep hb2; have hz2 := hq; replace z := z.trans (hb2.mono hq); clear hb2))
  obtain ⟨b2, hb2⟩ : ∃ q, Hid (w1.heap.size = q) := ⟨_, rfl⟩
  rw [hb2.out] at D hz2 hrl hal
  rw [hb2.out]
  have hrb : rb ≠ b2 := by omega
  have hab : hb ≠ b2 := by omega
  have hz3 : hb ≤ rb := by have := hh1.out; have := hh2.out; omega

  have c6 : w2.cell? ⟨hb, 6, none⟩ = some (.int .i64 h.code) := A.cell 6
  have c10 : w2.cell? ⟨hb, 10, none⟩ = some (.int .i64 h.number) := A.cell 10
  have c11 : w2.cell? ⟨hb, 11, none⟩ = some (.int .i64 h.for_) := A.cell 11
  have c20 : w2.cell? ⟨hb, 20, none⟩ = some (.int .i64 h.block) := A.cell 20
  have c23 : w2.cell? ⟨hb, 23, none⟩ = some (.int .i64 h.value) := A.cell 23
  have e4 : w2.cell? ⟨b2, 4, none⟩ = some _ := (D.cell 4).trans rfl
  have g4 : w2.frozen? ⟨b2, 4, none⟩ = false := D.frozen 4
  go_upto_region 13 with fail
  refine wp_at (fun W => At W b2 (Dd.vs ⟨6, h.for_, h.number, h.block, h.value, 0⟩).toArray 30 ∧ At W rb Dd.zero.vs.toArray 30 ∧ Below hb w W) ⟨(D.set 4 _), (R.other (a := ⟨b2, 4, none⟩) hrb _), (Below.setCell z (p := ⟨b2, 4, none⟩) hz2 _)⟩ ?_
  clear c6 c10 c11 c20 c23 e4 g4 D z A R
  rintro W ⟨D, R, z⟩
  go_wp2_with (first
    | (refine loadV (Dd.vs ⟨6, h.for_, h.number, h.block, h.value, 0⟩) Tryz.underlying30 rfl (by kernel_rfl) rfl (.tmp 5) rfl b2 0 rfl D (fun j v hj => by rw [Nat.zero_add]; simpa using hj) ?_)
    | (refine storeV (vs := Dd.vs ⟨6, h.for_, h.number, h.block, h.value, 0⟩) (by kernel_rfl) (Dd.one _) rfl (.tmp 4) (.tmp 44) rfl rb rfl rfl R rfl ?_; intro W3 R3 kk))
  refine bodyPost_ret (resD (d := ⟨6, h.for_, h.number, h.block, h.value, 0⟩) 4 rfl rfl R3) rfl ?_
  exact ⟨rfl, by rw [hh1.out]; exact z.trans (kk.below hz3 (by have := z.size; have := hh1.out; omega))⟩

set_option maxHeartbeats 8000000 in
theorem deed_n_7 (h : Hd) (h1 : ¬ h.code = 1) (h2 : ¬ h.code = 13) (w : World) :
    Calls Tryz.prog 112 #[.agg h.ar, .int .i64 7] w fun e w' => e = .returned (.agg (Dd.vs ⟨7, h.for_, h.number, h.a, h.c, 0⟩).toArray) ∧ Below w.heap.size w w' := by
  have x1 : (h.code == 1) = false := by simp [h1]
  have x13 : (h.code == 13) = false := by simp [h2]
  go_enter Tryz.func112, Tryz.ntmps112
  go_upto_region 1 with fail
  refine wp_at (fun W => At W w.heap.size h.ar 28 ∧ At W (w.heap.size + 1) Dd.zero.vs.toArray 30 ∧ Below w.heap.size w W) (two_box w _ _ _ _) ?_
  rintro w1 ⟨A, R, z⟩
  obtain ⟨rb, hh2⟩ : ∃ rb, Hid (w.heap.size + 1 = rb) := ⟨_, rfl⟩
  rw [hh2.out] at R
  simp only [hh2.out]
  obtain ⟨hb, hh1⟩ : ∃ hb, Hid (w.heap.size = hb) := ⟨_, rfl⟩
  rw [hh1.out] at A z
  simp only [hh1.out]
  have hq : hb ≤ w1.heap.size := by have := z.size; have := hh1.out; omega
  have c6 : w1.cell? ⟨hb, 6, none⟩ = some (.int .i64 h.code) := A.cell 6
  have c7 : w1.cell? ⟨hb, 7, none⟩ = some (.int .i64 h.a) := A.cell 7
  have c9 : w1.cell? ⟨hb, 9, none⟩ = some (.int .i64 h.c) := A.cell 9
  have c10 : w1.cell? ⟨hb, 10, none⟩ = some (.int .i64 h.number) := A.cell 10
  have c11 : w1.cell? ⟨hb, 11, none⟩ = some (.int .i64 h.for_) := A.cell 11
  have c20 : w1.cell? ⟨hb, 20, none⟩ = some (.int .i64 h.block) := A.cell 20
  go_upto_region 2 with (first
    | (refine wpList_built rfl 30 #[(0, .tmp 6), (1, .tmp 8), (2, .tmp 10), (3, .tmp 12)] rfl [(0, .int .i64 7), (1, .int .i64 h.for_), (2, .int .i64 h.number), (3, .int .i64 h.block)] rfl _ (bDeed _ _ _ _) ?_)
    | (refine newV (vs := Dd.vs ⟨7, h.for_, h.number, h.block, 0, 0⟩) (by kernel_rfl) (Dd.one _) rfl (.tmp 5) (.tmp 13) rfl rfl rfl rfl ?_; intro w2 D hb2 lt2; clear c6 c7 c9 c10 c11 c20; have hrl := R.lt; have hal := A.lt; replace R := R.keep hb2; replace A := A.keep hb2; have hz2 := hq; replace z := z.trans (hb2.mono hq); clear hb2))
  obtain ⟨b2, hb2⟩ : ∃ q, Hid (w1.heap.size = q) := ⟨_, rfl⟩
  rw [hb2.out] at D hz2 hrl hal
  rw [hb2.out]
  have hrb : rb ≠ b2 := by omega
  have hab : hb ≠ b2 := by omega
  have hz3 : hb ≤ rb := by have := hh1.out; have := hh2.out; omega

  have c6 : w2.cell? ⟨hb, 6, none⟩ = some (.int .i64 h.code) := A.cell 6
  have c7 : w2.cell? ⟨hb, 7, none⟩ = some (.int .i64 h.a) := A.cell 7
  have c9 : w2.cell? ⟨hb, 9, none⟩ = some (.int .i64 h.c) := A.cell 9
  have c10 : w2.cell? ⟨hb, 10, none⟩ = some (.int .i64 h.number) := A.cell 10
  have c11 : w2.cell? ⟨hb, 11, none⟩ = some (.int .i64 h.for_) := A.cell 11
  have c20 : w2.cell? ⟨hb, 20, none⟩ = some (.int .i64 h.block) := A.cell 20
  skip
  go_upto_region 12 with fail
  refine wp_at (fun W => At W hb h.ar 28 ∧ At W b2 (Dd.vs ⟨7, h.for_, h.number, h.block, 0, 0⟩).toArray 30 ∧ At W rb Dd.zero.vs.toArray 30 ∧ Below hb w W) ⟨A, D, R, z⟩ ?_
  clear c6 c7 c9 c10 c11 c20  D z A R
  rintro W0 ⟨A, D, R, z⟩
  have c7 : W0.cell? ⟨hb, 7, none⟩ = some (.int .i64 h.a) := A.cell 7
  have c9 : W0.cell? ⟨hb, 9, none⟩ = some (.int .i64 h.c) := A.cell 9
  have e3 : W0.cell? ⟨b2, 3, none⟩ = some _ := (D.cell 3).trans rfl
  have g3 : W0.frozen? ⟨b2, 3, none⟩ = false := D.frozen 3
  have e4 : W0.cell? ⟨b2, 4, none⟩ = some _ := (D.cell 4).trans rfl
  have g4 : W0.frozen? ⟨b2, 4, none⟩ = false := D.frozen 4
  have hba : b2 ≠ hb := Ne.symm hab
  have AD := A.keep (Below.refl W0.heap.size W0).drew
  have DD := D.keep (Below.refl W0.heap.size W0).drew
  have RD := R.keep (Below.refl W0.heap.size W0).drew
  go_region_held3 (fun w' => w'.cell? ⟨hb, 7, none⟩ = some (.int .i64 h.a) ∧ w'.cell? ⟨hb, 9, none⟩ = some (.int .i64 h.c)) (go_keep) (fail)
  all_goals go_upto_region 13 with fail
  all_goals refine wp_at (fun W => At W b2 (Dd.vs ⟨7, h.for_, h.number, h.a, h.c, 0⟩).toArray 30 ∧ At W rb Dd.zero.vs.toArray 30 ∧ Below hb w W) (by
    first
      | exact ⟨(DD.set 3 _).set 4 _, (RD.other (a := ⟨b2, 3, none⟩) hrb _).other (a := ⟨b2, 4, none⟩) hrb _, Below.setCell (Below.setCell z.drew (p := ⟨b2, 3, none⟩) hz2 _) (p := ⟨b2, 4, none⟩) hz2 _⟩
      | exact ⟨(DD.set 4 _).set 3 _, (RD.other (a := ⟨b2, 4, none⟩) hrb _).other (a := ⟨b2, 3, none⟩) hrb _, Below.setCell (Below.setCell z.drew (p := ⟨b2, 4, none⟩) hz2 _) (p := ⟨b2, 3, none⟩) hz2 _⟩) ?_
  all_goals clear c7 c9 e3 g3 e4 g4 D z A R AD DD RD
  all_goals rintro W ⟨D, R, z⟩
  all_goals
    go_wp2_with (first
      | (refine loadV (Dd.vs ⟨7, h.for_, h.number, h.a, h.c, 0⟩) Tryz.underlying30 rfl (by kernel_rfl) rfl (.tmp 5) rfl b2 0 rfl D (fun j v hj => by rw [Nat.zero_add]; simpa using hj) ?_)
      | (refine storeV (vs := Dd.vs ⟨7, h.for_, h.number, h.a, h.c, 0⟩) (by kernel_rfl) (Dd.one _) rfl (.tmp 4) (.tmp 44) rfl rb rfl rfl R rfl ?_; intro W3 R3 kk))
    refine bodyPost_ret (resD (d := ⟨7, h.for_, h.number, h.a, h.c, 0⟩) 4 rfl rfl R3) rfl ?_
    exact ⟨rfl, by rw [hh1.out]; exact z.trans (kk.below hz3 (by have := z.size; have := hh1.out; omega))⟩

set_option maxHeartbeats 8000000 in
theorem deed_n_n (h : Hd) (kind : Int) (k3 : ¬ kind = 3) (k4 : ¬ kind = 4) (k5 : ¬ kind = 5) (k6 : ¬ kind = 6) (k7 : ¬ kind = 7) (h1 : ¬ h.code = 1) (h2 : ¬ h.code = 13) (w : World) :
    Calls Tryz.prog 112 #[.agg h.ar, .int .i64 kind] w fun e w' => e = .returned (.agg (Dd.vs ⟨kind, h.for_, h.number, h.block, 0, 0⟩).toArray) ∧ Below w.heap.size w w' := by
  have x1 : (h.code == 1) = false := by simp [h1]
  have x13 : (h.code == 13) = false := by simp [h2]
  go_enter Tryz.func112, Tryz.ntmps112
  go_upto_region 1 with fail
  refine wp_at (fun W => At W w.heap.size h.ar 28 ∧ At W (w.heap.size + 1) Dd.zero.vs.toArray 30 ∧ Below w.heap.size w W) (two_box w _ _ _ _) ?_
  rintro w1 ⟨A, R, z⟩
  obtain ⟨rb, hh2⟩ : ∃ rb, Hid (w.heap.size + 1 = rb) := ⟨_, rfl⟩
  rw [hh2.out] at R
  simp only [hh2.out]
  obtain ⟨hb, hh1⟩ : ∃ hb, Hid (w.heap.size = hb) := ⟨_, rfl⟩
  rw [hh1.out] at A z
  simp only [hh1.out]
  have hq : hb ≤ w1.heap.size := by have := z.size; have := hh1.out; omega
  have c6 : w1.cell? ⟨hb, 6, none⟩ = some (.int .i64 h.code) := A.cell 6
  have c10 : w1.cell? ⟨hb, 10, none⟩ = some (.int .i64 h.number) := A.cell 10
  have c11 : w1.cell? ⟨hb, 11, none⟩ = some (.int .i64 h.for_) := A.cell 11
  have c20 : w1.cell? ⟨hb, 20, none⟩ = some (.int .i64 h.block) := A.cell 20
  go_upto_region 2 with (first
    | (refine wpList_built rfl 30 #[(0, .tmp 6), (1, .tmp 8), (2, .tmp 10), (3, .tmp 12)] rfl [(0, .int .i64 kind), (1, .int .i64 h.for_), (2, .int .i64 h.number), (3, .int .i64 h.block)] rfl _ (bDeed _ _ _ _) ?_)
    | (refine newV (vs := Dd.vs ⟨kind, h.for_, h.number, h.block, 0, 0⟩) (by kernel_rfl) (Dd.one _) rfl (.tmp 5) (.tmp 13) rfl rfl rfl rfl ?_; intro w2 D hb2 lt2; clear c6 c10 c11 c20; have hrl := R.lt; have hal := A.lt; replace R := R.keep hb2; replace A := A.keep hb2; have hz2 := hq; replace z := z.trans (hb2.mono hq); clear hb2))
  obtain ⟨b2, hb2⟩ : ∃ q, Hid (w1.heap.size = q) := ⟨_, rfl⟩
  rw [hb2.out] at D hz2 hrl hal
  rw [hb2.out]
  have hrb : rb ≠ b2 := by omega
  have hab : hb ≠ b2 := by omega
  have hz3 : hb ≤ rb := by have := hh1.out; have := hh2.out; omega

  have c6 : w2.cell? ⟨hb, 6, none⟩ = some (.int .i64 h.code) := A.cell 6
  have c10 : w2.cell? ⟨hb, 10, none⟩ = some (.int .i64 h.number) := A.cell 10
  have c11 : w2.cell? ⟨hb, 11, none⟩ = some (.int .i64 h.for_) := A.cell 11
  have c20 : w2.cell? ⟨hb, 20, none⟩ = some (.int .i64 h.block) := A.cell 20
  skip
  go_upto_region 13 with fail
  refine wp_at (fun W => At W b2 (Dd.vs ⟨kind, h.for_, h.number, h.block, 0, 0⟩).toArray 30 ∧ At W rb Dd.zero.vs.toArray 30 ∧ Below hb w W) ⟨D, R, z⟩ ?_
  clear c6 c10 c11 c20  D z A R
  rintro W ⟨D, R, z⟩
  go_wp2_with (first
    | (refine loadV (Dd.vs ⟨kind, h.for_, h.number, h.block, 0, 0⟩) Tryz.underlying30 rfl (by kernel_rfl) rfl (.tmp 5) rfl b2 0 rfl D (fun j v hj => by rw [Nat.zero_add]; simpa using hj) ?_)
    | (refine storeV (vs := Dd.vs ⟨kind, h.for_, h.number, h.block, 0, 0⟩) (by kernel_rfl) (Dd.one _) rfl (.tmp 4) (.tmp 44) rfl rb rfl rfl R rfl ?_; intro W3 R3 kk))
  refine bodyPost_ret (resD (d := ⟨kind, h.for_, h.number, h.block, 0, 0⟩) 4 rfl rfl R3) rfl ?_
  exact ⟨rfl, by rw [hh1.out]; exact z.trans (kk.below hz3 (by have := z.size; have := hh1.out; omega))⟩

theorem iDeed (h : Hd) (kind : Int) (w : World) :
    Calls Tryz.prog 112 #[.agg h.ar, .int .i64 kind] w fun e w' => e = .returned (.agg (h.told kind).vs.toArray) ∧ Below w.heap.size w w' := by
  unfold Hd.told
  by_cases c1 : h.code = 1
  · rw [if_pos c1]
    by_cases k3 : kind = 3
    · subst k3; exact deed_1_3 h c1 w
    by_cases k5 : kind = 5
    · subst k5; exact deed_1_5 h c1 w
    by_cases k4 : kind = 4
    · subst k4; exact deed_1_4 h c1 w
    by_cases k6 : kind = 6
    · subst k6; exact deed_1_6 h c1 w
    by_cases k7 : kind = 7
    · subst k7; exact deed_1_7 h c1 w
    rw [if_neg k7, if_neg k3, if_neg k5, if_neg k4, if_neg k6, if_neg k7]
    exact deed_1_n h kind k3 k4 k5 k6 k7 c1 w
  · rw [if_neg c1]
    by_cases c13 : h.code = 13
    · rw [if_pos c13]
      by_cases k3 : kind = 3
      · subst k3; exact deed_13_3 h c13 w
      by_cases k5 : kind = 5
      · subst k5; exact deed_13_5 h c13 w
      by_cases k4 : kind = 4
      · subst k4; exact deed_13_4 h c13 w
      by_cases k6 : kind = 6
      · subst k6; exact deed_13_6 h c13 w
      by_cases k7 : kind = 7
      · subst k7; exact deed_13_7 h c13 w
      rw [if_neg k7, if_neg k3, if_neg k5, if_neg k4, if_neg k6, if_neg k7]
      exact deed_13_n h kind k3 k4 k5 k6 k7 c13 w
    · rw [if_neg c13]
      by_cases k3 : kind = 3
      · subst k3; exact deed_n_3 h c1 c13 w
      by_cases k5 : kind = 5
      · subst k5; exact deed_n_5 h c1 c13 w
      by_cases k4 : kind = 4
      · subst k4; exact deed_n_4 h c1 c13 w
      by_cases k6 : kind = 6
      · subst k6; exact deed_n_6 h c1 c13 w
      by_cases k7 : kind = 7
      · subst k7; exact deed_n_7 h c1 c13 w
      rw [if_neg k7, if_neg k3, if_neg k5, if_neg k4, if_neg k6, if_neg k7]
      exact deed_n_n h kind k3 k4 k5 k6 k7 c1 c13 w
end Go.Proofs.YtljpkgloegafnaaGreat
namespace Go.Proofs.YtljpkgloegafnaaGreat
open Go.RowKit
set_option maxRecDepth 100000
set_option linter.unusedVariables false
set_option linter.unusedSimpArgs false
def I8.getR (st : I8) (a : Int) : I8 := if st.k ≤ st.h.kept then st.rep 8 0 else st.to a
set_option maxHeartbeats 1000000 in
theorem iOpenGet (B q : Nat) (st : I8) (a : Int) (w : World) (S : IAt w B q st) :
    Calls Tryz.prog 105 #[.pointer (some ⟨q, 0, none⟩), .int .i64 a] w (Ends B q st.pv w (some (st.getR a))) := by
  have A := S.is
  have Bl := S.bl
  have qB : B ≤ q := S.qB
  have l1 : ∀ w', Cls w w' → (loadVar 2 ⟨q, 33, none⟩).run Tryz.prog w' = .ok (.int .i64 st.h.kept) w' := ld_i A Tryz.underlying2 rfl
  have l2 : ∀ w', Cls w w' → (loadVar 2 ⟨q, 4, none⟩).run Tryz.prog w' = .ok (.int .i64 st.k) w' := ld_i A Tryz.underlying2 rfl
  clear A
  unfold I8.getR
  by_cases hk : st.k ≤ st.h.kept
  · rw [if_pos hk]
    unfold Ends
    go_enter Tryz.func105, Tryz.ntmps105
    go_upto_region 0 with fail
    refine wp_region_cls (by kernel_rfl) (by kernel_rfl) ?_
    repeat' (first
      | go_big_quiet_skip
      | (go_big_quiet_want; first
        | (refine q_load _ _ _ _ rfl rfl (by assumption) ?_; simp only [Act.put, List.setIfInBounds_toArray, List.set_cons_zero, List.set_cons_succ]; go_big_quiet_on)
        | (go_big_quiet_op; first
          | go_big_quiet_on
          | (refine ⟨_, fun _ _ => rfl, ?_⟩; go_big_quiet_on))))
    refine wpQuiet_nil ?_
    intro w2 hw2
    go_wp2_with (go_at_call 77; refine (iReply B q st _ _ _ (S.keep hw2.below)).mono ?_; rintro e w3 ⟨rfl, S3, z3⟩)
    first | go_end0 | refine bodyPost_ret (results_none rfl _ _ _) rfl ?_
    exact ⟨rfl, S3, (Kq.of_below hw2.below).trans z3⟩
  · rw [if_neg hk]
    unfold Ends
    go_enter Tryz.func105, Tryz.ntmps105
    go_upto_region 0 with fail
    refine wp_region_cls (by kernel_rfl) (by kernel_rfl) ?_
    repeat' (first
      | go_big_quiet_skip
      | (go_big_quiet_want; first
        | (refine q_load _ _ _ _ rfl rfl (by assumption) ?_; simp only [Act.put, List.setIfInBounds_toArray, List.set_cons_zero, List.set_cons_succ]; go_big_quiet_on)
        | (go_big_quiet_op; first
          | go_big_quiet_on
          | (refine ⟨_, fun _ _ => rfl, ?_⟩; go_big_quiet_on))))
    refine wpQuiet_nil ?_
    intro w2 hw2
    have S3 := S.keep hw2.below
    have c12 : w2.cell? ⟨q, 12, none⟩ = some (.int .i64 st.h.at_) := S3.is.cell 12
    have f12 := S3.fz 12
    go_wp2
    first | go_end0 | refine bodyPost_ret (results_none rfl _ _ _) rfl ?_
    exact ⟨rfl, S3.to _, stB (Kq.of_below hw2.below) qB _ _⟩
/-- Last and Number of a new call. -/
def I8.numb (st : I8) : I8 := { st with h := { st.h with last := wrap64 (st.h.last + 1), number := wrap64 (st.h.last + 1) } }
/-- What AtOpen does behind its write. -/
def I8.openR (t : I8) : Option I8 :=
  if t.h.code = 2 then some (t.to 9) else if t.h.code = 6 then some (t.to 9) else if t.h.code = 8 then some (t.to 9) else
  if t.h.code = 3 then some (t.to 14) else if t.h.code = 4 then some (t.to 14) else if t.h.code = 5 then some (t.to 14) else
  if t.h.code = 7 then some (t.getR 25) else if t.h.code = 9 then some (t.getR 41) else if t.h.code = 10 then some (t.to 49) else if t.h.code = 11 then some (t.to 49) else
  if t.h.code = 12 then some { t with h := { t.h with kept := 0, index := 1, at_ := 69 } } else
  if t.h.code = 13 then some { t with h := { t.h with for_ := t.h.a, mine := t.h.last, at_ := 52 } } else
  if t.h.code = 14 then some (t.to 51) else none
def I8.openO (st : I8) : Option I8 := (st.numb.wrO (st.numb.slot 1) st.numb.h.code 0 st.numb.h.a st.numb.h.number).bind I8.openR
set_option maxHeartbeats 4000000 in
theorem iOpen (B q : Nat) (st : I8) (w : World) (S : IAt w B q st) (hn : st.n ≤ 16777216) :
    Calls Tryz.prog 53 #[.pointer (some ⟨q, 0, none⟩)] w (Ends B q st.pv w st.openO) := by
  have Bl := S.bl
  have qB : B ≤ q := S.qB
  have c19 : w.cell? ⟨q, 19, none⟩ = some (.int .i64 st.h.last) := S.is.cell 19
  have f19 := S.fz 19
  have c17 : w.cell? ⟨q, 17, none⟩ = some (.int .i64 st.h.number) := S.is.cell 17
  have f17 := S.fz 17
  have S0 : IAt ((w.setCell ⟨q, 19, none⟩ (.int .i64 (wrap64 (st.h.last + 1)))).setCell ⟨q, 17, none⟩ (.int .i64 (wrap64 (st.h.last + 1)))) B q st.numb :=
    (S.put (st' := { st with h := { st.h with last := wrap64 (st.h.last + 1) } }) 19 _ (by omega) rfl rfl rfl).put 17 _ (by omega) rfl rfl rfl
  have z0 := stB (stB (Kq.refl q st.pv w) qB 19 (.int .i64 (wrap64 (st.h.last + 1)))) qB 17 (.int .i64 (wrap64 (st.h.last + 1)))
  have hpv : Hid (st.numb.pv = st.pv) := rfl
  have hn0 : st.numb.n ≤ 16777216 := hn
  unfold I8.openO
  cases hr : st.numb.wrO (st.numb.slot 1) st.numb.h.code 0 st.numb.h.a st.numb.h.number with
  | none =>
    show Calls _ _ _ _ (Ends B q st.pv w none)
    unfold Ends
    go_enter Tryz.func53, Tryz.ntmps53
    go_upto_region 3 with fail
    change Code.wp _ _ _ _ ((w.setCell ⟨q, 19, none⟩ (.int .i64 (wrap64 (st.h.last + 1)))).setCell ⟨q, 17, none⟩ (.int .i64 (wrap64 (st.h.last + 1))))
    clear c19 f19 c17 f17 S
    generalize (w.setCell ⟨q, 19, none⟩ (.int .i64 (wrap64 (st.h.last + 1)))).setCell ⟨q, 17, none⟩ (.int .i64 (wrap64 (st.h.last + 1))) = w1 at *
    clear hn
    generalize st.numb = st at *
    have S := S0
    have hn := hn0
    have A := S.is
    have Bl1 := S.bl
    have l1 : ∀ w', Cls w1 w' → (loadVar 2 ⟨q, 13, none⟩).run Tryz.prog w' = .ok (.int .i64 st.h.code) w' := ld_i A Tryz.underlying2 rfl
    have l2 : ∀ w', Cls w1 w' → (loadVar 2 ⟨q, 14, none⟩).run Tryz.prog w' = .ok (.int .i64 st.h.a) w' := ld_i A Tryz.underlying2 rfl
    have l3 : ∀ w', Cls w1 w' → (loadVar 2 ⟨q, 17, none⟩).run Tryz.prog w' = .ok (.int .i64 st.h.number) w' := ld_i A Tryz.underlying2 rfl
    clear A
    refine wp_region_bar (C := Cls w1) rfl rfl (by kernel_rfl) (by kernel_rfl) ⟨(Below.refl _ _).drew⟩ ?_
    simp only [List.dropLast]
    repeat' (first
      | go_big_quiet_skip
      | (go_big_quiet_want; first
        | (refine q_load _ _ _ _ rfl rfl (by assumption) ?_; simp only [Act.put, List.setIfInBounds_toArray, List.set_cons_zero, List.set_cons_succ]; go_big_quiet_on)
        | (go_big_quiet_op; first
          | go_big_quiet_on
          | (refine ⟨_, fun _ _ => rfl, ?_⟩; go_big_quiet_on)
          | (apply Exists.intro; refine ⟨fun w' hw' => ?_, ?_⟩
             · (first
               | (go_at_call 57; exact cls_below hw' (iFieldAt B q st _ _ (S.keep hw'.below))))
             go_big_quiet_on))))
    refine wpQuiet_nil ?_
    intro w2 hw2
    go_wp2_with (go_at_call 56; refine (iStWrite B q st _ _ _ _ _ _ (S.keep hw2.below) hn).mono ?_; intro e w3 hE; rw [hr] at hE; obtain ⟨rfl, z3⟩ := hE; rw [hpv.out] at z3)
    exact ⟨rfl, rfl, (z0.trans (Kq.of_below hw2.below)).trans z3⟩
  | some t =>
    show Calls _ _ _ _ (Ends B q st.pv w t.openR)
    go_enter Tryz.func53, Tryz.ntmps53
    go_upto_region 3 with fail
    change Code.wp _ _ _ _ ((w.setCell ⟨q, 19, none⟩ (.int .i64 (wrap64 (st.h.last + 1)))).setCell ⟨q, 17, none⟩ (.int .i64 (wrap64 (st.h.last + 1))))
    clear c19 f19 c17 f17 S
    generalize (w.setCell ⟨q, 19, none⟩ (.int .i64 (wrap64 (st.h.last + 1)))).setCell ⟨q, 17, none⟩ (.int .i64 (wrap64 (st.h.last + 1))) = w1 at *
    clear hn
    generalize st.numb = st at *
    have S := S0
    have hn := hn0
    have A := S.is
    have Bl1 := S.bl
    have l1 : ∀ w', Cls w1 w' → (loadVar 2 ⟨q, 13, none⟩).run Tryz.prog w' = .ok (.int .i64 st.h.code) w' := ld_i A Tryz.underlying2 rfl
    have l2 : ∀ w', Cls w1 w' → (loadVar 2 ⟨q, 14, none⟩).run Tryz.prog w' = .ok (.int .i64 st.h.a) w' := ld_i A Tryz.underlying2 rfl
    have l3 : ∀ w', Cls w1 w' → (loadVar 2 ⟨q, 17, none⟩).run Tryz.prog w' = .ok (.int .i64 st.h.number) w' := ld_i A Tryz.underlying2 rfl
    clear A
    refine wp_region_bar (C := Cls w1) rfl rfl (by kernel_rfl) (by kernel_rfl) ⟨(Below.refl _ _).drew⟩ ?_
    simp only [List.dropLast]
    repeat' (first
      | go_big_quiet_skip
      | (go_big_quiet_want; first
        | (refine q_load _ _ _ _ rfl rfl (by assumption) ?_; simp only [Act.put, List.setIfInBounds_toArray, List.set_cons_zero, List.set_cons_succ]; go_big_quiet_on)
        | (go_big_quiet_op; first
          | go_big_quiet_on
          | (refine ⟨_, fun _ _ => rfl, ?_⟩; go_big_quiet_on)
          | (apply Exists.intro; refine ⟨fun w' hw' => ?_, ?_⟩
             · (first
               | (go_at_call 57; exact cls_below hw' (iFieldAt B q st _ _ (S.keep hw'.below))))
             go_big_quiet_on))))
    refine wpQuiet_nil ?_
    intro w2 hw2
    go_upto_region 4 with (go_at_call 56; refine (iStWrite B q st _ _ _ _ _ _ (S.keep hw2.below) hn).mono ?_; intro e w3 hE; rw [hr] at hE; obtain ⟨rfl, S3, z3⟩ := hE; rw [hpv.out] at z3)
    replace z3 := (z0.trans (Kq.of_below hw2.below)).trans z3
    have hpt := (I8.wrO_pv hr).trans hpv.out
    clear z0 S0 hn0 hr S hn Bl1 l1 l2 l3 hw2
    have c13 : w3.cell? ⟨q, 13, none⟩ = some (.int .i64 t.h.code) := S3.is.cell 13
    have c12 : w3.cell? ⟨q, 12, none⟩ = some (.int .i64 t.h.at_) := S3.is.cell 12
    have f12 := S3.fz 12
    by_cases k2 : t.h.code = 2
    · rw [k2] at c13
      have hO : Hid (t.openR = some (t.to 9)) := by unfold Hid; unfold I8.openR; rw [if_pos k2]
      go_wp2
      first | go_end0 | refine bodyPost_ret (results_none rfl _ _ _) rfl ?_
      rw [hO.out]
      exact ⟨rfl, S3.to _, stB z3 qB _ _⟩
    by_cases k6 : t.h.code = 6
    · rw [k6] at c13
      have hO : Hid (t.openR = some (t.to 9)) := by unfold Hid; unfold I8.openR; rw [if_neg k2, if_pos k6]
      go_wp2
      first | go_end0 | refine bodyPost_ret (results_none rfl _ _ _) rfl ?_
      rw [hO.out]
      exact ⟨rfl, S3.to _, stB z3 qB _ _⟩
    by_cases k8 : t.h.code = 8
    · rw [k8] at c13
      have hO : Hid (t.openR = some (t.to 9)) := by unfold Hid; unfold I8.openR; rw [if_neg k2, if_neg k6, if_pos k8]
      go_wp2
      first | go_end0 | refine bodyPost_ret (results_none rfl _ _ _) rfl ?_
      rw [hO.out]
      exact ⟨rfl, S3.to _, stB z3 qB _ _⟩
    by_cases k3 : t.h.code = 3
    · rw [k3] at c13
      have hO : Hid (t.openR = some (t.to 14)) := by unfold Hid; unfold I8.openR; rw [if_neg k2, if_neg k6, if_neg k8, if_pos k3]
      go_wp2
      first | go_end0 | refine bodyPost_ret (results_none rfl _ _ _) rfl ?_
      rw [hO.out]
      exact ⟨rfl, S3.to _, stB z3 qB _ _⟩
    by_cases k4 : t.h.code = 4
    · rw [k4] at c13
      have hO : Hid (t.openR = some (t.to 14)) := by unfold Hid; unfold I8.openR; rw [if_neg k2, if_neg k6, if_neg k8, if_neg k3, if_pos k4]
      go_wp2
      first | go_end0 | refine bodyPost_ret (results_none rfl _ _ _) rfl ?_
      rw [hO.out]
      exact ⟨rfl, S3.to _, stB z3 qB _ _⟩
    by_cases k5 : t.h.code = 5
    · rw [k5] at c13
      have hO : Hid (t.openR = some (t.to 14)) := by unfold Hid; unfold I8.openR; rw [if_neg k2, if_neg k6, if_neg k8, if_neg k3, if_neg k4, if_pos k5]
      go_wp2
      first | go_end0 | refine bodyPost_ret (results_none rfl _ _ _) rfl ?_
      rw [hO.out]
      exact ⟨rfl, S3.to _, stB z3 qB _ _⟩
    by_cases k7 : t.h.code = 7
    · rw [k7] at c13
      have hO : Hid (t.openR = some (t.getR 25)) := by unfold Hid; unfold I8.openR; rw [if_neg k2, if_neg k6, if_neg k8, if_neg k3, if_neg k4, if_neg k5, if_pos k7]
      go_wp2_with (go_at_call 105; refine (iOpenGet B q t _ _ S3).mono ?_; rintro e w4 ⟨rfl, S4, z4⟩; rw [hpt] at z4)
      first | go_end0 | refine bodyPost_ret (results_none rfl _ _ _) rfl ?_
      rw [hO.out]
      exact ⟨rfl, S4, z3.trans z4⟩
    by_cases k9 : t.h.code = 9
    · rw [k9] at c13
      have hO : Hid (t.openR = some (t.getR 41)) := by unfold Hid; unfold I8.openR; rw [if_neg k2, if_neg k6, if_neg k8, if_neg k3, if_neg k4, if_neg k5, if_neg k7, if_pos k9]
      go_wp2_with (go_at_call 105; refine (iOpenGet B q t _ _ S3).mono ?_; rintro e w4 ⟨rfl, S4, z4⟩; rw [hpt] at z4)
      first | go_end0 | refine bodyPost_ret (results_none rfl _ _ _) rfl ?_
      rw [hO.out]
      exact ⟨rfl, S4, z3.trans z4⟩
    by_cases k10 : t.h.code = 10
    · rw [k10] at c13
      have hO : Hid (t.openR = some (t.to 49)) := by unfold Hid; unfold I8.openR; rw [if_neg k2, if_neg k6, if_neg k8, if_neg k3, if_neg k4, if_neg k5, if_neg k7, if_neg k9, if_pos k10]
      go_wp2
      first | go_end0 | refine bodyPost_ret (results_none rfl _ _ _) rfl ?_
      rw [hO.out]
      exact ⟨rfl, S3.to _, stB z3 qB _ _⟩
    by_cases k11 : t.h.code = 11
    · rw [k11] at c13
      have hO : Hid (t.openR = some (t.to 49)) := by unfold Hid; unfold I8.openR; rw [if_neg k2, if_neg k6, if_neg k8, if_neg k3, if_neg k4, if_neg k5, if_neg k7, if_neg k9, if_neg k10, if_pos k11]
      go_wp2
      first | go_end0 | refine bodyPost_ret (results_none rfl _ _ _) rfl ?_
      rw [hO.out]
      exact ⟨rfl, S3.to _, stB z3 qB _ _⟩
    by_cases k12 : t.h.code = 12
    · rw [k12] at c13
      have hO : Hid (t.openR = some { t with h := { t.h with kept := 0, index := 1, at_ := 69 } }) := by unfold Hid; unfold I8.openR; rw [if_neg k2, if_neg k6, if_neg k8, if_neg k3, if_neg k4, if_neg k5, if_neg k7, if_neg k9, if_neg k10, if_neg k11, if_pos k12]
      have c33 : w3.cell? ⟨q, 33, none⟩ = some (.int .i64 t.h.kept) := S3.is.cell 33
      have f33 := S3.fz 33
      have c31 : w3.cell? ⟨q, 31, none⟩ = some (.int .i64 t.h.index) := S3.is.cell 31
      have f31 := S3.fz 31
      have FIN : Hid (IAt (((w3.setCell ⟨q, 33, none⟩ (.int .i64 0)).setCell ⟨q, 31, none⟩ (.int .i64 1)).setCell ⟨q, 12, none⟩ (.int .i64 69)) B q { t with h := { t.h with kept := 0, index := 1, at_ := 69 } }) :=
        ((S3.put (st' := { t with h := { t.h with kept := 0 } }) 33 _ (by omega) rfl rfl rfl).put (st' := { t with h := { t.h with kept := 0, index := 1 } }) 31 _ (by omega) rfl rfl rfl).put 12 _ (by omega) rfl rfl rfl
      go_wp2
      first | go_end0 | refine bodyPost_ret (results_none rfl _ _ _) rfl ?_
      rw [hO.out]
      exact ⟨rfl, FIN.out, stB (stB (stB z3 qB _ _) qB _ _) qB _ _⟩
    by_cases k13 : t.h.code = 13
    · rw [k13] at c13
      have hO : Hid (t.openR = some { t with h := { t.h with for_ := t.h.a, mine := t.h.last, at_ := 52 } }) := by unfold Hid; unfold I8.openR; rw [if_neg k2, if_neg k6, if_neg k8, if_neg k3, if_neg k4, if_neg k5, if_neg k7, if_neg k9, if_neg k10, if_neg k11, if_neg k12, if_pos k13]
      have c14 : w3.cell? ⟨q, 14, none⟩ = some (.int .i64 t.h.a) := S3.is.cell 14
      have c19 : w3.cell? ⟨q, 19, none⟩ = some (.int .i64 t.h.last) := S3.is.cell 19
      have c18 : w3.cell? ⟨q, 18, none⟩ = some (.int .i64 t.h.for_) := S3.is.cell 18
      have f18 := S3.fz 18
      have c20 : w3.cell? ⟨q, 20, none⟩ = some (.int .i64 t.h.mine) := S3.is.cell 20
      have f20 := S3.fz 20
      have SD := S3.keep (Below.refl _ w3).drew
      have zD := z3.drew
      go_upto_region 24 with fail
      go_region_held3 (fun w' => w'.cell? ⟨q, 14, none⟩ = some (.int .i64 t.h.a) ∧ w'.cell? ⟨q, 19, none⟩ = some (.int .i64 t.h.last)) (simp [*, World.cell?_setCell_other]) (fail)
      all_goals go_wp2
      all_goals (first | go_end0 | refine bodyPost_ret (results_none rfl _ _ _) rfl ?_)
      all_goals rw [hO.out]
      all_goals refine ⟨rfl, ?_, stB (stB (stB zD qB _ _) qB _ _) qB _ _⟩
      all_goals first
        | exact ((SD.put (st' := { t with h := { t.h with for_ := t.h.a } }) 18 _ (by omega) rfl rfl rfl).put (st' := { t with h := { t.h with for_ := t.h.a, mine := t.h.last } }) 20 _ (by omega) rfl rfl rfl).put 12 _ (by omega) rfl rfl rfl
        | exact ((SD.put (st' := { t with h := { t.h with for_ := t.h.a } }) 18 _ (by omega) rfl rfl rfl).put (st' := { t with h := { t.h with for_ := t.h.a, at_ := 52 } }) 12 _ (by omega) rfl rfl rfl).put 20 _ (by omega) rfl rfl rfl
        | exact ((SD.put (st' := { t with h := { t.h with mine := t.h.last } }) 20 _ (by omega) rfl rfl rfl).put (st' := { t with h := { t.h with for_ := t.h.a, mine := t.h.last } }) 18 _ (by omega) rfl rfl rfl).put 12 _ (by omega) rfl rfl rfl
        | exact ((SD.put (st' := { t with h := { t.h with mine := t.h.last } }) 20 _ (by omega) rfl rfl rfl).put (st' := { t with h := { t.h with mine := t.h.last, at_ := 52 } }) 12 _ (by omega) rfl rfl rfl).put 18 _ (by omega) rfl rfl rfl
        | exact ((SD.put (st' := { t with h := { t.h with at_ := 52 } }) 12 _ (by omega) rfl rfl rfl).put (st' := { t with h := { t.h with for_ := t.h.a, at_ := 52 } }) 18 _ (by omega) rfl rfl rfl).put 20 _ (by omega) rfl rfl rfl
        | exact ((SD.put (st' := { t with h := { t.h with at_ := 52 } }) 12 _ (by omega) rfl rfl rfl).put (st' := { t with h := { t.h with mine := t.h.last, at_ := 52 } }) 20 _ (by omega) rfl rfl rfl).put 18 _ (by omega) rfl rfl rfl
    by_cases k14 : t.h.code = 14
    · rw [k14] at c13
      have hO : Hid (t.openR = some (t.to 51)) := by unfold Hid; unfold I8.openR; rw [if_neg k2, if_neg k6, if_neg k8, if_neg k3, if_neg k4, if_neg k5, if_neg k7, if_neg k9, if_neg k10, if_neg k11, if_neg k12, if_neg k13, if_pos k14]
      go_wp2
      first | go_end0 | refine bodyPost_ret (results_none rfl _ _ _) rfl ?_
      rw [hO.out]
      exact ⟨rfl, S3.to _, stB z3 qB _ _⟩
    have hO : Hid (t.openR = none) := by unfold Hid; unfold I8.openR; rw [if_neg k2, if_neg k6, if_neg k8, if_neg k3, if_neg k4, if_neg k5, if_neg k7, if_neg k9, if_neg k10, if_neg k11, if_neg k12, if_neg k13, if_neg k14]
    go_wp2_with (go_at_call 103; refine (iGiveUp _).mono ?_; rintro e w4 ⟨rfl, rfl⟩)
    refine ⟨rfl, ?_⟩
    rw [hO.out]
    exact ⟨rfl, z3⟩
end Go.Proofs.YtljpkgloegafnaaGreat
namespace Go.Proofs.YtljpkgloegafnaaGreat
open Go.RowKit
set_option maxRecDepth 100000
set_option linter.unusedVariables false
set_option linter.unusedSimpArgs false
theorem IAt.deed {w : World} {B q : Nat} {st : I8} (S : IAt w B q st) (d : Dd) : IAt (w.setCells q 43 d.vs) B q { st with d := d } :=
  (((((S.put (st' := { st with d := { st.d with kind := d.kind } }) 43 _ (by omega) rfl rfl rfl).put (st' := { st with d := { st.d with kind := d.kind, slot := d.slot } }) 44 _ (by omega) rfl rfl rfl).put (st' := { st with d := { st.d with kind := d.kind, slot := d.slot, number := d.number } }) 45 _ (by omega) rfl rfl rfl).put (st' := { st with d := { st.d with kind := d.kind, slot := d.slot, number := d.number, item := d.item } }) 46 _ (by omega) rfl rfl rfl).put (st' := { st with d := { st.d with kind := d.kind, slot := d.slot, number := d.number, item := d.item, value := d.value } }) 47 _ (by omega) rfl rfl rfl).put (st' := { st with d := d }) 48 _ (by omega) rfl rfl rfl
theorem storeI {ops : Array Oper} {rest : List Oper} {op : Oper} {a : Act} {w : World} {Q : Exit → Act → World → Prop} (hgd : op.guard = none) (x y : Operand) (ho : op.op = .store 30 x y)
    (B q : Nat) (st : I8) (d : Dd) (hx : a.eval x = .pointer (some ⟨q, 43, none⟩)) (hy : a.eval y = .agg d.vs.toArray) (S : IAt w B q st)
    (h : ∀ w', IAt w' B q { st with d := d } → (∀ a0 pv, Kq q pv a0 w → Kq q pv a0 w') → wpList Tryz.prog ops Q rest (a.put op.dst undef) w') : wpList Tryz.prog ops Q (op :: rest) a w :=
  wpList_store_mid hgd 30 x y ho q 43 d.vs.toArray hx hy (S.is.there 43 6 (by show 49 ≤ 49; omega)) (by kernel_rfl) (all_oneCell_toArray d.one) (h _ (S.deed d) (fun a0 pv hb => Kq.sets d.vs 43 w hb))
def I8.turned (st : I8) : I8 := { st with xs := swapped st.xs st.h.addr st.h.seen st.h.put }
/-- A swap; where it is done, its deed. -/
def I8.swapO (st : I8) : I8 := if swaps st.xs st.h.addr st.h.seen = true then (if st.h.does = 0 then st.turned.to st.h.good else I8.to { st.turned with d := st.h.told st.h.does } st.h.good) else st.turned.to st.h.bad
set_option maxHeartbeats 4000000 in
theorem iSwap8 (B q : Nat) (st : I8) (w : World) (S : IAt w B q st) (hn : st.n ≤ 16777216) :
    Calls Tryz.prog 60 #[.pointer (some ⟨q, 0, none⟩)] w (Ends B q st.pv w (some st.swapO)) := by
  have A := S.is
  have Bl := S.bl
  have qB : B ≤ q := S.qB
  have l1 : ∀ w', Cls w w' → (loadVar 2 ⟨q, 21, none⟩).run Tryz.prog w' = .ok (.int .i64 st.h.addr) w' := ld_i A Tryz.underlying2 rfl
  have l2 : ∀ w', Cls w w' → (loadVar 25 ⟨q, 22, none⟩).run Tryz.prog w' = .ok (.int .u64 st.h.seen) w' := ld_i A Tryz.underlying25 rfl
  have l3 : ∀ w', Cls w w' → (loadVar 25 ⟨q, 23, none⟩).run Tryz.prog w' = .ok (.int .u64 st.h.put) w' := ld_i A Tryz.underlying25 rfl
  clear A
  unfold I8.swapO
  unfold Ends
  have Sw : Hid (∀ w2, Cls w w2 → Calls Tryz.prog 111 #[.pointer (some ⟨q, 5, none⟩), .int .i64 st.h.addr, .int .u64 st.h.seen, .int .u64 st.h.put] w2 fun e w' => e = .returned (.bool (swaps st.xs st.h.addr st.h.seen)) ∧ IAt w' B q st.turned ∧ Kq q st.pv w2 w') := fun w2 hw2 =>
    ioSwap B q 5 st.n st.xs st.h.addr st.h.seen st.h.put w2 st.ar _ (S.keep hw2.below) hn st.pv rfl
  have cb : st.turned.h.bad = st.h.bad := rfl
  have cg : st.turned.h.good = st.h.good := rfl
  have cd : st.turned.h.does = st.h.does := rfl
  have chh : st.turned.h = st.h := rfl
  generalize st.turned = t at *
  cases hsw : swaps st.xs st.h.addr st.h.seen
  · rw [if_neg (by decide)]
    go_enter Tryz.func60, Tryz.ntmps60
    go_upto_region 1 with fail
    refine wp_region_bar2 (C := Cls w) rfl rfl rfl (by kernel_rfl) (by kernel_rfl) ⟨(Below.refl _ _).drew⟩ ?_
    simp only [List.dropLast]
    repeat' (first
      | go_big_quiet_skip
      | (go_big_quiet_want; first
        | (refine q_load _ _ _ _ rfl rfl (by assumption) ?_; simp only [Act.put, List.setIfInBounds_toArray, List.set_cons_zero, List.set_cons_succ]; go_big_quiet_on)
        | (go_big_quiet_op; first
          | go_big_quiet_on
          | (refine ⟨_, fun _ _ => rfl, ?_⟩; go_big_quiet_on))))
    refine wpQuiet_nil ?_
    intro w2 hw2
    go_upto_region 2 with (go_at_call 111; refine (Sw.out _ hw2).mono ?_; rintro e w3 ⟨rfl, S3, z3⟩; rw [hsw])
    replace z3 := (Kq.of_below hw2.below).trans z3
    have c25 : w3.cell? ⟨q, 25, none⟩ = some (.int .i64 t.h.bad) := S3.is.cell 25
    rw [cb] at c25
    have c12 : w3.cell? ⟨q, 12, none⟩ = some (.int .i64 t.h.at_) := S3.is.cell 12
    have f12 := S3.fz 12
    go_wp2
    first | go_end0 | refine bodyPost_ret (results_none rfl _ _ _) rfl ?_
    exact ⟨rfl, S3.to _, stB z3 qB _ _⟩
  · rw [if_pos rfl]
    by_cases hd : st.h.does = 0
    · rw [if_pos hd]
      go_enter Tryz.func60, Tryz.ntmps60
      go_upto_region 1 with fail
      refine wp_region_bar2 (C := Cls w) rfl rfl rfl (by kernel_rfl) (by kernel_rfl) ⟨(Below.refl _ _).drew⟩ ?_
      simp only [List.dropLast]
      repeat' (first
        | go_big_quiet_skip
        | (go_big_quiet_want; first
          | (refine q_load _ _ _ _ rfl rfl (by assumption) ?_; simp only [Act.put, List.setIfInBounds_toArray, List.set_cons_zero, List.set_cons_succ]; go_big_quiet_on)
          | (go_big_quiet_op; first
            | go_big_quiet_on
            | (refine ⟨_, fun _ _ => rfl, ?_⟩; go_big_quiet_on))))
      refine wpQuiet_nil ?_
      intro w2 hw2
      go_upto_region 3 with (go_at_call 111; refine (Sw.out _ hw2).mono ?_; rintro e w3 ⟨rfl, S3, z3⟩; rw [hsw])
      replace z3 := (Kq.of_below hw2.below).trans z3
      have c26 : w3.cell? ⟨q, 26, none⟩ = some (.int .i64 t.h.does) := S3.is.cell 26
      rw [cd, hd] at c26
      have c24 : w3.cell? ⟨q, 24, none⟩ = some (.int .i64 t.h.good) := S3.is.cell 24
      rw [cg] at c24
      have c12 : w3.cell? ⟨q, 12, none⟩ = some (.int .i64 t.h.at_) := S3.is.cell 12
      have f12 := S3.fz 12
      go_wp2
      first | go_end0 | refine bodyPost_ret (results_none rfl _ _ _) rfl ?_
      exact ⟨rfl, S3.to _, stB z3 qB _ _⟩
    · rw [if_neg hd]
      have hdb : (st.h.does == 0) = false := by simp [hd]
      go_enter Tryz.func60, Tryz.ntmps60
      go_upto_region 1 with fail
      refine wp_region_bar2 (C := Cls w) rfl rfl rfl (by kernel_rfl) (by kernel_rfl) ⟨(Below.refl _ _).drew⟩ ?_
      simp only [List.dropLast]
      repeat' (first
        | go_big_quiet_skip
        | (go_big_quiet_want; first
          | (refine q_load _ _ _ _ rfl rfl (by assumption) ?_; simp only [Act.put, List.setIfInBounds_toArray, List.set_cons_zero, List.set_cons_succ]; go_big_quiet_on)
          | (go_big_quiet_op; first
            | go_big_quiet_on
            | (refine ⟨_, fun _ _ => rfl, ?_⟩; go_big_quiet_on))))
      refine wpQuiet_nil ?_
      intro w2 hw2
      go_upto_region 3 with (go_at_call 111; refine (Sw.out _ hw2).mono ?_; rintro e w3 ⟨rfl, S3, z3⟩; rw [hsw])
      replace z3 := (Kq.of_below hw2.below).trans z3
      have c26 : w3.cell? ⟨q, 26, none⟩ = some (.int .i64 t.h.does) := S3.is.cell 26
      rw [cd] at c26
      go_upto_region 4 with fail
      have A := S3.is
      have lh : ∀ w', Cls w3 w' → (loadVar 28 ⟨q, 7, none⟩).run Tryz.prog w' = .ok (.agg st.h.ar) w' := by
        have := ld_sub (o := 7) A t.hl Tryz.underlying28 rfl infoH
        rw [chh] at this
        exact this
      have ld : ∀ w', Cls w3 w' → (loadVar 2 ⟨q, 26, none⟩).run Tryz.prog w' = .ok (.int .i64 st.h.does) w' := by
        have := ld_i (x := t.h.does) A Tryz.underlying2 (i := 26) rfl
        rw [cd] at this
        exact this
      clear A c26
      refine wp_region_bar (C := Cls w3) rfl rfl (by kernel_rfl) (by kernel_rfl) ⟨(Below.refl _ _).drew⟩ ?_
      simp only [List.dropLast]
      repeat' (first
        | go_big_quiet_skip
        | (go_big_quiet_want; first
          | (refine q_load _ _ _ _ rfl rfl (by assumption) ?_; simp only [Act.put, List.setIfInBounds_toArray, List.set_cons_zero, List.set_cons_succ]; go_big_quiet_on)
          | (go_big_quiet_op; first
            | go_big_quiet_on
            | (refine ⟨_, fun _ _ => rfl, ?_⟩; go_big_quiet_on)
            | (apply Exists.intro; refine ⟨fun w' hw' => ?_, ?_⟩
               · (first
                 | (go_at_call 112; exact cls_below hw' (iDeed _ _ _)))
               go_big_quiet_on))))
      refine wpQuiet_nil ?_
      intro w4 hw4
      go_upto_region 5 with (refine storeI rfl (.tmp 45) (.tmp 43) rfl B q t (st.h.told st.h.does) rfl rfl (S3.keep hw4.below) ?_; intro w5 S5 k5)
      replace z3 := k5 _ _ (z3.trans (Kq.of_below hw4.below))
      have c24 : w5.cell? ⟨q, 24, none⟩ = some (.int .i64 t.h.good) := S5.is.cell 24
      rw [cg] at c24
      have c12 : w5.cell? ⟨q, 12, none⟩ = some (.int .i64 t.h.at_) := S5.is.cell 12
      have f12 := S5.fz 12
      go_wp2
      first | go_end0 | refine bodyPost_ret (results_none rfl _ _ _) rfl ?_
      exact ⟨rfl, S5.to _, stB z3 qB _ _⟩
/-- The next thing of a step of this chapter. -/
def I8.next (st : I8) : Option I8 :=
  if st.h.at_ = 1 then st.openO else if st.h.at_ = 2 then st.sayO else if st.h.at_ = 3 then (st.intO 0 0).map fun t => t.to 4 else
  if st.h.at_ = 4 then (st.wrO (st.slot 5) 0 0 0 0).map fun t => t.to 5 else if st.h.at_ = 5 then (st.wrO (st.slot 6) 0 0 0 0).map fun t => t.to 0 else
  if st.h.at_ = 6 then st.noteO else if st.h.at_ = 7 then st.markO else some st.swapO
set_option maxHeartbeats 4000000 in
theorem iNext (B q : Nat) (st : I8) (w : World) (S : IAt w B q st) (hn : st.n ≤ 16777216) (hs : 0 ≤ st.h.seen ∧ st.h.seen ≤ 18446744073709551615) (hat : 1 ≤ st.h.at_ ∧ st.h.at_ ≤ 8) :
    Calls Tryz.prog 24 #[.pointer (some ⟨q, 0, none⟩)] w (Ends B q st.pv w st.next) := by
  have c12 : w.cell? ⟨q, 12, none⟩ = some (.int .i64 st.h.at_) := S.is.cell 12
  have Bl := S.bl
  have qB : B ≤ q := S.qB
  unfold I8.next
  by_cases k1 : st.h.at_ = 1
  · rw [k1] at c12
    rw [if_pos k1]
    cases hr : st.openO
    all_goals
      unfold Ends
      go_enter Tryz.func24, Tryz.ntmps24
    · go_wp2_with (go_at_call 53; refine (iOpen B q st _ S hn).mono ?_; intro e w3 hE; rw [hr] at hE; obtain ⟨rfl, z3⟩ := hE)
      exact ⟨rfl, rfl, z3⟩
    · go_wp2_with (go_at_call 53; refine (iOpen B q st _ S hn).mono ?_; intro e w3 hE; rw [hr] at hE; obtain ⟨rfl, S3, z3⟩ := hE)
      first | go_end0 | refine bodyPost_ret (results_none rfl _ _ _) rfl ?_
      exact ⟨rfl, S3, z3⟩
  rw [if_neg k1]
  by_cases k2 : st.h.at_ = 2
  · rw [k2] at c12
    rw [if_pos k2]
    cases hr : st.sayO
    all_goals
      unfold Ends
      go_enter Tryz.func24, Tryz.ntmps24
    · go_wp2_with (go_at_call 54; refine (iSay B q st _ S hn).mono ?_; intro e w3 hE; rw [hr] at hE; obtain ⟨rfl, z3⟩ := hE)
      exact ⟨rfl, rfl, z3⟩
    · go_wp2_with (go_at_call 54; refine (iSay B q st _ S hn).mono ?_; intro e w3 hE; rw [hr] at hE; obtain ⟨rfl, S3, z3⟩ := hE)
      first | go_end0 | refine bodyPost_ret (results_none rfl _ _ _) rfl ?_
      exact ⟨rfl, S3, z3⟩
  rw [if_neg k2]
  by_cases k3 : st.h.at_ = 3
  · rw [k3] at c12
    rw [if_pos k3]
    cases hr : st.intO 0 0 with
    | none =>
      show Calls _ _ _ _ (Ends B q st.pv w none)
      unfold Ends
      go_enter Tryz.func24, Tryz.ntmps24
      go_wp2_with (go_at_call 55; refine (iIntend B q st _ _ _ S hn).mono ?_; intro e w3 hE; rw [hr] at hE; obtain ⟨rfl, z3⟩ := hE)
      exact ⟨rfl, rfl, z3⟩
    | some t =>
      show Calls _ _ _ _ (Ends B q st.pv w (some (t.to 4)))
      unfold Ends
      go_enter Tryz.func24, Tryz.ntmps24
      go_wp2_with (go_at_call 55; refine (iIntend B q st _ _ _ S hn).mono ?_; intro e w3 hE; rw [hr] at hE; obtain ⟨rfl, S3, z3⟩ := hE; clear c12; have c12 : w3.cell? ⟨q, 12, none⟩ = some (.int .i64 t.h.at_) := S3.is.cell 12; have f12 := S3.fz 12)
      first | go_end0 | refine bodyPost_ret (results_none rfl _ _ _) rfl ?_
      exact ⟨rfl, S3.to _, stB z3 qB _ _⟩
  rw [if_neg k3]
  by_cases k4 : st.h.at_ = 4
  · rw [k4] at c12
    rw [if_pos k4]
    cases hr : st.wrO (st.slot 5) 0 0 0 0 with
    | none =>
      show Calls _ _ _ _ (Ends B q st.pv w none)
      unfold Ends
      go_enter Tryz.func24, Tryz.ntmps24
      go_wp2_with (first | (go_at_call 57; refine (iFieldAt B q st _ _ S).mono ?_; rintro e w2 ⟨rfl, hb⟩; replace S := S.keep hb; replace hb := Kq.of_below (q := q) (pv := st.pv) hb) | (go_at_call 56; refine (iStWrite B q st _ _ _ _ _ _ S hn).mono ?_; intro e w3 hE; rw [hr] at hE; obtain ⟨rfl, z3⟩ := hE; replace z3 := hb.trans z3))
      exact ⟨rfl, rfl, z3⟩
    | some t =>
      show Calls _ _ _ _ (Ends B q st.pv w (some (t.to 5)))
      unfold Ends
      go_enter Tryz.func24, Tryz.ntmps24
      go_wp2_with (first | (go_at_call 57; refine (iFieldAt B q st _ _ S).mono ?_; rintro e w2 ⟨rfl, hb⟩; replace S := S.keep hb; replace hb := Kq.of_below (q := q) (pv := st.pv) hb) | (go_at_call 56; refine (iStWrite B q st _ _ _ _ _ _ S hn).mono ?_; intro e w3 hE; rw [hr] at hE; obtain ⟨rfl, S3, z3⟩ := hE; replace z3 := hb.trans z3; clear c12; have c12 : w3.cell? ⟨q, 12, none⟩ = some (.int .i64 t.h.at_) := S3.is.cell 12; have f12 := S3.fz 12))
      first | go_end0 | refine bodyPost_ret (results_none rfl _ _ _) rfl ?_
      exact ⟨rfl, S3.to _, stB z3 qB _ _⟩
  rw [if_neg k4]
  by_cases k5 : st.h.at_ = 5
  · rw [k5] at c12
    rw [if_pos k5]
    cases hr : st.wrO (st.slot 6) 0 0 0 0 with
    | none =>
      show Calls _ _ _ _ (Ends B q st.pv w none)
      unfold Ends
      go_enter Tryz.func24, Tryz.ntmps24
      go_wp2_with (first | (go_at_call 57; refine (iFieldAt B q st _ _ S).mono ?_; rintro e w2 ⟨rfl, hb⟩; replace S := S.keep hb; replace hb := Kq.of_below (q := q) (pv := st.pv) hb) | (go_at_call 56; refine (iStWrite B q st _ _ _ _ _ _ S hn).mono ?_; intro e w3 hE; rw [hr] at hE; obtain ⟨rfl, z3⟩ := hE; replace z3 := hb.trans z3))
      exact ⟨rfl, rfl, z3⟩
    | some t =>
      show Calls _ _ _ _ (Ends B q st.pv w (some (t.to 0)))
      unfold Ends
      go_enter Tryz.func24, Tryz.ntmps24
      go_wp2_with (first | (go_at_call 57; refine (iFieldAt B q st _ _ S).mono ?_; rintro e w2 ⟨rfl, hb⟩; replace S := S.keep hb; replace hb := Kq.of_below (q := q) (pv := st.pv) hb) | (go_at_call 56; refine (iStWrite B q st _ _ _ _ _ _ S hn).mono ?_; intro e w3 hE; rw [hr] at hE; obtain ⟨rfl, S3, z3⟩ := hE; replace z3 := hb.trans z3; clear c12; have c12 : w3.cell? ⟨q, 12, none⟩ = some (.int .i64 t.h.at_) := S3.is.cell 12; have f12 := S3.fz 12))
      first | go_end0 | refine bodyPost_ret (results_none rfl _ _ _) rfl ?_
      exact ⟨rfl, S3.to _, stB z3 qB _ _⟩
  rw [if_neg k5]
  by_cases k6 : st.h.at_ = 6
  · rw [k6] at c12
    rw [if_pos k6]
    cases hr : st.noteO
    all_goals
      unfold Ends
      go_enter Tryz.func24, Tryz.ntmps24
    · go_wp2_with (go_at_call 58; refine (iNote8 B q st _ S hn hs).mono ?_; intro e w3 hE; rw [hr] at hE; obtain ⟨rfl, z3⟩ := hE)
      exact ⟨rfl, rfl, z3⟩
    · go_wp2_with (go_at_call 58; refine (iNote8 B q st _ S hn hs).mono ?_; intro e w3 hE; rw [hr] at hE; obtain ⟨rfl, S3, z3⟩ := hE)
      first | go_end0 | refine bodyPost_ret (results_none rfl _ _ _) rfl ?_
      exact ⟨rfl, S3, z3⟩
  rw [if_neg k6]
  by_cases k7 : st.h.at_ = 7
  · rw [k7] at c12
    rw [if_pos k7]
    cases hr : st.markO
    all_goals
      unfold Ends
      go_enter Tryz.func24, Tryz.ntmps24
    · go_wp2_with (go_at_call 59; refine (iMark B q st hs _ S hn).mono ?_; intro e w3 hE; rw [hr] at hE; obtain ⟨rfl, z3⟩ := hE)
      exact ⟨rfl, rfl, z3⟩
    · go_wp2_with (go_at_call 59; refine (iMark B q st hs _ S hn).mono ?_; intro e w3 hE; rw [hr] at hE; obtain ⟨rfl, S3, z3⟩ := hE)
      first | go_end0 | refine bodyPost_ret (results_none rfl _ _ _) rfl ?_
      exact ⟨rfl, S3, z3⟩
  rw [if_neg k7]
  have k8 : st.h.at_ = 8 := by omega
  rw [k8] at c12
  go_enter Tryz.func24, Tryz.ntmps24
  go_wp2_with (go_at_call 60; refine (iSwap8 B q st _ S hn).mono ?_; rintro e w3 ⟨rfl, S3, z3⟩)
  first | go_end0 | refine bodyPost_ret (results_none rfl _ _ _) rfl ?_
  exact ⟨rfl, S3, z3⟩
end Go.Proofs.YtljpkgloegafnaaGreat
