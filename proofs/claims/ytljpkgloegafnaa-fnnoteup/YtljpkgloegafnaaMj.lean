/-
  The program's step under way: what is read and written by it, or given up; a reply.
  The program's step under way: what AtSay, an intent, AtNote, AtMark and the gets of AtOpen do.
  The program's step: its end, and its face (what gave up is caught).
  The program's step: its face: what gave up is caught.
  The program's step: caught at its face.
  The program's step: how it begins.
-/
import Derived.Test.YtljpkgloegafnaaMi
import Derived.Recover
namespace Go.Proofs.Ytljpkgloegafnaa
open Go.RowKit
set_option maxRecDepth 100000
set_option linter.unusedVariables false
set_option linter.unusedSimpArgs false
/-- How a part of a step ends: it has made this of the step, or it has given up. -/
def Ends (B q : Nat) (pv : Value) (w : World) (r : Option I8) (e : Ending) (w' : World) : Prop :=
  match r with
  | some st => e = .returned (.tuple #[]) ∧ IAt w' B q st ∧ Kq q pv w w'
  | none => e = .panicked gu ∧ Kq q pv w w'
theorem IAt.bl {w : World} {B q : Nat} {st : I8} (h : IAt w B q st) : B ≤ w.heap.size := by
  have h1 := h.qB
  have h2 := h.lt
  omega
theorem IAt.fz {w : World} {B q : Nat} {st : I8} (h : IAt w B q st) (i : Nat) : w.frozen? ⟨q, i, none⟩ = false := h.is.frozen i
theorem iStReadY (B q : Nat) (st : I8) (a : Int) (w : World) (S : IAt w B q st) (hn : st.n ≤ 16777216) (ht : thr a st.n = true) :
    Calls Try.prog 79 #[.pointer (some ⟨q, 0, none⟩), .int .i64 a] w fun e w' => e = .returned (.int .u64 (red st.xs a)) ∧ w' = w := by
  obtain ⟨v, hv⟩ : ∃ v : Int, Hid (red st.xs a = v) := ⟨_, rfl⟩
  rw [hv.out]
  go_enter Try.func79, Try.ntmps79
  go_wp2_with (go_at_call 92; refine (ioRead B q 5 st.n st.xs _ _ st.ar _ S hn).mono ?_; rintro e w1 ⟨rfl, rfl⟩; rw [ht, hv.out])
  go_ret
  exact ⟨rfl, rfl⟩
theorem iStReadN (B q : Nat) (st : I8) (a : Int) (w : World) (S : IAt w B q st) (hn : st.n ≤ 16777216) (ht : thr a st.n = false) :
    Calls Try.prog 79 #[.pointer (some ⟨q, 0, none⟩), .int .i64 a] w fun e w' => e = .panicked gu ∧ w' = w := by
  obtain ⟨v, hv⟩ : ∃ v : Int, Hid (red st.xs a = v) := ⟨_, rfl⟩
  go_enter Try.func79, Try.ntmps79
  go_wp2_with (first
    | (go_at_call 92; refine (ioRead B q 5 st.n st.xs _ _ st.ar _ S hn).mono ?_; rintro e w1 ⟨rfl, rfl⟩; rw [ht, hv.out])
    | (go_at_call 73; refine (iGiveUp _).mono ?_; rintro e w1 ⟨rfl, rfl⟩))
  exact ⟨rfl, rfl, rfl⟩
/-- A word written at a place. -/
def I8.wrO (st : I8) (a k p i v : Int) : Option I8 := if wOk k p i v = true ∧ thr a st.n = true then some { st with xs := wrote st.xs a (pk k p i v) } else none
theorem iPackedY (k p i v : Int) (w : World) (h : wOk k p i v = true) :
    Calls Try.prog 77 #[.agg #[.int .i64 k, .int .i64 p, .int .i64 i, .int .i64 v]] w fun e w' => e = .returned (.int .u64 (pk k p i v)) ∧ Below w.heap.size w w' := by
  go_enter Try.func77, Try.ntmps77
  go_wp2_with (go_at_call 91; refine (iPackY _ _ _ _ _ h).mono ?_; rintro e w1 ⟨rfl, hb⟩)
  go_returns
  exact ⟨rfl, ((Below.refl w.heap.size w).alloc (Nat.le_refl _) _).trans (hb.mono (by simp))⟩
theorem iPackedN (k p i v : Int) (w : World) (h : wOk k p i v = false) :
    Calls Try.prog 77 #[.agg #[.int .i64 k, .int .i64 p, .int .i64 i, .int .i64 v]] w fun e w' => e = .panicked gu ∧ Below w.heap.size w w' := by
  go_enter Try.func77, Try.ntmps77
  go_wp2_with (first
    | (go_at_call 91; refine (iPackN _ _ _ _ _ h).mono ?_; rintro e w1 ⟨rfl, hb⟩)
    | (go_at_call 73; refine (iGiveUp _).mono ?_; rintro e w2 ⟨rfl, rfl⟩))
  exact ⟨rfl, rfl, ((Below.refl w.heap.size w).alloc (Nat.le_refl _) _).trans (hb.mono (by simp))⟩
set_option maxHeartbeats 2000000 in
theorem iStWrite (B q : Nat) (st : I8) (a k p i v : Int) (w : World) (S : IAt w B q st) (hn : st.n ≤ 16777216) :
    Calls Try.prog 54 #[.pointer (some ⟨q, 0, none⟩), .int .i64 a, .agg #[.int .i64 k, .int .i64 p, .int .i64 i, .int .i64 v]] w (Ends B q st.pv w (st.wrO a k p i v)) := by
  have Bl := S.bl
  cases ho : wOk k p i v
  · have e : st.wrO a k p i v = none := by unfold I8.wrO; rw [ho]; simp
    rw [e]
    unfold Ends
    go_enter Try.func54, Try.ntmps54
    go_upto_region 1 with fail
    refine wp_at (fun W => At W w.heap.size #[.int .i64 k, .int .i64 p, .int .i64 i, .int .i64 v] 37 ∧ IAt W B q st ∧ Below w.heap.size w W) ⟨by exact At.new w _ _, S.keep ((Below.refl _ _).alloc (Nat.le_refl _) _), (Below.refl _ _).alloc (Nat.le_refl _) _⟩ ?_
    clear S
    rintro w1 ⟨U, S, z⟩
    have lw : ∀ w', Cls w1 w' → (loadVar 37 ⟨w.heap.size, 0, none⟩).run Try.prog w' = .ok (.agg #[.int .i64 k, .int .i64 p, .int .i64 i, .int .i64 v]) w' := ld_agg (vs := [.int .i64 k, .int .i64 p, .int .i64 i, .int .i64 v]) U Try.underlying37 rfl (by kernel_rfl)
    clear U
    refine wp_region_dies (C := Cls w1) [0, 1, 2, 3, 4] 5 (by simp only [List.map_cons, List.map_nil, List.getD_cons_succ, List.getD_cons_zero]; rfl) (by kernel_rfl) rfl (by kernel_rfl) (by kernel_rfl) (by kernel_rfl) (by decide) ⟨(Below.refl _ _).drew⟩ (fun c a d v w h => by cases d <;> exact h) ?_
    repeat' (first
      | go_big_quiet_skip
      | (go_big_quiet_want; first
        | (refine q_load _ _ _ _ rfl rfl (by assumption) ?_; simp only [Act.put, List.setIfInBounds_toArray, List.set_cons_zero, List.set_cons_succ]; go_big_quiet_on)
        | (go_big_quiet_op; first
          | go_big_quiet_on
          | (refine ⟨_, fun _ _ => rfl, ?_⟩; go_big_quiet_on))))
    refine wpQuiet_nil ?_
    refine ⟨by rfl, fun w2 hw2 => ?_⟩
    go_simp
    go_at_call 77
    refine (iPackedN _ _ _ _ _ ho).mono ?_
    rintro e w3 ⟨rfl, hb⟩
    exact ⟨rfl, rfl, (Kq.of_below z).trans ((Kq.of_below hw2.below).trans (Kq.of_below hb))⟩
  · cases ht : thr a st.n
    · have e : st.wrO a k p i v = none := by unfold I8.wrO; rw [ht]; simp
      rw [e]
      unfold Ends
      go_enter Try.func54, Try.ntmps54
      go_upto_region 1 with fail
      refine wp_at (fun W => At W w.heap.size #[.int .i64 k, .int .i64 p, .int .i64 i, .int .i64 v] 37 ∧ IAt W B q st ∧ Below w.heap.size w W) ⟨by exact At.new w _ _, S.keep ((Below.refl _ _).alloc (Nat.le_refl _) _), (Below.refl _ _).alloc (Nat.le_refl _) _⟩ ?_
      clear S
      rintro w1 ⟨U, S, z⟩
      have lw : ∀ w', Cls w1 w' → (loadVar 37 ⟨w.heap.size, 0, none⟩).run Try.prog w' = .ok (.agg #[.int .i64 k, .int .i64 p, .int .i64 i, .int .i64 v]) w' := ld_agg (vs := [.int .i64 k, .int .i64 p, .int .i64 i, .int .i64 v]) U Try.underlying37 rfl (by kernel_rfl)
      clear U
      refine wp_region_bar2 (C := Cls w1) rfl rfl rfl (by kernel_rfl) (by kernel_rfl) ⟨(Below.refl _ _).drew⟩ ?_
      simp only [List.dropLast]
      repeat' (first
        | go_big_quiet_skip
        | (go_big_quiet_want; first
          | (refine q_load _ _ _ _ rfl rfl (by assumption) ?_; simp only [Act.put, List.setIfInBounds_toArray, List.set_cons_zero, List.set_cons_succ]; go_big_quiet_on)
          | (go_big_quiet_op; first
            | go_big_quiet_on
            | (refine ⟨_, fun _ _ => rfl, ?_⟩; go_big_quiet_on)
            | (apply Exists.intro; refine ⟨fun w' hw' => ?_, ?_⟩
               · (go_at_call 77; exact cls_below hw' (iPackedY _ _ _ _ _ ho))
               go_big_quiet_on))))
      refine wpQuiet_nil ?_
      intro w2 hw2
      go_wp2_with (first
        | (go_at_call 76; refine (ioWrite B q 5 st.n st.xs _ _ _ st.ar _ (S.keep hw2.below) hn st.pv rfl).mono ?_; rintro e w3 ⟨rfl, S2, z2⟩; rw [ht])
        | (go_at_call 73; refine (iGiveUp _).mono ?_; rintro e w4 ⟨rfl, rfl⟩))
      exact ⟨rfl, rfl, (Kq.of_below z).trans ((Kq.of_below hw2.below).trans z2)⟩
    · have e : st.wrO a k p i v = some { st with xs := wrote st.xs a (pk k p i v) } := by unfold I8.wrO; rw [if_pos ⟨ho, ht⟩]
      rw [e]
      unfold Ends
      go_enter Try.func54, Try.ntmps54
      go_upto_region 1 with fail
      refine wp_at (fun W => At W w.heap.size #[.int .i64 k, .int .i64 p, .int .i64 i, .int .i64 v] 37 ∧ IAt W B q st ∧ Below w.heap.size w W) ⟨by exact At.new w _ _, S.keep ((Below.refl _ _).alloc (Nat.le_refl _) _), (Below.refl _ _).alloc (Nat.le_refl _) _⟩ ?_
      clear S
      rintro w1 ⟨U, S, z⟩
      have lw : ∀ w', Cls w1 w' → (loadVar 37 ⟨w.heap.size, 0, none⟩).run Try.prog w' = .ok (.agg #[.int .i64 k, .int .i64 p, .int .i64 i, .int .i64 v]) w' := ld_agg (vs := [.int .i64 k, .int .i64 p, .int .i64 i, .int .i64 v]) U Try.underlying37 rfl (by kernel_rfl)
      clear U
      refine wp_region_bar2 (C := Cls w1) rfl rfl rfl (by kernel_rfl) (by kernel_rfl) ⟨(Below.refl _ _).drew⟩ ?_
      simp only [List.dropLast]
      repeat' (first
        | go_big_quiet_skip
        | (go_big_quiet_want; first
          | (refine q_load _ _ _ _ rfl rfl (by assumption) ?_; simp only [Act.put, List.setIfInBounds_toArray, List.set_cons_zero, List.set_cons_succ]; go_big_quiet_on)
          | (go_big_quiet_op; first
            | go_big_quiet_on
            | (refine ⟨_, fun _ _ => rfl, ?_⟩; go_big_quiet_on)
            | (apply Exists.intro; refine ⟨fun w' hw' => ?_, ?_⟩
               · (go_at_call 77; exact cls_below hw' (iPackedY _ _ _ _ _ ho))
               go_big_quiet_on))))
      refine wpQuiet_nil ?_
      intro w2 hw2
      go_wp2_with (go_at_call 76; refine (ioWrite B q 5 st.n st.xs _ _ _ st.ar _ (S.keep hw2.below) hn st.pv rfl).mono ?_; rintro e w3 ⟨rfl, S2, z2⟩; rw [ht])
      first | go_end0 | refine bodyPost_ret (results_none rfl _ _ _) rfl ?_
      exact ⟨rfl, S2, (Kq.of_below z).trans ((Kq.of_below hw2.below).trans z2)⟩
/-- Reply, Out, and the next At. -/
def I8.rep (st : I8) (r o : Int) : I8 := { st with h := { st.h with reply := r, out := o, at_ := 2 } }
theorem iReply (B q : Nat) (st : I8) (r o : Int) (w : World) (S : IAt w B q st) :
    Calls Try.prog 90 #[.pointer (some ⟨q, 0, none⟩), .int .i64 r, .int .i64 o] w (Ends B q st.pv w (some (st.rep r o))) := by
  have c39 : w.cell? ⟨q, 39, none⟩ = some (.int .i64 st.h.reply) := S.is.cell 39
  have c40 : w.cell? ⟨q, 40, none⟩ = some (.int .i64 st.h.out) := S.is.cell 40
  have c12 : w.cell? ⟨q, 12, none⟩ = some (.int .i64 st.h.at_) := S.is.cell 12
  have f39 := S.fz 39
  have f40 := S.fz 40
  have f12 := S.fz 12
  have FIN : Hid (IAt (((w.setCell ⟨q, 39, none⟩ (.int .i64 r)).setCell ⟨q, 40, none⟩ (.int .i64 o)).setCell ⟨q, 12, none⟩ (.int .i64 2)) B q (st.rep r o)) :=
    ((S.put (st' := { st with h := { st.h with reply := r } }) 39 _ (by omega) rfl rfl rfl).put (st' := { st with h := { st.h with reply := r, out := o } }) 40 _ (by omega) rfl rfl rfl).put 12 _ (by omega) rfl rfl rfl
  have qB : B ≤ q := S.qB
  go_enter Try.func90, Try.ntmps90
  go_wp2
  first | go_end0 | refine bodyPost_ret (results_none rfl _ _ _) rfl ?_
  exact ⟨rfl, FIN.out, (((Kq.refl _ _ _).set 39 _).set 40 _).set 12 _⟩
end Go.Proofs.Ytljpkgloegafnaa
namespace Go.Proofs.Ytljpkgloegafnaa
open Go.RowKit
set_option maxRecDepth 100000
set_option linter.unusedVariables false
set_option linter.unusedSimpArgs false
/-- The next At. -/
def I8.to (st : I8) (a : Int) : I8 := { st with h := { st.h with at_ := a } }
theorem I8.wrO_pv {st st' : I8} {a k p i v : Int} (h : st.wrO a k p i v = some st') : st'.pv = st.pv := by
  unfold I8.wrO at h
  split at h
  · cases h; rfl
  · cases h
theorem I8.wrO_some {st st' : I8} {a k p i v : Int} (h : st.wrO a k p i v = some st') : st'.n = st.n := by
  unfold I8.wrO at h
  split at h
  · cases h; rfl
  · cases h
theorem stB {B q : Nat} {pv : Value} {w0 w : World} (h : Kq q pv w0 w) (hq : B ≤ q) (i : Nat) (v : Value) : Kq q pv w0 (w.setCell ⟨q, i, none⟩ v) := h.set i v
theorem IAt.to {w : World} {B q : Nat} {st : I8} (h : IAt w B q st) (a : Int) : IAt (w.setCell ⟨q, 12, none⟩ (.int .i64 a)) B q (st.to a) := h.put 12 _ (by omega) rfl rfl rfl
def I8.sayO (st : I8) : Option I8 := (st.wrO (st.slot 4) st.h.reply 0 st.h.out st.h.number).map fun t => t.to 3
set_option maxHeartbeats 1000000 in
theorem iSay (B q : Nat) (st : I8) (w : World) (S : IAt w B q st) (hn : st.n ≤ 16777216) :
    Calls Try.prog 52 #[.pointer (some ⟨q, 0, none⟩)] w (Ends B q st.pv w st.sayO) := by
  have A := S.is
  have Bl := S.bl
  have qB : B ≤ q := S.qB
  have l1 : ∀ w', Cls w w' → (loadVar 2 ⟨q, 39, none⟩).run Try.prog w' = .ok (.int .i64 st.h.reply) w' := ld_i A Try.underlying2 rfl
  have l2 : ∀ w', Cls w w' → (loadVar 2 ⟨q, 40, none⟩).run Try.prog w' = .ok (.int .i64 st.h.out) w' := ld_i A Try.underlying2 rfl
  have l3 : ∀ w', Cls w w' → (loadVar 2 ⟨q, 17, none⟩).run Try.prog w' = .ok (.int .i64 st.h.number) w' := ld_i A Try.underlying2 rfl
  clear A
  unfold I8.sayO
  cases hr : st.wrO (st.slot 4) st.h.reply 0 st.h.out st.h.number with
  | none =>
    simp only [Option.map_none]
    unfold Ends
    go_enter Try.func52, Try.ntmps52
    go_upto_region 1 with fail
    refine wp_region_bar (C := Cls w) rfl rfl (by kernel_rfl) (by kernel_rfl) ⟨(Below.refl _ _).drew⟩ ?_
    simp only [List.dropLast]
    repeat' (first
      | go_big_quiet_skip
      | (go_big_quiet_want; first
        | (refine q_load _ _ _ _ rfl rfl (by assumption) ?_; simp only [Act.put, List.setIfInBounds_toArray, List.set_cons_zero, List.set_cons_succ]; go_big_quiet_on)
        | (go_big_quiet_op; first
          | go_big_quiet_on
          | (refine ⟨_, fun _ _ => rfl, ?_⟩; go_big_quiet_on)
          | (apply Exists.intro; refine ⟨fun w' hw' => ?_, ?_⟩
             · (first
               | (go_at_call 55; exact cls_below hw' (iFieldAt B q st _ _ (S.keep hw'.below))))
             go_big_quiet_on))))
    refine wpQuiet_nil ?_
    intro w2 hw2
    go_wp2_with (go_at_call 54; refine (iStWrite B q st _ _ _ _ _ _ (S.keep hw2.below) hn).mono ?_; intro e w3 hE; rw [hr] at hE; obtain ⟨rfl, z3⟩ := hE)
    exact ⟨rfl, rfl, (Kq.of_below hw2.below).trans z3⟩
  | some t =>
    simp only [Option.map_some]
    unfold Ends
    go_enter Try.func52, Try.ntmps52
    go_upto_region 1 with fail
    refine wp_region_bar (C := Cls w) rfl rfl (by kernel_rfl) (by kernel_rfl) ⟨(Below.refl _ _).drew⟩ ?_
    simp only [List.dropLast]
    repeat' (first
      | go_big_quiet_skip
      | (go_big_quiet_want; first
        | (refine q_load _ _ _ _ rfl rfl (by assumption) ?_; simp only [Act.put, List.setIfInBounds_toArray, List.set_cons_zero, List.set_cons_succ]; go_big_quiet_on)
        | (go_big_quiet_op; first
          | go_big_quiet_on
          | (refine ⟨_, fun _ _ => rfl, ?_⟩; go_big_quiet_on)
          | (apply Exists.intro; refine ⟨fun w' hw' => ?_, ?_⟩
             · (first
               | (go_at_call 55; exact cls_below hw' (iFieldAt B q st _ _ (S.keep hw'.below))))
             go_big_quiet_on))))
    refine wpQuiet_nil ?_
    intro w2 hw2
    go_wp2_with (go_at_call 54; refine (iStWrite B q st _ _ _ _ _ _ (S.keep hw2.below) hn).mono ?_; intro e w3 hE; rw [hr] at hE; obtain ⟨rfl, S3, z3⟩ := hE; have c12 : w3.cell? ⟨q, 12, none⟩ = some (.int .i64 t.h.at_) := S3.is.cell 12; have f12 := S3.fz 12)
    first | go_end0 | refine bodyPost_ret (results_none rfl _ _ _) rfl ?_
    exact ⟨rfl, S3.to 3, stB ((Kq.of_below hw2.below).trans z3) qB _ _⟩
def I8.markO (st : I8) : Option I8 := (st.wrO st.note 0 0 0 (uS st.h.seen)).map fun t => t.to 8
set_option maxHeartbeats 1000000 in
theorem iMark (B q : Nat) (st : I8) (hs : 0 ≤ st.h.seen ∧ st.h.seen ≤ 18446744073709551615) (w : World) (S : IAt w B q st) (hn : st.n ≤ 16777216) :
    Calls Try.prog 57 #[.pointer (some ⟨q, 0, none⟩)] w (Ends B q st.pv w st.markO) := by
  have A := S.is
  have Bl := S.bl
  have qB : B ≤ q := S.qB
  have l1 : ∀ w', Cls w w' → (loadVar 26 ⟨q, 22, none⟩).run Try.prog w' = .ok (.int .u64 st.h.seen) w' := ld_i A Try.underlying26 rfl
  clear A
  unfold I8.markO
  cases hr : st.wrO st.note 0 0 0 (uS st.h.seen) with
  | none =>
    simp only [Option.map_none]
    unfold Ends
    go_enter Try.func57, Try.ntmps57
    go_upto_region 0 with fail
    refine wp_region_bar (C := Cls w) rfl rfl (by kernel_rfl) (by kernel_rfl) ⟨(Below.refl _ _).drew⟩ ?_
    simp only [List.dropLast]
    repeat' (first
      | go_big_quiet_skip
      | (go_big_quiet_want; first
        | (refine q_load _ _ _ _ rfl rfl (by assumption) ?_; simp only [Act.put, List.setIfInBounds_toArray, List.set_cons_zero, List.set_cons_succ]; go_big_quiet_on)
        | (refine q_field _ _ _ _ _ rfl rfl (wordF3 _ _ _ _) ?_; simp only [Act.put, List.setIfInBounds_toArray, List.set_cons_zero, List.set_cons_succ]; go_big_quiet_on)
        | (go_big_quiet_op; first
          | go_big_quiet_on
          | (refine ⟨_, fun _ _ => rfl, ?_⟩; go_big_quiet_on)
          | (apply Exists.intro; refine ⟨fun w' hw' => ?_, ?_⟩
             · (first
               | (go_at_call 80; exact cls_below hw' (iNoteAt B q st _ (S.keep hw'.below) hs))
               | (go_at_call 81; exact cls_below hw' (iUnpack _ hs.1 hs.2 _)))
             go_big_quiet_on))))
    refine wpQuiet_nil ?_
    intro w2 hw2
    go_wp2_with (go_at_call 54; refine (iStWrite B q st _ _ _ _ _ _ (S.keep hw2.below) hn).mono ?_; intro e w3 hE; rw [hr] at hE; obtain ⟨rfl, z3⟩ := hE)
    exact ⟨rfl, rfl, (Kq.of_below hw2.below).trans z3⟩
  | some t =>
    simp only [Option.map_some]
    unfold Ends
    go_enter Try.func57, Try.ntmps57
    go_upto_region 0 with fail
    refine wp_region_bar (C := Cls w) rfl rfl (by kernel_rfl) (by kernel_rfl) ⟨(Below.refl _ _).drew⟩ ?_
    simp only [List.dropLast]
    repeat' (first
      | go_big_quiet_skip
      | (go_big_quiet_want; first
        | (refine q_load _ _ _ _ rfl rfl (by assumption) ?_; simp only [Act.put, List.setIfInBounds_toArray, List.set_cons_zero, List.set_cons_succ]; go_big_quiet_on)
        | (refine q_field _ _ _ _ _ rfl rfl (wordF3 _ _ _ _) ?_; simp only [Act.put, List.setIfInBounds_toArray, List.set_cons_zero, List.set_cons_succ]; go_big_quiet_on)
        | (go_big_quiet_op; first
          | go_big_quiet_on
          | (refine ⟨_, fun _ _ => rfl, ?_⟩; go_big_quiet_on)
          | (apply Exists.intro; refine ⟨fun w' hw' => ?_, ?_⟩
             · (first
               | (go_at_call 80; exact cls_below hw' (iNoteAt B q st _ (S.keep hw'.below) hs))
               | (go_at_call 81; exact cls_below hw' (iUnpack _ hs.1 hs.2 _)))
             go_big_quiet_on))))
    refine wpQuiet_nil ?_
    intro w2 hw2
    go_wp2_with (go_at_call 54; refine (iStWrite B q st _ _ _ _ _ _ (S.keep hw2.below) hn).mono ?_; intro e w3 hE; rw [hr] at hE; obtain ⟨rfl, S3, z3⟩ := hE; have c12 : w3.cell? ⟨q, 12, none⟩ = some (.int .i64 t.h.at_) := S3.is.cell 12; have f12 := S3.fz 12)
    first | go_end0 | refine bodyPost_ret (results_none rfl _ _ _) rfl ?_
    exact ⟨rfl, S3.to 8, stB ((Kq.of_below hw2.below).trans z3) qB _ _⟩
/-- Last is one more, and the intent is written. -/
def I8.more (st : I8) : I8 := { st with h := { st.h with last := wrap64 (st.h.last + 1) } }
def I8.intO (st : I8) (kind block : Int) : Option I8 := st.more.wrO (st.slot 2) kind 0 block (wrap64 (st.h.last + 1))
set_option maxHeartbeats 1000000 in
theorem iIntend (B q : Nat) (st : I8) (kind block : Int) (w : World) (S : IAt w B q st) (hn : st.n ≤ 16777216) :
    Calls Try.prog 53 #[.pointer (some ⟨q, 0, none⟩), .int .i64 kind, .int .i64 block] w (Ends B q st.pv w (st.intO kind block)) := by
  have Bl := S.bl
  have qB : B ≤ q := S.qB
  have c19 : w.cell? ⟨q, 19, none⟩ = some (.int .i64 st.h.last) := S.is.cell 19
  have f19 := S.fz 19
  unfold I8.intO
  have S0 : IAt (w.setCell ⟨q, 19, none⟩ (.int .i64 (wrap64 (st.h.last + 1)))) B q st.more := S.put 19 _ (by omega) rfl rfl rfl
  have z0 := stB (Kq.refl q st.pv w) qB 19 (.int .i64 (wrap64 (st.h.last + 1)))
  have hpv : Hid (st.more.pv = st.pv) := rfl
  have hsl : st.more.slot 2 = st.slot 2 := rfl
  have hla : st.more.h.last = wrap64 (st.h.last + 1) := rfl
  rw [← hsl, ← hla]
  have hn0 : st.more.n ≤ 16777216 := hn
  cases hr : st.more.wrO (st.more.slot 2) kind 0 block st.more.h.last
  all_goals
    unfold Ends
    go_enter Try.func53, Try.ntmps53
    go_upto_region 1 with fail
    change Code.wp _ _ _ _ (w.setCell ⟨q, 19, none⟩ (.int .i64 (wrap64 (st.h.last + 1))))
    clear c19 f19 S
    generalize w.setCell ⟨q, 19, none⟩ (.int .i64 (wrap64 (st.h.last + 1))) = w1 at *
    clear hsl hla hn
    generalize st.more = st at *
    have S := S0
    have hn := hn0
    have A := S.is
    have Bl1 := S.bl
    have l1 : ∀ w', Cls w1 w' → (loadVar 2 ⟨q, 19, none⟩).run Try.prog w' = .ok (.int .i64 st.h.last) w' := ld_i A Try.underlying2 rfl
    clear A
    refine wp_region_bar (C := Cls w1) rfl rfl (by kernel_rfl) (by kernel_rfl) ⟨(Below.refl _ _).drew⟩ ?_
    simp only [List.dropLast]
    repeat' (first
      | go_big_quiet_skip
      | (go_big_quiet_want; first
        | (refine q_load _ _ _ _ rfl rfl (by assumption) ?_; simp only [Act.put, List.setIfInBounds_toArray, List.set_cons_zero, List.set_cons_succ]; go_big_quiet_on)
        | (go_big_quiet_op; first
          | go_big_quiet_on
          | (refine ⟨_, fun _ _ => rfl, ?_⟩; go_big_quiet_on)
          | (apply Exists.intro; refine ⟨fun w' hw' => ?_, ?_⟩
             · (first
               | (go_at_call 55; exact cls_below hw' (iFieldAt B q st _ _ (S.keep hw'.below))))
             go_big_quiet_on))))
    refine wpQuiet_nil ?_
    intro w2 hw2
  · go_wp2_with (go_at_call 54; refine (iStWrite B q st _ _ _ _ _ _ (S.keep hw2.below) hn).mono ?_; intro e w3 hE; rw [hr] at hE; obtain ⟨rfl, z3⟩ := hE; rw [hpv.out] at z3)
    exact ⟨rfl, rfl, (z0.trans (Kq.of_below hw2.below)).trans z3⟩
  · go_wp2_with (go_at_call 54; refine (iStWrite B q st _ _ _ _ _ _ (S.keep hw2.below) hn).mono ?_; intro e w3 hE; rw [hr] at hE; obtain ⟨rfl, S3, z3⟩ := hE; rw [hpv.out] at z3)
    first | go_end0 | refine bodyPost_ret (results_none rfl _ _ _) rfl ?_
    exact ⟨rfl, S3, (z0.trans (Kq.of_below hw2.below)).trans z3⟩
/-- The note is held against what was seen. -/
def I8.noteO (st : I8) : Option I8 := if thr st.note st.n = true then some (st.to (if red st.xs st.note < uS st.h.seen then 7 else 8)) else none
theorem uS_bd {x : Int} (h : 0 ≤ x) : 0 ≤ uS x ∧ uS x ≤ 4294967295 := by unfold uS; omega
theorem cvS {x : Int} (h : 0 ≤ x) : IntKind.u64.wrap (uS x) = uS x := by have := uS_bd h; rw [IntKind.wrap_u64]; omega
set_option maxHeartbeats 1000000 in
theorem iNtY (B q : Nat) (st : I8) (w : World) (S : IAt w B q st) (hn : st.n ≤ 16777216) (hs : 0 ≤ st.h.seen ∧ st.h.seen ≤ 18446744073709551615) (ht : thr st.note st.n = true) :
    Calls Try.prog 56 #[.pointer (some ⟨q, 0, none⟩)] w (Ends B q st.pv w st.noteO) := by
  have A := S.is
  have Bl := S.bl
  have qB : B ≤ q := S.qB
  have l1 : ∀ w', Cls w w' → (loadVar 26 ⟨q, 22, none⟩).run Try.prog w' = .ok (.int .u64 st.h.seen) w' := ld_i A Try.underlying26 rfl
  clear A
  obtain ⟨v, hv⟩ : ∃ v : Int, Hid (red st.xs st.note = v) := ⟨_, rfl⟩
  obtain ⟨y, hy⟩ : ∃ y : Int, Hid (uS st.h.seen = y) := ⟨_, rfl⟩
  have hw0 := cvS hs.1
  have e : st.noteO = some (st.to (if v < y then 7 else 8)) := by unfold I8.noteO; rw [if_pos ht, hv.out, hy.out]
  rw [e]
  rw [hy.out] at hw0
  unfold Ends
  by_cases hvy : v < y
  all_goals first | rw [if_pos hvy] | rw [if_neg hvy]
  all_goals
    go_enter Try.func56, Try.ntmps56
    go_upto_region 0 with fail
    refine wp_region_cls (by kernel_rfl) (by kernel_rfl) ?_
    repeat' (first
      | go_big_quiet_skip
      | (go_big_quiet_want; first
        | (refine q_load _ _ _ _ rfl rfl (by assumption) ?_; simp only [Act.put, List.setIfInBounds_toArray, List.set_cons_zero, List.set_cons_succ]; go_big_quiet_on)
        | (refine q_field _ _ _ _ _ rfl rfl (wordF3 _ _ _ _) ?_; simp only [Act.put, List.setIfInBounds_toArray, List.set_cons_zero, List.set_cons_succ]; go_big_quiet_on)
        | (go_big_quiet_op; first
          | go_big_quiet_on
          | (refine ⟨_, fun _ _ => rfl, ?_⟩; go_big_quiet_on)
          | (apply Exists.intro; refine ⟨fun w' hw' => ?_, ?_⟩
             · (first
               | (go_at_call 80; exact cls_below hw' (iNoteAt B q st _ (S.keep hw'.below) hs))
               | (go_at_call 79; exact cls_same hw' (by have hq := iStReadY B q st st.note w' (S.keep hw'.below) hn ht; rw [hv.out] at hq; exact hq))
               | (go_at_call 81; exact cls_below hw' (by have hq := iUnpack _ hs.1 hs.2 w'; rw [hy.out] at hq; exact hq)))
             go_big_quiet_on))))
    refine wpQuiet_nil ?_
    intro w2 hw2
    have S3 := S.keep hw2.below
    have c12 : w2.cell? ⟨q, 12, none⟩ = some (.int .i64 st.h.at_) := S3.is.cell 12
    have f12 := S3.fz 12
    go_wp2
    first | go_end0 | refine bodyPost_ret (results_none rfl _ _ _) rfl ?_
    exact ⟨rfl, S3.to _, stB (Kq.of_below hw2.below) qB _ _⟩
theorem iNtN (B q : Nat) (st : I8) (w : World) (S : IAt w B q st) (hn : st.n ≤ 16777216) (hs : 0 ≤ st.h.seen ∧ st.h.seen ≤ 18446744073709551615) (ht : thr st.note st.n = false) :
    Calls Try.prog 56 #[.pointer (some ⟨q, 0, none⟩)] w (Ends B q st.pv w st.noteO) := by
  have Bl := S.bl
  have e : st.noteO = none := by unfold I8.noteO; rw [ht]; simp
  rw [e]
  unfold Ends
  have A := S.is
  have qB : B ≤ q := S.qB
  have l1 : ∀ w', Cls w w' → (loadVar 26 ⟨q, 22, none⟩).run Try.prog w' = .ok (.int .u64 st.h.seen) w' := ld_i A Try.underlying26 rfl
  clear A
  go_enter Try.func56, Try.ntmps56
  go_upto_region 0 with fail
  refine wp_region_dies (C := Cls w) [0, 1, 2, 4, 5, 6, 7, 8] 3 (by simp only [List.map_cons, List.map_nil, List.getD_cons_succ, List.getD_cons_zero]; rfl) (by kernel_rfl) rfl (by kernel_rfl) (by kernel_rfl) (by kernel_rfl) (by decide) ⟨(Below.refl _ _).drew⟩ (fun c a d v w h => by cases d <;> exact h) ?_
  repeat' (first
    | go_big_quiet_skip
    | (go_big_quiet_want; first
      | (refine q_load _ _ _ _ rfl rfl (by assumption) ?_; simp only [Act.put, List.setIfInBounds_toArray, List.set_cons_zero, List.set_cons_succ]; go_big_quiet_on)
      | (go_big_quiet_op; first
        | go_big_quiet_on
        | (refine ⟨_, fun _ _ => rfl, ?_⟩; go_big_quiet_on)
        | (apply Exists.intro; refine ⟨fun w' hw' => ?_, ?_⟩
           · (first
             | (go_at_call 80; exact cls_below hw' (iNoteAt B q st _ (S.keep hw'.below) hs)))
           go_big_quiet_on))))
  refine wpQuiet_nil ?_
  refine ⟨by rfl, fun w2 hw2 => ?_⟩
  go_simp
  go_at_call 79
  refine (iStReadN B q st _ _ (S.keep hw2.below) hn ht).mono ?_
  rintro e w3 ⟨rfl, rfl⟩
  exact ⟨rfl, rfl, Kq.of_below hw2.below⟩
theorem iNote8 (B q : Nat) (st : I8) (w : World) (S : IAt w B q st) (hn : st.n ≤ 16777216) (hs : 0 ≤ st.h.seen ∧ st.h.seen ≤ 18446744073709551615) :
    Calls Try.prog 56 #[.pointer (some ⟨q, 0, none⟩)] w (Ends B q st.pv w st.noteO) := by
  cases ht : thr st.note st.n
  · exact iNtN B q st w S hn hs ht
  · exact iNtY B q st w S hn hs ht
end Go.Proofs.Ytljpkgloegafnaa
namespace Go.Proofs.Ytljpkgloegafnaa
open Go.RowKit
set_option maxRecDepth 100000
set_option linter.unusedVariables false
set_option linter.unusedSimpArgs false
/-- A Done: the words' slice, the hand, the deed. -/
def doneVs (v : Value) (h : Hd) (d : Dd) : List Value := v :: (h.vs ++ d.vs)
theorem doneVs_one {v : Value} (hv : v.oneCell' = true) (h : Hd) (d : Dd) : ∀ u ∈ doneVs v h d, u.oneCell' = true := by
  intro u hu
  rcases List.mem_cons.1 hu with rfl | hu
  · exact hv
  · rcases List.mem_append.1 hu with hu | hu
    · exact h.one u hu
    · exact d.one u hu
def doneZ : List Value := doneVs (.slice none 0 0) Hd.zero Dd.zero
theorem infoDn (v : Value) (h : Hd) (d : Dd) : (Try.prog.info? 43).map (·.size) = some (doneVs v h d).length := by kernel_rfl
theorem bDone (a : Option Addr) (n c : Nat) (h : Hd) (d : Dd) : Try.prog.built 43 [(0, .slice a n c), (1, .agg h.ar), (2, .agg d.vs.toArray)] = some (doneVs (.slice a n c) h d).toArray := by kernel_rfl
theorem bDone0 : Try.prog.built 43 [] = some doneZ.toArray := by kernel_rfl
theorem tk_built {P : Program} {o : Oper} {a : Act} (t : TypeId) (parts : Array (Nat × Operand)) (ho : o.op = .build t parts) (ps : List (Nat × Value)) (hp : parts.toList.map (fun x => (x.1, a.eval x.2)) = ps) (cells : Array Value) (hb : P.built t ps = some cells) (w : World) : (execOp a.eval o).run P w = .ok (.value (.agg cells)) w := by
  have e : (parts.map fun (i, x) => (i, a.eval x)).toList = ps := by rw [Array.toList_map]; exact hp
  have e2 : P.built t (parts.map fun (i, x) => (i, a.eval x)).toList = some cells := by rw [e]; exact hb
  unfold execOp
  simp only [ho, Sem.run_bind, run_build w t _ cells e2, Result.andThen_ok]
  rfl
def dn0 : Oper := { dst := some 14, op := Op.move (Operand.tmp 0), type := 70, pos := "l08_install.go:92", after := #[], guard := none }
def dn1 : Oper := { dst := some 15, op := Op.nilCheck (Operand.tmp 14), type := 0, pos := "l08_install.go:92", after := #[{ on := 0, ground := Ground.data }], guard := none }
def dn2 : Oper := { dst := some 16, op := Op.fieldAddr 67 (Operand.tmp 15) 1, type := 0, pos := "l08_install.go:92", after := #[{ on := 1, ground := Ground.data }], guard := none }
def dn3 : Oper := { dst := some 17, op := Op.call { callee := Callee.value (Operand.func 74), args := #[Operand.tmp 16], argTypes := #[65] }, type := 30, pos := "l08_install.go:92", after := #[{ on := 2, ground := Ground.data }], guard := none }
def dn4 : Oper := { dst := some 18, op := Op.move (Operand.tmp 0), type := 70, pos := "l08_install.go:92", after := #[], guard := none }
def dn5 : Oper := { dst := some 19, op := Op.nilCheck (Operand.tmp 18), type := 0, pos := "l08_install.go:92", after := #[{ on := 4, ground := Ground.data }], guard := none }
def dn6 : Oper := { dst := some 20, op := Op.fieldAddr 67 (Operand.tmp 19) 2, type := 0, pos := "l08_install.go:92", after := #[{ on := 5, ground := Ground.data }], guard := none }
def dn7 : Oper := { dst := some 21, op := Op.load 39 (Operand.tmp 20), type := 39, pos := "l08_install.go:92", after := #[{ on := 6, ground := Ground.data }], guard := none }
def dn8 : Oper := { dst := some 22, op := Op.move (Operand.tmp 0), type := 70, pos := "l08_install.go:92", after := #[], guard := none }
def dn9 : Oper := { dst := some 23, op := Op.nilCheck (Operand.tmp 22), type := 0, pos := "l08_install.go:92", after := #[{ on := 8, ground := Ground.data }], guard := none }
def dn10 : Oper := { dst := some 24, op := Op.fieldAddr 67 (Operand.tmp 23) 3, type := 0, pos := "l08_install.go:92", after := #[{ on := 9, ground := Ground.data }], guard := none }
def dn11 : Oper := { dst := some 25, op := Op.load 41 (Operand.tmp 24), type := 41, pos := "l08_install.go:92", after := #[{ on := 10, ground := Ground.data }], guard := none }
def dn12 : Oper := { dst := some 26, op := Op.build 43 #[(0, Operand.tmp 17), (1, Operand.tmp 21), (2, Operand.tmp 25)], type := 43, pos := "l08_install.go:92", after := #[{ on := 3, ground := Ground.data }, { on := 7, ground := Ground.data }, { on := 11, ground := Ground.data }], guard := none }
def dn13 : Oper := { dst := none, op := Op.store 43 (Operand.tmp 2) (Operand.tmp 26), type := 0, pos := "l08_install.go:92", after := #[{ on := 12, ground := Ground.data }, { on := 3, ground := Ground.chain }, { on := 0, ground := Ground.phase }, { on := 1, ground := Ground.phase }, { on := 2, ground := Ground.phase }, { on := 3, ground := Ground.phase }, { on := 4, ground := Ground.phase }, { on := 5, ground := Ground.phase }, { on := 6, ground := Ground.phase }, { on := 7, ground := Ground.phase }, { on := 8, ground := Ground.phase }, { on := 9, ground := Ground.phase }, { on := 10, ground := Ground.phase }, { on := 11, ground := Ground.phase }, { on := 12, ground := Ground.phase }], guard := none }
set_option maxHeartbeats 4000000 in
theorem iDoneN (B q : Nat) (st : I8) (w : World) (S : IAt w B q st) (hk : hOk st.p st.s st.l st.c st.k st.h = false) :
    Calls Try.prog 50 #[.pointer (some ⟨q, 0, none⟩)] w fun e w' => e = .panicked gu ∧ Below w.heap.size w w' := by
  go_enter Try.func50, Try.ntmps50
  go_upto_region 1 with fail
  refine wp_at (fun W => IAt W B q st ∧ Below w.heap.size w W) ⟨S.keep ((Below.refl _ _).alloc (Nat.le_refl _) _), (Below.refl _ _).alloc (Nat.le_refl _) _⟩ ?_
  rintro w1 ⟨S1, z1⟩
  have A := S1.is
  have lp : ∀ w', Cls w1 w' → (loadVar 28 ⟨q, 0, none⟩).run Try.prog w' = .ok (.agg #[.int .i64 st.p, .int .i64 st.s, .int .i64 st.l, .int .i64 st.c, .int .i64 st.k]) w' := ld_sub (o := 0) A st.pl Try.underlying28 rfl (by kernel_rfl)
  have lh : ∀ w', Cls w1 w' → (loadVar 39 ⟨q, 7, none⟩).run Try.prog w' = .ok (.agg st.h.ar) w' := ld_sub (o := 7) A st.hl Try.underlying39 rfl infoH
  clear A
  refine wp_region_cls (by kernel_rfl) (by kernel_rfl) ?_
  repeat' (first
    | go_big_quiet_skip
    | (go_big_quiet_want; first
      | (refine q_load _ _ _ _ rfl rfl (by assumption) ?_; simp only [Act.put, List.setIfInBounds_toArray, List.set_cons_zero, List.set_cons_succ]; go_big_quiet_on)
      | (go_big_quiet_op; first
        | go_big_quiet_on
        | (refine ⟨_, fun _ _ => rfl, ?_⟩; go_big_quiet_on)
        | (apply Exists.intro; refine ⟨fun w' hw' => ?_, ?_⟩
           · (first
             | (go_at_call 46; exact cls_below hw' (by have hq := iHandOk st.p st.s st.l st.c st.k st.h w'; rw [hk] at hq; exact hq)))
           go_big_quiet_on))))
  refine wpQuiet_nil ?_
  intro w2 hw2
  go_wp2_with (go_at_call 73; refine (iGiveUp _).mono ?_; rintro e w3 ⟨rfl, rfl⟩)
  exact ⟨rfl, rfl, z1.trans (hw2.below.mono z1.size)⟩
theorem wp_storeDn {o : Oper} {a : Act} {w : World} {K : Act → World → Prop} {Q : Exit → Act → World → Prop} (x y : Operand) (ho : o.op = .store 43 x y) (b : Nat) (v : Value) (h : Hd) (d : Dd) (hv : v.oneCell' = true) (hx : a.eval x = .pointer (some ⟨b, 0, none⟩)) (hy : a.eval y = .agg (doneVs v h d).toArray) {cs : Array Value} {t : TypeId} (Z : At w b cs t) (hs : cs.size = 43)
    (hh : ∀ w', At w' b (doneVs v h d).toArray t → Kept b w w' → K (a.put o.dst undef) w') : o.wp Try.prog a w K Q :=
  wp_store_mid 43 x y ho b 0 (doneVs v h d).toArray hx hy (Z.there 0 43 (by omega)) (infoDn v h d) (all_oneCell_toArray (doneVs_one hv h d)) (hh _ (Z.fillAll (by rw [hs]; rfl)) (kept_setCells b _ 0 w))
theorem resDn {fn : Func} {T : Array Value} {w : World} {b : Nat} {v : Value} {h : Hd} {d : Dd} {t : TypeId} (i : Nat) (hr : fn.results = #[.cell i 43]) (hT : T.getD i undef = .pointer (some ⟨b, 0, none⟩)) (Z : At w b (doneVs v h d).toArray t) :
    (results fn T).run Try.prog w = .ok (.agg (doneVs v h d).toArray) w := by
  have e : (asAddr (T.getD i undef)).run Try.prog w = .ok ⟨b, 0, none⟩ w := by rw [hT]; rfl
  have l : (loadVar 43 ⟨b, 0, none⟩).run Try.prog w = .ok (.agg (doneVs v h d).toArray) w := run_loadVar_mid w b 0 43 (doneVs v h d) _ Z.range Try.underlying43 rfl (infoDn v h d)
  simp only [results, hr, List.mapM_toArray, List.mapM_cons, List.mapM_nil, Sem.run_bind, Sem.run_map, Sem.run_pure, e, Result.andThen_ok, l]
  rfl
set_option maxHeartbeats 8000000 in
theorem iDoneY (B q : Nat) (st : I8) (w : World) (S : IAt w B q st) (hk : hOk st.p st.s st.l st.c st.k st.h = true) (hn : st.n ≤ 16777216) (bd : ∀ x ∈ st.xs, 0 ≤ x ∧ x ≤ 18446744073709551615) :
    Calls Try.prog 50 #[.pointer (some ⟨q, 0, none⟩)] w fun e w' => ∃ g, e = .returned (.agg (doneVs (.slice (some ⟨g, 0, none⟩) st.n st.n) st.h st.d).toArray) ∧ w.heap.size ≤ g ∧ Ws w' g st.n st.n st.xs ∧ Below w.heap.size w w' := by
  go_enter Try.func50, Try.ntmps50
  go_upto_region 1 with fail
  refine wp_at (fun W => At W w.heap.size doneZ.toArray 43 ∧ IAt W B q st ∧ Below w.heap.size w W) ⟨At.new w _ _, S.keep ((Below.refl _ _).alloc (Nat.le_refl _) _), (Below.refl _ _).alloc (Nat.le_refl _) _⟩ ?_
  rintro w1 ⟨R1, S1, z1⟩
  obtain ⟨r, hr⟩ : ∃ r, Hid (w.heap.size = r) := ⟨_, rfl⟩
  have hqr : q ≠ r := by have := S.lt; have := hr.out; omega
  have hr0 : w.heap.size ≤ r := by have := hr.out; omega
  rw [hr.out] at R1
  rw [hr.out]
  have A := S1.is
  have lp : ∀ w', Cls w1 w' → (loadVar 28 ⟨q, 0, none⟩).run Try.prog w' = .ok (.agg #[.int .i64 st.p, .int .i64 st.s, .int .i64 st.l, .int .i64 st.c, .int .i64 st.k]) w' := ld_sub (o := 0) A st.pl Try.underlying28 rfl (by kernel_rfl)
  have lh : ∀ w', Cls w1 w' → (loadVar 39 ⟨q, 7, none⟩).run Try.prog w' = .ok (.agg st.h.ar) w' := ld_sub (o := 7) A st.hl Try.underlying39 rfl infoH
  clear A
  refine wp_region_cls (by kernel_rfl) (by kernel_rfl) ?_
  repeat' (first
    | go_big_quiet_skip
    | (go_big_quiet_want; first
      | (refine q_load _ _ _ _ rfl rfl (by assumption) ?_; simp only [Act.put, List.setIfInBounds_toArray, List.set_cons_zero, List.set_cons_succ]; go_big_quiet_on)
      | (go_big_quiet_op; first
        | go_big_quiet_on
        | (refine ⟨_, fun _ _ => rfl, ?_⟩; go_big_quiet_on)
        | (apply Exists.intro; refine ⟨fun w' hw' => ?_, ?_⟩
           · (first
             | (go_at_call 46; exact cls_below hw' (by have hq := iHandOk st.p st.s st.l st.c st.k st.h w'; rw [hk] at hq; exact hq)))
           go_big_quiet_on))))
  refine wpQuiet_nil ?_
  intro w2 hw2
  go_upto_region 3 with fail
  clear lp lh
  have R := R1.keep hw2.below
  have hrl : r < w2.drew.heap.size := R.lt
  have S2 := S1.keep hw2.below
  have z2 := z1.trans (hw2.below.mono z1.size)
  have z0 : w.heap.size ≤ w2.drew.heap.size := z2.size
  have lh : ∀ w', At w' q st.ar st.ty → (loadVar 39 ⟨q, 7, none⟩).run Try.prog w' = .ok (.agg st.h.ar) w' := fun w' A => ld_sub (o := 7) A st.hl Try.underlying39 rfl infoH w' ⟨Below.refl _ _⟩
  have ld : ∀ w', At w' q st.ar st.ty → (loadVar 41 ⟨q, 43, none⟩).run Try.prog w' = .ok (.agg st.d.vs.toArray) w' := fun w' A => ld_sub (o := 43) A st.dl Try.underlying41 rfl (by kernel_rfl) w' ⟨Below.refl _ _⟩
  refine wp_region_held_drew (S := fun w' => At w' q st.ar st.ty) (by kernel_rfl) (S2.keep (Below.refl _ w2).drew).is (fun hS => ?_)
  refine tk_pure (i := 0) (oi := dn0) rfl (by kernel_rfl) (by kernel_rfl) (by kernel_rfl) (fun _ _ _ h => h) (by rfl) hS (fun w9 => by simp only [dn0]; go_simp; (try with_reducible rfl)) ?_
  simp only [dn0, Act.put, List.setIfInBounds_toArray, List.set_cons_zero, List.set_cons_succ]
  refine tk_pure (i := 1) (oi := dn1) rfl (by kernel_rfl) (by kernel_rfl) (by kernel_rfl) (fun _ _ _ h => h) (by rfl) hS (fun w9 => by simp only [dn1]; go_simp; (try with_reducible rfl)) ?_
  simp only [dn1, Act.put, List.setIfInBounds_toArray, List.set_cons_zero, List.set_cons_succ]
  refine tk_pure (i := 2) (oi := dn2) rfl (by kernel_rfl) (by kernel_rfl) (by kernel_rfl) (fun _ _ _ h => h) (by rfl) hS (fun w9 => by simp only [dn2]; go_simp; (try with_reducible rfl)) ?_
  simp only [dn2, Act.put, List.setIfInBounds_toArray, List.set_cons_zero, List.set_cons_succ]
  refine tk_pure (i := 4) (oi := dn4) rfl (by kernel_rfl) (by kernel_rfl) (by kernel_rfl) (fun _ _ _ h => h) (by rfl) hS (fun w9 => by simp only [dn4]; go_simp; (try with_reducible rfl)) ?_
  simp only [dn4, Act.put, List.setIfInBounds_toArray, List.set_cons_zero, List.set_cons_succ]
  refine tk_pure (i := 5) (oi := dn5) rfl (by kernel_rfl) (by kernel_rfl) (by kernel_rfl) (fun _ _ _ h => h) (by rfl) hS (fun w9 => by simp only [dn5]; go_simp; (try with_reducible rfl)) ?_
  simp only [dn5, Act.put, List.setIfInBounds_toArray, List.set_cons_zero, List.set_cons_succ]
  refine tk_pure (i := 6) (oi := dn6) rfl (by kernel_rfl) (by kernel_rfl) (by kernel_rfl) (fun _ _ _ h => h) (by rfl) hS (fun w9 => by simp only [dn6]; go_simp; (try with_reducible rfl)) ?_
  simp only [dn6, Act.put, List.setIfInBounds_toArray, List.set_cons_zero, List.set_cons_succ]
  refine tk_load (i := 7) (oi := dn7) rfl (by kernel_rfl) (by kernel_rfl) (by kernel_rfl) (fun _ _ _ h => h) (by rfl) _ _ _ rfl rfl (by assumption) hS ?_
  simp only [dn7, Act.put, List.setIfInBounds_toArray, List.set_cons_zero, List.set_cons_succ]
  refine tk_pure (i := 8) (oi := dn8) rfl (by kernel_rfl) (by kernel_rfl) (by kernel_rfl) (fun _ _ _ h => h) (by rfl) hS (fun w9 => by simp only [dn8]; go_simp; (try with_reducible rfl)) ?_
  simp only [dn8, Act.put, List.setIfInBounds_toArray, List.set_cons_zero, List.set_cons_succ]
  refine tk_pure (i := 9) (oi := dn9) rfl (by kernel_rfl) (by kernel_rfl) (by kernel_rfl) (fun _ _ _ h => h) (by rfl) hS (fun w9 => by simp only [dn9]; go_simp; (try with_reducible rfl)) ?_
  simp only [dn9, Act.put, List.setIfInBounds_toArray, List.set_cons_zero, List.set_cons_succ]
  refine tk_pure (i := 10) (oi := dn10) rfl (by kernel_rfl) (by kernel_rfl) (by kernel_rfl) (fun _ _ _ h => h) (by rfl) hS (fun w9 => by simp only [dn10]; go_simp; (try with_reducible rfl)) ?_
  simp only [dn10, Act.put, List.setIfInBounds_toArray, List.set_cons_zero, List.set_cons_succ]
  refine tk_load (i := 11) (oi := dn11) rfl (by kernel_rfl) (by kernel_rfl) (by kernel_rfl) (fun _ _ _ h => h) (by rfl) _ _ _ rfl rfl (by assumption) hS ?_
  simp only [dn11, Act.put, List.setIfInBounds_toArray, List.set_cons_zero, List.set_cons_succ]
  refine wpAnyH_ready (rs := [3]) (by kernel_rfl) (by simp) ?_
  refine AllReadyH.cons (o := dn3) rfl (fun K hK => ?_) ?_
  · rw [if_pos (by rfl)]
    simp only [dn3]
    go_simp
    go_at_call 74
    refine (ioList B q 5 st.n st.xs _ st.ar _ (S2.keep (Below.refl _ w2).drew) hn bd).mono ?_
    rintro e w4 ⟨rfl, G, hb⟩
    (go_wp2_with fail)
    replace S2 := (S2.keep (Below.refl _ w2).drew).keep hb
    replace R := (R.keep (Below.refl _ w2).drew).keep hb
    replace z2 := z2.drew.trans (hb.mono z2.size)
    replace G : Ws w4 w2.heap.size st.n st.n st.xs := G
    have hg : w.heap.size ≤ w2.heap.size := z0
    have hS2 := S2.is
    obtain ⟨g, hgg⟩ : ∃ g, Hid (w2.heap.size = g) := ⟨_, rfl⟩
    have hrg : r < w2.heap.size := hrl
    rw [hgg.out] at G hg hrg
    rw [hgg.out]
    clear hb hgg
    refine hK.out _ _ hS2 (fun hS => ?_)
    clear hK K
    (try simp only [dn3, Act.put, List.setIfInBounds_toArray, List.set_cons_zero, List.set_cons_succ])
    refine tk_pure (i := 12) (oi := dn12) rfl (by kernel_rfl) (by kernel_rfl) (by kernel_rfl) (fun _ _ _ h => h) (by rfl) hS (fun w9 => tk_built 43 #[(0, .tmp 17), (1, .tmp 21), (2, .tmp 25)] rfl [(0, .slice (some ⟨g, 0, none⟩) st.n st.n), (1, .agg st.h.ar), (2, .agg st.d.vs.toArray)] rfl _ (bDone _ _ _ _ _) w9) ?_
    simp only [dn12, Act.put, List.setIfInBounds_toArray, List.set_cons_zero, List.set_cons_succ]
    refine wpAnyH_ready (rs := [13]) (by kernel_rfl) (by simp) ?_
    refine AllReadyH.cons (o := dn13) rfl (fun K hK => ?_) ?_
    · rw [if_pos (by rfl)]
      refine wp_storeDn (.tmp 2) (.tmp 26) rfl r (.slice (some ⟨g, 0, none⟩) st.n st.n) st.h st.d rfl rfl rfl R rfl ?_
      intro w5 R5 kk
      have hS2 := S2.is.kept kk hqr
      refine hK.out _ _ hS2 (fun hS => ?_)
      clear hK K
      simp only [dn13, Act.put]
      refine wpAnyH_done (by kernel_rfl) ?_ _
      go_wp2
      refine bodyPost_ret (resDn (v := .slice (some ⟨g, 0, none⟩) st.n st.n) (h := st.h) (d := st.d) 2 rfl rfl R5) rfl ?_
      exact ⟨g, rfl, hg, G.kept kk (by omega), z2.trans (kk.below hr0 z2.size)⟩
    exact AllReadyH.nil
  exact AllReadyH.nil
end Go.Proofs.Ytljpkgloegafnaa
namespace Go.Proofs.Ytljpkgloegafnaa
open Go.RowKit
set_option maxRecDepth 100000
set_option linter.unusedVariables false
set_option linter.unusedSimpArgs false
theorem storeDn {ops : Array Oper} {rest : List Oper} {op : Oper} {a : Act} {w : World} {Q : Exit → Act → World → Prop} (hgd : op.guard = none) (x y : Operand) (ho : op.op = .store 43 x y) (b : Nat) (v : Value) (h : Hd) (d : Dd) (hv : v.oneCell' = true) (hx : a.eval x = .pointer (some ⟨b, 0, none⟩)) (hy : a.eval y = .agg (doneVs v h d).toArray) {cs : Array Value} {t : TypeId} (Z : At w b cs t) (hs : cs.size = 43)
    (hh : ∀ w', At w' b (doneVs v h d).toArray t → Kept b w w' → wpList Try.prog ops Q rest (a.put op.dst undef) w') : wpList Try.prog ops Q (op :: rest) a w :=
  wpList_store_mid hgd 43 x y ho b 0 (doneVs v h d).toArray hx hy (Z.there 0 43 (by omega)) (infoDn v h d) (all_oneCell_toArray (doneVs_one hv h d)) (hh _ (Z.fillAll (by rw [hs]; rfl)) (kept_setCells b _ 0 w))
set_option maxHeartbeats 1000000 in
theorem catch_panic (b c : Nat) (cs : Array Value) (x : Bool) (u : TypeId) (pv : Value) (older : List PanicEntry) (B : Nat) (w : World) (Z : At w b cs 43) (hs : cs.size = 43) (Y : At w c #[.bool x] 4) (hbc : b ≠ c) (hb : B ≤ b) (hc : B ≤ c) :
    CallsD Try.prog 49 #[.pointer (some ⟨b, 0, none⟩), .pointer (some ⟨c, 0, none⟩)] (.panicking ({ v := .iface u pv, recovered := false } :: older)) w fun e u' w' =>
      e = .returned (.tuple #[]) ∧ u' = .panicking ({ v := .iface u pv, recovered := true } :: older) ∧ At w' b doneZ.toArray 43 ∧ At w' c #[.bool false] 4 ∧ Below B w w' := by
  refine callsD_of_wpS Try.func49 rfl fun c₀ cs₀ hu => ?_
  apply wpS_seq
  apply wpS_region
  simp [wpOpsS, go_sem, recoverD, hu, Try.ntmps49, Exit.thenS]
  refine wpS_cond (t := true) (by simp [Act.eval, Array.replicate]) ?_
  simp only [if_true]
  refine wpS_of_wp ?_
  show Code.wp _ (Code.region 1 _ false) _ { tmps := #[.pointer (some ⟨b, 0, none⟩), .pointer (some ⟨c, 0, none⟩), .iface u pv, .bool true, undef], defers := [] } w
  refine wp_region_lit ?_
  refine wpList_built rfl 43 #[] rfl [] rfl _ bDone0 ?_
  refine storeDn rfl (.tmp 0) (.tmp 4) rfl b (.slice none 0 0) Hd.zero Dd.zero rfl rfl rfl Z hs ?_
  intro w1 Z1 k1
  have Y1 := Y.kept k1 (Ne.symm hbc)
  have c0 : w1.cell? ⟨c, 0, none⟩ = some (.bool x) := Y1.cell 0
  have f0 := Y1.frozen 0
  have z1 : Below B w w1 := (Below.refl B w).trans (k1.below hb (by have := Z.lt; omega))
  have FIN : Hid (At (w1.setCell ⟨c, 0, none⟩ (.bool false)) b doneZ.toArray 43 ∧ At (w1.setCell ⟨c, 0, none⟩ (.bool false)) c #[.bool false] 4 ∧ Below B w (w1.setCell ⟨c, 0, none⟩ (.bool false))) := ⟨Z1.other (a := ⟨c, 0, none⟩) hbc _, Y1.set 0 _, z1.setCell (p := ⟨c, 0, none⟩) hc _⟩
  simp only [Act.put]
  refine wpList_step fun K hK => ?_
  rw [if_pos (by rfl)]
  go_simp
  refine hK _ _ (wpList_nil ?_)
  simp [bodyPostS, results, Try.results49, go_sem]
  exact FIN.out
set_option maxHeartbeats 1000000 in
theorem catch_idle (b c : Nat) (w : World) :
    CallsD Try.prog 49 #[.pointer (some ⟨b, 0, none⟩), .pointer (some ⟨c, 0, none⟩)] .returning w fun e u' w' => e = .returned (.tuple #[]) ∧ u' = .returning ∧ w' = w := by
  refine callsD_of_wpS Try.func49 rfl fun c₀ cs hu => ?_
  apply wpS_seq
  apply wpS_region
  simp [wpOpsS, go_sem, recoverD, hu, Try.ntmps49, Exit.thenS]
  refine wpS_cond (t := false) (by simp [Act.eval, Array.replicate]) ?_
  simp only [Bool.false_eq_true, if_false]
  refine wpS_of_wp (wp_skip ?_)
  cases c₀
  simp_all [bodyPostS, results, Try.results49]
end Go.Proofs.Ytljpkgloegafnaa
namespace Go.Proofs.Ytljpkgloegafnaa
open Go.RowKit
set_option maxRecDepth 100000
set_option linter.unusedVariables false
set_option linter.unusedSimpArgs false
theorem IAt.row {w : World} {B q : Nat} {st : I8} (h : IAt w B q st) : ∀ r, st.pv.ownBlock = some r → B ≤ r ∧ r < w.heap.size := by
  obtain ⟨⟨pv, ps, h1, c0, c1, h2, h3, h4⟩, hl, hq⟩ := h
  have e : st.pv = pv := by
    have : st.ar[5]? = some st.pv := rfl
    rw [this] at c0
    exact Option.some.inj c0
  intro r hr
  rw [e] at hr
  exact World.ownsRow.lt h2.own r hr
theorem At.kq {w w' : World} {b q : Nat} {pv : Value} {cs : Array Value} {t : TypeId} (h : At w b cs t) (k : Kq q pv w w') (hb : b ≠ q) (hp : pv.ownBlock ≠ some b) : At w' b cs t := ⟨(k.block b h.lt hb hp).trans h.is⟩
theorem IAt.lowK {w w0 w' : World} {B q : Nat} {st : I8} (h : IAt w0 B q st) (k : Kq q st.pv w w') (hB : B ≤ w.heap.size) : Below B w w' := k.low h.qB (fun r hr => (h.row r hr).1) hB
theorem resDnB {fn : Func} {T : Array Value} {w : World} {b c : Nat} {v : Value} {h : Hd} {d : Dd} {x : Bool} {t t' : TypeId} (i j : Nat) (hr : fn.results = #[.cell i 43, .cell j 4]) (hT : T.getD i undef = .pointer (some ⟨b, 0, none⟩)) (hJ : T.getD j undef = .pointer (some ⟨c, 0, none⟩)) (Z : At w b (doneVs v h d).toArray t) (Y : At w c #[.bool x] t') :
    (results fn T).run Try.prog w = .ok (.tuple #[.agg (doneVs v h d).toArray, .bool x]) w := by
  have e : (asAddr (T.getD i undef)).run Try.prog w = .ok ⟨b, 0, none⟩ w := by rw [hT]; rfl
  have e2 : (asAddr (T.getD j undef)).run Try.prog w = .ok ⟨c, 0, none⟩ w := by rw [hJ]; rfl
  have l : (loadVar 43 ⟨b, 0, none⟩).run Try.prog w = .ok (.agg (doneVs v h d).toArray) w := run_loadVar_mid w b 0 43 (doneVs v h d) _ Z.range Try.underlying43 rfl (infoDn v h d)
  have c0 : w.cell? ⟨c, 0, none⟩ = some (.bool x) := Y.cell 0
  have ha : (isAgg 4).run Try.prog w = .ok false w := by
    unfold isAgg
    rw [Sem.run_bind, run_underlying Try.underlying4 w]
    simp
  have l2 : (loadVar 4 ⟨c, 0, none⟩).run Try.prog w = .ok (.bool x) w := by simp [go_sem, c0, ha]
  simp only [results, hr, List.mapM_toArray, List.mapM_cons, List.mapM_nil, Sem.run_bind, Sem.run_map, Sem.run_pure, e, e2, Result.andThen_ok, l, l2]
  rfl
set_option maxHeartbeats 4000000 in
theorem iCaughtN (nx : FuncId) (B q : Nat) (HC : ∀ w, (callFunc nx #[.pointer (some ⟨q, 0, none⟩)]).run Try.prog w = .ok (.enter nx #[.pointer (some ⟨q, 0, none⟩)]) w) (st : I8) (w : World) (S : IAt w B q st) (HN : ∀ w1, IAt w1 B q st → Calls Try.prog nx #[.pointer (some ⟨q, 0, none⟩)] w1 (Ends B q st.pv w1 none)) :
    Calls Try.prog 32 #[.pointer (some ⟨q, 0, none⟩), .func (.func nx) #[.pointer (some ⟨q, 0, none⟩)] #[]] w fun e w' => e = .returned (.tuple #[.agg doneZ.toArray, .bool false]) ∧ Below B w w' := by
  have hmf : ∀ (fn : Fn) (first cap : Array Value) (w : World), (Instr.makeFunc fn first cap).run Try.prog w = .ok (.func fn first cap) w := fun _ _ _ _ => rfl
  have Bl := S.bl
  go_enter_defers Try.func32, Try.ntmps32
  go_upto_region 2 with fail
  refine wp_at (fun W => At W w.heap.size doneZ.toArray 43 ∧ At W (w.heap.size + 1) #[.bool false] 4 ∧ Below w.heap.size w W) (two_box w _ _ _ _) ?_
  rintro w1 ⟨Z, Y, z1⟩
  have S1 := S.keep z1
  obtain ⟨c, hc⟩ : ∃ c, Hid (w.heap.size + 1 = c) := ⟨_, rfl⟩
  rw [hc.out] at Y
  simp only [hc.out]
  obtain ⟨b, hb⟩ : ∃ b, Hid (w.heap.size = b) := ⟨_, rfl⟩
  rw [hb.out] at Z
  simp only [hb.out]
  have hq := S.lt
  have hbq : b ≠ q := by have := hb.out; omega
  have hcq : c ≠ q := by have := hc.out; omega
  have hpb : st.pv.ownBlock ≠ some b := fun e => by have := (S.row b e).2; have := hb.out; omega
  have hpc : st.pv.ownBlock ≠ some c := fun e => by have := (S.row c e).2; have := hc.out; omega
  go_wp2_with ((with_reducible refine (HN _ S1).mono ?_); intro e w3 hE; obtain ⟨rfl, k3⟩ := hE)
  have Z3 := Z.kq k3 hbq hpb
  have Y3 := Y.kq k3 hcq hpc
  have z3 := S1.lowK k3 S1.bl
  unfold gu
  refine leaves_cons (f := 49) (args := #[.pointer (some ⟨b, 0, none⟩), .pointer (some ⟨c, 0, none⟩)]) (by simp) (by simp [go_sem]) ?_
  refine (catch_panic b c _ false _ _ [] B _ Z3 rfl Y3 (by have := hb.out; have := hc.out; omega) (by have := hb.out; omega) (by have := hc.out; omega)).mono ?_
  rintro e u' w4 ⟨rfl, rfl, Z4, Y4, z4⟩
  exact ⟨_, resDnB 4 5 rfl rfl rfl Z4 Y4, rfl, ((z1.mono Bl).trans z3).trans z4⟩
set_option maxHeartbeats 4000000 in
theorem iCaughtD (nx : FuncId) (B q : Nat) (HC : ∀ w, (callFunc nx #[.pointer (some ⟨q, 0, none⟩)]).run Try.prog w = .ok (.enter nx #[.pointer (some ⟨q, 0, none⟩)]) w) (st : I8) (w : World) (S : IAt w B q st) (t : I8) (HN : ∀ w1, IAt w1 B q st → Calls Try.prog nx #[.pointer (some ⟨q, 0, none⟩)] w1 (Ends B q st.pv w1 (some t))) (hk : hOk t.p t.s t.l t.c t.k t.h = false) :
    Calls Try.prog 32 #[.pointer (some ⟨q, 0, none⟩), .func (.func nx) #[.pointer (some ⟨q, 0, none⟩)] #[]] w fun e w' => e = .returned (.tuple #[.agg doneZ.toArray, .bool false]) ∧ Below B w w' := by
  have hmf : ∀ (fn : Fn) (first cap : Array Value) (w : World), (Instr.makeFunc fn first cap).run Try.prog w = .ok (.func fn first cap) w := fun _ _ _ _ => rfl
  have Bl := S.bl
  go_enter_defers Try.func32, Try.ntmps32
  go_upto_region 2 with fail
  refine wp_at (fun W => At W w.heap.size doneZ.toArray 43 ∧ At W (w.heap.size + 1) #[.bool false] 4 ∧ Below w.heap.size w W) (two_box w _ _ _ _) ?_
  rintro w1 ⟨Z, Y, z1⟩
  have S1 := S.keep z1
  obtain ⟨c, hc⟩ : ∃ c, Hid (w.heap.size + 1 = c) := ⟨_, rfl⟩
  rw [hc.out] at Y
  simp only [hc.out]
  obtain ⟨b, hb⟩ : ∃ b, Hid (w.heap.size = b) := ⟨_, rfl⟩
  rw [hb.out] at Z
  simp only [hb.out]
  have hq := S.lt
  have hbq : b ≠ q := by have := hb.out; omega
  have hcq : c ≠ q := by have := hc.out; omega
  have hpb : st.pv.ownBlock ≠ some b := fun e => by have := (S.row b e).2; have := hb.out; omega
  have hpc : st.pv.ownBlock ≠ some c := fun e => by have := (S.row c e).2; have := hc.out; omega
  go_wp2_with (first
    | ((with_reducible refine (HN _ S1).mono ?_); intro e w2 hE; obtain ⟨rfl, S2, k2⟩ := hE)
    | (go_at_call 50; refine (iDoneN B q t _ S2 hk).mono ?_; rintro e w3 ⟨rfl, hb3⟩))
  have Z3 := (Z.kq k2 hbq hpb).keep hb3
  have Y3 := (Y.kq k2 hcq hpc).keep hb3
  have z3 := (S1.lowK k2 S1.bl).trans (hb3.mono S2.bl)
  unfold gu
  refine leaves_cons (f := 49) (args := #[.pointer (some ⟨b, 0, none⟩), .pointer (some ⟨c, 0, none⟩)]) (by simp) (by simp [go_sem]) ?_
  refine (catch_panic b c _ false _ _ [] B _ Z3 rfl Y3 (by have := hb.out; have := hc.out; omega) (by have := hb.out; omega) (by have := hc.out; omega)).mono ?_
  rintro e u' w4 ⟨rfl, rfl, Z4, Y4, z4⟩
  exact ⟨_, resDnB 4 5 rfl rfl rfl Z4 Y4, rfl, ((z1.mono Bl).trans z3).trans z4⟩
set_option maxHeartbeats 4000000 in
theorem iCaughtY (nx : FuncId) (B q : Nat) (HC : ∀ w, (callFunc nx #[.pointer (some ⟨q, 0, none⟩)]).run Try.prog w = .ok (.enter nx #[.pointer (some ⟨q, 0, none⟩)]) w) (st : I8) (w : World) (S : IAt w B q st) (t : I8) (HN : ∀ w1, IAt w1 B q st → Calls Try.prog nx #[.pointer (some ⟨q, 0, none⟩)] w1 (Ends B q st.pv w1 (some t))) (hk : hOk t.p t.s t.l t.c t.k t.h = true) (tn : t.n ≤ 16777216) (bd : ∀ x ∈ t.xs, 0 ≤ x ∧ x ≤ 18446744073709551615) :
    Calls Try.prog 32 #[.pointer (some ⟨q, 0, none⟩), .func (.func nx) #[.pointer (some ⟨q, 0, none⟩)] #[]] w fun e w' => ∃ g, e = .returned (.tuple #[.agg (doneVs (.slice (some ⟨g, 0, none⟩) t.n t.n) t.h t.d).toArray, .bool true]) ∧ w.heap.size ≤ g ∧ Ws w' g t.n t.n t.xs ∧ Below B w w' := by
  have hmf : ∀ (fn : Fn) (first cap : Array Value) (w : World), (Instr.makeFunc fn first cap).run Try.prog w = .ok (.func fn first cap) w := fun _ _ _ _ => rfl
  have Bl := S.bl
  go_enter_defers Try.func32, Try.ntmps32
  go_upto_region 2 with fail
  refine wp_at (fun W => At W w.heap.size doneZ.toArray 43 ∧ At W (w.heap.size + 1) #[.bool false] 4 ∧ Below w.heap.size w W) (two_box w _ _ _ _) ?_
  rintro w1 ⟨Z, Y, z1⟩
  have S1 := S.keep z1
  obtain ⟨c, hc⟩ : ∃ c, Hid (w.heap.size + 1 = c) := ⟨_, rfl⟩
  rw [hc.out] at Y
  simp only [hc.out]
  obtain ⟨b, hb⟩ : ∃ b, Hid (w.heap.size = b) := ⟨_, rfl⟩
  rw [hb.out] at Z
  simp only [hb.out]
  have hq := S.lt
  have hbq : b ≠ q := by have := hb.out; omega
  have hcq : c ≠ q := by have := hc.out; omega
  have hpb : st.pv.ownBlock ≠ some b := fun e => by have := (S.row b e).2; have := hb.out; omega
  have hpc : st.pv.ownBlock ≠ some c := fun e => by have := (S.row c e).2; have := hc.out; omega
  go_wp2_with (first
    | ((with_reducible refine (HN _ S1).mono ?_); intro e w2 hE; obtain ⟨rfl, S2, k2⟩ := hE; replace Z := Z.kq k2 hbq hpb; replace Y := Y.kq k2 hcq hpc)
    | (go_at_call 50; refine (iDoneY B q t _ S2 hk tn bd).mono ?_; rintro e w3 ⟨g, rfl, hg, G, hb3⟩; have hzl := Z.lt; have hyl := Y.lt; replace Z := Z.keep hb3; replace Y := Y.keep hb3)
    | (refine storeDn rfl (.tmp 4) (.tmp 10) rfl b (.slice (some ⟨g, 0, none⟩) t.n t.n) t.h t.d rfl rfl rfl Z rfl ?_; intro w4 Z4 k4; have Y4 := Y.kept k4 (by have := hb.out; have := hc.out; omega); have c0 : w4.cell? ⟨c, 0, none⟩ = some (.bool false) := Y4.cell 0; have f0 := Y4.frozen 0; have zs := Z4.lt; have G4 := G.kept k4 (by omega)))
  have hbc : b ≠ c := by have := hb.out; have := hc.out; omega
  have Z5 := Z4.other (a := ⟨c, 0, none⟩) hbc (.bool true)
  have Y5 := Y4.set 0 (.bool true)
  have G5 := G4.other (a := ⟨c, 0, none⟩) (by show g ≠ c; omega) (.bool true)
  have hs3 := hb3.size
  have zz : Below B w (w4.setCell ⟨c, 0, none⟩ (.bool true)) := ((((z1.mono Bl).trans (S1.lowK k2 S1.bl)).trans (hb3.mono S2.bl)).trans (k4.below (by have := hb.out; omega) (by have := S2.bl; omega))).setCell (p := ⟨c, 0, none⟩) (by show B ≤ c; have := hc.out; omega) _
  have hwg : w.heap.size ≤ g := by have := z1.size; have := k2.size; omega
  refine leaves_cons (f := 49) (args := #[.pointer (some ⟨b, 0, none⟩), .pointer (some ⟨c, 0, none⟩)]) (by simp) (by simp [go_sem]) ?_
  refine (catch_idle b c _).mono ?_
  rintro e u' w6 ⟨rfl, rfl, rfl⟩
  exact ⟨_, resDnB 4 5 rfl rfl rfl Z5 Y5, g, rfl, hwg, G5, zz⟩
end Go.Proofs.Ytljpkgloegafnaa
namespace Go.Proofs.Ytljpkgloegafnaa
open Go.RowKit
set_option maxRecDepth 100000
set_option linter.unusedVariables false
set_option linter.unusedSimpArgs false
def io0 : Oper := { dst := some 7, op := Op.load 28 (Operand.tmp 3), type := 28, pos := "l08_install.go:72", after := #[], guard := none }
def io1 : Oper := { dst := some 8, op := Op.move (Operand.tmp 1), type := 30, pos := "l08_install.go:72", after := #[], guard := none }
def io2 : Oper := { dst := some 9, op := Op.call { callee := Callee.value (Operand.func 48), args := #[Operand.tmp 8], argTypes := #[30] }, type := 65, pos := "l08_install.go:72", after := #[{ on := 1, ground := Ground.data }], guard := none }
def io3 : Oper := { dst := some 10, op := Op.load 39 (Operand.tmp 5), type := 39, pos := "l08_install.go:72", after := #[], guard := none }
def io4 : Oper := { dst := some 11, op := Op.build 67 #[(0, Operand.tmp 7), (1, Operand.tmp 9), (2, Operand.tmp 10)], type := 67, pos := "l08_install.go:72", after := #[{ on := 0, ground := Ground.data }, { on := 2, ground := Ground.data }, { on := 3, ground := Ground.data }], guard := none }
def io5 : Oper := { dst := none, op := Op.store 67 (Operand.tmp 6) (Operand.tmp 11), type := 0, pos := "l08_install.go:72", after := #[{ on := 4, ground := Ground.data }, { on := 2, ground := Ground.chain }, { on := 0, ground := Ground.phase }, { on := 1, ground := Ground.phase }, { on := 2, ground := Ground.phase }, { on := 3, ground := Ground.phase }, { on := 4, ground := Ground.phase }], guard := none }
theorem bInst (p s l c k : Int) (a : Option Addr) (m cc n : Nat) (h : Hd) : Try.prog.built 67 [(0, .agg #[.int .i64 p, .int .i64 s, .int .i64 l, .int .i64 c, .int .i64 k]), (1, .agg #[.slice a m cc, .int .i64 n]), (2, .agg h.ar)] = some (I8.ar ⟨p, s, l, c, k, .slice a m cc, n, [], h, Dd.zero, 67⟩) := by kernel_rfl
theorem tk_built2 {P : Program} {o : Oper} {a : Act} (t : TypeId) (parts : Array (Nat × Operand)) (ho : o.op = .build t parts) (ps : List (Nat × Value)) (hp : parts.toList.map (fun x => (x.1, a.eval x.2)) = ps) (cells : Array Value) (hb : P.built t ps = some cells) (w : World) : (execOp a.eval o).run P w = .ok (.value (.agg cells)) w := by
  have e : (parts.map fun (i, x) => (i, a.eval x)).toList = ps := by rw [Array.toList_map]; exact hp
  have e2 : P.built t (parts.map fun (i, x) => (i, a.eval x)).toList = some cells := by rw [e]; exact hb
  unfold execOp
  simp only [ho, Sem.run_bind, run_build w t _ cells e2, Result.andThen_ok]
  rfl
theorem infoI (st : I8) : (Try.prog.info? 67).map (·.size) = some st.vs.length := by kernel_rfl
theorem I8.one (st : I8) (hp : st.pv.oneCell' = true) : ∀ v ∈ st.vs, v.oneCell' = true := by
  intro u hu
  rcases List.mem_append.1 hu with hu | hu
  · rcases List.mem_append.1 hu with hu | hu
    · simp only [List.mem_cons, List.not_mem_nil, or_false] at hu
      rcases hu with rfl | rfl | rfl | rfl | rfl | rfl | rfl <;> first | rfl | exact hp
    · exact st.h.one u hu
  · exact st.d.one u hu
theorem wp_storeIn {o : Oper} {a : Act} {w : World} {K : Act → World → Prop} {Q : Exit → Act → World → Prop} (x y : Operand) (ho : o.op = .store 67 x y) (b : Nat) (st : I8) (hp : st.pv.oneCell' = true) (hx : a.eval x = .pointer (some ⟨b, 0, none⟩)) (hy : a.eval y = .agg st.ar) {cs : Array Value} {t : TypeId} (Z : At w b cs t) (hs : cs.size = 49)
    (hh : ∀ w', At w' b st.ar t → Kept b w w' → K (a.put o.dst undef) w') : o.wp Try.prog a w K Q :=
  wp_store_mid 67 x y ho b 0 st.ar hx hy (Z.there 0 49 (by omega)) (infoI st) (all_oneCell_toArray (st.one hp)) (hh _ (Z.fillAll (by rw [hs]; rfl)) (kept_setCells b _ 0 w))
theorem resIn {fn : Func} {T : Array Value} {w : World} {b : Nat} {st : I8} {t : TypeId} (i : Nat) (hr : fn.results = #[.cell i 67]) (hT : T.getD i undef = .pointer (some ⟨b, 0, none⟩)) (Z : At w b st.ar t) :
    (results fn T).run Try.prog w = .ok (.agg st.ar) w := by
  have e : (asAddr (T.getD i undef)).run Try.prog w = .ok ⟨b, 0, none⟩ w := by rw [hT]; rfl
  have l : (loadVar 67 ⟨b, 0, none⟩).run Try.prog w = .ok (.agg st.ar) w := run_loadVar_mid w b 0 67 st.vs _ Z.range Try.underlying67 rfl (infoI st)
  simp only [results, hr, List.mapM_toArray, List.mapM_cons, List.mapM_nil, Sem.run_bind, Sem.run_map, Sem.run_pure, e, Result.andThen_ok, l]
  rfl
theorem three_box (w : World) (cs ds es : Array Value) (t t' t'' : TypeId) : At (((w.alloc (.cells cs t)).alloc (.cells ds t')).alloc (.cells es t'')) w.heap.size cs t ∧ At (((w.alloc (.cells cs t)).alloc (.cells ds t')).alloc (.cells es t'')) (w.heap.size + 1) ds t' ∧ At (((w.alloc (.cells cs t)).alloc (.cells ds t')).alloc (.cells es t'')) (w.heap.size + 2) es t'' ∧ Below w.heap.size w (((w.alloc (.cells cs t)).alloc (.cells ds t')).alloc (.cells es t'')) := by
  obtain ⟨h1, h2, h3⟩ := two_box w cs ds t t'
  have hb : Below ((w.alloc (.cells cs t)).alloc (.cells ds t')).heap.size ((w.alloc (.cells cs t)).alloc (.cells ds t')) (((w.alloc (.cells cs t)).alloc (.cells ds t')).alloc (.cells es t'')) := (Below.refl _ _).alloc (Nat.le_refl _) _
  refine ⟨h1.keep hb, h2.keep hb, ?_, h3.trans (hb.mono h3.size)⟩
  have e : ((w.alloc (.cells cs t)).alloc (.cells ds t')).heap.size = w.heap.size + 2 := by simp
  have := At.new ((w.alloc (.cells cs t)).alloc (.cells ds t')) es t''
  rwa [e] at this
/-- The pages stay where a block is stored into that is neither theirs nor their row's. -/
theorem pgsKept {w w' : World} {B b m : Nat} {pv : Value} {ps : List (Nat × Nat)} {xs : List Int} {Z : Nat} {cs : Array Value} {t : TypeId} (h : Pgs w Z pv ps m xs) (k : Kept b w w') (hne : ∀ j, pv.ownBlock = some j → Z ≤ j) (hB : B ≤ Z) (hb : b < Z) (R : At w b cs t) (hs : cs.size < 64) : Pgs w' B pv ps m xs := by
  have h1 : Pgs w B pv ps m xs := by
    refine ⟨h.len, ?_, h.pg⟩
    rcases h.own with ⟨e1, e2 | ⟨r, cap, cur, e3, e4, e5⟩⟩
    · exact ⟨e1, .inl e2⟩
    · exact ⟨e1, .inr ⟨r, cap, cur, e3, by omega, e5⟩⟩
  refine h1.kept (row := some b) ⟨k.os, k.tape, k.output, k.size, fun i hi hn => k.block i hi (fun e => hn (by rw [e]))⟩ ?_ ?_
  · right
    intro e
    have := hne b e
    omega
  · intro q hq e
    have e2 : q.1 = b := by simpa using e
    obtain ⟨i, hi⟩ := List.getElem?_of_mem hq
    have := (h.pg i q hi).2.2 63 _ (chunk_at xs i 63 (by omega))
    rw [e2, R.cell] at this
    have h3 := (Array.getElem?_eq_some_iff.1 this).1
    omega
set_option maxHeartbeats 8000000 in
theorem iInstOf (p s l c k : Int) (g n cc : Nat) (xs : List Int) (h : Hd) (w : World) (G : Ws w g n cc xs) (hn : n ≤ 16777216) :
    Calls Try.prog 31 #[.agg #[.int .i64 p, .int .i64 s, .int .i64 l, .int .i64 c, .int .i64 k], .slice (some ⟨g, 0, none⟩) n cc, .agg h.ar] w fun e w' => ∃ pv, e = .returned (.agg (I8.ar ⟨p, s, l, c, k, pv, n, xs, h, Dd.zero, 67⟩)) ∧ pv.oneCell' = true ∧ (∃ ps, Pgs w' w.heap.size pv ps ((n + 63) / 64) xs) ∧ Below w.heap.size w w' := by
  go_enter Try.func31, Try.ntmps31
  go_upto_region 1 with fail
  refine wp_at (fun W => At W w.heap.size #[.int .i64 p, .int .i64 s, .int .i64 l, .int .i64 c, .int .i64 k] 28 ∧ At W (w.heap.size + 1) h.ar 39 ∧ At W (w.heap.size + 2) (I8.ar ⟨0, 0, 0, 0, 0, .slice none 0 0, 0, [], Hd.zero, Dd.zero, 67⟩) 67 ∧ Below w.heap.size w W) (three_box w _ _ _ _ _ _) ?_
  rintro w1 ⟨P1, H1, R1, z1⟩
  obtain ⟨b0, hb0⟩ : ∃ b, Hid (w.heap.size = b) := ⟨_, rfl⟩
  obtain ⟨b1, hb1⟩ : ∃ b, Hid (w.heap.size + 1 = b) := ⟨_, rfl⟩
  obtain ⟨r, hr⟩ : ∃ b, Hid (w.heap.size + 2 = b) := ⟨_, rfl⟩
  rw [hr.out] at R1
  rw [hb1.out] at H1
  rw [hb0.out] at P1
  simp only [hr.out]
  simp only [hb1.out]
  simp only [hb0.out]
  have lp : ∀ w', (At w' b0 #[.int .i64 p, .int .i64 s, .int .i64 l, .int .i64 c, .int .i64 k] 28 ∧ At w' b1 h.ar 39) → (loadVar 28 ⟨b0, 0, none⟩).run Try.prog w' = .ok (.agg #[.int .i64 p, .int .i64 s, .int .i64 l, .int .i64 c, .int .i64 k]) w' := fun w' A => ld_agg (vs := [.int .i64 p, .int .i64 s, .int .i64 l, .int .i64 c, .int .i64 k]) A.1 Try.underlying28 rfl (by kernel_rfl) w' ⟨Below.refl _ _⟩
  have lh : ∀ w', (At w' b0 #[.int .i64 p, .int .i64 s, .int .i64 l, .int .i64 c, .int .i64 k] 28 ∧ At w' b1 h.ar 39) → (loadVar 39 ⟨b1, 0, none⟩).run Try.prog w' = .ok (.agg h.ar) w' := fun w' A => ld_agg (vs := h.vs) A.2 Try.underlying39 rfl infoH w' ⟨Below.refl _ _⟩
  have zd : Below w1.heap.size w1 w1.drew := (Below.refl _ _).drew
  refine wp_region_held_drew (S := fun w' => At w' b0 #[.int .i64 p, .int .i64 s, .int .i64 l, .int .i64 c, .int .i64 k] 28 ∧ At w' b1 h.ar 39) (by kernel_rfl) ⟨P1.keep zd, H1.keep zd⟩ (fun hS => ?_)
  have R2 := R1.keep zd
  have z2 := z1.drew
  have G2 := (G.keep z1).keep zd
  have hz2 : w.heap.size ≤ w1.drew.heap.size := z1.size
  clear R1 P1 H1 z1 zd
  generalize w1.drew = w2 at *
  refine tk_load (i := 0) (oi := io0) rfl (by kernel_rfl) (by kernel_rfl) (by kernel_rfl) (fun _ _ _ h => h) (by rfl) _ _ _ rfl rfl (by assumption) hS ?_
  simp only [io0, Act.put, List.setIfInBounds_toArray, List.set_cons_zero, List.set_cons_succ]
  refine tk_pure (i := 1) (oi := io1) rfl (by kernel_rfl) (by kernel_rfl) (by kernel_rfl) (fun _ _ _ h => h) (by rfl) hS (fun w9 => by simp only [io1]; go_simp; (try with_reducible rfl)) ?_
  simp only [io1, Act.put, List.setIfInBounds_toArray, List.set_cons_zero, List.set_cons_succ]
  refine tk_load (i := 3) (oi := io3) rfl (by kernel_rfl) (by kernel_rfl) (by kernel_rfl) (fun _ _ _ h => h) (by rfl) _ _ _ rfl rfl (by assumption) hS ?_
  simp only [io3, Act.put, List.setIfInBounds_toArray, List.set_cons_zero, List.set_cons_succ]
  refine wpAnyH_ready (rs := [2]) (by kernel_rfl) (by simp) ?_
  refine AllReadyH.cons (o := io2) rfl (fun K hK => ?_) ?_
  · rw [if_pos (by rfl)]
    simp only [io2]
    go_simp
    go_at_call 48
    refine (iWords g n cc xs _ G2 hn).mono ?_
    rintro e w4 ⟨pv, rfl, ⟨ps, PG⟩, hb⟩
    obtain ⟨pa, pb, pc, rfl⟩ := PG.sl
    (go_wp2_with fail)
    have R3 := R2.keep hb
    have hrl := R2.lt
    have hS2 := And.intro (hS.1.keep hb) (hS.2.keep hb)
    have z3 := z2.trans (hb.mono hz2)
    have ho : ∀ j, Value.ownBlock (.slice pa pb pc) = some j → w2.heap.size ≤ j := fun j hj => (World.ownsRow.lt PG.own j hj).1
    clear hb
    refine hK.out _ _ hS2 (fun hS => ?_)
    clear hK K
    (try simp only [io2, Act.put, List.setIfInBounds_toArray, List.set_cons_zero, List.set_cons_succ])
    refine tk_pure (i := 4) (oi := io4) rfl (by kernel_rfl) (by kernel_rfl) (by kernel_rfl) (fun _ _ _ h => h) (by rfl) hS (fun w9 => tk_built2 67 #[(0, .tmp 7), (1, .tmp 9), (2, .tmp 10)] rfl [(0, .agg #[.int .i64 p, .int .i64 s, .int .i64 l, .int .i64 c, .int .i64 k]), (1, .agg #[.slice pa pb pc, .int .i64 n]), (2, .agg h.ar)] rfl _ (bInst _ _ _ _ _ _ _ _ _ _) w9) ?_
    simp only [io4, Act.put, List.setIfInBounds_toArray, List.set_cons_zero, List.set_cons_succ]
    refine wpAnyH_ready (rs := [5]) (by kernel_rfl) (by simp) ?_
    refine AllReadyH.cons (o := io5) rfl (fun K hK => ?_) ?_
    · rw [if_pos (by rfl)]
      refine wp_storeIn (.tmp 6) (.tmp 11) rfl r ⟨p, s, l, c, k, .slice pa pb pc, n, xs, h, Dd.zero, 67⟩ rfl rfl rfl R3 rfl ?_
      intro w5 R5 kk
      have hS2 := And.intro (hS.1.kept kk (by have := hb0.out; have := hr.out; omega)) (hS.2.kept kk (by have := hb1.out; have := hr.out; omega))
      refine hK.out _ _ hS2 (fun hS => ?_)
      clear hK K
      simp only [io5, Act.put]
      refine wpAnyH_done (by kernel_rfl) ?_ _
      go_wp2
      refine bodyPost_ret (resIn (st := ⟨p, s, l, c, k, .slice pa pb pc, n, xs, h, Dd.zero, 67⟩) 6 rfl rfl R5) rfl ?_
      exact ⟨_, rfl, rfl, ⟨ps, pgsKept PG kk ho hz2 hrl R3 (by show 49 < 64; omega)⟩, z3.trans (kk.below (by have := hr.out; omega) z3.size)⟩
    exact AllReadyH.nil
  exact AllReadyH.nil
end Go.Proofs.Ytljpkgloegafnaa
