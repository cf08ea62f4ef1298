/-
  The program's step keeps the measure of its words.
  What the program's InstallStep answers, where it may.
  The specification's step: how it is closed.
  The specification's step: what it answers.
  The specification's step: how it begins.
  The specification's step: what AtOpen does.
-/
import Derived.Test.YtgmoemjiffglbaaGreatMk
namespace Go.Proofs.YtgmoemjiffglbaaGreat
open Go.RowKit
set_option maxRecDepth 100000
set_option linter.unusedVariables false
theorem Meas.getR (t : I8) (a : Int) : Meas t (t.getR a) := by
  unfold I8.getR
  split
  · exact Meas.hand t { t.h with reply := 8, out := 0, at_ := 2 }
  · exact Meas.hand t { t.h with at_ := a }
theorem Meas.openR {t u : I8} (h : t.openR = some u) : Meas t u := by
  unfold I8.openR at h
  by_cases k2 : t.h.code = 2
  · rw [if_pos k2] at h; rw [← Option.some.inj h]; exact Meas.hand t _
  rw [if_neg k2] at h
  by_cases k6 : t.h.code = 6
  · rw [if_pos k6] at h; rw [← Option.some.inj h]; exact Meas.hand t _
  rw [if_neg k6] at h
  by_cases k8 : t.h.code = 8
  · rw [if_pos k8] at h; rw [← Option.some.inj h]; exact Meas.hand t _
  rw [if_neg k8] at h
  by_cases k3 : t.h.code = 3
  · rw [if_pos k3] at h; rw [← Option.some.inj h]; exact Meas.hand t _
  rw [if_neg k3] at h
  by_cases k4 : t.h.code = 4
  · rw [if_pos k4] at h; rw [← Option.some.inj h]; exact Meas.hand t _
  rw [if_neg k4] at h
  by_cases k5 : t.h.code = 5
  · rw [if_pos k5] at h; rw [← Option.some.inj h]; exact Meas.hand t _
  rw [if_neg k5] at h
  by_cases k7 : t.h.code = 7
  · rw [if_pos k7] at h; rw [← Option.some.inj h]; exact Meas.getR _ _
  rw [if_neg k7] at h
  by_cases k9 : t.h.code = 9
  · rw [if_pos k9] at h; rw [← Option.some.inj h]; exact Meas.getR _ _
  rw [if_neg k9] at h
  by_cases k10 : t.h.code = 10
  · rw [if_pos k10] at h; rw [← Option.some.inj h]; exact Meas.hand t _
  rw [if_neg k10] at h
  by_cases k11 : t.h.code = 11
  · rw [if_pos k11] at h; rw [← Option.some.inj h]; exact Meas.hand t _
  rw [if_neg k11] at h
  by_cases k12 : t.h.code = 12
  · rw [if_pos k12] at h; rw [← Option.some.inj h]; exact Meas.hand t _
  rw [if_neg k12] at h
  by_cases k13 : t.h.code = 13
  · rw [if_pos k13] at h; rw [← Option.some.inj h]; exact Meas.hand t _
  rw [if_neg k13] at h
  by_cases k14 : t.h.code = 14
  · rw [if_pos k14] at h; rw [← Option.some.inj h]; exact Meas.hand t _
  rw [if_neg k14] at h
  cases h
theorem Meas.next {st t : I8} (hp : 0 ≤ st.h.put ∧ st.h.put ≤ 18446744073709551615) (h : st.next = some t) : Meas st t := by
  unfold I8.next at h
  split at h
  · unfold I8.openO at h
    cases hr : st.numb.wrO (st.numb.slot 1) st.numb.h.code 0 st.numb.h.a st.numb.h.number with
    | none => rw [hr] at h; cases h
    | some u =>
      rw [hr] at h
      exact ((Meas.hand st _).trans (Meas.wrO hr)).trans (Meas.openR h)
  split at h
  · unfold I8.sayO at h
    cases hr : st.wrO (st.slot 4) st.h.reply 0 st.h.out st.h.number with
    | none => rw [hr] at h; cases h
    | some u => rw [hr] at h; cases h; exact (Meas.wrO hr).trans (Meas.hand _ _)
  split at h
  · cases hr : st.intO 0 0 with
    | none => rw [hr] at h; cases h
    | some u => rw [hr] at h; cases h; exact ((Meas.hand st _).trans (Meas.wrO hr)).trans (Meas.hand _ _)
  split at h
  · cases hr : st.wrO (st.slot 5) 0 0 0 0 with
    | none => rw [hr] at h; cases h
    | some u => rw [hr] at h; cases h; exact (Meas.wrO hr).trans (Meas.hand _ _)
  split at h
  · cases hr : st.wrO (st.slot 6) 0 0 0 0 with
    | none => rw [hr] at h; cases h
    | some u => rw [hr] at h; cases h; exact (Meas.wrO hr).trans (Meas.hand _ _)
  split at h
  · unfold I8.noteO at h
    split at h
    · cases h; exact Meas.hand _ _
    · cases h
  split at h
  · unfold I8.markO at h
    cases hr : st.wrO st.note 0 0 0 (uS st.h.seen) with
    | none => rw [hr] at h; cases h
    | some u => rw [hr] at h; cases h; exact (Meas.wrO hr).trans (Meas.hand _ _)
  · cases h
    have ht : Meas st st.turned := ⟨rfl, rfl, rfl, rfl, rfl, rfl, fun b => swapped_bd b hp st.h.addr st.h.seen⟩
    unfold I8.swapO
    split
    · split
      · exact ht.trans (Meas.hand _ _)
      · exact ht.trans ⟨rfl, rfl, rfl, rfl, rfl, rfl, id⟩
    · exact ht.trans (Meas.hand _ _)
end Go.Proofs.YtgmoemjiffglbaaGreat
namespace Go.Proofs.YtgmoemjiffglbaaGreat
open Go.RowKit
set_option maxRecDepth 100000
set_option linter.unusedVariables false
set_option linter.unusedSimpArgs false
/-- The step as it begins. -/
def st0 (p s l c k : Int) (pv : Value) (n : Nat) (xs : List Int) (h : Hd) (ty : TypeId := 54) : I8 := ⟨p, s, l, c, k, pv, n, xs, h, Dd.zero, ty⟩
theorem pv_ne {w : World} {B : Nat} {pv : Value} {ps : List (Nat × Nat)} {m : Nat} {xs : List Int} (P : Pgs w B pv ps m xs) : pv.ownBlock ≠ some w.heap.size ∧ ∀ p ∈ ps, p.1 ≠ w.heap.size := by
  refine ⟨fun e => ?_, fun p hp => ?_⟩
  · have := (World.ownsRow.lt P.own _ e).2
    omega
  · obtain ⟨i, hi⟩ := List.getElem?_of_mem hp
    have := (P.pg i p hi).1
    omega
end Go.Proofs.YtgmoemjiffglbaaGreat
namespace Go.Proofs.YtgmoemjiffglbaaGreat
open Go.RowKit
set_option maxRecDepth 100000
set_option linter.unusedVariables false
set_option linter.unusedSimpArgs false
theorem S8.pl (st : S8) : ∀ j v, [Value.int .i64 st.p, .int .i64 st.s, .int .i64 st.l, .int .i64 st.c, .int .i64 st.k][j]? = some v → st.vs.toArray[0 + j]? = some v := fun j v hv =>
  sub_at [] [Value.int .i64 st.p, .int .i64 st.s, .int .i64 st.l, .int .i64 st.c, .int .i64 st.k] ([.slice (some ⟨st.g, 0, none⟩) st.n st.cc, .slice st.ra st.runs.length st.rc, .int .i64 st.me] ++ st.h.vs ++ st.d.vs ++ [.bool st.ok, .int .i64 st.at_, .int .u64 st.was, .bool st.turn]) j v hv
theorem S8.hl (st : S8) : ∀ j v, st.h.vs[j]? = some v → st.vs.toArray[8 + j]? = some v := fun j v hv =>
  sub_at [Value.int .i64 st.p, .int .i64 st.s, .int .i64 st.l, .int .i64 st.c, .int .i64 st.k, .slice (some ⟨st.g, 0, none⟩) st.n st.cc, .slice st.ra st.runs.length st.rc, .int .i64 st.me] st.h.vs (st.d.vs ++ [.bool st.ok, .int .i64 st.at_, .int .u64 st.was, .bool st.turn]) j v hv
/-- What the close leaves of the words. -/
def S8.back (st : S8) : S8 := if st.turn = true then { st with ar := st.ar.set st.at_.toNat st.was } else st
noncomputable def S8.good (st : S8) : Bool := st.ok && hOk st.p st.s st.l st.c st.k st.h
theorem ldS {W : World} {b o : Nat} {vs : List Value} {cs : Array Value} {t ty : TypeId} {d : TypeDesc} (A : At W b cs t) (hr : ∀ j v, vs[j]? = some v → cs[o + j]? = some v) (hu : Tryz.prog.underlying ty = some d) (hd : d.isRow = true) (hi : (Tryz.prog.info? ty).map (·.size) = some vs.length) (w : World) (hw : Cls W w) : (loadVar ty ⟨b, o, none⟩).run Tryz.prog w = .ok (.agg vs.toArray) w :=
  run_loadVar_mid w b o ty vs d (fun j v hj => by rw [(A.keep hw.below).cell]; exact hr j v hj) hu hd hi
theorem ldS_b {W : World} {b i : Nat} {cs : Array Value} {t ty : TypeId} {x : Bool} (A : At W b cs t) (hu : Tryz.prog.underlying ty = some .bool) (hv : cs[i]? = some (.bool x)) (w : World) (hw : Cls W w) : (loadVar ty ⟨b, i, none⟩).run Tryz.prog w = .ok (.bool x) w := by
  have c : w.cell? ⟨b, i, none⟩ = some (.bool x) := ((A.keep hw.below).cell i).trans hv
  have ha : (isAgg ty).run Tryz.prog w = .ok false w := by
    unfold isAgg
    rw [Sem.run_bind, run_underlying hu w]
    simp
  simp [go_sem, c, ha]
set_option maxHeartbeats 4000000 in
theorem sCloseY (b : Nat) (st : S8) (w : World) (S : SAt w b st) (hg : st.good = true) :
    Calls Tryz.prog 40 #[.pointer (some ⟨b, 0, none⟩)] w fun e w' => e = .returned (.bool true) ∧ Below w.heap.size w w' := by
  have A := S.is
  unfold S8.good at hg
  have h1 : st.ok = true := by cases h : st.ok <;> simp_all
  have h2 : hOk st.p st.s st.l st.c st.k st.h = true := by rw [h1] at hg; simpa using hg
  have lo : ∀ w', Cls w w' → (loadVar 4 ⟨b, 50, none⟩).run Tryz.prog w' = .ok (.bool true) w' := ldS_b A Tryz.underlying4 (by rw [← h1]; rfl)
  have lp : ∀ w', Cls w w' → (loadVar 35 ⟨b, 0, none⟩).run Tryz.prog w' = .ok (.agg #[.int .i64 st.p, .int .i64 st.s, .int .i64 st.l, .int .i64 st.c, .int .i64 st.k]) w' := ldS (o := 0) A st.pl Tryz.underlying35 rfl (by kernel_rfl)
  have lh : ∀ w', Cls w w' → (loadVar 28 ⟨b, 8, none⟩).run Tryz.prog w' = .ok (.agg st.h.ar) w' := ldS (o := 8) A st.hl Tryz.underlying28 rfl infoH
  clear A hg h1
  go_enter Tryz.func40, Tryz.ntmps40
  go_upto_region 1 with fail
  refine wp_region_cls (by kernel_rfl) (by kernel_rfl) ?_
  repeat' (first
    | go_big_quiet_skip
    | (go_big_quiet_want; first
      | (refine q_load _ _ _ _ rfl rfl (by assumption) ?_; simp only [Act.put, List.setIfInBounds_toArray, List.set_cons_zero, List.set_cons_succ]; go_big_quiet_on)
      | (go_big_quiet_op; first
        | go_big_quiet_on
        | (refine ⟨_, fun _ _ => rfl, ?_⟩; go_big_quiet_on)
        | (apply Exists.intro; refine ⟨fun w' hw' => ?_, ?_⟩
           · (go_at_call 27; exact cls_below hw' (by have hq := sHandOk st.p st.s st.l st.c st.k st.h w'; rw [h2] at hq; exact hq))
           go_big_quiet_on))))
  refine wpQuiet_nil ?_
  intro w2 hw2
  go_wp2
  go_ret
  exact ⟨rfl, hw2.below⟩
set_option maxHeartbeats 4000000 in
theorem sCloseB (b : Nat) (st : S8) (w : World) (S : SAt w b st) (h1 : st.ok = false) (hat : st.turn = true → thr st.at_ st.n = true) (hwas : 0 ≤ st.was ∧ st.was ≤ 18446744073709551615) :
    Calls Tryz.prog 40 #[.pointer (some ⟨b, 0, none⟩)] w fun e w' => e = .returned (.bool false) ∧ SAt w' b st.back ∧ K2 b st.g w w' := by
  have A := S.is
  have lo : ∀ w', Cls w w' → (loadVar 4 ⟨b, 50, none⟩).run Tryz.prog w' = .ok (.bool false) w' := ldS_b A Tryz.underlying4 (by rw [← h1]; rfl)
  have lp : ∀ w', Cls w w' → (loadVar 35 ⟨b, 0, none⟩).run Tryz.prog w' = .ok (.agg #[.int .i64 st.p, .int .i64 st.s, .int .i64 st.l, .int .i64 st.c, .int .i64 st.k]) w' := ldS (o := 0) A st.pl Tryz.underlying35 rfl (by kernel_rfl)
  have lh : ∀ w', Cls w w' → (loadVar 28 ⟨b, 8, none⟩).run Tryz.prog w' = .ok (.agg st.h.ar) w' := ldS (o := 8) A st.hl Tryz.underlying28 rfl infoH
  clear A
  go_enter Tryz.func40, Tryz.ntmps40
  go_upto_region 1 with fail
  refine wp_region_cls (by kernel_rfl) (by kernel_rfl) ?_
  repeat' (first
    | go_big_quiet_skip
    | (go_big_quiet_want; first
      | (refine q_load _ _ _ _ rfl rfl (by assumption) ?_; simp only [Act.put, List.setIfInBounds_toArray, List.set_cons_zero, List.set_cons_succ]; go_big_quiet_on)
      | (go_big_quiet_op; first
        | go_big_quiet_on
        | (refine ⟨_, fun _ _ => rfl, ?_⟩; go_big_quiet_on)
        | fail)))
  refine wpQuiet_nil ?_
  intro w2 hw2
  go_upto_region 3 with fail
  have k2 : K2 b st.g w w2 := K2.of_below hw2.below
  replace S := S.keep hw2.below
  clear lp lh lo
  cases ht : st.turn
  · have e : Hid (st.back = st) := by unfold Hid; unfold S8.back; rw [ht]; rfl
    have c53 := S.c_turn
    rw [ht] at c53
    go_wp2
    go_ret
    exact ⟨rfl, by rw [e.out]; exact S, k2⟩
  · obtain ⟨i, hi, hie⟩ := thr_true (hat ht)
    have hgb := Ne.symm S.bg
    have hbg := S.bg
    have c53 := S.c_turn
    rw [ht] at c53
    have c5 := S.cA
    have c51 := S.c_at
    rw [hie] at c51
    have c52 := S.c_was
    have d0 := S.ws.cell i hi
    have df := S.ws.frozen i
    have hi' : (i : Int) < (st.n : Int) := by omega
    have e : Hid (st.back = { st with ar := st.ar.set i st.was }) := by unfold Hid; unfold S8.back; rw [ht, hie]; simp
    have FIN : Hid (SAt (w2.drew.setCell ⟨st.g, i, none⟩ (.int .u64 st.was)) b { st with ar := st.ar.set i st.was }) := S.drew.write i st.was hwas
    go_upto_region 4 with fail
    go_region_held3 (fun w' => w'.cell? ⟨b, 5, none⟩ = some (.slice (some ⟨st.g, 0, none⟩) st.n st.cc) ∧ w'.cell? ⟨b, 51, none⟩ = some (.int .i64 (i : Int)) ∧ w'.cell? ⟨b, 52, none⟩ = some (.int .u64 st.was)) (go_keep) (fail)
    go_wp2
    go_ret
    exact ⟨rfl, by rw [e.out]; exact FIN.out, k2.drew.setg _ _⟩
set_option maxHeartbeats 4000000 in
theorem sCloseH (b : Nat) (st : S8) (w : World) (S : SAt w b st) (h1 : st.ok = true) (h2 : hOk st.p st.s st.l st.c st.k st.h = false) (hat : st.turn = true → thr st.at_ st.n = true) (hwas : 0 ≤ st.was ∧ st.was ≤ 18446744073709551615) :
    Calls Tryz.prog 40 #[.pointer (some ⟨b, 0, none⟩)] w fun e w' => e = .returned (.bool false) ∧ SAt w' b st.back ∧ K2 b st.g w w' := by
  have A := S.is
  have lo : ∀ w', Cls w w' → (loadVar 4 ⟨b, 50, none⟩).run Tryz.prog w' = .ok (.bool true) w' := ldS_b A Tryz.underlying4 (by rw [← h1]; rfl)
  have lp : ∀ w', Cls w w' → (loadVar 35 ⟨b, 0, none⟩).run Tryz.prog w' = .ok (.agg #[.int .i64 st.p, .int .i64 st.s, .int .i64 st.l, .int .i64 st.c, .int .i64 st.k]) w' := ldS (o := 0) A st.pl Tryz.underlying35 rfl (by kernel_rfl)
  have lh : ∀ w', Cls w w' → (loadVar 28 ⟨b, 8, none⟩).run Tryz.prog w' = .ok (.agg st.h.ar) w' := ldS (o := 8) A st.hl Tryz.underlying28 rfl infoH
  clear A
  go_enter Tryz.func40, Tryz.ntmps40
  go_upto_region 1 with fail
  refine wp_region_cls (by kernel_rfl) (by kernel_rfl) ?_
  repeat' (first
    | go_big_quiet_skip
    | (go_big_quiet_want; first
      | (refine q_load _ _ _ _ rfl rfl (by assumption) ?_; simp only [Act.put, List.setIfInBounds_toArray, List.set_cons_zero, List.set_cons_succ]; go_big_quiet_on)
      | (go_big_quiet_op; first
        | go_big_quiet_on
        | (refine ⟨_, fun _ _ => rfl, ?_⟩; go_big_quiet_on)
        | (apply Exists.intro; refine ⟨fun w' hw' => ?_, ?_⟩
           · (go_at_call 27; exact cls_below hw' (by have hq := sHandOk st.p st.s st.l st.c st.k st.h w'; rw [h2] at hq; exact hq))
           go_big_quiet_on))))
  refine wpQuiet_nil ?_
  intro w2 hw2
  go_upto_region 3 with fail
  have k2 : K2 b st.g w w2 := K2.of_below hw2.below
  replace S := S.keep hw2.below
  clear lp lh lo
  cases ht : st.turn
  · have e : Hid (st.back = st) := by unfold Hid; unfold S8.back; rw [ht]; rfl
    have c53 := S.c_turn
    rw [ht] at c53
    go_wp2
    go_ret
    exact ⟨rfl, by rw [e.out]; exact S, k2⟩
  · obtain ⟨i, hi, hie⟩ := thr_true (hat ht)
    have hgb := Ne.symm S.bg
    have hbg := S.bg
    have c53 := S.c_turn
    rw [ht] at c53
    have c5 := S.cA
    have c51 := S.c_at
    rw [hie] at c51
    have c52 := S.c_was
    have d0 := S.ws.cell i hi
    have df := S.ws.frozen i
    have hi' : (i : Int) < (st.n : Int) := by omega
    have e : Hid (st.back = { st with ar := st.ar.set i st.was }) := by unfold Hid; unfold S8.back; rw [ht, hie]; simp
    have FIN : Hid (SAt (w2.drew.setCell ⟨st.g, i, none⟩ (.int .u64 st.was)) b { st with ar := st.ar.set i st.was }) := S.drew.write i st.was hwas
    go_upto_region 4 with fail
    go_region_held3 (fun w' => w'.cell? ⟨b, 5, none⟩ = some (.slice (some ⟨st.g, 0, none⟩) st.n st.cc) ∧ w'.cell? ⟨b, 51, none⟩ = some (.int .i64 (i : Int)) ∧ w'.cell? ⟨b, 52, none⟩ = some (.int .u64 st.was)) (go_keep) (fail)
    go_wp2
    go_ret
    exact ⟨rfl, by rw [e.out]; exact FIN.out, k2.drew.setg _ _⟩
end Go.Proofs.YtgmoemjiffglbaaGreat
namespace Go.Proofs.YtgmoemjiffglbaaGreat
open Go.RowKit
set_option maxRecDepth 100000
set_option linter.unusedVariables false
set_option linter.unusedSimpArgs false
theorem q_built {P : Program} {o : Oper} {a : Act} {C : World → Prop} {K : Act → Prop} (t : TypeId) (parts : Array (Nat × Operand)) (ho : o.op = .build t parts) (ps : List (Nat × Value)) (hp : parts.toList.map (fun x => (x.1, a.eval x.2)) = ps) (cells : Array Value) (hb : P.built t ps = some cells)
    (hk : K (a.put o.dst (.agg cells))) : o.quiet P a C K :=
  ⟨.agg cells, fun w hw => by
    unfold Oper.quietAt
    rw [tk_built t parts ho ps hp cells hb w]
    exact ⟨rfl, rfl⟩, hk⟩
theorem S8.dl (st : S8) : ∀ j v, st.d.vs[j]? = some v → st.vs.toArray[44 + j]? = some v := fun j v hv => by
  have := sub_at ([Value.int .i64 st.p, .int .i64 st.s, .int .i64 st.l, .int .i64 st.c, .int .i64 st.k, .slice (some ⟨st.g, 0, none⟩) st.n st.cc, .slice st.ra st.runs.length st.rc, .int .i64 st.me] ++ st.h.vs) st.d.vs [.bool st.ok, .int .i64 st.at_, .int .u64 st.was, .bool st.turn] j v hv
  simp only [List.length_append, List.length_cons, List.length_nil, Hd.len] at this
  exact this
theorem ldS_s {W : World} {b i : Nat} {cs : Array Value} {t ty e : TypeId} {a : Option Addr} {n c : Nat} (A : At W b cs t) (hu : Tryz.prog.underlying ty = some (.slice e)) (hv : cs[i]? = some (.slice a n c)) (w : World) (hw : Cls W w) : (loadVar ty ⟨b, i, none⟩).run Tryz.prog w = .ok (.slice a n c) w := by
  have c : w.cell? ⟨b, i, none⟩ = some (.slice a n c) := ((A.keep hw.below).cell i).trans hv
  have ha : (isAgg ty).run Tryz.prog w = .ok false w := by
    unfold isAgg
    rw [Sem.run_bind, run_underlying hu w]
    simp
  simp [go_sem, c, ha]
theorem K2.afterK {b g r : Nat} {a w w' : World} (h : K2 b g a w) (kk : Kept r w w') (hr : a.heap.size ≤ r) : K2 b g a w' :=
  ⟨kk.os.trans h.os, kk.tape.trans h.tape, kk.output.trans h.output, Nat.le_trans h.size kk.size, fun k hk hb hg => (kk.block k (Nat.lt_of_lt_of_le hk h.size) (by omega)).trans (h.block k hk hb hg)⟩
set_option maxHeartbeats 4000000 in
theorem sDoneN (b : Nat) (st : S8) (w : World) (S : SAt w b st) (hg : st.good = false) (hat : st.turn = true → thr st.at_ st.n = true) (hwas : 0 ≤ st.was ∧ st.was ≤ 18446744073709551615) :
    Calls Tryz.prog 17 #[.pointer (some ⟨b, 0, none⟩)] w fun e w' => e = .returned (.tuple #[.agg doneZ.toArray, .bool false]) ∧ K2 b st.g w w' := by
  have CC : ∀ w1, SAt w1 b st → Calls Tryz.prog 40 #[.pointer (some ⟨b, 0, none⟩)] w1 fun e w' => e = .returned (.bool false) ∧ SAt w' b st.back ∧ K2 b st.g w1 w' := by
    intro w1 S1
    cases h1 : st.ok
    · exact sCloseB b st w1 S1 h1 hat hwas
    · exact sCloseH b st w1 S1 h1 (by unfold S8.good at hg; rw [h1] at hg; simpa using hg) hat hwas
  go_enter Tryz.func17, Tryz.ntmps17
  go_upto_region 1 with fail
  refine wp_at (fun W => At W w.heap.size doneZ.toArray 32 ∧ SAt W b st ∧ Below w.heap.size w W) ⟨At.new w _ _, S.keep ((Below.refl _ _).alloc (Nat.le_refl _) _), (Below.refl _ _).alloc (Nat.le_refl _) _⟩ ?_
  rintro w1 ⟨R, S1, z⟩
  have hb := S.is.lt
  have hgl := S.ws.lt
  go_wp2_with (first
    | (go_at_call 40; refine (CC _ S1).mono ?_; rintro e w2 ⟨rfl, -, k2⟩; replace R : At w2 w.heap.size doneZ.toArray 32 := ⟨(k2.block _ R.lt (by omega) (by omega)).trans R.is⟩)
    | (refine wpList_built rfl 32 #[] rfl [] rfl _ bDone0 ?_)
    | (refine storeDn rfl (.tmp 2) (.tmp 7) rfl w.heap.size (.slice none 0 0) Hd.zero Dd.zero rfl rfl rfl R rfl ?_; intro w3 R3 kk))
  refine bodyPost_ret (resDn2 (v := .slice none 0 0) (h := Hd.zero) (d := Dd.zero) 2 3 rfl rfl rfl R3) rfl ?_
  exact ⟨rfl, ((K2.of_below z).trans k2).afterK kk (Nat.le_refl _)⟩
set_option maxHeartbeats 4000000 in
theorem sDoneY (b : Nat) (st : S8) (w : World) (S : SAt w b st) (hg : st.good = true) :
    Calls Tryz.prog 17 #[.pointer (some ⟨b, 0, none⟩)] w fun e w' => e = .returned (.tuple #[.agg (doneVs (.slice (some ⟨st.g, 0, none⟩) st.n st.cc) st.h st.d).toArray, .bool true]) ∧ Ws w' st.g st.n st.cc st.ar ∧ Below w.heap.size w w' := by
  go_enter Tryz.func17, Tryz.ntmps17
  go_upto_region 1 with fail
  refine wp_at (fun W => At W w.heap.size doneZ.toArray 32 ∧ SAt W b st ∧ Below w.heap.size w W) ⟨At.new w _ _, S.keep ((Below.refl _ _).alloc (Nat.le_refl _) _), (Below.refl _ _).alloc (Nat.le_refl _) _⟩ ?_
  rintro w1 ⟨R, S1, z⟩
  have hgl := S.ws.lt
  go_upto_region 3 with (go_at_call 40; refine (sCloseY b st _ S1 hg).mono ?_; rintro e w2 ⟨rfl, hb⟩; replace R := R.keep hb; replace S1 := S1.keep hb; replace z := z.trans (hb.mono z.size); clear hb)
  have A := S1.is
  have l1 : ∀ w', Cls w2 w' → (loadVar 24 ⟨b, 5, none⟩).run Tryz.prog w' = .ok (.slice (some ⟨st.g, 0, none⟩) st.n st.cc) w' := ldS_s A Tryz.underlying24 rfl
  have l2 : ∀ w', Cls w2 w' → (loadVar 28 ⟨b, 8, none⟩).run Tryz.prog w' = .ok (.agg st.h.ar) w' := ldS (o := 8) A st.hl Tryz.underlying28 rfl infoH
  have l3 : ∀ w', Cls w2 w' → (loadVar 30 ⟨b, 44, none⟩).run Tryz.prog w' = .ok (.agg st.d.vs.toArray) w' := ldS (o := 44) A st.dl Tryz.underlying30 rfl (by kernel_rfl)
  clear A
  refine wp_region_bar2 (C := Cls w2) rfl rfl rfl (by kernel_rfl) (by kernel_rfl) ⟨(Below.refl _ _).drew⟩ ?_
  simp only [List.dropLast]
  repeat' (first
    | go_big_quiet_skip
    | (go_big_quiet_want; first
      | (refine q_load _ _ _ _ rfl rfl (by assumption) ?_; simp only [Act.put, List.setIfInBounds_toArray, List.set_cons_zero, List.set_cons_succ]; go_big_quiet_on)
      | (refine q_built 32 #[(0, .tmp 11), (1, .tmp 15), (2, .tmp 19)] rfl [(0, .slice (some ⟨st.g, 0, none⟩) st.n st.cc), (1, .agg st.h.ar), (2, .agg st.d.vs.toArray)] rfl _ (bDone _ _ _ _ _) ?_; simp only [Act.put, List.setIfInBounds_toArray, List.set_cons_zero, List.set_cons_succ]; go_big_quiet_on)
      | (go_big_quiet_op; first
        | go_big_quiet_on
        | (refine ⟨_, fun _ _ => rfl, ?_⟩; go_big_quiet_on))))
  refine wpQuiet_nil ?_
  intro w3 hw3
  have R3 := R.keep hw3.below
  have S3 := S1.keep hw3.below
  have z3 := z.trans (hw3.below.mono z.size)
  go_wp2_with (refine storeDn rfl (.tmp 2) (.tmp 20) rfl w.heap.size (.slice (some ⟨st.g, 0, none⟩) st.n st.cc) st.h st.d rfl rfl rfl R3 rfl ?_; intro w4 R4 kk)
  refine bodyPost_ret (resDn2 (v := .slice (some ⟨st.g, 0, none⟩) st.n st.cc) (h := st.h) (d := st.d) 2 3 rfl rfl rfl R4) rfl ?_
  exact ⟨rfl, S3.ws.kept kk (by omega), z3.trans (kk.below (Nat.le_refl _) z3.size)⟩
end Go.Proofs.YtgmoemjiffglbaaGreat
namespace Go.Proofs.YtgmoemjiffglbaaGreat
open Go.RowKit
set_option maxRecDepth 100000
set_option linter.unusedVariables false
set_option linter.unusedSimpArgs false
def nw0 : Oper := { dst := some 11, op := Op.load 35 (Operand.tmp 5), type := 35, pos := "l08_install.go:104", after := #[], guard := none }
def nw1 : Oper := { dst := some 12, op := Op.move (Operand.tmp 1), type := 24, pos := "l08_install.go:104", after := #[], guard := none }
def nw2 : Oper := { dst := some 13, op := Op.call { callee := Callee.value (Operand.func 29), args := #[Operand.tmp 12], argTypes := #[24] }, type := 24, pos := "l08_install.go:104", after := #[{ on := 1, ground := Ground.data }], guard := none }
def nw3 : Oper := { dst := some 14, op := Op.move (Operand.tmp 2), type := 47, pos := "l08_install.go:104", after := #[], guard := none }
def nw4 : Oper := { dst := some 15, op := Op.move (Operand.tmp 3), type := 2, pos := "l08_install.go:104", after := #[], guard := none }
def nw5 : Oper := { dst := some 16, op := Op.load 28 (Operand.tmp 9), type := 28, pos := "l08_install.go:104", after := #[], guard := none }
def nw6 : Oper := { dst := some 17, op := Op.build 69 #[(0, Operand.tmp 11), (1, Operand.tmp 13), (2, Operand.tmp 14), (3, Operand.tmp 15), (4, Operand.tmp 16), (6, Operand.const (Value.bool true))], type := 69, pos := "l08_install.go:104", after := #[{ on := 0, ground := Ground.data }, { on := 2, ground := Ground.data }, { on := 3, ground := Ground.data }, { on := 4, ground := Ground.data }, { on := 5, ground := Ground.data }], guard := none }
def nw7 : Oper := { dst := some 18, op := Op.box 69 (Operand.tmp 17), type := 45, pos := "l08_install.go:104", after := #[{ on := 6, ground := Ground.data }], guard := none }
def nw8 : Oper := { dst := some 10, op := Op.assign (Operand.tmp 18), type := 45, pos := "l08_install.go:104", after := #[{ on := 7, ground := Ground.data }, { on := 2, ground := Ground.chain }, { on := 0, ground := Ground.phase }, { on := 1, ground := Ground.phase }, { on := 2, ground := Ground.phase }, { on := 3, ground := Ground.phase }, { on := 4, ground := Ground.phase }, { on := 5, ground := Ground.phase }, { on := 6, ground := Ground.phase }, { on := 7, ground := Ground.phase }], guard := none }
/-- A step of the specification as it begins. -/
def s0 (p s l c k : Int) (g n cc : Nat) (xs : List Int) (ra : Option Addr) (rc : Nat) (runs : List Int) (me : Int) (h : Hd) : S8 := ⟨p, s, l, c, k, g, n, cc, xs, ra, rc, runs, me, h, Dd.zero, true, 0, 0, false⟩
theorem bS8 (p s l c k : Int) (g n cc : Nat) (ra : Option Addr) (rl rc : Nat) (runs : List Int) (hl : runs.length = rl) (me : Int) (h : Hd) : Tryz.prog.built 69 [(0, .agg #[.int .i64 p, .int .i64 s, .int .i64 l, .int .i64 c, .int .i64 k]), (1, .slice (some ⟨g, 0, none⟩) n cc), (2, .slice ra rl rc), (3, .int .i64 me), (4, .agg h.ar), (6, .bool true)] = some (s0 p s l c k g n cc [] ra rc runs me h).vs.toArray := by
  subst hl
  kernel_rfl
set_option maxHeartbeats 8000000 in
theorem sNew8 (p s l c k : Int) (g n cc : Nat) (xs : List Int) (ra : Option Addr) (rc : Nat) (runs : List Int) (me : Int) (h : Hd) (w : World) (G : Ws w g n cc xs) (hn : n ≤ 16777216)
    (HR : runs = [] ∨ ∃ rb ro, ra = some ⟨rb, ro, none⟩ ∧ rb < w.heap.size ∧ ∀ i, i < runs.length → w.cell? ⟨rb, ro + i, none⟩ = some (.int .i64 (runs.getD i 0))) :
    Calls Tryz.prog 15 #[.agg #[.int .i64 p, .int .i64 s, .int .i64 l, .int .i64 c, .int .i64 k], .slice (some ⟨g, 0, none⟩) n cc, .slice ra runs.length rc, .int .i64 me, .agg h.ar] w fun e w' => ∃ b g' c', e = .returned (.pointer (some ⟨b, 0, none⟩)) ∧ w.heap.size ≤ b ∧ w.heap.size ≤ g' ∧ SAt w' b (s0 p s l c k g' n c' xs ra rc runs me h) ∧ Below w.heap.size w w' := by
  go_enter Tryz.func15, Tryz.ntmps15
  go_upto_region 1 with fail
  refine wp_at (fun W => At W w.heap.size #[.int .i64 p, .int .i64 s, .int .i64 l, .int .i64 c, .int .i64 k] 35 ∧ At W (w.heap.size + 1) h.ar 28 ∧ Below w.heap.size w W) (two_box w _ _ _ _) ?_
  rintro w1 ⟨P1, H1, z1⟩
  obtain ⟨b1, hb1⟩ : ∃ b, Hid (w.heap.size + 1 = b) := ⟨_, rfl⟩
  obtain ⟨b0, hb0⟩ : ∃ b, Hid (w.heap.size = b) := ⟨_, rfl⟩
  rw [hb1.out] at H1
  rw [hb0.out] at P1
  simp only [hb1.out]
  simp only [hb0.out]
  have lp : ∀ w', (At w' b0 #[.int .i64 p, .int .i64 s, .int .i64 l, .int .i64 c, .int .i64 k] 35 ∧ At w' b1 h.ar 28) → (loadVar 35 ⟨b0, 0, none⟩).run Tryz.prog w' = .ok (.agg #[.int .i64 p, .int .i64 s, .int .i64 l, .int .i64 c, .int .i64 k]) w' := fun w' A => ld_agg (vs := [.int .i64 p, .int .i64 s, .int .i64 l, .int .i64 c, .int .i64 k]) A.1 Tryz.underlying35 rfl (by kernel_rfl) w' ⟨Below.refl _ _⟩
  have lh : ∀ w', (At w' b0 #[.int .i64 p, .int .i64 s, .int .i64 l, .int .i64 c, .int .i64 k] 35 ∧ At w' b1 h.ar 28) → (loadVar 28 ⟨b1, 0, none⟩).run Tryz.prog w' = .ok (.agg h.ar) w' := fun w' A => ld_agg (vs := h.vs) A.2 Tryz.underlying28 rfl infoH w' ⟨Below.refl _ _⟩
  have zd : Below w1.heap.size w1 w1.drew := (Below.refl _ _).drew
  refine wp_region_held_drew (S := fun w' => At w' b0 #[.int .i64 p, .int .i64 s, .int .i64 l, .int .i64 c, .int .i64 k] 35 ∧ At w' b1 h.ar 28) (by kernel_rfl) ⟨P1.keep zd, H1.keep zd⟩ (fun hS => ?_)
  have z2 := z1.drew
  have G2 := (G.keep z1).keep zd
  have hz2 : w.heap.size ≤ w1.drew.heap.size := z1.size
  clear P1 H1 z1 zd
  generalize w1.drew = w2 at *
  refine tk_load (i := 0) (oi := nw0) rfl (by kernel_rfl) (by kernel_rfl) (by kernel_rfl) (fun _ _ _ h => h) (by rfl) _ _ _ rfl rfl (by assumption) hS ?_
  simp only [nw0, Act.put, List.setIfInBounds_toArray, List.set_cons_zero, List.set_cons_succ]
  refine tk_pure (i := 1) (oi := nw1) rfl (by kernel_rfl) (by kernel_rfl) (by kernel_rfl) (fun _ _ _ h => h) (by rfl) hS (fun w9 => by simp only [nw1]; go_simp; (try with_reducible rfl)) ?_
  simp only [nw1, Act.put, List.setIfInBounds_toArray, List.set_cons_zero, List.set_cons_succ]
  refine tk_pure (i := 3) (oi := nw3) rfl (by kernel_rfl) (by kernel_rfl) (by kernel_rfl) (fun _ _ _ h => h) (by rfl) hS (fun w9 => by simp only [nw3]; go_simp; (try with_reducible rfl)) ?_
  simp only [nw3, Act.put, List.setIfInBounds_toArray, List.set_cons_zero, List.set_cons_succ]
  refine tk_pure (i := 4) (oi := nw4) rfl (by kernel_rfl) (by kernel_rfl) (by kernel_rfl) (fun _ _ _ h => h) (by rfl) hS (fun w9 => by simp only [nw4]; go_simp; (try with_reducible rfl)) ?_
  simp only [nw4, Act.put, List.setIfInBounds_toArray, List.set_cons_zero, List.set_cons_succ]
  refine tk_load (i := 5) (oi := nw5) rfl (by kernel_rfl) (by kernel_rfl) (by kernel_rfl) (fun _ _ _ h => h) (by rfl) _ _ _ rfl rfl (by assumption) hS ?_
  simp only [nw5, Act.put, List.setIfInBounds_toArray, List.set_cons_zero, List.set_cons_succ]
  refine wpAnyH_ready (rs := [2]) (by kernel_rfl) (by simp) ?_
  refine AllReadyH.cons (o := nw2) rfl (fun K hK => ?_) ?_
  · rw [if_pos (by rfl)]
    simp only [nw2]
    go_simp
    go_at_call 29
    refine (sCopy g n cc xs _ G2 hn).mono ?_
    rintro e w4 ⟨g', c', rfl, hg4, G4, hb⟩
    (go_wp2_with fail)
    have hS2 := And.intro (hS.1.keep hb) (hS.2.keep hb)
    have z3 := z2.trans (hb.mono hz2)
    have hz3 := z3.size
    clear hb
    refine hK.out _ _ hS2 (fun hS => ?_)
    clear hK K
    (try simp only [nw2, Act.put, List.setIfInBounds_toArray, List.set_cons_zero, List.set_cons_succ])
    refine tk_pure (i := 6) (oi := nw6) rfl (by kernel_rfl) (by kernel_rfl) (by kernel_rfl) (fun _ _ _ h => h) (by rfl) hS (fun w9 => tk_built 69 #[(0, .tmp 11), (1, .tmp 13), (2, .tmp 14), (3, .tmp 15), (4, .tmp 16), (6, .const (.bool true))] rfl [(0, .agg #[.int .i64 p, .int .i64 s, .int .i64 l, .int .i64 c, .int .i64 k]), (1, .slice (some ⟨g', 0, none⟩) n c'), (2, .slice ra runs.length rc), (3, .int .i64 me), (4, .agg h.ar), (6, .bool true)] rfl _ (bS8 _ _ _ _ _ _ _ _ _ _ _ runs rfl _ _) w9) ?_
    simp only [nw6, Act.put, List.setIfInBounds_toArray, List.set_cons_zero, List.set_cons_succ]
    refine wpAnyH_ready (rs := [7]) (by kernel_rfl) (by simp) ?_
    refine AllReadyH.cons (o := nw7) rfl (fun K hK => ?_) ?_
    · rw [if_pos (by rfl)]
      simp only [nw7]
      go_simp
      have hS2 : At (w4.alloc (.cells (s0 p s l c k g' n c' [] ra rc runs me h).vs.toArray 69)) b0 #[.int .i64 p, .int .i64 s, .int .i64 l, .int .i64 c, .int .i64 k] 35 ∧ At (w4.alloc (.cells (s0 p s l c k g' n c' [] ra rc runs me h).vs.toArray 69)) b1 h.ar 28 := ⟨hS.1.keep ((Below.refl _ _).alloc (Nat.le_refl _) _), hS.2.keep ((Below.refl _ _).alloc (Nat.le_refl _) _)⟩
      refine hK.out _ _ hS2 (fun hS => ?_)
      clear hK K
      (try simp only [nw7, Act.put, List.setIfInBounds_toArray, List.set_cons_zero, List.set_cons_succ])
      refine tk_pure (i := 8) (oi := nw8) rfl (by kernel_rfl) (by kernel_rfl) (by kernel_rfl) (fun _ _ _ h => h) (by rfl) hS (fun w9 => by simp only [nw8]; go_simp; (try with_reducible rfl)) ?_
      simp only [nw8, Act.put, List.setIfInBounds_toArray, List.set_cons_zero, List.set_cons_succ]
      refine wpAnyH_done (by kernel_rfl) ?_ _
      go_wp2
      go_ret
      refine ⟨_, g', c', rfl, hz3, by omega, ⟨At.new _ _ _, G4.keep ((Below.refl _ _).alloc (Nat.le_refl _) _), by have := G4.lt; show w4.heap.size ≠ g'; omega, ?_⟩, z3.alloc hz3 _⟩
      rcases HR with HR | ⟨rb, ro, h1, h2, h3⟩
      · exact .inl HR
      · exact .inr ⟨rb, ro, h1, by simp; omega, by show rb ≠ w4.heap.size; omega, by show rb ≠ g'; omega, fun i hi => ((z3.alloc hz3 _).cell (p := ⟨rb, ro + i, none⟩) h2).trans (h3 i hi)⟩
    exact AllReadyH.nil
  exact AllReadyH.nil
end Go.Proofs.YtgmoemjiffglbaaGreat
namespace Go.Proofs.YtgmoemjiffglbaaGreat
open Go.RowKit
set_option maxRecDepth 100000
set_option linter.unusedVariables false
set_option linter.unusedSimpArgs false
def S8.rep (st : S8) (r o : Int) : S8 := { st with h := { st.h with reply := r, out := o, at_ := 2 } }
def S8.to (st : S8) (a : Int) : S8 := { st with h := { st.h with at_ := a } }
def S8.numb (st : S8) : S8 := { st with h := { st.h with last := wrap64 (st.h.last + 1), number := wrap64 (st.h.last + 1) } }
theorem SAt.to {w : World} {b : Nat} {st : S8} (S : SAt w b st) (a : Int) : SAt (w.setCell ⟨b, 13, none⟩ (.int .i64 a)) b (st.to a) := S.put 13 _ rfl ⟨rfl, rfl, rfl, rfl, rfl, rfl⟩
theorem sReply8 (b : Nat) (st : S8) (r o : Int) (w : World) (S : SAt w b st) :
    Calls Tryz.prog 37 #[.pointer (some ⟨b, 0, none⟩), .int .i64 r, .int .i64 o] w fun e w' => e = .returned (.tuple #[]) ∧ SAt w' b (st.rep r o) ∧ K2 b st.g w w' := by
  have c40 : w.cell? ⟨b, 40, none⟩ = some (.int .i64 st.h.reply) := S.is.cell 40
  have c41 : w.cell? ⟨b, 41, none⟩ = some (.int .i64 st.h.out) := S.is.cell 41
  have c13 : w.cell? ⟨b, 13, none⟩ = some (.int .i64 st.h.at_) := S.is.cell 13
  have f40 := S.fz 40
  have f41 := S.fz 41
  have f13 := S.fz 13
  have FIN : Hid (SAt (((w.setCell ⟨b, 40, none⟩ (.int .i64 r)).setCell ⟨b, 41, none⟩ (.int .i64 o)).setCell ⟨b, 13, none⟩ (.int .i64 2)) b (st.rep r o)) :=
    ((S.put (st' := { st with h := { st.h with reply := r } }) 40 _ rfl ⟨rfl, rfl, rfl, rfl, rfl, rfl⟩).put (st' := { st with h := { st.h with reply := r, out := o } }) 41 _ rfl ⟨rfl, rfl, rfl, rfl, rfl, rfl⟩).put 13 _ rfl ⟨rfl, rfl, rfl, rfl, rfl, rfl⟩
  go_enter Tryz.func37, Tryz.ntmps37
  go_wp2
  first | go_end0 | refine bodyPost_ret (results_none rfl _ _ _) rfl ?_
  exact ⟨rfl, FIN.out, (((K2.refl _ _ _).set _ _).set _ _).set _ _⟩
theorem sl8WordY (b : Nat) (k p i q : Int) (w : World) (ht : wOk k p i q = true) :
    Calls Tryz.prog 35 #[.pointer (some ⟨b, 0, none⟩), .int .i64 k, .int .i64 p, .int .i64 i, .int .i64 q] w fun e w' => e = .returned (.int .u64 (pk k p i q)) ∧ Below w.heap.size w w' := by
  go_enter Tryz.func35, Tryz.ntmps35
  go_wp2_with (go_at_call 68; refine (sPackY _ _ _ _ _ ht).mono ?_; rintro e w1 ⟨rfl, hb⟩)
  go_ret
  exact ⟨rfl, hb⟩
def S8.getT (t : S8) (a : Int) : S8 := if t.k ≤ t.h.kept then t.rep 8 0 else t.to a
def S8.openT (t : S8) : S8 :=
  if t.h.code = 2 then t.to 9 else if t.h.code = 6 then t.to 9 else if t.h.code = 8 then t.to 9 else
  if t.h.code = 3 then t.to 14 else if t.h.code = 4 then t.to 14 else if t.h.code = 5 then t.to 14 else
  if t.h.code = 7 then t.getT 25 else if t.h.code = 9 then t.getT 41 else if t.h.code = 10 then t.to 49 else if t.h.code = 11 then t.to 49 else
  if t.h.code = 12 then { t with h := { t.h with kept := 0, index := 1, at_ := 69 } } else
  if t.h.code = 13 then { t with h := { t.h with for_ := t.h.a, mine := t.h.last, at_ := 52 } } else
  if t.h.code = 14 then t.to 51 else { t with ok := false }
def S8.openW (st : S8) : S8 := (st.wrd st.h.code 0 st.h.a st.h.number).wr (st.slot 1) (wv st.h.code 0 st.h.a st.h.number)
end Go.Proofs.YtgmoemjiffglbaaGreat
