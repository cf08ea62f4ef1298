/-
  The specification's queue: who puts into it; the next thing.
  The program's queue: its parts that read and guard.
  The program's queue: to exchange a word, to move the tail, to link.
  The program's queue: the next thing.
  The queue: what a step must put back.
  The queue: the specification's step and the program's come to the same.
-/
import Derived.Test.YtgmoemjiffglbaaGreatMp
import Derived.WalkMore
namespace Go.Proofs.YtgmoemjiffglbaaGreat
open Go.RowKit
set_option maxRecDepth 100000
set_option linter.unusedVariables false
set_option linter.unusedSimpArgs false
def S8.lnk (st : S8) : Int := vBlock st.p st.s st.l st.c st.k st.h.from_ 1
set_option maxHeartbeats 16000000 in
theorem g11_33 (b : Nat) (st : S8) (w : World) (S : SAt w b st) (hn : st.n ≤ 16777216) (hat : st.h.at_ = 33) :
    Calls Tryz.prog 39 #[.pointer (some ⟨b, 0, none⟩)] w fun e w' => e = .returned (.tuple #[]) ∧ SAt w' b ((st.wr (st.blk 1) 0).to 34) ∧ K2 b st.g w w' := by
  obtain ⟨T, hT⟩ : ∃ T, Hid (st.wr (st.blk 1) 0 = T) := ⟨_, rfl⟩
  have c13 : w.cell? ⟨b, 13, none⟩ = some (.int .i64 st.h.at_) := S.c_h_At
  rw [hat] at c13
  have hhat : Hid (st.h.at_ = 33) := hat
  clear hat
  obtain ⟨d0, d1, d2, d3, d4⟩ := S.plan
  have HR : Hid (∀ w1, Calls Tryz.prog 30 #[.agg #[.int .i64 st.p, .int .i64 st.s, .int .i64 st.l, .int .i64 st.c, .int .i64 st.k], .int .i64 4] w1 fun e w' => e = .returned (.int .i64 (st.root 4)) ∧ Below w1.heap.size w1 w') := fun w1 => sRoot _ _ _ _ _ _ w1
  have HB : Hid (∀ w1, Calls Tryz.prog 69 #[.agg #[.int .i64 st.p, .int .i64 st.s, .int .i64 st.l, .int .i64 st.c, .int .i64 st.k], .int .i64 st.h.from_, .int .i64 1] w1 fun e w' => e = .returned (.int .i64 st.lnk) ∧ Below w1.heap.size w1 w') := fun w1 => sBlock _ _ _ _ _ _ _ w1
  go_enter Tryz.func39, Tryz.ntmps39
  go_upto_region 1 with (go_at_call 30; refine (HR.out _).mono ?_; rintro e w0 ⟨rfl, hb⟩; replace S := S.keep hb; have k1 : K2 b st.g w w0 := K2.of_below hb; clear hb d0 d1 d2 d3 d4 c13)
  have A := S.is
  have lp : ∀ w', Cls w0 w' → (loadVar 35 ⟨b, 0, none⟩).run Tryz.prog w' = .ok (.agg #[.int .i64 st.p, .int .i64 st.s, .int .i64 st.l, .int .i64 st.c, .int .i64 st.k]) w' := ldS (o := 0) A st.pl Tryz.underlying35 rfl (by kernel_rfl)
  have lf : ∀ w', Cls w0 w' → (loadVar 2 ⟨b, 29, none⟩).run Tryz.prog w' = .ok (.int .i64 st.h.from_) w' := ld_i A Tryz.underlying2 rfl
  clear A
  refine wp_region_cls (by kernel_rfl) (by kernel_rfl) ?_
  repeat' (first
    | go_big_quiet_skip
    | (go_big_quiet_want; first
      | (refine q_load _ _ _ _ rfl rfl (by assumption) ?_; simp only [Act.put, List.setIfInBounds_toArray, List.set_cons_zero, List.set_cons_succ]; go_big_quiet_on)
      | (go_big_quiet_op; first
        | go_big_quiet_on
        | (refine ⟨_, fun _ _ => rfl, ?_⟩; go_big_quiet_on)
        | (apply Exists.intro; refine ⟨fun w' hw' => ?_, ?_⟩
           · (go_at_call 69; exact cls_below hw' (HB.out _))
           go_big_quiet_on))))
  refine wpQuiet_nil ?_
  intro w1 hw2
  replace S := S.keep hw2.below
  replace k1 := k1.trans (K2.of_below hw2.below)
  clear lp lf hw2
  have c13 : w1.cell? ⟨b, 13, none⟩ = some (.int .i64 33) := by (have hq := S.c_h_At; rw [hhat.out] at hq; exact hq)
  have f13 := S.fz 13
  go_upto_region 4 with fail
  go_upto_region 5 with (first
    | (go_at_call 36; refine (sl8Block b st _ _ S).mono ?_; rintro e w7 ⟨rfl, hb⟩; replace S := S.keep hb; replace k1 := k1.trans (K2.of_below hb); clear hb)
    | (go_at_call 33; refine (sl8Write b st (st.blk 1) 0 _ S hn ⟨by omega, by omega⟩).mono ?_; rintro e w9 ⟨rfl, S9, k2⟩; replace k1 := k1.trans k2; clear k2 S c13 f13; rw [hT.out] at S9))
  have c13 : w9.cell? ⟨b, 13, none⟩ = some (.int .i64 T.h.at_) := S9.c_h_At
  have f13 := S9.fz 13
  go_wp2
  first | go_end0 | refine bodyPost_ret (results_none rfl _ _ _) rfl ?_
  rw [hT.out]
  exact ⟨rfl, S9.to _, k1.set _ _⟩
set_option maxHeartbeats 16000000 in
theorem g11_34 (b : Nat) (st : S8) (w : World) (S : SAt w b st) (hn : st.n ≤ 16777216) (hat : st.h.at_ = 34) :
    Calls Tryz.prog 39 #[.pointer (some ⟨b, 0, none⟩)] w fun e w' => e = .returned (.tuple #[]) ∧ SAt w' b ({ (st.rd9 (st.root 4)) with h := { (st.rd9 (st.root 4)).h with from_ := uI (st.rd (st.root 4)), at_ := 35 } } : S8) ∧ K2 b st.g w w' := by
  obtain ⟨T, hT⟩ : ∃ T, Hid (st.rdS (st.root 4) = T) := ⟨_, rfl⟩
  obtain ⟨x, hx⟩ : ∃ x, Hid (st.rd (st.root 4) = x) := ⟨_, rfl⟩
  have hF : Hid (({ (st.rd9 (st.root 4)) with h := { (st.rd9 (st.root 4)).h with from_ := uI (st.rd (st.root 4)), at_ := 35 } } : S8) = { T with h := { T.h with seen := x, from_ := uI x, at_ := 35 } }) := by unfold Hid S8.rd9; rw [hT.out, hx.out]
  have c13 : w.cell? ⟨b, 13, none⟩ = some (.int .i64 st.h.at_) := S.c_h_At
  rw [hat] at c13
  have hhat : Hid (st.h.at_ = 34) := hat
  clear hat
  obtain ⟨d0, d1, d2, d3, d4⟩ := S.plan
  have HR : Hid (∀ w1, Calls Tryz.prog 30 #[.agg #[.int .i64 st.p, .int .i64 st.s, .int .i64 st.l, .int .i64 st.c, .int .i64 st.k], .int .i64 4] w1 fun e w' => e = .returned (.int .i64 (st.root 4)) ∧ Below w1.heap.size w1 w') := fun w1 => sRoot _ _ _ _ _ _ w1
  have HB : Hid (∀ w1, Calls Tryz.prog 69 #[.agg #[.int .i64 st.p, .int .i64 st.s, .int .i64 st.l, .int .i64 st.c, .int .i64 st.k], .int .i64 st.h.from_, .int .i64 1] w1 fun e w' => e = .returned (.int .i64 st.lnk) ∧ Below w1.heap.size w1 w') := fun w1 => sBlock _ _ _ _ _ _ _ w1
  go_enter Tryz.func39, Tryz.ntmps39
  go_upto_region 1 with (go_at_call 30; refine (HR.out _).mono ?_; rintro e w0 ⟨rfl, hb⟩; replace S := S.keep hb; have k1 : K2 b st.g w w0 := K2.of_below hb; clear hb d0 d1 d2 d3 d4 c13)
  have A := S.is
  have lp : ∀ w', Cls w0 w' → (loadVar 35 ⟨b, 0, none⟩).run Tryz.prog w' = .ok (.agg #[.int .i64 st.p, .int .i64 st.s, .int .i64 st.l, .int .i64 st.c, .int .i64 st.k]) w' := ldS (o := 0) A st.pl Tryz.underlying35 rfl (by kernel_rfl)
  have lf : ∀ w', Cls w0 w' → (loadVar 2 ⟨b, 29, none⟩).run Tryz.prog w' = .ok (.int .i64 st.h.from_) w' := ld_i A Tryz.underlying2 rfl
  clear A
  refine wp_region_cls (by kernel_rfl) (by kernel_rfl) ?_
  repeat' (first
    | go_big_quiet_skip
    | (go_big_quiet_want; first
      | (refine q_load _ _ _ _ rfl rfl (by assumption) ?_; simp only [Act.put, List.setIfInBounds_toArray, List.set_cons_zero, List.set_cons_succ]; go_big_quiet_on)
      | (go_big_quiet_op; first
        | go_big_quiet_on
        | (refine ⟨_, fun _ _ => rfl, ?_⟩; go_big_quiet_on)
        | (apply Exists.intro; refine ⟨fun w' hw' => ?_, ?_⟩
           · (go_at_call 69; exact cls_below hw' (HB.out _))
           go_big_quiet_on))))
  refine wpQuiet_nil ?_
  intro w1 hw2
  replace S := S.keep hw2.below
  replace k1 := k1.trans (K2.of_below hw2.below)
  clear lp lf hw2
  have c13 : w1.cell? ⟨b, 13, none⟩ = some (.int .i64 34) := by (have hq := S.c_h_At; rw [hhat.out] at hq; exact hq)
  have f13 := S.fz 13
  go_upto_region 7 with fail
  go_upto_region 8 with (go_at_call 31; refine (sl8Read b st (st.root 4) _ S hn).mono ?_; rintro e w3 ⟨rfl, S3, k3, hbd⟩; replace k1 := k1.trans k3; rw [hT.out] at S3; rw [hx.out] at hbd; rw [hx.out]; clear k3 c13 f13; have c23 : w3.cell? ⟨b, 23, none⟩ = some (.int .u64 T.h.seen) := S3.c_h_Seen; have f23 := S3.fz 23)
  change Code.wp _ _ _ _ (w3.setCell ⟨b, 23, none⟩ (.int .u64 x))
  have S4 : SAt (w3.setCell ⟨b, 23, none⟩ (.int .u64 x)) b { T with h := { T.h with seen := x } } := S3.put (st' := { T with h := { T.h with seen := x } }) 23 _ rfl ⟨rfl, rfl, rfl, rfl, rfl, rfl⟩
  replace k1 := k1.set 23 (.int .u64 x)
  generalize w3.setCell ⟨b, 23, none⟩ (.int .u64 x) = w4 at *
  clear c23 f23 S3 S
  have c23 : w4.cell? ⟨b, 23, none⟩ = some (.int .u64 x) := S4.c_h_Seen
  go_wp2_with (go_at_call 32; refine (sIndex _ hbd.1 hbd.2 _).mono ?_; rintro e w5 ⟨rfl, hb⟩; replace S4 := S4.keep hb; replace k1 := k1.trans (K2.of_below hb); clear hb; have c29 : w5.cell? ⟨b, 29, none⟩ = some (.int .i64 T.h.from_) := S4.c_h_From; have f29 := S4.fz 29; have c13 : w5.cell? ⟨b, 13, none⟩ = some (.int .i64 T.h.at_) := S4.c_h_At; have f13 := S4.fz 13)
  first | go_end0 | refine bodyPost_ret (results_none rfl _ _ _) rfl ?_
  rw [hF.out]
  exact ⟨rfl, (S4.put (st' := { T with h := { T.h with seen := x, from_ := uI x } }) 29 _ rfl ⟨rfl, rfl, rfl, rfl, rfl, rfl⟩).put 13 _ rfl ⟨rfl, rfl, rfl, rfl, rfl, rfl⟩, (k1.set _ _).set _ _⟩
set_option maxHeartbeats 16000000 in
theorem g11_35 (b : Nat) (st : S8) (w : World) (S : SAt w b st) (hn : st.n ≤ 16777216) (hat : st.h.at_ = 35) :
    Calls Tryz.prog 39 #[.pointer (some ⟨b, 0, none⟩)] w fun e w' => e = .returned (.tuple #[]) ∧ SAt w' b (((st.wrd 0 0 st.h.from_ 0).wr (st.slot 5) (wv 0 0 st.h.from_ 0)).to 36) ∧ K2 b st.g w w' := by
  obtain ⟨T, hT⟩ : ∃ T, Hid (((st.wrd 0 0 st.h.from_ 0).wr (st.slot 5) (wv 0 0 st.h.from_ 0)) = T) := ⟨_, rfl⟩
  have c13 : w.cell? ⟨b, 13, none⟩ = some (.int .i64 st.h.at_) := S.c_h_At
  rw [hat] at c13
  have hhat : Hid (st.h.at_ = 35) := hat
  clear hat
  obtain ⟨d0, d1, d2, d3, d4⟩ := S.plan
  have HR : Hid (∀ w1, Calls Tryz.prog 30 #[.agg #[.int .i64 st.p, .int .i64 st.s, .int .i64 st.l, .int .i64 st.c, .int .i64 st.k], .int .i64 4] w1 fun e w' => e = .returned (.int .i64 (st.root 4)) ∧ Below w1.heap.size w1 w') := fun w1 => sRoot _ _ _ _ _ _ w1
  have HB : Hid (∀ w1, Calls Tryz.prog 69 #[.agg #[.int .i64 st.p, .int .i64 st.s, .int .i64 st.l, .int .i64 st.c, .int .i64 st.k], .int .i64 st.h.from_, .int .i64 1] w1 fun e w' => e = .returned (.int .i64 st.lnk) ∧ Below w1.heap.size w1 w') := fun w1 => sBlock _ _ _ _ _ _ _ w1
  go_enter Tryz.func39, Tryz.ntmps39
  go_upto_region 1 with (go_at_call 30; refine (HR.out _).mono ?_; rintro e w0 ⟨rfl, hb⟩; replace S := S.keep hb; have k1 : K2 b st.g w w0 := K2.of_below hb; clear hb d0 d1 d2 d3 d4 c13)
  have A := S.is
  have lp : ∀ w', Cls w0 w' → (loadVar 35 ⟨b, 0, none⟩).run Tryz.prog w' = .ok (.agg #[.int .i64 st.p, .int .i64 st.s, .int .i64 st.l, .int .i64 st.c, .int .i64 st.k]) w' := ldS (o := 0) A st.pl Tryz.underlying35 rfl (by kernel_rfl)
  have lf : ∀ w', Cls w0 w' → (loadVar 2 ⟨b, 29, none⟩).run Tryz.prog w' = .ok (.int .i64 st.h.from_) w' := ld_i A Tryz.underlying2 rfl
  clear A
  refine wp_region_cls (by kernel_rfl) (by kernel_rfl) ?_
  repeat' (first
    | go_big_quiet_skip
    | (go_big_quiet_want; first
      | (refine q_load _ _ _ _ rfl rfl (by assumption) ?_; simp only [Act.put, List.setIfInBounds_toArray, List.set_cons_zero, List.set_cons_succ]; go_big_quiet_on)
      | (go_big_quiet_op; first
        | go_big_quiet_on
        | (refine ⟨_, fun _ _ => rfl, ?_⟩; go_big_quiet_on)
        | (apply Exists.intro; refine ⟨fun w' hw' => ?_, ?_⟩
           · (go_at_call 69; exact cls_below hw' (HB.out _))
           go_big_quiet_on))))
  refine wpQuiet_nil ?_
  intro w1 hw2
  replace S := S.keep hw2.below
  replace k1 := k1.trans (K2.of_below hw2.below)
  clear lp lf hw2
  have c13 : w1.cell? ⟨b, 13, none⟩ = some (.int .i64 35) := by (have hq := S.c_h_At; rw [hhat.out] at hq; exact hq)
  have f13 := S.fz 13
  go_upto_region 11 with fail
  have S1 := S.drew
  replace k1 := k1.drew
  have c29 : w1.drew.cell? ⟨b, 29, none⟩ = some (.int .i64 st.h.from_) := S1.c_h_From
  clear c13 f13 S
  go_region_held3 (fun w' => w'.cell? ⟨b, 29, none⟩ = some (.int .i64 st.h.from_)) (go_keep)
    (first
    | (go_at_call 34; refine (sl8Slot b st 5 _ S1).mono ?_; rintro e w7 ⟨rfl, hb⟩; replace S1 := S1.keep hb; replace k1 := k1.trans (K2.of_below hb); clear hb; clear c29; have c29 : w7.cell? ⟨b, 29, none⟩ = some (.int .i64 st.h.from_) := (by have hq := S1.c_h_From; exact hq))
    | (go_at_call 35; refine (sl8Word b st _ _ _ _ _ S1).mono ?_; rintro e w8 ⟨rfl, S2, k2⟩; replace k1 := k1.trans k2; clear k2 S1; clear c29; have c29 : w8.cell? ⟨b, 29, none⟩ = some (.int .i64 st.h.from_) := (by have hq := S2.c_h_From; rw [S8.wrd_h] at hq; exact hq))
    | (go_at_call 33; refine (sl8Write b _ _ _ _ S2 (by rw [S8.wrd_n]; exact hn) (wv_bd _ _ _ _)).mono ?_; rintro e w9 ⟨rfl, S9, k2⟩; rw [S8.wrd_g] at k2; replace k1 := k1.trans k2; clear k2 S2; clear c29; have c29 : w9.cell? ⟨b, 29, none⟩ = some (.int .i64 st.h.from_) := (by have hq := S9.c_h_From; rw [S8.wr_h, S8.wrd_h] at hq; exact hq)))
  rw [hT.out] at S9
  have c13 : w9.cell? ⟨b, 13, none⟩ = some (.int .i64 T.h.at_) := S9.c_h_At
  have f13 := S9.fz 13
  go_wp2
  first | go_end0 | refine bodyPost_ret (results_none rfl _ _ _) rfl ?_
  rw [hT.out]
  exact ⟨rfl, S9.to _, k1.set _ _⟩
set_option maxHeartbeats 16000000 in
theorem g11_36 (b : Nat) (st : S8) (w : World) (S : SAt w b st) (hn : st.n ≤ 16777216) (hat : st.h.at_ = 36) :
    Calls Tryz.prog 39 #[.pointer (some ⟨b, 0, none⟩)] w fun e w' => e = .returned (.tuple #[]) ∧ SAt w' b (st.agn 34 4 37) ∧ K2 b st.g w w' := by
  obtain ⟨T, hT⟩ : ∃ T, Hid ((st.to 34).rdS (st.root 4) = T) := ⟨_, rfl⟩
  have hTs : Hid (T.h.seen = st.h.seen) := by unfold Hid; rw [← hT.out, S8.rdS_h]; rfl
  obtain ⟨x, hx⟩ : ∃ x, Hid ((st.to 34).rd (st.root 4) = x) := ⟨_, rfl⟩
  have hF : Hid ((st.agn 34 4 37) = if x = st.h.seen then T.to 37 else T) := by
    have e : (st.to 34).root 4 = st.root 4 := rfl
    unfold Hid S8.agn
    rw [e, hT.out, hx.out]
  by_cases hk : x = st.h.seen
  · skip
    have h1 : (x == st.h.seen) = true := by simp [hk]
    have h2 : x = st.h.seen := hk
    have c13 : w.cell? ⟨b, 13, none⟩ = some (.int .i64 st.h.at_) := S.c_h_At
    rw [hat] at c13
    have hhat : Hid (st.h.at_ = 36) := hat
    clear hat
    obtain ⟨d0, d1, d2, d3, d4⟩ := S.plan
    have HR : Hid (∀ w1, Calls Tryz.prog 30 #[.agg #[.int .i64 st.p, .int .i64 st.s, .int .i64 st.l, .int .i64 st.c, .int .i64 st.k], .int .i64 4] w1 fun e w' => e = .returned (.int .i64 (st.root 4)) ∧ Below w1.heap.size w1 w') := fun w1 => sRoot _ _ _ _ _ _ w1
    have HB : Hid (∀ w1, Calls Tryz.prog 69 #[.agg #[.int .i64 st.p, .int .i64 st.s, .int .i64 st.l, .int .i64 st.c, .int .i64 st.k], .int .i64 st.h.from_, .int .i64 1] w1 fun e w' => e = .returned (.int .i64 st.lnk) ∧ Below w1.heap.size w1 w') := fun w1 => sBlock _ _ _ _ _ _ _ w1
    go_enter Tryz.func39, Tryz.ntmps39
    go_upto_region 1 with (go_at_call 30; refine (HR.out _).mono ?_; rintro e w0 ⟨rfl, hb⟩; replace S := S.keep hb; have k1 : K2 b st.g w w0 := K2.of_below hb; clear hb d0 d1 d2 d3 d4 c13)
    have A := S.is
    have lp : ∀ w', Cls w0 w' → (loadVar 35 ⟨b, 0, none⟩).run Tryz.prog w' = .ok (.agg #[.int .i64 st.p, .int .i64 st.s, .int .i64 st.l, .int .i64 st.c, .int .i64 st.k]) w' := ldS (o := 0) A st.pl Tryz.underlying35 rfl (by kernel_rfl)
    have lf : ∀ w', Cls w0 w' → (loadVar 2 ⟨b, 29, none⟩).run Tryz.prog w' = .ok (.int .i64 st.h.from_) w' := ld_i A Tryz.underlying2 rfl
    clear A
    refine wp_region_cls (by kernel_rfl) (by kernel_rfl) ?_
    repeat' (first
      | go_big_quiet_skip
      | (go_big_quiet_want; first
        | (refine q_load _ _ _ _ rfl rfl (by assumption) ?_; simp only [Act.put, List.setIfInBounds_toArray, List.set_cons_zero, List.set_cons_succ]; go_big_quiet_on)
        | (go_big_quiet_op; first
          | go_big_quiet_on
          | (refine ⟨_, fun _ _ => rfl, ?_⟩; go_big_quiet_on)
          | (apply Exists.intro; refine ⟨fun w' hw' => ?_, ?_⟩
             · (go_at_call 69; exact cls_below hw' (HB.out _))
             go_big_quiet_on))))
    refine wpQuiet_nil ?_
    intro w1 hw2
    replace S := S.keep hw2.below
    replace k1 := k1.trans (K2.of_below hw2.below)
    clear lp lf hw2
    have c13 : w1.cell? ⟨b, 13, none⟩ = some (.int .i64 36) := by (have hq := S.c_h_At; rw [hhat.out] at hq; exact hq)
    have f13 := S.fz 13
    go_upto_region 15 with fail
    change Code.wp _ _ _ _ (w1.setCell ⟨b, 13, none⟩ (.int .i64 34))
    have S1 : SAt (w1.setCell ⟨b, 13, none⟩ (.int .i64 34)) b (st.to 34) := S.to 34
    replace k1 := k1.set 13 (.int .i64 34)
    generalize w1.setCell ⟨b, 13, none⟩ (.int .i64 34) = w2 at *
    clear c13 f13 S
    replace S1 := S1.drew
    replace k1 := k1.drew
    have c23 : w2.drew.cell? ⟨b, 23, none⟩ = some (.int .u64 st.h.seen) := S1.c_h_Seen
    go_region_held3 (fun w' => w'.cell? ⟨b, 23, none⟩ = some (.int .u64 st.h.seen)) (go_keep)
      (first
      | (go_at_call 31; refine (sl8Read b (st.to 34) (st.root 4) _ S1 hn).mono ?_; rintro e w3 ⟨rfl, S3, k3, hbd⟩; replace k1 := k1.trans k3; rw [hT.out] at S3; rw [hx.out]; clear k3 S1 c23; have c23 : w3.cell? ⟨b, 23, none⟩ = some (.int .u64 st.h.seen) := by (rw [← hTs.out]; exact S3.c_h_Seen)))
    have c13 : w3.cell? ⟨b, 13, none⟩ = some (.int .i64 T.h.at_) := S3.c_h_At
    have f13 := S3.fz 13
    go_wp2
    first | go_end0 | refine bodyPost_ret (results_none rfl _ _ _) rfl ?_
    rw [hF.out, if_pos hk]
    exact ⟨rfl, S3.to _, k1.set _ _⟩
  · skip
    have h1 : (x == st.h.seen) = false := by simp [hk]
    have h2 : ¬ x = st.h.seen := hk
    have c13 : w.cell? ⟨b, 13, none⟩ = some (.int .i64 st.h.at_) := S.c_h_At
    rw [hat] at c13
    have hhat : Hid (st.h.at_ = 36) := hat
    clear hat
    obtain ⟨d0, d1, d2, d3, d4⟩ := S.plan
    have HR : Hid (∀ w1, Calls Tryz.prog 30 #[.agg #[.int .i64 st.p, .int .i64 st.s, .int .i64 st.l, .int .i64 st.c, .int .i64 st.k], .int .i64 4] w1 fun e w' => e = .returned (.int .i64 (st.root 4)) ∧ Below w1.heap.size w1 w') := fun w1 => sRoot _ _ _ _ _ _ w1
    have HB : Hid (∀ w1, Calls Tryz.prog 69 #[.agg #[.int .i64 st.p, .int .i64 st.s, .int .i64 st.l, .int .i64 st.c, .int .i64 st.k], .int .i64 st.h.from_, .int .i64 1] w1 fun e w' => e = .returned (.int .i64 st.lnk) ∧ Below w1.heap.size w1 w') := fun w1 => sBlock _ _ _ _ _ _ _ w1
    go_enter Tryz.func39, Tryz.ntmps39
    go_upto_region 1 with (go_at_call 30; refine (HR.out _).mono ?_; rintro e w0 ⟨rfl, hb⟩; replace S := S.keep hb; have k1 : K2 b st.g w w0 := K2.of_below hb; clear hb d0 d1 d2 d3 d4 c13)
    have A := S.is
    have lp : ∀ w', Cls w0 w' → (loadVar 35 ⟨b, 0, none⟩).run Tryz.prog w' = .ok (.agg #[.int .i64 st.p, .int .i64 st.s, .int .i64 st.l, .int .i64 st.c, .int .i64 st.k]) w' := ldS (o := 0) A st.pl Tryz.underlying35 rfl (by kernel_rfl)
    have lf : ∀ w', Cls w0 w' → (loadVar 2 ⟨b, 29, none⟩).run Tryz.prog w' = .ok (.int .i64 st.h.from_) w' := ld_i A Tryz.underlying2 rfl
    clear A
    refine wp_region_cls (by kernel_rfl) (by kernel_rfl) ?_
    repeat' (first
      | go_big_quiet_skip
      | (go_big_quiet_want; first
        | (refine q_load _ _ _ _ rfl rfl (by assumption) ?_; simp only [Act.put, List.setIfInBounds_toArray, List.set_cons_zero, List.set_cons_succ]; go_big_quiet_on)
        | (go_big_quiet_op; first
          | go_big_quiet_on
          | (refine ⟨_, fun _ _ => rfl, ?_⟩; go_big_quiet_on)
          | (apply Exists.intro; refine ⟨fun w' hw' => ?_, ?_⟩
             · (go_at_call 69; exact cls_below hw' (HB.out _))
             go_big_quiet_on))))
    refine wpQuiet_nil ?_
    intro w1 hw2
    replace S := S.keep hw2.below
    replace k1 := k1.trans (K2.of_below hw2.below)
    clear lp lf hw2
    have c13 : w1.cell? ⟨b, 13, none⟩ = some (.int .i64 36) := by (have hq := S.c_h_At; rw [hhat.out] at hq; exact hq)
    have f13 := S.fz 13
    go_upto_region 15 with fail
    change Code.wp _ _ _ _ (w1.setCell ⟨b, 13, none⟩ (.int .i64 34))
    have S1 : SAt (w1.setCell ⟨b, 13, none⟩ (.int .i64 34)) b (st.to 34) := S.to 34
    replace k1 := k1.set 13 (.int .i64 34)
    generalize w1.setCell ⟨b, 13, none⟩ (.int .i64 34) = w2 at *
    clear c13 f13 S
    replace S1 := S1.drew
    replace k1 := k1.drew
    have c23 : w2.drew.cell? ⟨b, 23, none⟩ = some (.int .u64 st.h.seen) := S1.c_h_Seen
    go_region_held3 (fun w' => w'.cell? ⟨b, 23, none⟩ = some (.int .u64 st.h.seen)) (go_keep)
      (first
      | (go_at_call 31; refine (sl8Read b (st.to 34) (st.root 4) _ S1 hn).mono ?_; rintro e w3 ⟨rfl, S3, k3, hbd⟩; replace k1 := k1.trans k3; rw [hT.out] at S3; rw [hx.out]; clear k3 S1 c23; have c23 : w3.cell? ⟨b, 23, none⟩ = some (.int .u64 st.h.seen) := by (rw [← hTs.out]; exact S3.c_h_Seen)))
    go_wp2
    first | go_end0 | refine bodyPost_ret (results_none rfl _ _ _) rfl ?_
    rw [hF.out, if_neg hk]
    exact ⟨rfl, S3, k1⟩
def S8.last11 (st : S8) : S8 := S8.to { (st.rdS st.lnk) with h := { (st.rdS st.lnk).h with next := uI (st.rd st.lnk) } } (if uI (st.rd st.lnk) = 0 then 39 else 38)
set_option maxHeartbeats 16000000 in
theorem g11_37 (b : Nat) (st : S8) (w : World) (S : SAt w b st) (hn : st.n ≤ 16777216) (hat : st.h.at_ = 37) :
    Calls Tryz.prog 39 #[.pointer (some ⟨b, 0, none⟩)] w fun e w' => e = .returned (.tuple #[]) ∧ SAt w' b st.last11 ∧ K2 b st.g w w' := by
  obtain ⟨T, hT⟩ : ∃ T, Hid (st.rdS st.lnk = T) := ⟨_, rfl⟩
  obtain ⟨x, hx⟩ : ∃ x, Hid (st.rd st.lnk = x) := ⟨_, rfl⟩
  have hF : Hid (st.last11 = S8.to { T with h := { T.h with next := uI x } } (if uI x = 0 then 39 else 38)) := by unfold Hid S8.last11; rw [hT.out, hx.out]
  have c13 : w.cell? ⟨b, 13, none⟩ = some (.int .i64 st.h.at_) := S.c_h_At
  rw [hat] at c13
  have hhat : Hid (st.h.at_ = 37) := hat
  clear hat
  obtain ⟨d0, d1, d2, d3, d4⟩ := S.plan
  have HR : Hid (∀ w1, Calls Tryz.prog 30 #[.agg #[.int .i64 st.p, .int .i64 st.s, .int .i64 st.l, .int .i64 st.c, .int .i64 st.k], .int .i64 4] w1 fun e w' => e = .returned (.int .i64 (st.root 4)) ∧ Below w1.heap.size w1 w') := fun w1 => sRoot _ _ _ _ _ _ w1
  have HB : Hid (∀ w1, Calls Tryz.prog 69 #[.agg #[.int .i64 st.p, .int .i64 st.s, .int .i64 st.l, .int .i64 st.c, .int .i64 st.k], .int .i64 st.h.from_, .int .i64 1] w1 fun e w' => e = .returned (.int .i64 st.lnk) ∧ Below w1.heap.size w1 w') := fun w1 => sBlock _ _ _ _ _ _ _ w1
  go_enter Tryz.func39, Tryz.ntmps39
  go_upto_region 1 with (go_at_call 30; refine (HR.out _).mono ?_; rintro e w0 ⟨rfl, hb⟩; replace S := S.keep hb; have k1 : K2 b st.g w w0 := K2.of_below hb; clear hb d0 d1 d2 d3 d4 c13)
  have A := S.is
  have lp : ∀ w', Cls w0 w' → (loadVar 35 ⟨b, 0, none⟩).run Tryz.prog w' = .ok (.agg #[.int .i64 st.p, .int .i64 st.s, .int .i64 st.l, .int .i64 st.c, .int .i64 st.k]) w' := ldS (o := 0) A st.pl Tryz.underlying35 rfl (by kernel_rfl)
  have lf : ∀ w', Cls w0 w' → (loadVar 2 ⟨b, 29, none⟩).run Tryz.prog w' = .ok (.int .i64 st.h.from_) w' := ld_i A Tryz.underlying2 rfl
  clear A
  refine wp_region_cls (by kernel_rfl) (by kernel_rfl) ?_
  repeat' (first
    | go_big_quiet_skip
    | (go_big_quiet_want; first
      | (refine q_load _ _ _ _ rfl rfl (by assumption) ?_; simp only [Act.put, List.setIfInBounds_toArray, List.set_cons_zero, List.set_cons_succ]; go_big_quiet_on)
      | (go_big_quiet_op; first
        | go_big_quiet_on
        | (refine ⟨_, fun _ _ => rfl, ?_⟩; go_big_quiet_on)
        | (apply Exists.intro; refine ⟨fun w' hw' => ?_, ?_⟩
           · (go_at_call 69; exact cls_below hw' (HB.out _))
           go_big_quiet_on))))
  refine wpQuiet_nil ?_
  intro w1 hw2
  replace S := S.keep hw2.below
  replace k1 := k1.trans (K2.of_below hw2.below)
  clear lp lf hw2
  have c13 : w1.cell? ⟨b, 13, none⟩ = some (.int .i64 37) := by (have hq := S.c_h_At; rw [hhat.out] at hq; exact hq)
  have f13 := S.fz 13
  go_upto_region 18 with fail
  go_upto_region 19 with (first
    | (go_at_call 31; refine (sl8Read b st st.lnk _ S hn).mono ?_; rintro e w3 ⟨rfl, S3, k3, hbd⟩; replace k1 := k1.trans k3; rw [hT.out] at S3; rw [hx.out] at hbd; rw [hx.out]; clear k3 c13 f13)
    | (go_at_call 32; refine (sIndex _ hbd.1 hbd.2 _).mono ?_; rintro e w4 ⟨rfl, hb⟩; replace S3 := S3.keep hb; replace k1 := k1.trans (K2.of_below hb); clear hb; have c30 : w4.cell? ⟨b, 30, none⟩ = some (.int .i64 T.h.next) := S3.c_h_Next; have f30 := S3.fz 30))
  change Code.wp _ _ _ _ (w4.setCell ⟨b, 30, none⟩ (.int .i64 (uI x)))
  have S4 : SAt (w4.setCell ⟨b, 30, none⟩ (.int .i64 (uI x))) b { T with h := { T.h with next := uI x } } := S3.put (st' := { T with h := { T.h with next := uI x } }) 30 _ rfl ⟨rfl, rfl, rfl, rfl, rfl, rfl⟩
  replace k1 := k1.set 30 (.int .i64 (uI x))
  generalize w4.setCell ⟨b, 30, none⟩ (.int .i64 (uI x)) = w6 at *
  clear c30 f30 S3
  by_cases h0 : uI x = 0
  · have h1 : uI x = 0 := h0
    have c30 : w6.cell? ⟨b, 30, none⟩ = some (.int .i64 0) := by (rw [← h0]; exact S4.c_h_Next)
    have c13 : w6.cell? ⟨b, 13, none⟩ = some (.int .i64 T.h.at_) := S4.c_h_At
    have f13 := S4.fz 13
    go_wp2
    first | go_end0 | refine bodyPost_ret (results_none rfl _ _ _) rfl ?_
    rw [hF.out, if_pos h0]
    exact ⟨rfl, S4.to _, k1.set _ _⟩
  · have h0b : (uI x == 0) = false := by simp [h0]
    have c30 : w6.cell? ⟨b, 30, none⟩ = some (.int .i64 (uI x)) := S4.c_h_Next
    have c13 : w6.cell? ⟨b, 13, none⟩ = some (.int .i64 T.h.at_) := S4.c_h_At
    have f13 := S4.fz 13
    go_wp2
    first | go_end0 | refine bodyPost_ret (results_none rfl _ _ _) rfl ?_
    rw [hF.out, if_neg h0]
    exact ⟨rfl, (S4.to 39).to 38, (k1.set _ _).set _ _⟩
set_option maxHeartbeats 16000000 in
theorem g11_38 (b : Nat) (st : S8) (w : World) (S : SAt w b st) (hn : st.n ≤ 16777216) (hp : 0 ≤ st.h.seen ∧ st.h.seen ≤ 18446744073709551615) (hat : st.h.at_ = 38) :
    Calls Tryz.prog 39 #[.pointer (some ⟨b, 0, none⟩)] w fun e w' => e = .returned (.tuple #[]) ∧ SAt w' b ((st.pull st.h.seen st.h.next).to 34) ∧ K2 b st.g w w' := by
  obtain ⟨T, hT⟩ : ∃ T, Hid (st.pull st.h.seen st.h.next = T) := ⟨_, rfl⟩
  have c13 : w.cell? ⟨b, 13, none⟩ = some (.int .i64 st.h.at_) := S.c_h_At
  rw [hat] at c13
  have hhat : Hid (st.h.at_ = 38) := hat
  clear hat
  obtain ⟨d0, d1, d2, d3, d4⟩ := S.plan
  have HR : Hid (∀ w1, Calls Tryz.prog 30 #[.agg #[.int .i64 st.p, .int .i64 st.s, .int .i64 st.l, .int .i64 st.c, .int .i64 st.k], .int .i64 4] w1 fun e w' => e = .returned (.int .i64 (st.root 4)) ∧ Below w1.heap.size w1 w') := fun w1 => sRoot _ _ _ _ _ _ w1
  have HB : Hid (∀ w1, Calls Tryz.prog 69 #[.agg #[.int .i64 st.p, .int .i64 st.s, .int .i64 st.l, .int .i64 st.c, .int .i64 st.k], .int .i64 st.h.from_, .int .i64 1] w1 fun e w' => e = .returned (.int .i64 st.lnk) ∧ Below w1.heap.size w1 w') := fun w1 => sBlock _ _ _ _ _ _ _ w1
  go_enter Tryz.func39, Tryz.ntmps39
  go_upto_region 1 with (go_at_call 30; refine (HR.out _).mono ?_; rintro e w0 ⟨rfl, hb⟩; replace S := S.keep hb; have k1 : K2 b st.g w w0 := K2.of_below hb; clear hb d0 d1 d2 d3 d4 c13)
  have A := S.is
  have lp : ∀ w', Cls w0 w' → (loadVar 35 ⟨b, 0, none⟩).run Tryz.prog w' = .ok (.agg #[.int .i64 st.p, .int .i64 st.s, .int .i64 st.l, .int .i64 st.c, .int .i64 st.k]) w' := ldS (o := 0) A st.pl Tryz.underlying35 rfl (by kernel_rfl)
  have lf : ∀ w', Cls w0 w' → (loadVar 2 ⟨b, 29, none⟩).run Tryz.prog w' = .ok (.int .i64 st.h.from_) w' := ld_i A Tryz.underlying2 rfl
  clear A
  refine wp_region_cls (by kernel_rfl) (by kernel_rfl) ?_
  repeat' (first
    | go_big_quiet_skip
    | (go_big_quiet_want; first
      | (refine q_load _ _ _ _ rfl rfl (by assumption) ?_; simp only [Act.put, List.setIfInBounds_toArray, List.set_cons_zero, List.set_cons_succ]; go_big_quiet_on)
      | (go_big_quiet_op; first
        | go_big_quiet_on
        | (refine ⟨_, fun _ _ => rfl, ?_⟩; go_big_quiet_on)
        | (apply Exists.intro; refine ⟨fun w' hw' => ?_, ?_⟩
           · (go_at_call 69; exact cls_below hw' (HB.out _))
           go_big_quiet_on))))
  refine wpQuiet_nil ?_
  intro w1 hw2
  replace S := S.keep hw2.below
  replace k1 := k1.trans (K2.of_below hw2.below)
  clear lp lf hw2
  have c13 : w1.cell? ⟨b, 13, none⟩ = some (.int .i64 38) := by (have hq := S.c_h_At; rw [hhat.out] at hq; exact hq)
  have f13 := S.fz 13
  go_upto_region 23 with fail
  have S1 := S.drew
  replace k1 := k1.drew
  have c23 : w1.drew.cell? ⟨b, 23, none⟩ = some (.int .u64 st.h.seen) := S1.c_h_Seen
  have c30 : w1.drew.cell? ⟨b, 30, none⟩ = some (.int .i64 st.h.next) := S1.c_h_Next
  clear c13 f13 S
  go_region_held3 (fun w' => w'.cell? ⟨b, 23, none⟩ = some (.int .u64 st.h.seen) ∧ w'.cell? ⟨b, 30, none⟩ = some (.int .i64 st.h.next)) (go_keep)
    (first | (go_at_call 38; refine (sPull b st _ S1 hn st.h.seen st.h.next hp).mono ?_; rintro e w9 ⟨rfl, S9, k2⟩; rw [hT.out] at S9; replace k1 := k1.trans k2; clear k2 S1; clear c23 c30; have c23 : w9.cell? ⟨b, 23, none⟩ = some (.int .u64 st.h.seen) := (by have hq := S9.c_h_Seen; rw [← hT.out, pull_h] at hq; exact hq); have c30 : w9.cell? ⟨b, 30, none⟩ = some (.int .i64 st.h.next) := (by have hq := S9.c_h_Next; rw [← hT.out, pull_h] at hq; exact hq)))
  have c13 : w9.cell? ⟨b, 13, none⟩ = some (.int .i64 T.h.at_) := S9.c_h_At
  have f13 := S9.fz 13
  go_wp2
  first | go_end0 | refine bodyPost_ret (results_none rfl _ _ _) rfl ?_
  rw [hT.out]
  exact ⟨rfl, S9.to _, k1.set _ _⟩
set_option maxHeartbeats 16000000 in
theorem g11_40 (b : Nat) (st : S8) (w : World) (S : SAt w b st) (hn : st.n ≤ 16777216) (hp : 0 ≤ st.h.seen ∧ st.h.seen ≤ 18446744073709551615) (hat : st.h.at_ = 40) :
    Calls Tryz.prog 39 #[.pointer (some ⟨b, 0, none⟩)] w fun e w' => e = .returned (.tuple #[]) ∧ SAt w' b ((st.pull st.h.seen st.h.block).to 2) ∧ K2 b st.g w w' := by
  obtain ⟨T, hT⟩ : ∃ T, Hid (st.pull st.h.seen st.h.block = T) := ⟨_, rfl⟩
  have c13 : w.cell? ⟨b, 13, none⟩ = some (.int .i64 st.h.at_) := S.c_h_At
  rw [hat] at c13
  have hhat : Hid (st.h.at_ = 40) := hat
  clear hat
  obtain ⟨d0, d1, d2, d3, d4⟩ := S.plan
  have HR : Hid (∀ w1, Calls Tryz.prog 30 #[.agg #[.int .i64 st.p, .int .i64 st.s, .int .i64 st.l, .int .i64 st.c, .int .i64 st.k], .int .i64 4] w1 fun e w' => e = .returned (.int .i64 (st.root 4)) ∧ Below w1.heap.size w1 w') := fun w1 => sRoot _ _ _ _ _ _ w1
  have HB : Hid (∀ w1, Calls Tryz.prog 69 #[.agg #[.int .i64 st.p, .int .i64 st.s, .int .i64 st.l, .int .i64 st.c, .int .i64 st.k], .int .i64 st.h.from_, .int .i64 1] w1 fun e w' => e = .returned (.int .i64 st.lnk) ∧ Below w1.heap.size w1 w') := fun w1 => sBlock _ _ _ _ _ _ _ w1
  go_enter Tryz.func39, Tryz.ntmps39
  go_upto_region 1 with (go_at_call 30; refine (HR.out _).mono ?_; rintro e w0 ⟨rfl, hb⟩; replace S := S.keep hb; have k1 : K2 b st.g w w0 := K2.of_below hb; clear hb d0 d1 d2 d3 d4 c13)
  have A := S.is
  have lp : ∀ w', Cls w0 w' → (loadVar 35 ⟨b, 0, none⟩).run Tryz.prog w' = .ok (.agg #[.int .i64 st.p, .int .i64 st.s, .int .i64 st.l, .int .i64 st.c, .int .i64 st.k]) w' := ldS (o := 0) A st.pl Tryz.underlying35 rfl (by kernel_rfl)
  have lf : ∀ w', Cls w0 w' → (loadVar 2 ⟨b, 29, none⟩).run Tryz.prog w' = .ok (.int .i64 st.h.from_) w' := ld_i A Tryz.underlying2 rfl
  clear A
  refine wp_region_cls (by kernel_rfl) (by kernel_rfl) ?_
  repeat' (first
    | go_big_quiet_skip
    | (go_big_quiet_want; first
      | (refine q_load _ _ _ _ rfl rfl (by assumption) ?_; simp only [Act.put, List.setIfInBounds_toArray, List.set_cons_zero, List.set_cons_succ]; go_big_quiet_on)
      | (go_big_quiet_op; first
        | go_big_quiet_on
        | (refine ⟨_, fun _ _ => rfl, ?_⟩; go_big_quiet_on)
        | (apply Exists.intro; refine ⟨fun w' hw' => ?_, ?_⟩
           · (go_at_call 69; exact cls_below hw' (HB.out _))
           go_big_quiet_on))))
  refine wpQuiet_nil ?_
  intro w1 hw2
  replace S := S.keep hw2.below
  replace k1 := k1.trans (K2.of_below hw2.below)
  clear lp lf hw2
  have c13 : w1.cell? ⟨b, 13, none⟩ = some (.int .i64 40) := by (have hq := S.c_h_At; rw [hhat.out] at hq; exact hq)
  have f13 := S.fz 13
  go_upto_region 33 with fail
  have S1 := S.drew
  replace k1 := k1.drew
  have c23 : w1.drew.cell? ⟨b, 23, none⟩ = some (.int .u64 st.h.seen) := S1.c_h_Seen
  have c28 : w1.drew.cell? ⟨b, 28, none⟩ = some (.int .i64 st.h.block) := S1.c_h_Block
  clear c13 f13 S
  go_region_held3 (fun w' => w'.cell? ⟨b, 23, none⟩ = some (.int .u64 st.h.seen) ∧ w'.cell? ⟨b, 28, none⟩ = some (.int .i64 st.h.block)) (go_keep)
    (first | (go_at_call 38; refine (sPull b st _ S1 hn st.h.seen st.h.block hp).mono ?_; rintro e w9 ⟨rfl, S9, k2⟩; rw [hT.out] at S9; replace k1 := k1.trans k2; clear k2 S1; clear c23 c28; have c23 : w9.cell? ⟨b, 23, none⟩ = some (.int .u64 st.h.seen) := (by have hq := S9.c_h_Seen; rw [← hT.out, pull_h] at hq; exact hq); have c28 : w9.cell? ⟨b, 28, none⟩ = some (.int .i64 st.h.block) := (by have hq := S9.c_h_Block; rw [← hT.out, pull_h] at hq; exact hq)))
  have c13 : w9.cell? ⟨b, 13, none⟩ = some (.int .i64 T.h.at_) := S9.c_h_At
  have f13 := S9.fz 13
  go_wp2
  first | go_end0 | refine bodyPost_ret (results_none rfl _ _ _) rfl ?_
  rw [hT.out]
  exact ⟨rfl, S9.to _, k1.set _ _⟩
def S8.ret11 (V : S8) : S8 := S8.to { (V.ret10 1 0) with d := (V.ret10 1 0).h.told 5 } 40
def S8.linkW (st : S8) : S8 := (st.to 34).wrd 0 st.h.for_ st.h.block st.h.last
def S8.linkUp (st : S8) : S8 := if (st.linkW.swp st.lnk 0 (wv 0 st.h.for_ st.h.block st.h.last)).1 = true then ((st.linkW.swp st.lnk 0 (wv 0 st.h.for_ st.h.block st.h.last)).2).ret11 else (st.linkW.swp st.lnk 0 (wv 0 st.h.for_ st.h.block st.h.last)).2
set_option maxHeartbeats 16000000 in
theorem g11_39 (b : Nat) (st : S8) (w : World) (S : SAt w b st) (hn : st.n ≤ 16777216) (hat : st.h.at_ = 39) :
    Calls Tryz.prog 39 #[.pointer (some ⟨b, 0, none⟩)] w fun e w' => e = .returned (.tuple #[]) ∧ SAt w' b st.linkUp ∧ K2 b st.g w w' := by
  obtain ⟨W, hW⟩ : ∃ W, Hid ((st.to 34).wrd 0 st.h.for_ st.h.block st.h.last = W) := ⟨_, rfl⟩
  have hWg : W.g = st.g := by rw [← hW.out, S8.wrd_g]; rfl
  have hWn : W.n ≤ 16777216 := by rw [← hW.out, S8.wrd_n]; exact hn
  have hWh : Hid (W.h = { st.h with at_ := 34 }) := by unfold Hid; rw [← hW.out, S8.wrd_h]; rfl
  obtain ⟨x, hx⟩ : ∃ x, Hid (wv 0 st.h.for_ st.h.block st.h.last = x) := ⟨_, rfl⟩
  have hxb : Hid (0 ≤ x ∧ x ≤ 18446744073709551615) := by rw [← hx.out]; exact wv_bd _ _ _ _
  obtain ⟨V, hV⟩ : ∃ V, Hid ((W.swp st.lnk 0 x).2 = V) := ⟨_, rfl⟩
  have hVh : Hid (V.h = { st.h with at_ := 34 }) := by unfold Hid; rw [← hV.out, swp_h]; exact hWh.out
  have hVg : V.g = st.g := by rw [← hV.out, swp_g]; exact hWg
  have hL : Hid (st.linkUp = if (W.swp st.lnk 0 x).1 = true then V.ret11 else V) := by unfold Hid S8.linkUp S8.linkW; rw [hW.out, hx.out, hV.out]
  cases hd : (W.swp st.lnk 0 x).1
  · have hF : Hid (st.linkUp = V) := by unfold Hid; rw [hL.out, hd]; rfl
    have hD : (W.swp st.lnk 0 x).1 = false := hd
    have c13 : w.cell? ⟨b, 13, none⟩ = some (.int .i64 st.h.at_) := S.c_h_At
    rw [hat] at c13
    have hhat : Hid (st.h.at_ = 39) := hat
    clear hat
    obtain ⟨d0, d1, d2, d3, d4⟩ := S.plan
    have HR : Hid (∀ w1, Calls Tryz.prog 30 #[.agg #[.int .i64 st.p, .int .i64 st.s, .int .i64 st.l, .int .i64 st.c, .int .i64 st.k], .int .i64 4] w1 fun e w' => e = .returned (.int .i64 (st.root 4)) ∧ Below w1.heap.size w1 w') := fun w1 => sRoot _ _ _ _ _ _ w1
    have HB : Hid (∀ w1, Calls Tryz.prog 69 #[.agg #[.int .i64 st.p, .int .i64 st.s, .int .i64 st.l, .int .i64 st.c, .int .i64 st.k], .int .i64 st.h.from_, .int .i64 1] w1 fun e w' => e = .returned (.int .i64 st.lnk) ∧ Below w1.heap.size w1 w') := fun w1 => sBlock _ _ _ _ _ _ _ w1
    go_enter Tryz.func39, Tryz.ntmps39
    go_upto_region 1 with (go_at_call 30; refine (HR.out _).mono ?_; rintro e w0 ⟨rfl, hb⟩; replace S := S.keep hb; have k1 : K2 b st.g w w0 := K2.of_below hb; clear hb d0 d1 d2 d3 d4 c13)
    have A := S.is
    have lp : ∀ w', Cls w0 w' → (loadVar 35 ⟨b, 0, none⟩).run Tryz.prog w' = .ok (.agg #[.int .i64 st.p, .int .i64 st.s, .int .i64 st.l, .int .i64 st.c, .int .i64 st.k]) w' := ldS (o := 0) A st.pl Tryz.underlying35 rfl (by kernel_rfl)
    have lf : ∀ w', Cls w0 w' → (loadVar 2 ⟨b, 29, none⟩).run Tryz.prog w' = .ok (.int .i64 st.h.from_) w' := ld_i A Tryz.underlying2 rfl
    clear A
    refine wp_region_cls (by kernel_rfl) (by kernel_rfl) ?_
    repeat' (first
      | go_big_quiet_skip
      | (go_big_quiet_want; first
        | (refine q_load _ _ _ _ rfl rfl (by assumption) ?_; simp only [Act.put, List.setIfInBounds_toArray, List.set_cons_zero, List.set_cons_succ]; go_big_quiet_on)
        | (go_big_quiet_op; first
          | go_big_quiet_on
          | (refine ⟨_, fun _ _ => rfl, ?_⟩; go_big_quiet_on)
          | (apply Exists.intro; refine ⟨fun w' hw' => ?_, ?_⟩
             · (go_at_call 69; exact cls_below hw' (HB.out _))
             go_big_quiet_on))))
    refine wpQuiet_nil ?_
    intro w1 hw2
    replace S := S.keep hw2.below
    replace k1 := k1.trans (K2.of_below hw2.below)
    clear lp lf hw2
    have c13 : w1.cell? ⟨b, 13, none⟩ = some (.int .i64 39) := by (have hq := S.c_h_At; rw [hhat.out] at hq; exact hq)
    have f13 := S.fz 13
    go_upto_region 27 with fail
    change Code.wp _ _ _ _ (w1.setCell ⟨b, 13, none⟩ (.int .i64 34))
    have S1 : SAt (w1.setCell ⟨b, 13, none⟩ (.int .i64 34)) b (st.to 34) := S.to 34
    replace k1 := k1.set 13 (.int .i64 34)
    generalize w1.setCell ⟨b, 13, none⟩ (.int .i64 34) = w2 at *
    clear c13 f13 S
    replace S1 := S1.drew
    replace k1 := k1.drew
    have c19 : w2.drew.cell? ⟨b, 19, none⟩ = some (.int .i64 st.h.for_) := S1.c_h_For
    have c28 : w2.drew.cell? ⟨b, 28, none⟩ = some (.int .i64 st.h.block) := S1.c_h_Block
    have c20 : w2.drew.cell? ⟨b, 20, none⟩ = some (.int .i64 st.h.last) := S1.c_h_Last
    go_region_held3 (fun w' => w'.cell? ⟨b, 19, none⟩ = some (.int .i64 st.h.for_) ∧ w'.cell? ⟨b, 28, none⟩ = some (.int .i64 st.h.block) ∧ w'.cell? ⟨b, 20, none⟩ = some (.int .i64 st.h.last)) (go_keep)
      (first
      | (go_at_call 35; refine (sl8Word b (st.to 34) _ _ _ _ _ S1).mono ?_; rintro e w3 ⟨rfl, S2, k2⟩; rw [hW.out] at S2; rw [hx.out]; replace k1 := k1.trans k2; clear k2 S1; clear c19 c28 c20; have c19 : w3.cell? ⟨b, 19, none⟩ = some (.int .i64 st.h.for_) := (by have hq := S2.c_h_For; rw [hWh.out] at hq; exact hq); have c28 : w3.cell? ⟨b, 28, none⟩ = some (.int .i64 st.h.block) := (by have hq := S2.c_h_Block; rw [hWh.out] at hq; exact hq); have c20 : w3.cell? ⟨b, 20, none⟩ = some (.int .i64 st.h.last) := (by have hq := S2.c_h_Last; rw [hWh.out] at hq; exact hq))
      | (go_at_call 70; refine (sl8Swap b W st.lnk 0 x _ S2 hWn hxb.out).mono ?_; rintro e w4 ⟨rfl, S3, k2⟩; rw [hV.out] at S3; rw [hWg] at k2; rw [hD]; replace k1 := k1.trans k2; clear k2 S2; clear c19 c28 c20; have c19 : w4.cell? ⟨b, 19, none⟩ = some (.int .i64 st.h.for_) := (by have hq := S3.c_h_For; rw [hVh.out] at hq; exact hq); have c28 : w4.cell? ⟨b, 28, none⟩ = some (.int .i64 st.h.block) := (by have hq := S3.c_h_Block; rw [hVh.out] at hq; exact hq); have c20 : w4.cell? ⟨b, 20, none⟩ = some (.int .i64 st.h.last) := (by have hq := S3.c_h_Last; rw [hVh.out] at hq; exact hq)))
    have c13 : w4.cell? ⟨b, 13, none⟩ = some (.int .i64 V.h.at_) := S3.c_h_At
    have f13 := S3.fz 13
    go_wp2
    first | go_end0 | refine bodyPost_ret (results_none rfl _ _ _) rfl ?_
    rw [hF.out]
    exact ⟨rfl, S3, k1⟩
  · have hF : Hid (st.linkUp = V.ret11) := by unfold Hid; rw [hL.out, hd]; rfl
    have hZg : Hid ((V.ret10 1 0).g = st.g) := hVg
    have hD : (W.swp st.lnk 0 x).1 = true := hd
    have c13 : w.cell? ⟨b, 13, none⟩ = some (.int .i64 st.h.at_) := S.c_h_At
    rw [hat] at c13
    have hhat : Hid (st.h.at_ = 39) := hat
    clear hat
    obtain ⟨d0, d1, d2, d3, d4⟩ := S.plan
    have HR : Hid (∀ w1, Calls Tryz.prog 30 #[.agg #[.int .i64 st.p, .int .i64 st.s, .int .i64 st.l, .int .i64 st.c, .int .i64 st.k], .int .i64 4] w1 fun e w' => e = .returned (.int .i64 (st.root 4)) ∧ Below w1.heap.size w1 w') := fun w1 => sRoot _ _ _ _ _ _ w1
    have HB : Hid (∀ w1, Calls Tryz.prog 69 #[.agg #[.int .i64 st.p, .int .i64 st.s, .int .i64 st.l, .int .i64 st.c, .int .i64 st.k], .int .i64 st.h.from_, .int .i64 1] w1 fun e w' => e = .returned (.int .i64 st.lnk) ∧ Below w1.heap.size w1 w') := fun w1 => sBlock _ _ _ _ _ _ _ w1
    go_enter Tryz.func39, Tryz.ntmps39
    go_upto_region 1 with (go_at_call 30; refine (HR.out _).mono ?_; rintro e w0 ⟨rfl, hb⟩; replace S := S.keep hb; have k1 : K2 b st.g w w0 := K2.of_below hb; clear hb d0 d1 d2 d3 d4 c13)
    have A := S.is
    have lp : ∀ w', Cls w0 w' → (loadVar 35 ⟨b, 0, none⟩).run Tryz.prog w' = .ok (.agg #[.int .i64 st.p, .int .i64 st.s, .int .i64 st.l, .int .i64 st.c, .int .i64 st.k]) w' := ldS (o := 0) A st.pl Tryz.underlying35 rfl (by kernel_rfl)
    have lf : ∀ w', Cls w0 w' → (loadVar 2 ⟨b, 29, none⟩).run Tryz.prog w' = .ok (.int .i64 st.h.from_) w' := ld_i A Tryz.underlying2 rfl
    clear A
    refine wp_region_cls (by kernel_rfl) (by kernel_rfl) ?_
    repeat' (first
      | go_big_quiet_skip
      | (go_big_quiet_want; first
        | (refine q_load _ _ _ _ rfl rfl (by assumption) ?_; simp only [Act.put, List.setIfInBounds_toArray, List.set_cons_zero, List.set_cons_succ]; go_big_quiet_on)
        | (go_big_quiet_op; first
          | go_big_quiet_on
          | (refine ⟨_, fun _ _ => rfl, ?_⟩; go_big_quiet_on)
          | (apply Exists.intro; refine ⟨fun w' hw' => ?_, ?_⟩
             · (go_at_call 69; exact cls_below hw' (HB.out _))
             go_big_quiet_on))))
    refine wpQuiet_nil ?_
    intro w1 hw2
    replace S := S.keep hw2.below
    replace k1 := k1.trans (K2.of_below hw2.below)
    clear lp lf hw2
    have c13 : w1.cell? ⟨b, 13, none⟩ = some (.int .i64 39) := by (have hq := S.c_h_At; rw [hhat.out] at hq; exact hq)
    have f13 := S.fz 13
    go_upto_region 27 with fail
    change Code.wp _ _ _ _ (w1.setCell ⟨b, 13, none⟩ (.int .i64 34))
    have S1 : SAt (w1.setCell ⟨b, 13, none⟩ (.int .i64 34)) b (st.to 34) := S.to 34
    replace k1 := k1.set 13 (.int .i64 34)
    generalize w1.setCell ⟨b, 13, none⟩ (.int .i64 34) = w2 at *
    clear c13 f13 S
    replace S1 := S1.drew
    replace k1 := k1.drew
    have c19 : w2.drew.cell? ⟨b, 19, none⟩ = some (.int .i64 st.h.for_) := S1.c_h_For
    have c28 : w2.drew.cell? ⟨b, 28, none⟩ = some (.int .i64 st.h.block) := S1.c_h_Block
    have c20 : w2.drew.cell? ⟨b, 20, none⟩ = some (.int .i64 st.h.last) := S1.c_h_Last
    go_region_held3 (fun w' => w'.cell? ⟨b, 19, none⟩ = some (.int .i64 st.h.for_) ∧ w'.cell? ⟨b, 28, none⟩ = some (.int .i64 st.h.block) ∧ w'.cell? ⟨b, 20, none⟩ = some (.int .i64 st.h.last)) (go_keep)
      (first
      | (go_at_call 35; refine (sl8Word b (st.to 34) _ _ _ _ _ S1).mono ?_; rintro e w3 ⟨rfl, S2, k2⟩; rw [hW.out] at S2; rw [hx.out]; replace k1 := k1.trans k2; clear k2 S1; clear c19 c28 c20; have c19 : w3.cell? ⟨b, 19, none⟩ = some (.int .i64 st.h.for_) := (by have hq := S2.c_h_For; rw [hWh.out] at hq; exact hq); have c28 : w3.cell? ⟨b, 28, none⟩ = some (.int .i64 st.h.block) := (by have hq := S2.c_h_Block; rw [hWh.out] at hq; exact hq); have c20 : w3.cell? ⟨b, 20, none⟩ = some (.int .i64 st.h.last) := (by have hq := S2.c_h_Last; rw [hWh.out] at hq; exact hq))
      | (go_at_call 70; refine (sl8Swap b W st.lnk 0 x _ S2 hWn hxb.out).mono ?_; rintro e w4 ⟨rfl, S3, k2⟩; rw [hV.out] at S3; rw [hWg] at k2; rw [hD]; replace k1 := k1.trans k2; clear k2 S2; clear c19 c28 c20; have c19 : w4.cell? ⟨b, 19, none⟩ = some (.int .i64 st.h.for_) := (by have hq := S3.c_h_For; rw [hVh.out] at hq; exact hq); have c28 : w4.cell? ⟨b, 28, none⟩ = some (.int .i64 st.h.block) := (by have hq := S3.c_h_Block; rw [hVh.out] at hq; exact hq); have c20 : w4.cell? ⟨b, 20, none⟩ = some (.int .i64 st.h.last) := (by have hq := S3.c_h_Last; rw [hVh.out] at hq; exact hq)))
    have c13 : w4.cell? ⟨b, 13, none⟩ = some (.int .i64 V.h.at_) := S3.c_h_At
    have f13 := S3.fz 13
    have c40 : w4.cell? ⟨b, 40, none⟩ = some (.int .i64 V.h.reply) := S3.c_h_Reply
    have f40 := S3.fz 40
    have c41 : w4.cell? ⟨b, 41, none⟩ = some (.int .i64 V.h.out) := S3.c_h_Out
    have f41 := S3.fz 41
    go_upto_region 30 with fail
    change Code.wp _ _ _ _ ((w4.setCell ⟨b, 40, none⟩ (.int .i64 1)).setCell ⟨b, 41, none⟩ (.int .i64 0))
    have S4 : SAt ((w4.setCell ⟨b, 40, none⟩ (.int .i64 1)).setCell ⟨b, 41, none⟩ (.int .i64 0)) b (V.ret10 1 0) := (S3.put (st' := { V with h := { V.h with reply := 1 } }) 40 _ rfl ⟨rfl, rfl, rfl, rfl, rfl, rfl⟩).put 41 _ rfl ⟨rfl, rfl, rfl, rfl, rfl, rfl⟩
    replace k1 := (k1.set 40 (.int .i64 1)).set 41 (.int .i64 0)
    generalize (w4.setCell ⟨b, 40, none⟩ (.int .i64 1)).setCell ⟨b, 41, none⟩ (.int .i64 0) = w5 at *
    clear c40 f40 c41 f41 c13 f13 S3
    obtain ⟨Z, hZ⟩ : ∃ Z, Hid (V.ret10 1 0 = Z) := ⟨_, rfl⟩
    rw [hZ.out] at S4 hZg
    have hF : Hid (st.linkUp = S8.to { Z with d := Z.h.told 5 } 40) := by unfold Hid; rw [hF.out]; unfold S8.ret11; rw [hZ.out]
    go_wp2_with (go_at_call 71; refine (sTold b Z 5 _ S4).mono ?_; rintro e w6 ⟨rfl, S6, k6⟩; have c13 : w6.cell? ⟨b, 13, none⟩ = some (.int .i64 Z.h.at_) := S6.c_h_At; have f13 := S6.fz 13)
    first | go_end0 | refine bodyPost_ret (results_none rfl _ _ _) rfl ?_
    rw [hF.out]
    exact ⟨rfl, S6.to _, (k1.trans (hZg.out ▸ k6)).set _ _⟩
/-- What the specification's step of the queue comes to. -/
def S8.go11 (st : S8) : S8 :=
  if st.h.at_ = 33 then (st.wr (st.blk 1) 0).to 34 else
  if st.h.at_ = 34 then { (st.rd9 (st.root 4)) with h := { (st.rd9 (st.root 4)).h with from_ := uI (st.rd (st.root 4)), at_ := 35 } } else
  if st.h.at_ = 35 then ((st.wrd 0 0 st.h.from_ 0).wr (st.slot 5) (wv 0 0 st.h.from_ 0)).to 36 else
  if st.h.at_ = 36 then (st.agn 34 4 37) else
  if st.h.at_ = 37 then st.last11 else
  if st.h.at_ = 38 then (st.pull st.h.seen st.h.next).to 34 else
  if st.h.at_ = 39 then st.linkUp else
  if st.h.at_ = 40 then (st.pull st.h.seen st.h.block).to 2 else
  if st.h.at_ = 41 then { (st.rd9 (st.root 3)) with h := { (st.rd9 (st.root 3)).h with block := uI (st.rd (st.root 3)), at_ := 42 } } else
  if st.h.at_ = 42 then ((st.wrd 0 0 st.h.block 0).wr (st.slot 5) (wv 0 0 st.h.block 0)).to 43 else
  if st.h.at_ = 43 then (st.agn 41 3 44) else
  if st.h.at_ = 44 then st.first11 else
  if st.h.at_ = 45 then ((st.wrd 0 0 st.h.next 0).wr (st.slot 6) (wv 0 0 st.h.next 0)).to 46 else
  if st.h.at_ = 46 then st.agn46 else
  if st.h.at_ = 47 then st.lag11 else
  (st.pull st.h.put st.h.next).to 29
set_option maxHeartbeats 8000000 in
theorem g11p (b : Nat) (st : S8) (w : World) (S : SAt w b st) (n : Int) (hn : 33 ≤ n ∧ n ≤ 40) (hat : st.h.at_ = n) (T : S8)
    (HP : ∀ w1, SAt w1 b st → Calls Tryz.prog 39 #[.pointer (some ⟨b, 0, none⟩)] w1 fun e w' => e = .returned (.tuple #[]) ∧ SAt w' b T ∧ K2 b st.g w1 w') :
    Calls Tryz.prog 16 #[.pointer (some ⟨b, 0, none⟩)] w fun e w' => e = .returned (.tuple #[]) ∧ SAt w' b T ∧ K2 b st.g w w' := by
  have c13 : w.cell? ⟨b, 13, none⟩ = some (.int .i64 st.h.at_) := S.c_h_At
  rw [hat] at c13
  have hhat : Hid (st.h.at_ = n) := hat
  clear hat
  obtain ⟨d0, d1, d2, d3, d4⟩ := S.plan
  obtain rfl | rfl | rfl | rfl | rfl | rfl | rfl | rfl : n = 33 ∨ n = 34 ∨ n = 35 ∨ n = 36 ∨ n = 37 ∨ n = 38 ∨ n = 39 ∨ n = 40 := by omega
  all_goals
    go_enter Tryz.func16, Tryz.ntmps16
    go_wp2_with (first
      | (go_at_call 30; refine (sRoot _ _ _ _ _ _ _).mono ?_; rintro e w1 ⟨rfl, hb⟩; replace S := S.keep hb; have k1 : K2 b st.g w w1 := K2.of_below hb; clear c13; have c13 := S.c_h_At; rw [hhat.out] at c13)
      | (go_at_call 39; refine (HP _ S).mono ?_; rintro e w4 ⟨rfl, S4, k4⟩))
    first | go_end0 | refine bodyPost_ret (results_none rfl _ _ _) rfl ?_
    exact ⟨rfl, S4, k1.trans k4⟩
theorem sGo11 (b : Nat) (st : S8) (w : World) (S : SAt w b st) (hn : st.n ≤ 16777216) (hs : 0 ≤ st.h.seen ∧ st.h.seen ≤ 18446744073709551615) (hp : 0 ≤ st.h.put ∧ st.h.put ≤ 18446744073709551615) (hat : 33 ≤ st.h.at_ ∧ st.h.at_ ≤ 48) :
    Calls Tryz.prog 16 #[.pointer (some ⟨b, 0, none⟩)] w fun e w' => e = .returned (.tuple #[]) ∧ SAt w' b st.go11 ∧ K2 b st.g w w' := by
  unfold S8.go11
  by_cases k33 : st.h.at_ = 33
  · rw [if_pos k33]; exact g11p b st w S 33 (by omega) k33 _ (fun w1 S1 => g11_33 b st w1 S1 hn k33)
  rw [if_neg k33]
  by_cases k34 : st.h.at_ = 34
  · rw [if_pos k34]; exact g11p b st w S 34 (by omega) k34 _ (fun w1 S1 => g11_34 b st w1 S1 hn k34)
  rw [if_neg k34]
  by_cases k35 : st.h.at_ = 35
  · rw [if_pos k35]; exact g11p b st w S 35 (by omega) k35 _ (fun w1 S1 => g11_35 b st w1 S1 hn k35)
  rw [if_neg k35]
  by_cases k36 : st.h.at_ = 36
  · rw [if_pos k36]; exact g11p b st w S 36 (by omega) k36 _ (fun w1 S1 => g11_36 b st w1 S1 hn k36)
  rw [if_neg k36]
  by_cases k37 : st.h.at_ = 37
  · rw [if_pos k37]; exact g11p b st w S 37 (by omega) k37 _ (fun w1 S1 => g11_37 b st w1 S1 hn k37)
  rw [if_neg k37]
  by_cases k38 : st.h.at_ = 38
  · rw [if_pos k38]; exact g11p b st w S 38 (by omega) k38 _ (fun w1 S1 => g11_38 b st w1 S1 hn hs k38)
  rw [if_neg k38]
  by_cases k39 : st.h.at_ = 39
  · rw [if_pos k39]; exact g11p b st w S 39 (by omega) k39 _ (fun w1 S1 => g11_39 b st w1 S1 hn k39)
  rw [if_neg k39]
  by_cases k40 : st.h.at_ = 40
  · rw [if_pos k40]; exact g11p b st w S 40 (by omega) k40 _ (fun w1 S1 => g11_40 b st w1 S1 hn hs k40)
  rw [if_neg k40]
  by_cases k41 : st.h.at_ = 41
  · rw [if_pos k41]; exact g11_41 b st w S hn k41
  rw [if_neg k41]
  by_cases k42 : st.h.at_ = 42
  · rw [if_pos k42]; exact g11_42 b st w S hn k42
  rw [if_neg k42]
  by_cases k43 : st.h.at_ = 43
  · rw [if_pos k43]; exact g11_43 b st w S hn k43
  rw [if_neg k43]
  by_cases k44 : st.h.at_ = 44
  · rw [if_pos k44]; exact g11_44 b st w S hn k44
  rw [if_neg k44]
  by_cases k45 : st.h.at_ = 45
  · rw [if_pos k45]; exact g11_45 b st w S hn k45
  rw [if_neg k45]
  by_cases k46 : st.h.at_ = 46
  · rw [if_pos k46]; exact g11_46 b st w S hn k46
  rw [if_neg k46]
  by_cases k47 : st.h.at_ = 47
  · rw [if_pos k47]; exact g11_47 b st w S hn k47
  rw [if_neg k47]
  exact g11_48 b st w S hn hp (by omega)
end Go.Proofs.YtgmoemjiffglbaaGreat
namespace Go.Proofs.YtgmoemjiffglbaaGreat
open Go.RowKit
set_option maxRecDepth 100000
set_option linter.unusedVariables false
set_option linter.unusedSimpArgs false
def I8.lnk (st : I8) (b : Int) : Int := vBlock st.p st.s st.l st.c st.k b 1
set_option maxHeartbeats 4000000 in
theorem uBehN (B q : Nat) (st : I8) (w : World) (S : IAt w B q st) (hn : st.n ≤ 16777216) (b : Int) (ht : thr (st.lnk b) st.n = false) :
    Calls Tryz.prog 92 #[.pointer (some ⟨q, 0, none⟩), .int .i64 b] w fun e w' => e = .panicked gu ∧ Below w.heap.size w w' := by
  have A := S.is
  have lp : ∀ w', Cls w w' → (loadVar 35 ⟨q, 0, none⟩).run Tryz.prog w' = .ok (.agg #[.int .i64 st.p, .int .i64 st.s, .int .i64 st.l, .int .i64 st.c, .int .i64 st.k]) w' := ld_sub (o := 0) A st.pl Tryz.underlying35 rfl (by kernel_rfl)
  clear A
  go_enter Tryz.func92, Tryz.ntmps92
  go_upto_region 1 with fail
  refine wp_region_dies (C := Cls w) [0, 1, 2, 3, 4, 5, 6, 7, 8, 9, 10] 11 (by simp only [List.map_cons, List.map_nil, List.getD_cons_succ, List.getD_cons_zero]; rfl) (by kernel_rfl) rfl (by kernel_rfl) (by kernel_rfl) (by kernel_rfl) (by decide) ⟨(Below.refl _ _).drew⟩ (fun c a d v w h => by cases d <;> exact h) ?_
  repeat' (first
    | go_big_quiet_skip
    | (go_big_quiet_want; first
      | (refine q_load _ _ _ _ rfl rfl (by assumption) ?_; simp only [Act.put, List.setIfInBounds_toArray, List.set_cons_zero, List.set_cons_succ]; go_big_quiet_on)
      | (go_big_quiet_op; first
        | go_big_quiet_on
        | (refine ⟨_, fun _ _ => rfl, ?_⟩; go_big_quiet_on)
        | (apply Exists.intro; refine ⟨fun w' hw' => ?_, ?_⟩
           · (first
             | (go_at_call 87; exact cls_below hw' (iBlock _ _ _ _ _ _ _ _)))
           go_big_quiet_on))))
  refine wpQuiet_nil ?_
  refine ⟨by rfl, fun w2 hw2 => ?_⟩
  go_simp
  go_at_call 115
  refine (pIndexN B q st (st.lnk b) _ (S.keep hw2.below) hn ht).mono ?_
  rintro e w3 ⟨rfl, rfl⟩
  exact ⟨rfl, rfl, hw2.below⟩
set_option maxHeartbeats 4000000 in
theorem uBehY (B q : Nat) (st : I8) (w : World) (S : IAt w B q st) (hn : st.n ≤ 16777216) (bd : ∀ x ∈ st.xs, 0 ≤ x ∧ x ≤ 18446744073709551615) (b : Int) (ht : thr (st.lnk b) st.n = true) :
    Calls Tryz.prog 92 #[.pointer (some ⟨q, 0, none⟩), .int .i64 b] w fun e w' => e = .returned (.int .i64 (uI (red st.xs (st.lnk b)))) ∧ Below w.heap.size w w' := by
  have A := S.is
  have lp : ∀ w', Cls w w' → (loadVar 35 ⟨q, 0, none⟩).run Tryz.prog w' = .ok (.agg #[.int .i64 st.p, .int .i64 st.s, .int .i64 st.l, .int .i64 st.c, .int .i64 st.k]) w' := ld_sub (o := 0) A st.pl Tryz.underlying35 rfl (by kernel_rfl)
  clear A
  have hb0 := red_bd bd (st.lnk b)
  clear bd
  obtain ⟨x, hx⟩ : ∃ x, Hid (uI (red st.xs (st.lnk b)) = x) := ⟨_, rfl⟩
  have PI : Hid (∀ w, IAt w B q st → Calls Tryz.prog 115 #[.pointer (some ⟨q, 0, none⟩), .int .i64 (st.lnk b)] w fun e w' => e = .returned (.int .i64 x) ∧ Below w.heap.size w w') := fun w S => by
    have := pIndexY B q st (st.lnk b) w S hn ht hb0
    rw [hx.out] at this
    exact this
  rw [hx.out]
  go_enter Tryz.func92, Tryz.ntmps92
  go_upto_region 1 with fail
  refine wp_region_cls (by kernel_rfl) (by kernel_rfl) ?_
  repeat' (first
    | go_big_quiet_skip
    | (go_big_quiet_want; first
      | (refine q_load _ _ _ _ rfl rfl (by assumption) ?_; simp only [Act.put, List.setIfInBounds_toArray, List.set_cons_zero, List.set_cons_succ]; go_big_quiet_on)
      | (go_big_quiet_op; first
        | go_big_quiet_on
        | (refine ⟨_, fun _ _ => rfl, ?_⟩; go_big_quiet_on)
        | (apply Exists.intro; refine ⟨fun w' hw' => ?_, ?_⟩
           · (first
             | (go_at_call 87; exact cls_below hw' (iBlock _ _ _ _ _ _ _ _))
             | (go_at_call 115; exact cls_below hw' (PI.out _ (S.keep hw'.below))))
           go_big_quiet_on))))
  refine wpQuiet_nil ?_
  intro w2 hw2
  go_wp2
  go_ret
  exact ⟨rfl, hw2.below⟩
set_option maxHeartbeats 4000000 in
theorem uSee (B q : Nat) (st : I8) (w : World) (S : IAt w B q st) (hn : st.n ≤ 16777216) (ha : aOk st.p st.s st.l st.c st.k st.n = true) (bd : ∀ x ∈ st.xs, 0 ≤ x ∧ x ≤ 18446744073709551615) (r nx : Int) (hr : 0 ≤ r ∧ r ≤ 4) :
    Calls Tryz.prog 50 #[.pointer (some ⟨q, 0, none⟩), .int .i64 r, .int .i64 nx] w fun e w' => e = .returned (.int .i64 (uI (red st.xs (st.root r)))) ∧ IAt w' B q { st with h := { st.h with seen := red st.xs (st.root r), at_ := nx } } ∧ Kq q st.pv w w' := by
  have ht : thr (st.root r) st.n = true := root_thr ha hr.1 hr.2
  obtain ⟨x, hx⟩ : ∃ x, Hid (red st.xs (st.root r) = x) := ⟨_, rfl⟩
  have hxb : 0 ≤ x ∧ x ≤ 18446744073709551615 := by rw [← hx.out]; exact red_bd bd _
  rw [hx.out]
  clear bd ha
  have hf := run_wordI9
  go_enter Tryz.func50, Tryz.ntmps50
  go_upto_region 2 with fail
  have z : Below w.heap.size w w.drew := (Below.refl _ _).drew
  replace S := S.keep z
  have c0 : w.drew.cell? ⟨q, 0, none⟩ = some (.int .i64 st.p) := S.is.cell 0
  have c1 : w.drew.cell? ⟨q, 1, none⟩ = some (.int .i64 st.s) := S.is.cell 1
  have c2 : w.drew.cell? ⟨q, 2, none⟩ = some (.int .i64 st.l) := S.is.cell 2
  have c3 : w.drew.cell? ⟨q, 3, none⟩ = some (.int .i64 st.c) := S.is.cell 3
  have c4 : w.drew.cell? ⟨q, 4, none⟩ = some (.int .i64 st.k) := S.is.cell 4
  go_region_held3 (fun w' => w'.cell? ⟨q, 0, none⟩ = some (.int .i64 st.p) ∧ w'.cell? ⟨q, 1, none⟩ = some (.int .i64 st.s) ∧ w'.cell? ⟨q, 2, none⟩ = some (.int .i64 st.l) ∧ w'.cell? ⟨q, 3, none⟩ = some (.int .i64 st.c) ∧ w'.cell? ⟨q, 4, none⟩ = some (.int .i64 st.k)) (first | go_keep | (refine ⟨?_, ?_, ?_, ?_, ?_⟩ <;> (simp [go_sem]; assumption)))
    (first
    | (go_at_call 89; refine (iRoot _ _ _ _ _ _ _).mono ?_; rintro e w2 ⟨rfl, hb⟩; replace z := z.trans (hb.mono z.size); replace S := S.keep hb; clear hb c0 c1 c2 c3 c4; have c0 : w2.cell? ⟨q, 0, none⟩ = some (.int .i64 st.p) := S.is.cell 0; have c1 : w2.cell? ⟨q, 1, none⟩ = some (.int .i64 st.s) := S.is.cell 1; have c2 : w2.cell? ⟨q, 2, none⟩ = some (.int .i64 st.l) := S.is.cell 2; have c3 : w2.cell? ⟨q, 3, none⟩ = some (.int .i64 st.c) := S.is.cell 3; have c4 : w2.cell? ⟨q, 4, none⟩ = some (.int .i64 st.k) := S.is.cell 4)
    | (go_at_call 88; refine (iStReadY B q st (st.root r) _ S hn ht).mono ?_; rintro e w4 ⟨rfl, rfl⟩; rw [hx.out]; have c22 : w4.cell? ⟨q, 22, none⟩ = some (.int .u64 st.h.seen) := S.is.cell 22; have f22 := S.fz 22; have c12 : w4.cell? ⟨q, 12, none⟩ = some (.int .i64 st.h.at_) := S.is.cell 12; have f12 := S.fz 12))
  have FS : Hid (IAt ((w4.setCell ⟨q, 22, none⟩ (.int .u64 x)).setCell ⟨q, 12, none⟩ (.int .i64 nx)) B q { st with h := { st.h with seen := x, at_ := nx } }) := (S.put (st' := { st with h := { st.h with seen := x } }) 22 _ (by omega) rfl rfl rfl).put 12 _ (by omega) rfl rfl rfl
  have k : Kq q st.pv w ((w4.setCell ⟨q, 22, none⟩ (.int .u64 x)).setCell ⟨q, 12, none⟩ (.int .i64 nx)) := ((Kq.of_below z).set 22 _).set 12 _
  go_upto_region 3 with fail
  change Code.wp _ _ _ _ ((w4.setCell ⟨q, 22, none⟩ (.int .u64 x)).setCell ⟨q, 12, none⟩ (.int .i64 nx))
  generalize (w4.setCell ⟨q, 22, none⟩ (.int .u64 x)).setCell ⟨q, 12, none⟩ (.int .i64 nx) = w5 at *
  have S5 := FS.out
  clear c22 f22 c12 f12 FS
  have c22 : w5.cell? ⟨q, 22, none⟩ = some (.int .u64 x) := S5.is.cell 22
  go_wp2_with (go_at_call 90; refine (iUnpack _ hxb.1 hxb.2 _).mono ?_; rintro e w6 ⟨rfl, hb6⟩)
  go_ret
  exact ⟨rfl, S5.keep hb6, k.trans (Kq.of_below hb6)⟩
set_option maxHeartbeats 4000000 in
theorem uIs (B q : Nat) (st : I8) (w : World) (S : IAt w B q st) (hn : st.n ≤ 16777216) (ha : aOk st.p st.s st.l st.c st.k st.n = true) (bd : ∀ x ∈ st.xs, 0 ≤ x ∧ x ≤ 18446744073709551615) (r : Int) (hr : 0 ≤ r ∧ r ≤ 4) :
    Calls Tryz.prog 52 #[.pointer (some ⟨q, 0, none⟩), .int .i64 r] w fun e w' => e = .returned (.bool (red st.xs (st.root r) == st.h.seen)) ∧ Below w.heap.size w w' := by
  have ht : thr (st.root r) st.n = true := root_thr ha hr.1 hr.2
  obtain ⟨x, hx⟩ : ∃ x, Hid (red st.xs (st.root r) = x) := ⟨_, rfl⟩
  have hxb : 0 ≤ x ∧ x ≤ 18446744073709551615 := by rw [← hx.out]; exact red_bd bd _
  rw [hx.out]
  clear bd ha
  have A := S.is
  have lp : ∀ w', Cls w w' → (loadVar 35 ⟨q, 0, none⟩).run Tryz.prog w' = .ok (.agg #[.int .i64 st.p, .int .i64 st.s, .int .i64 st.l, .int .i64 st.c, .int .i64 st.k]) w' := ld_sub (o := 0) A st.pl Tryz.underlying35 rfl (by kernel_rfl)
  have ls : ∀ w', Cls w w' → (loadVar 25 ⟨q, 22, none⟩).run Tryz.prog w' = .ok (.int .u64 st.h.seen) w' := ld_i A Tryz.underlying25 rfl
  clear A
  go_enter Tryz.func52, Tryz.ntmps52
  go_upto_region 1 with fail
  refine wp_region_cls (by kernel_rfl) (by kernel_rfl) ?_
  repeat' (first
    | go_big_quiet_skip
    | (go_big_quiet_want; first
      | (refine q_load _ _ _ _ rfl rfl (by assumption) ?_; simp only [Act.put, List.setIfInBounds_toArray, List.set_cons_zero, List.set_cons_succ]; go_big_quiet_on)
      | (go_big_quiet_op; first
        | go_big_quiet_on
        | (refine ⟨_, fun _ _ => rfl, ?_⟩; go_big_quiet_on)
        | (apply Exists.intro; refine ⟨fun w' hw' => ?_, ?_⟩
           · (first
             | (go_at_call 89; exact cls_below hw' (iRoot _ _ _ _ _ _ _))
             | (go_at_call 88; exact cls_same hw' (by have hq := iStReadY B q st (st.root r) _ (S.keep hw'.below) hn ht; rw [hx.out] at hq; exact hq)))
           go_big_quiet_on))))
  refine wpQuiet_nil ?_
  intro w2 hw2
  go_wp2
  go_ret
  exact ⟨rfl, hw2.below⟩
def I8.grdO (st : I8) (f b nx : Int) : Option I8 := (st.wrO (st.slot f) 0 0 b 0).map fun t => t.to nx
set_option maxHeartbeats 4000000 in
theorem uGuard (B q : Nat) (st : I8) (w : World) (S : IAt w B q st) (hn : st.n ≤ 16777216) (f b nx : Int) :
    Calls Tryz.prog 51 #[.pointer (some ⟨q, 0, none⟩), .int .i64 f, .int .i64 b, .int .i64 nx] w (Ends B q st.pv w (st.grdO f b nx)) := by
  unfold I8.grdO
  cases hr : st.wrO (st.slot f) 0 0 b 0 with
  | none =>
    simp only [Option.map_none]
    unfold Ends
    go_enter Tryz.func51, Tryz.ntmps51
    go_upto_region 0 with fail
    refine wp_region_bar (C := Cls w) rfl rfl (by kernel_rfl) (by kernel_rfl) ⟨(Below.refl _ _).drew⟩ ?_
    simp only [List.dropLast]
    repeat' (first
      | go_big_quiet_skip
      | (go_big_quiet_want; first
        | (refine q_load _ _ _ _ rfl rfl (by assumption) ?_; simp only [Act.put, List.setIfInBounds_toArray, List.set_cons_zero, List.set_cons_succ]; go_big_quiet_on)
        | (go_big_quiet_op; first
          | go_big_quiet_on
          | (refine ⟨_, fun _ _ => rfl, ?_⟩; go_big_quiet_on)
          | (apply Exists.intro; refine ⟨fun w' hw' => ?_, ?_⟩
             · (first
               | (go_at_call 91; exact cls_below hw' (iFieldAt B q st _ _ (S.keep hw'.below))))
             go_big_quiet_on))))
    refine wpQuiet_nil ?_
    intro w2 hw2
    go_wp2_with (go_at_call 48; refine (iStWrite B q st _ _ _ _ _ _ (S.keep hw2.below) hn).mono ?_; intro e w3 hE; rw [hr] at hE; obtain ⟨rfl, z3⟩ := hE)
    exact ⟨rfl, rfl, (Kq.of_below hw2.below).trans z3⟩
  | some t =>
    simp only [Option.map_some]
    have hpv := I8.wrO_pv hr
    unfold Ends
    go_enter Tryz.func51, Tryz.ntmps51
    go_upto_region 0 with fail
    refine wp_region_bar (C := Cls w) rfl rfl (by kernel_rfl) (by kernel_rfl) ⟨(Below.refl _ _).drew⟩ ?_
    simp only [List.dropLast]
    repeat' (first
      | go_big_quiet_skip
      | (go_big_quiet_want; first
        | (refine q_load _ _ _ _ rfl rfl (by assumption) ?_; simp only [Act.put, List.setIfInBounds_toArray, List.set_cons_zero, List.set_cons_succ]; go_big_quiet_on)
        | (go_big_quiet_op; first
          | go_big_quiet_on
          | (refine ⟨_, fun _ _ => rfl, ?_⟩; go_big_quiet_on)
          | (apply Exists.intro; refine ⟨fun w' hw' => ?_, ?_⟩
             · (first
               | (go_at_call 91; exact cls_below hw' (iFieldAt B q st _ _ (S.keep hw'.below))))
             go_big_quiet_on))))
    refine wpQuiet_nil ?_
    intro w2 hw2
    go_wp2_with (go_at_call 48; refine (iStWrite B q st _ _ _ _ _ _ (S.keep hw2.below) hn).mono ?_; intro e w3 hE; rw [hr] at hE; obtain ⟨rfl, S3, z3⟩ := hE; have c12 : w3.cell? ⟨q, 12, none⟩ = some (.int .i64 t.h.at_) := S3.is.cell 12; have f12 := S3.fz 12)
    first | go_end0 | refine bodyPost_ret (results_none rfl _ _ _) rfl ?_
    exact ⟨rfl, S3.to nx, ((Kq.of_below hw2.below).trans z3).set _ _⟩
def I8.lastO (st : I8) : Option I8 := if thr (st.lnk st.h.from_) st.n = true then some { st with h := { st.h with next := uI (red st.xs (st.lnk st.h.from_)), at_ := if uI (red st.xs (st.lnk st.h.from_)) = 0 then 39 else 38 } } else none
def I8.frstO (st : I8) : Option I8 := if thr (st.lnk st.h.block) st.n = true then some (if uI (red st.xs (st.lnk st.h.block)) = 0 then { st with h := { st.h with next := uI (red st.xs (st.lnk st.h.block)), reply := 3, out := 0, at_ := 2 } } else { st with h := { st.h with next := uI (red st.xs (st.lnk st.h.block)), at_ := 45 } }) else none
set_option maxHeartbeats 4000000 in
theorem uLast (B q : Nat) (st : I8) (w : World) (S : IAt w B q st) (hn : st.n ≤ 16777216) (bd : ∀ x ∈ st.xs, 0 ≤ x ∧ x ≤ 18446744073709551615) :
    Calls Tryz.prog 53 #[.pointer (some ⟨q, 0, none⟩)] w (Ends B q st.pv w st.lastO) := by
  unfold I8.lastO
  have c28 : w.cell? ⟨q, 28, none⟩ = some (.int .i64 st.h.from_) := S.is.cell 28
  cases ht : thr (st.lnk st.h.from_) st.n
  · rw [if_neg (by decide)]
    unfold Ends
    go_enter Tryz.func53, Tryz.ntmps53
    go_wp2_with (go_at_call 92; refine (uBehN B q st _ S hn _ ht).mono ?_; rintro e w2 ⟨rfl, hb⟩)
    exact ⟨rfl, rfl, Kq.of_below hb⟩
  · rw [if_pos rfl]
    obtain ⟨x, hx⟩ : ∃ x, Hid (uI (red st.xs (st.lnk st.h.from_)) = x) := ⟨_, rfl⟩
    have PB : Hid (∀ w, IAt w B q st → Calls Tryz.prog 92 #[.pointer (some ⟨q, 0, none⟩), .int .i64 st.h.from_] w fun e w' => e = .returned (.int .i64 x) ∧ Below w.heap.size w w') := fun w S => by
      have := uBehY B q st w S hn bd st.h.from_ ht
      rw [hx.out] at this
      exact this
    rw [hx.out]
    clear bd
    unfold Ends
    by_cases h0 : x = 0
    · rw [if_pos h0]
      have hh0 : Hid (x = 0) := h0
      clear h0
      go_enter Tryz.func53, Tryz.ntmps53
      go_upto_region 2 with (go_at_call 92; refine (PB.out _ S).mono ?_; rintro e w2 ⟨rfl, hb⟩; replace S := S.keep hb; clear c28; have c29 : w2.cell? ⟨q, 29, none⟩ = some (.int .i64 st.h.next) := S.is.cell 29; have f29 := S.fz 29; have c12 : w2.cell? ⟨q, 12, none⟩ = some (.int .i64 st.h.at_) := S.is.cell 12; have f12 := S.fz 12)
      change Code.wp _ _ _ _ ((w2.setCell ⟨q, 29, none⟩ (.int .i64 x)).setCell ⟨q, 12, none⟩ (.int .i64 38))
      have k : Kq q st.pv w ((w2.setCell ⟨q, 29, none⟩ (.int .i64 x)).setCell ⟨q, 12, none⟩ (.int .i64 38)) := ((Kq.of_below hb).set 29 _).set 12 _
      have S5 : IAt ((w2.setCell ⟨q, 29, none⟩ (.int .i64 x)).setCell ⟨q, 12, none⟩ (.int .i64 38)) B q { st with h := { st.h with next := x, at_ := 38 } } := (S.put (st' := { st with h := { st.h with next := x } }) 29 _ (by omega) rfl rfl rfl).put 12 _ (by omega) rfl rfl rfl
      generalize (w2.setCell ⟨q, 29, none⟩ (.int .i64 x)).setCell ⟨q, 12, none⟩ (.int .i64 38) = w5 at *
      clear c29 f29 c12 f12 S hb
      have c29 : w5.cell? ⟨q, 29, none⟩ = some (.int .i64 x) := S5.is.cell 29
      have c12 : w5.cell? ⟨q, 12, none⟩ = some (.int .i64 38) := S5.is.cell 12
      have f12 := S5.fz 12
      rw [hh0.out] at c29
      go_wp2
      first | go_end0 | refine bodyPost_ret (results_none rfl _ _ _) rfl ?_
      exact ⟨rfl, S5.to 39, k.set _ _⟩
    · rw [if_neg h0]
      have h0b : (x == 0) = false := by simp [h0]
      go_enter Tryz.func53, Tryz.ntmps53
      go_upto_region 2 with (go_at_call 92; refine (PB.out _ S).mono ?_; rintro e w2 ⟨rfl, hb⟩; replace S := S.keep hb; clear c28; have c29 : w2.cell? ⟨q, 29, none⟩ = some (.int .i64 st.h.next) := S.is.cell 29; have f29 := S.fz 29; have c12 : w2.cell? ⟨q, 12, none⟩ = some (.int .i64 st.h.at_) := S.is.cell 12; have f12 := S.fz 12)
      change Code.wp _ _ _ _ ((w2.setCell ⟨q, 29, none⟩ (.int .i64 x)).setCell ⟨q, 12, none⟩ (.int .i64 38))
      have k : Kq q st.pv w ((w2.setCell ⟨q, 29, none⟩ (.int .i64 x)).setCell ⟨q, 12, none⟩ (.int .i64 38)) := ((Kq.of_below hb).set 29 _).set 12 _
      have S5 : IAt ((w2.setCell ⟨q, 29, none⟩ (.int .i64 x)).setCell ⟨q, 12, none⟩ (.int .i64 38)) B q { st with h := { st.h with next := x, at_ := 38 } } := (S.put (st' := { st with h := { st.h with next := x } }) 29 _ (by omega) rfl rfl rfl).put 12 _ (by omega) rfl rfl rfl
      generalize (w2.setCell ⟨q, 29, none⟩ (.int .i64 x)).setCell ⟨q, 12, none⟩ (.int .i64 38) = w5 at *
      clear c29 f29 c12 f12 S hb
      have c29 : w5.cell? ⟨q, 29, none⟩ = some (.int .i64 x) := S5.is.cell 29
      have c12 : w5.cell? ⟨q, 12, none⟩ = some (.int .i64 38) := S5.is.cell 12
      have f12 := S5.fz 12
      go_wp2
      first | go_end0 | refine bodyPost_ret (results_none rfl _ _ _) rfl ?_
      exact ⟨rfl, S5, k⟩
set_option maxHeartbeats 4000000 in
theorem uFirst (B q : Nat) (st : I8) (w : World) (S : IAt w B q st) (hn : st.n ≤ 16777216) (bd : ∀ x ∈ st.xs, 0 ≤ x ∧ x ≤ 18446744073709551615) :
    Calls Tryz.prog 56 #[.pointer (some ⟨q, 0, none⟩)] w (Ends B q st.pv w st.frstO) := by
  unfold I8.frstO
  have c27 : w.cell? ⟨q, 27, none⟩ = some (.int .i64 st.h.block) := S.is.cell 27
  cases ht : thr (st.lnk st.h.block) st.n
  · rw [if_neg (by decide)]
    unfold Ends
    go_enter Tryz.func56, Tryz.ntmps56
    go_wp2_with (go_at_call 92; refine (uBehN B q st _ S hn _ ht).mono ?_; rintro e w2 ⟨rfl, hb⟩)
    exact ⟨rfl, rfl, Kq.of_below hb⟩
  · rw [if_pos rfl]
    obtain ⟨x, hx⟩ : ∃ x, Hid (uI (red st.xs (st.lnk st.h.block)) = x) := ⟨_, rfl⟩
    have PB : Hid (∀ w, IAt w B q st → Calls Tryz.prog 92 #[.pointer (some ⟨q, 0, none⟩), .int .i64 st.h.block] w fun e w' => e = .returned (.int .i64 x) ∧ Below w.heap.size w w') := fun w S => by
      have := uBehY B q st w S hn bd st.h.block ht
      rw [hx.out] at this
      exact this
    rw [hx.out]
    clear bd
    unfold Ends
    by_cases h0 : x = 0
    · rw [if_pos h0]
      have hh0 : Hid (x = 0) := h0
      clear h0
      go_enter Tryz.func56, Tryz.ntmps56
      go_upto_region 2 with (go_at_call 92; refine (PB.out _ S).mono ?_; rintro e w2 ⟨rfl, hb⟩; replace S := S.keep hb; clear c27; have c29 : w2.cell? ⟨q, 29, none⟩ = some (.int .i64 st.h.next) := S.is.cell 29; have f29 := S.fz 29; have c12 : w2.cell? ⟨q, 12, none⟩ = some (.int .i64 st.h.at_) := S.is.cell 12; have f12 := S.fz 12)
      change Code.wp _ _ _ _ ((w2.setCell ⟨q, 29, none⟩ (.int .i64 x)).setCell ⟨q, 12, none⟩ (.int .i64 45))
      have k : Kq q st.pv w ((w2.setCell ⟨q, 29, none⟩ (.int .i64 x)).setCell ⟨q, 12, none⟩ (.int .i64 45)) := ((Kq.of_below hb).set 29 _).set 12 _
      have S5 : IAt ((w2.setCell ⟨q, 29, none⟩ (.int .i64 x)).setCell ⟨q, 12, none⟩ (.int .i64 45)) B q { st with h := { st.h with next := x, at_ := 45 } } := (S.put (st' := { st with h := { st.h with next := x } }) 29 _ (by omega) rfl rfl rfl).put 12 _ (by omega) rfl rfl rfl
      generalize (w2.setCell ⟨q, 29, none⟩ (.int .i64 x)).setCell ⟨q, 12, none⟩ (.int .i64 45) = w5 at *
      clear c29 f29 c12 f12 S hb
      have c29 : w5.cell? ⟨q, 29, none⟩ = some (.int .i64 x) := S5.is.cell 29
      have c12 : w5.cell? ⟨q, 12, none⟩ = some (.int .i64 45) := S5.is.cell 12
      have f12 := S5.fz 12
      rw [hh0.out] at c29
      go_wp2_with (go_at_call 95; refine (iReply B q _ 3 0 _ S5).mono ?_; rintro e w6 ⟨rfl, S6, z6⟩)
      first | go_end0 | refine bodyPost_ret (results_none rfl _ _ _) rfl ?_
      exact ⟨rfl, S6, k.trans z6⟩
    · rw [if_neg h0]
      have h0b : (x == 0) = false := by simp [h0]
      go_enter Tryz.func56, Tryz.ntmps56
      go_upto_region 2 with (go_at_call 92; refine (PB.out _ S).mono ?_; rintro e w2 ⟨rfl, hb⟩; replace S := S.keep hb; clear c27; have c29 : w2.cell? ⟨q, 29, none⟩ = some (.int .i64 st.h.next) := S.is.cell 29; have f29 := S.fz 29; have c12 : w2.cell? ⟨q, 12, none⟩ = some (.int .i64 st.h.at_) := S.is.cell 12; have f12 := S.fz 12)
      change Code.wp _ _ _ _ ((w2.setCell ⟨q, 29, none⟩ (.int .i64 x)).setCell ⟨q, 12, none⟩ (.int .i64 45))
      have k : Kq q st.pv w ((w2.setCell ⟨q, 29, none⟩ (.int .i64 x)).setCell ⟨q, 12, none⟩ (.int .i64 45)) := ((Kq.of_below hb).set 29 _).set 12 _
      have S5 : IAt ((w2.setCell ⟨q, 29, none⟩ (.int .i64 x)).setCell ⟨q, 12, none⟩ (.int .i64 45)) B q { st with h := { st.h with next := x, at_ := 45 } } := (S.put (st' := { st with h := { st.h with next := x } }) 29 _ (by omega) rfl rfl rfl).put 12 _ (by omega) rfl rfl rfl
      generalize (w2.setCell ⟨q, 29, none⟩ (.int .i64 x)).setCell ⟨q, 12, none⟩ (.int .i64 45) = w5 at *
      clear c29 f29 c12 f12 S hb
      have c29 : w5.cell? ⟨q, 29, none⟩ = some (.int .i64 x) := S5.is.cell 29
      have c12 : w5.cell? ⟨q, 12, none⟩ = some (.int .i64 45) := S5.is.cell 12
      have f12 := S5.fz 12
      go_wp2
      first | go_end0 | refine bodyPost_ret (results_none rfl _ _ _) rfl ?_
      exact ⟨rfl, S5, k⟩
def I8.lagO (st : I8) : Option I8 := some (if uI (red st.xs (st.root 4)) = st.h.block then { st with h := { st.h with put := red st.xs (st.root 4), at_ := 48 } } else st.to 29)
set_option maxHeartbeats 4000000 in
theorem uLag (B q : Nat) (st : I8) (w : World) (S : IAt w B q st) (hn : st.n ≤ 16777216) (ha : aOk st.p st.s st.l st.c st.k st.n = true) (bd : ∀ x ∈ st.xs, 0 ≤ x ∧ x ≤ 18446744073709551615) :
    Calls Tryz.prog 57 #[.pointer (some ⟨q, 0, none⟩)] w (Ends B q st.pv w st.lagO) := by
  unfold I8.lagO
  have ht : thr (st.root 4) st.n = true := root_thr ha (by omega) (by omega)
  obtain ⟨x, hx⟩ : ∃ x, Hid (red st.xs (st.root 4) = x) := ⟨_, rfl⟩
  have hxb : 0 ≤ x ∧ x ≤ 18446744073709551615 := by rw [← hx.out]; exact red_bd bd _
  rw [hx.out]
  clear bd ha
  have A := S.is
  have lp : ∀ w', Cls w w' → (loadVar 35 ⟨q, 0, none⟩).run Tryz.prog w' = .ok (.agg #[.int .i64 st.p, .int .i64 st.s, .int .i64 st.l, .int .i64 st.c, .int .i64 st.k]) w' := ld_sub (o := 0) A st.pl Tryz.underlying35 rfl (by kernel_rfl)
  clear A
  have hf := run_wordI9
  unfold Ends
  by_cases hk : uI x = st.h.block
  · rw [if_pos hk]
    have hkb : (uI x != st.h.block) = false := by simp [hk]
    have hhk : Hid (uI x = st.h.block) := hk
    clear hk
    go_enter Tryz.func57, Tryz.ntmps57
    go_upto_region 1 with fail
    refine wp_region_cls (by kernel_rfl) (by kernel_rfl) ?_
    repeat' (first
      | go_big_quiet_skip
      | (go_big_quiet_want; first
        | (refine q_load _ _ _ _ rfl rfl (by assumption) ?_; simp only [Act.put, List.setIfInBounds_toArray, List.set_cons_zero, List.set_cons_succ]; go_big_quiet_on)
        | (go_big_quiet_op; first
          | go_big_quiet_on
          | (refine ⟨_, fun _ _ => rfl, ?_⟩; go_big_quiet_on)
          | (apply Exists.intro; refine ⟨fun w' hw' => ?_, ?_⟩
             · (first
               | (go_at_call 89; exact cls_below hw' (iRoot _ _ _ _ _ _ _))
               | (go_at_call 88; exact cls_same hw' (by have hq := iStReadY B q st (st.root 4) _ (S.keep hw'.below) hn ht; rw [hx.out] at hq; exact hq)))
             go_big_quiet_on))))
    refine wpQuiet_nil ?_
    intro w2 hw2
    have S2 := S.keep hw2.below
    have k2 : Kq q st.pv w w2 := Kq.of_below hw2.below
    have A := S2.is
    have lb : ∀ w', Cls w2 w' → (loadVar 2 ⟨q, 27, none⟩).run Tryz.prog w' = .ok (.int .i64 st.h.block) w' := ld_i A Tryz.underlying2 rfl
    clear A lp
    go_upto_region 2 with fail
    refine wp_region_cls (by kernel_rfl) (by kernel_rfl) ?_
    repeat' (first
      | go_big_quiet_skip
      | (go_big_quiet_want; first
        | (refine q_load _ _ _ _ rfl rfl (by assumption) ?_; simp only [Act.put, List.setIfInBounds_toArray, List.set_cons_zero, List.set_cons_succ]; go_big_quiet_on)
        | (go_big_quiet_op; first
          | go_big_quiet_on
          | (refine ⟨_, fun _ _ => rfl, ?_⟩; go_big_quiet_on)
          | (apply Exists.intro; refine ⟨fun w' hw' => ?_, ?_⟩
             · (first
               | (go_at_call 90; exact cls_below hw' (iUnpack _ hxb.1 hxb.2 _)))
             go_big_quiet_on))))
    refine wpQuiet_nil ?_
    intro w3 hw3
    have S3 := S2.keep hw3.below
    have k3 := k2.trans (Kq.of_below hw3.below)
    have c12 : w3.cell? ⟨q, 12, none⟩ = some (.int .i64 st.h.at_) := S3.is.cell 12
    have f12 := S3.fz 12
    have c23 : w3.cell? ⟨q, 23, none⟩ = some (.int .u64 st.h.put) := S3.is.cell 23
    have f23 := S3.fz 23
    go_wp2
    first | go_end0 | refine bodyPost_ret (results_none rfl _ _ _) rfl ?_
    exact ⟨rfl, (S3.put (st' := { st with h := { st.h with put := x } }) 23 _ (by omega) rfl rfl rfl).put 12 _ (by omega) rfl rfl rfl, (k3.set _ _).set _ _⟩
  · rw [if_neg hk]
    have hkb : (uI x != st.h.block) = true := by simp [hk]
    go_enter Tryz.func57, Tryz.ntmps57
    go_upto_region 1 with fail
    refine wp_region_cls (by kernel_rfl) (by kernel_rfl) ?_
    repeat' (first
      | go_big_quiet_skip
      | (go_big_quiet_want; first
        | (refine q_load _ _ _ _ rfl rfl (by assumption) ?_; simp only [Act.put, List.setIfInBounds_toArray, List.set_cons_zero, List.set_cons_succ]; go_big_quiet_on)
        | (go_big_quiet_op; first
          | go_big_quiet_on
          | (refine ⟨_, fun _ _ => rfl, ?_⟩; go_big_quiet_on)
          | (apply Exists.intro; refine ⟨fun w' hw' => ?_, ?_⟩
             · (first
               | (go_at_call 89; exact cls_below hw' (iRoot _ _ _ _ _ _ _))
               | (go_at_call 88; exact cls_same hw' (by have hq := iStReadY B q st (st.root 4) _ (S.keep hw'.below) hn ht; rw [hx.out] at hq; exact hq)))
             go_big_quiet_on))))
    refine wpQuiet_nil ?_
    intro w2 hw2
    have S2 := S.keep hw2.below
    have k2 : Kq q st.pv w w2 := Kq.of_below hw2.below
    have A := S2.is
    have lb : ∀ w', Cls w2 w' → (loadVar 2 ⟨q, 27, none⟩).run Tryz.prog w' = .ok (.int .i64 st.h.block) w' := ld_i A Tryz.underlying2 rfl
    clear A lp
    go_upto_region 2 with fail
    refine wp_region_cls (by kernel_rfl) (by kernel_rfl) ?_
    repeat' (first
      | go_big_quiet_skip
      | (go_big_quiet_want; first
        | (refine q_load _ _ _ _ rfl rfl (by assumption) ?_; simp only [Act.put, List.setIfInBounds_toArray, List.set_cons_zero, List.set_cons_succ]; go_big_quiet_on)
        | (go_big_quiet_op; first
          | go_big_quiet_on
          | (refine ⟨_, fun _ _ => rfl, ?_⟩; go_big_quiet_on)
          | (apply Exists.intro; refine ⟨fun w' hw' => ?_, ?_⟩
             · (first
               | (go_at_call 90; exact cls_below hw' (iUnpack _ hxb.1 hxb.2 _)))
             go_big_quiet_on))))
    refine wpQuiet_nil ?_
    intro w3 hw3
    have S3 := S2.keep hw3.below
    have k3 := k2.trans (Kq.of_below hw3.below)
    have c12 : w3.cell? ⟨q, 12, none⟩ = some (.int .i64 st.h.at_) := S3.is.cell 12
    have f12 := S3.fz 12
    have c23 : w3.cell? ⟨q, 23, none⟩ = some (.int .u64 st.h.put) := S3.is.cell 23
    have f23 := S3.fz 23
    go_wp2
    first | go_end0 | refine bodyPost_ret (results_none rfl _ _ _) rfl ?_
    exact ⟨rfl, S3.to 29, k3.set _ _⟩
end Go.Proofs.YtgmoemjiffglbaaGreat
namespace Go.Proofs.YtgmoemjiffglbaaGreat
open Go.RowKit
set_option maxRecDepth 100000
set_option linter.unusedVariables false
set_option linter.unusedSimpArgs false
def I8.exT (st : I8) (a y x : Int) : I8 := { st with xs := swapped st.xs a y x }
theorem sw_red {xs : List Int} {a y : Int} {n : Nat} (hl : xs.length = n) (h : thr a n = true) : swaps xs a y = (red xs a == y) := by
  unfold swaps red
  rw [hl, h]
  simp
theorem exT_no {st : I8} {a y x : Int} (h : swaps st.xs a y = false) : st.exT a y x = st := by
  unfold I8.exT swapped
  rw [h]
  rfl
set_option maxHeartbeats 4000000 in
theorem uExN1 (B q : Nat) (st : I8) (w : World) (S : IAt w B q st) (hn : st.n ≤ 16777216) (a y k p i v : Int) (hw : wOk k p i v = false) :
    Calls Tryz.prog 93 #[.pointer (some ⟨q, 0, none⟩), .int .i64 a, .int .u64 y, .agg #[.int .i64 k, .int .i64 p, .int .i64 i, .int .i64 v]] w fun e w' => e = .panicked gu ∧ Below w.heap.size w w' := by
  go_enter Tryz.func93, Tryz.ntmps93
  go_wp2_with (go_at_call 86; refine (iPackedN _ _ _ _ _ hw).mono ?_; rintro e w2 ⟨rfl, hb⟩)
  exact ⟨rfl, rfl, ((Below.refl w.heap.size w).alloc (Nat.le_refl _) _).trans (hb.mono (by simp))⟩
set_option maxHeartbeats 4000000 in
theorem uExN2 (B q : Nat) (st : I8) (w : World) (S : IAt w B q st) (hn : st.n ≤ 16777216) (a y k p i v : Int) (hw : wOk k p i v = true) (ht : thr a st.n = false) :
    Calls Tryz.prog 93 #[.pointer (some ⟨q, 0, none⟩), .int .i64 a, .int .u64 y, .agg #[.int .i64 k, .int .i64 p, .int .i64 i, .int .i64 v]] w fun e w' => e = .panicked gu ∧ Below w.heap.size w w' := by
  go_enter Tryz.func93, Tryz.ntmps93
  go_wp2_with (first
    | (go_at_call 86; refine (iPackedY _ _ _ _ _ hw).mono ?_; rintro e w2 ⟨rfl, hb⟩; replace hb := ((Below.refl w.heap.size w).alloc (Nat.le_refl _) _).trans (hb.mono (by simp)); replace S := S.keep hb)
    | (go_at_call 88; refine (iStReadN B q st a _ S hn ht).mono ?_; rintro e w3 ⟨rfl, rfl⟩))
  exact ⟨rfl, rfl, hb⟩
set_option maxHeartbeats 4000000 in
theorem uExY (B q : Nat) (st : I8) (w : World) (S : IAt w B q st) (hn : st.n ≤ 16777216) (a y k p i v : Int) (hw : wOk k p i v = true) (ht : thr a st.n = true) :
    Calls Tryz.prog 93 #[.pointer (some ⟨q, 0, none⟩), .int .i64 a, .int .u64 y, .agg #[.int .i64 k, .int .i64 p, .int .i64 i, .int .i64 v]] w fun e w' => e = .returned (.bool (swaps st.xs a y)) ∧ IAt w' B q (st.exT a y (pk k p i v)) ∧ Kq q st.pv w w' := by
  obtain ⟨x, hx⟩ : ∃ x, Hid (pk k p i v = x) := ⟨_, rfl⟩
  obtain ⟨z, hz⟩ : ∃ z, Hid (red st.xs a = z) := ⟨_, rfl⟩
  have hsw := sw_red (y := y) (Wso.len S) ht
  rw [hz.out] at hsw
  rw [hx.out]
  by_cases hk : z = y
  · have hkb : (z == y) = true := by simp [hk]
    rw [hkb] at hsw
    rw [hsw]
    clear hk
    go_enter Tryz.func93, Tryz.ntmps93
    go_wp2_with (first
      | (go_at_call 86; refine (iPackedY _ _ _ _ _ hw).mono ?_; rintro e w2 ⟨rfl, hb⟩; rw [hx.out]; replace hb := ((Below.refl w.heap.size w).alloc (Nat.le_refl _) _).trans (hb.mono (by simp)); replace S := S.keep hb)
      | (go_at_call 88; refine (iStReadY B q st a _ S hn ht).mono ?_; rintro e w3 ⟨rfl, rfl⟩; rw [hz.out])
      | (go_at_call 116; refine (ioSwap B q 5 st.n st.xs a y x _ st.ar _ S hn st.pv rfl).mono ?_; rintro e w4 ⟨rfl, S4, z4⟩; rw [hsw]))
    go_ret
    exact ⟨rfl, S4, (Kq.of_below hb).trans z4⟩
  · have hkb : (z == y) = false := by simp [hk]
    rw [hkb] at hsw
    rw [hsw, exT_no hsw]
    go_enter Tryz.func93, Tryz.ntmps93
    go_wp2_with (first
      | (go_at_call 86; refine (iPackedY _ _ _ _ _ hw).mono ?_; rintro e w2 ⟨rfl, hb⟩; rw [hx.out]; replace hb := ((Below.refl w.heap.size w).alloc (Nat.le_refl _) _).trans (hb.mono (by simp)); replace S := S.keep hb)
      | (go_at_call 88; refine (iStReadY B q st a _ S hn ht).mono ?_; rintro e w3 ⟨rfl, rfl⟩; rw [hz.out]))
    go_ret
    exact ⟨rfl, S, Kq.of_below hb⟩
def I8.mvO (st : I8) (y b : Int) : Option I8 := if wOk 0 0 b (wrap64 (uS y + 1)) = true then some (st.exT (st.root 4) y (pk 0 0 b (wrap64 (uS y + 1)))) else none
set_option maxHeartbeats 4000000 in
theorem uMove (B q : Nat) (st : I8) (w : World) (S : IAt w B q st) (hn : st.n ≤ 16777216) (ha : aOk st.p st.s st.l st.c st.k st.n = true) (y b : Int) (hy : 0 ≤ y ∧ y ≤ 18446744073709551615) :
    Calls Tryz.prog 54 #[.pointer (some ⟨q, 0, none⟩), .int .u64 y, .int .i64 b] w (Ends B q st.pv w (st.mvO y b)) := by
  unfold I8.mvO
  have ht : thr (st.root 4) st.n = true := root_thr ha (by omega) (by omega)
  cases hw : wOk 0 0 b (wrap64 (uS y + 1))
  · rw [if_neg (by decide)]
    unfold Ends
    obtain ⟨c0, c1, c2, c3, c4⟩ : w.cell? ⟨q, 0, none⟩ = some (.int .i64 st.p) ∧ w.cell? ⟨q, 1, none⟩ = some (.int .i64 st.s) ∧ w.cell? ⟨q, 2, none⟩ = some (.int .i64 st.l) ∧ w.cell? ⟨q, 3, none⟩ = some (.int .i64 st.c) ∧ w.cell? ⟨q, 4, none⟩ = some (.int .i64 st.k) := ⟨S.is.cell 0, S.is.cell 1, S.is.cell 2, S.is.cell 3, S.is.cell 4⟩
    have hf := wordF3
    go_enter Tryz.func54, Tryz.ntmps54
    go_wp2_with (first
      | (go_at_call 89; refine (iRoot _ _ _ _ _ _ _).mono ?_; rintro e w1 ⟨rfl, hb⟩; replace S := S.keep hb; have z1 : Kq q st.pv w w1 := Kq.of_below hb)
      | (go_at_call 90; refine (iUnpack _ hy.1 hy.2 _).mono ?_; rintro e w3 ⟨rfl, hb3⟩; replace S := S.keep hb3; replace z1 := z1.trans (Kq.of_below hb3))
      | (go_at_call 93; refine (uExN1 B q st _ S hn _ _ _ _ _ _ hw).mono ?_; rintro e w4 ⟨rfl, hb4⟩))
    exact ⟨rfl, rfl, z1.trans (Kq.of_below hb4)⟩
  · rw [if_pos rfl]
    have EX : Hid (∀ w, IAt w B q st → Calls Tryz.prog 93 #[.pointer (some ⟨q, 0, none⟩), .int .i64 (st.root 4), .int .u64 y, .agg #[.int .i64 0, .int .i64 0, .int .i64 b, .int .i64 (wrap64 (uS y + 1))]] w fun e w' => e = .returned (.bool (swaps st.xs (st.root 4) y)) ∧ IAt w' B q (st.exT (st.root 4) y (pk 0 0 b (wrap64 (uS y + 1)))) ∧ Kq q st.pv w w') := fun w S => uExY B q st w S hn (st.root 4) y 0 0 b _ hw ht
    generalize st.exT (st.root 4) y (pk 0 0 b (wrap64 (uS y + 1))) = fin at *
    unfold Ends
    obtain ⟨c0, c1, c2, c3, c4⟩ : w.cell? ⟨q, 0, none⟩ = some (.int .i64 st.p) ∧ w.cell? ⟨q, 1, none⟩ = some (.int .i64 st.s) ∧ w.cell? ⟨q, 2, none⟩ = some (.int .i64 st.l) ∧ w.cell? ⟨q, 3, none⟩ = some (.int .i64 st.c) ∧ w.cell? ⟨q, 4, none⟩ = some (.int .i64 st.k) := ⟨S.is.cell 0, S.is.cell 1, S.is.cell 2, S.is.cell 3, S.is.cell 4⟩
    have hf := wordF3
    go_enter Tryz.func54, Tryz.ntmps54
    go_wp2_with (first
      | (go_at_call 89; refine (iRoot _ _ _ _ _ _ _).mono ?_; rintro e w1 ⟨rfl, hb⟩; replace S := S.keep hb; have z1 : Kq q st.pv w w1 := Kq.of_below hb)
      | (go_at_call 90; refine (iUnpack _ hy.1 hy.2 _).mono ?_; rintro e w3 ⟨rfl, hb3⟩; replace S := S.keep hb3; replace z1 := z1.trans (Kq.of_below hb3))
      | (go_at_call 93; refine (EX.out _ S).mono ?_; rintro e w4 ⟨rfl, S4, z4⟩))
    first | go_end0 | refine bodyPost_ret (results_none rfl _ _ _) rfl ?_
    exact ⟨rfl, S4, z1.trans z4⟩
def lku0 : Oper := { dst := some 10, op := Op.move (Operand.tmp 3), type := 82, pos := "l11_queue.go:102", after := #[], guard := none }
def lku1 : Oper := { dst := some 11, op := Op.nilCheck (Operand.tmp 10), type := 0, pos := "l11_queue.go:102", after := #[{ on := 0, ground := Ground.data }], guard := none }
def lku2 : Oper := { dst := some 12, op := Op.fieldAddr 28 (Operand.tmp 11) 11, type := 0, pos := "l11_queue.go:102", after := #[{ on := 1, ground := Ground.data }], guard := none }
def lku3 : Oper := { dst := some 13, op := Op.load 2 (Operand.tmp 12), type := 2, pos := "l11_queue.go:102", after := #[{ on := 2, ground := Ground.data }], guard := none }
def lku4 : Oper := { dst := some 14, op := Op.move (Operand.tmp 3), type := 82, pos := "l11_queue.go:102", after := #[], guard := none }
def lku5 : Oper := { dst := some 15, op := Op.nilCheck (Operand.tmp 14), type := 0, pos := "l11_queue.go:102", after := #[{ on := 4, ground := Ground.data }], guard := none }
def lku6 : Oper := { dst := some 16, op := Op.fieldAddr 28 (Operand.tmp 15) 20, type := 0, pos := "l11_queue.go:102", after := #[{ on := 5, ground := Ground.data }], guard := none }
def lku7 : Oper := { dst := some 17, op := Op.load 2 (Operand.tmp 16), type := 2, pos := "l11_queue.go:102", after := #[{ on := 6, ground := Ground.data }], guard := none }
def lku8 : Oper := { dst := some 18, op := Op.move (Operand.tmp 3), type := 82, pos := "l11_queue.go:102", after := #[], guard := none }
def lku9 : Oper := { dst := some 19, op := Op.nilCheck (Operand.tmp 18), type := 0, pos := "l11_queue.go:102", after := #[{ on := 8, ground := Ground.data }], guard := none }
def lku10 : Oper := { dst := some 20, op := Op.fieldAddr 28 (Operand.tmp 19) 12, type := 0, pos := "l11_queue.go:102", after := #[{ on := 9, ground := Ground.data }], guard := none }
def lku11 : Oper := { dst := some 21, op := Op.load 2 (Operand.tmp 20), type := 2, pos := "l11_queue.go:102", after := #[{ on := 10, ground := Ground.data }], guard := none }
def lku12 : Oper := { dst := some 22, op := Op.build 85 #[(1, Operand.tmp 13), (2, Operand.tmp 17), (3, Operand.tmp 21)], type := 85, pos := "l11_queue.go:102", after := #[{ on := 3, ground := Ground.data }, { on := 7, ground := Ground.data }, { on := 11, ground := Ground.data }], guard := none }
def lku13 : Oper := { dst := some 4, op := Op.alloc 85, type := 0, pos := "l11_queue.go:102", after := #[], guard := none }
def lku14 : Oper := { dst := none, op := Op.store 85 (Operand.tmp 4) (Operand.tmp 22), type := 0, pos := "l11_queue.go:102", after := #[{ on := 13, ground := Ground.data }, { on := 12, ground := Ground.data }, { on := 0, ground := Ground.phase }, { on := 1, ground := Ground.phase }, { on := 2, ground := Ground.phase }, { on := 3, ground := Ground.phase }, { on := 4, ground := Ground.phase }, { on := 5, ground := Ground.phase }, { on := 6, ground := Ground.phase }, { on := 7, ground := Ground.phase }, { on := 8, ground := Ground.phase }, { on := 9, ground := Ground.phase }, { on := 10, ground := Ground.phase }, { on := 11, ground := Ground.phase }, { on := 12, ground := Ground.phase }, { on := 13, ground := Ground.phase }], guard := none }
theorem any_lk {P : Program} {md : Region.Mode} {ops : Array Oper} {Q : Exit → Act → World → Prop} {S : World → Prop} {fuel : Nat} {listed : Array Bool} {a : Act} {W : World} (R : World → Prop) (r : R W) (h : ∀ w, R w → wpAnyH P md ops Q S fuel listed a w) : wpAnyH P md ops Q S fuel listed a W := h W r
theorem wp_storeLk {o : Oper} {a : Act} {w : World} {K : Act → World → Prop} {Q : Exit → Act → World → Prop} (x y : Operand) (ho : o.op = .store 85 x y) (b : Nat) (vs : List Value) (hl : vs.length = 4) (h1 : ∀ v ∈ vs, v.oneCell' = true) (hx : a.eval x = .pointer (some ⟨b, 0, none⟩)) (hy : a.eval y = .agg vs.toArray) {cs : Array Value} {t : TypeId} (Z : At w b cs t) (hs : cs.size = 4)
    (h : ∀ w', At w' b vs.toArray t → Kept b w w' → K (a.put o.dst undef) w') : o.wp Tryz.prog a w K Q :=
  wp_store_mid 85 x y ho b 0 vs.toArray hx hy (by rw [List.size_toArray, hl]; exact Z.there 0 4 (by omega)) (by rw [List.size_toArray, hl]; kernel_rfl) (all_oneCell_toArray h1) (h _ (Z.fillAll (by rw [hs, hl])) (kept_setCells b _ 0 w))
def I8.lkT (st : I8) : I8 := st.exT (st.lnk st.h.from_) 0 (pk 0 st.h.for_ st.h.block st.h.last)
def I8.lkD (st : I8) : I8 := { st.lkT with h := { st.h with reply := 1, out := 0 }, d := ({ st.h with reply := 1, out := 0 } : Hd).told 5 }
def I8.lkF (st : I8) : I8 := if swaps st.xs (st.lnk st.h.from_) 0 = true then st.lkD else st.lkT
def I8.lkOk (st : I8) : Bool := wOk 0 st.h.for_ st.h.block st.h.last && thr (st.lnk st.h.from_) st.n
/-- What comes of linking a node: it gives up, or says whether it is linked. -/
def LkE (B q : Nat) (st : I8) (w : World) (e : Ending) (w' : World) : Prop := if st.lkOk = true then e = .returned (.bool (swaps st.xs (st.lnk st.h.from_) 0)) ∧ IAt w' B q st.lkF ∧ Kq q st.pv w w' else e = .panicked gu ∧ Kq q st.pv w w'
set_option maxHeartbeats 8000000 in
theorem uLink (B q : Nat) (st : I8) (w : World) (S : IAt w B q st) (hn : st.n ≤ 16777216) :
    Calls Tryz.prog 55 #[.pointer (some ⟨q, 0, none⟩)] w (LkE B q st w) := by
  have A := S.is
  have l11 : ∀ w', Cls w w' → (loadVar 2 ⟨q, 18, none⟩).run Tryz.prog w' = .ok (.int .i64 st.h.for_) w' := ld_i A Tryz.underlying2 rfl
  have l20 : ∀ w', Cls w w' → (loadVar 2 ⟨q, 27, none⟩).run Tryz.prog w' = .ok (.int .i64 st.h.block) w' := ld_i A Tryz.underlying2 rfl
  have l12 : ∀ w', Cls w w' → (loadVar 2 ⟨q, 19, none⟩).run Tryz.prog w' = .ok (.int .i64 st.h.last) w' := ld_i A Tryz.underlying2 rfl
  clear A
  go_enter Tryz.func55, Tryz.ntmps55
  go_upto_region 2 with fail
  go_cut [4] from 10 (fun u wc => ∃ lb : Nat, u = .pointer (some ⟨lb, 0, none⟩) ∧ At wc lb ([.int .i64 0, .int .i64 st.h.for_, .int .i64 st.h.block, .int .i64 st.h.last]).toArray 85 ∧ w.heap.size ≤ lb ∧ Below w.heap.size w wc)
  case first =>
    refine wp_region_held_drew (S := Cls w) (by kernel_rfl) ⟨⟨rfl, rfl, rfl, Nat.le_refl _, fun _ _ => rfl⟩⟩ (fun hS => ?_)
    generalize w.drew = v0 at *
    refine tkP (i := 0) (oi := lku0) hS (fun w9 => by simp only [lku0]; go_simp; (try with_reducible rfl)) ?_
    simp only [lku0, Act.put, nzA, nzB, nzC]
    refine tkP (i := 1) (oi := lku1) hS (fun w9 => by simp only [lku1]; go_simp; (try with_reducible rfl)) ?_
    simp only [lku1, Act.put, nzA, nzB, nzC]
    refine tkP (i := 2) (oi := lku2) hS (fun w9 => by simp only [lku2]; go_simp; (try with_reducible rfl)) ?_
    simp only [lku2, Act.put, nzA, nzB, nzC]
    refine tkL (i := 3) (oi := lku3) hS rfl rfl (by assumption) ?_
    simp only [lku3, Act.put, nzA, nzB, nzC]
    refine tkP (i := 4) (oi := lku4) hS (fun w9 => by simp only [lku4]; go_simp; (try with_reducible rfl)) ?_
    simp only [lku4, Act.put, nzA, nzB, nzC]
    refine tkP (i := 5) (oi := lku5) hS (fun w9 => by simp only [lku5]; go_simp; (try with_reducible rfl)) ?_
    simp only [lku5, Act.put, nzA, nzB, nzC]
    refine tkP (i := 6) (oi := lku6) hS (fun w9 => by simp only [lku6]; go_simp; (try with_reducible rfl)) ?_
    simp only [lku6, Act.put, nzA, nzB, nzC]
    refine tkL (i := 7) (oi := lku7) hS rfl rfl (by assumption) ?_
    simp only [lku7, Act.put, nzA, nzB, nzC]
    refine tkP (i := 8) (oi := lku8) hS (fun w9 => by simp only [lku8]; go_simp; (try with_reducible rfl)) ?_
    simp only [lku8, Act.put, nzA, nzB, nzC]
    refine tkP (i := 9) (oi := lku9) hS (fun w9 => by simp only [lku9]; go_simp; (try with_reducible rfl)) ?_
    simp only [lku9, Act.put, nzA, nzB, nzC]
    refine tkP (i := 10) (oi := lku10) hS (fun w9 => by simp only [lku10]; go_simp; (try with_reducible rfl)) ?_
    simp only [lku10, Act.put, nzA, nzB, nzC]
    refine tkL (i := 11) (oi := lku11) hS rfl rfl (by assumption) ?_
    simp only [lku11, Act.put, nzA, nzB, nzC]
    refine tk_pure (i := 12) (oi := lku12) rfl (by kernel_rfl) (by kernel_rfl) (by kernel_rfl) (fun _ _ _ h => h) (by rfl) hS (fun w9 => by simp only [lku12]; go_simp; (try rfl)) ?_
    simp only [lku12, Act.put, nzA, nzB, nzC]
    refine wpAnyH_ready (rs := [13]) (by kernel_rfl) (by simp) ?_
    refine AllReadyH.cons (o := lku13) rfl (fun K hK => ?_) ?_
    · rw [if_pos (by rfl)]
      simp only [lku13]
      go_simp
      have hzz : w.heap.size ≤ v0.heap.size := hS.below.size
      refine hK.out _ _ ⟨hS.below.trans (((Below.refl _ _).alloc (Nat.le_refl _) _).mono hS.below.size)⟩ (fun hS => ?_)
      clear hK K
      (try simp only [lku13, Act.put, nzA, nzB, nzC])
      refine any_lk (fun x => At x v0.heap.size #[.int .i64 0, .int .i64 0, .int .i64 0, .int .i64 0] 85 ∧ Cls w x ∧ w.heap.size ≤ v0.heap.size) ⟨At.new _ _ _, hS, hzz⟩ ?_
      have hz0 : w.heap.size ≤ v0.heap.size := hzz
      clear hS hzz
      rintro v1 ⟨al, hS, hge⟩
      refine wpAnyH_ready (rs := [14]) (by kernel_rfl) (by simp) ?_
      refine AllReadyH.cons (o := lku14) rfl (fun K hK => ?_) ?_
      · rw [if_pos (by rfl)]
        refine wp_storeLk (.tmp 4) (.tmp 22) rfl _ [.int .i64 0, .int .i64 st.h.for_, .int .i64 st.h.block, .int .i64 st.h.last] rfl (by simp [Value.oneCell']) rfl rfl al rfl ?_
        intro v2 al2 kk
        have hS2 : Cls w v2 := ⟨hS.below.trans (kk.below hge hS.below.size)⟩
        refine hK.out _ _ hS2 (fun hS => ?_)
        clear hK K
        simp only [lku14, Act.put]
        refine wpAnyH_done (by kernel_rfl) ?_ _
        (go_wp2_with fail)
        go_meet
        case rel => exact ⟨_, rfl, al2, hge, hS.below⟩
      exact AllReadyH.nil
    exact AllReadyH.nil
  case rest =>
  obtain ⟨lb, rfl, L, hlb, z⟩ := hcut
  replace S := S.keep z
  have z1 : Kq q st.pv w wc := Kq.of_below z
  clear l11 l20 l12 z
  have A := S.is
  have lp : ∀ w', Cls wc w' → (loadVar 35 ⟨q, 0, none⟩).run Tryz.prog w' = .ok (.agg #[.int .i64 st.p, .int .i64 st.s, .int .i64 st.l, .int .i64 st.c, .int .i64 st.k]) w' := ld_sub (o := 0) A st.pl Tryz.underlying35 rfl (by kernel_rfl)
  have lx : ∀ w', Cls wc w' → (loadVar 2 ⟨q, 28, none⟩).run Tryz.prog w' = .ok (.int .i64 st.h.from_) w' := ld_i A Tryz.underlying2 rfl
  have lw : ∀ w', Cls wc w' → (loadVar 85 ⟨lb, 0, none⟩).run Tryz.prog w' = .ok (.agg #[.int .i64 0, .int .i64 st.h.for_, .int .i64 st.h.block, .int .i64 st.h.last]) w' := ld_agg (vs := [.int .i64 0, .int .i64 st.h.for_, .int .i64 st.h.block, .int .i64 st.h.last]) L Tryz.underlying85 rfl (by kernel_rfl)
  clear A L
  cases hw : wOk 0 st.h.for_ st.h.block st.h.last
  · have hE : Hid (st.lkOk = false) := by unfold Hid I8.lkOk; rw [hw]; rfl
    go_upto_region 3 with fail
    refine wp_region_bar2 (C := Cls wc) rfl rfl rfl (by kernel_rfl) (by kernel_rfl) ⟨(Below.refl _ _).drew⟩ ?_
    simp only [List.dropLast]
    repeat' (first
      | go_big_quiet_skip
      | (go_big_quiet_want; first
        | (refine q_load _ _ _ _ rfl rfl (by assumption) ?_; simp only [Act.put, List.setIfInBounds_toArray, List.set_cons_zero, List.set_cons_succ]; go_big_quiet_on)
        | (go_big_quiet_op; first
          | go_big_quiet_on
          | (refine ⟨_, fun _ _ => rfl, ?_⟩; go_big_quiet_on)
          | (apply Exists.intro; refine ⟨fun w' hw' => ?_, ?_⟩
             · (first
               | (go_at_call 87; exact cls_below hw' (iBlock _ _ _ _ _ _ _ _)))
             go_big_quiet_on))))
    refine wpQuiet_nil ?_
    intro w2 hw2
    go_wp2_with (go_at_call 93; refine (uExN1 B q st _ (S.keep hw2.below) hn _ _ _ _ _ _ hw).mono ?_; rintro e w3 ⟨rfl, hb3⟩)
    refine ⟨rfl, ?_⟩
    unfold LkE
    rw [hE.out, if_neg (by decide)]
    exact ⟨rfl, (z1.trans (Kq.of_below hw2.below)).trans (Kq.of_below hb3)⟩
  cases ht : thr (st.lnk st.h.from_) st.n
  · have hE : Hid (st.lkOk = false) := by unfold Hid I8.lkOk; rw [hw, ht]; rfl
    go_upto_region 3 with fail
    refine wp_region_bar2 (C := Cls wc) rfl rfl rfl (by kernel_rfl) (by kernel_rfl) ⟨(Below.refl _ _).drew⟩ ?_
    simp only [List.dropLast]
    repeat' (first
      | go_big_quiet_skip
      | (go_big_quiet_want; first
        | (refine q_load _ _ _ _ rfl rfl (by assumption) ?_; simp only [Act.put, List.setIfInBounds_toArray, List.set_cons_zero, List.set_cons_succ]; go_big_quiet_on)
        | (go_big_quiet_op; first
          | go_big_quiet_on
          | (refine ⟨_, fun _ _ => rfl, ?_⟩; go_big_quiet_on)
          | (apply Exists.intro; refine ⟨fun w' hw' => ?_, ?_⟩
             · (first
               | (go_at_call 87; exact cls_below hw' (iBlock _ _ _ _ _ _ _ _)))
             go_big_quiet_on))))
    refine wpQuiet_nil ?_
    intro w2 hw2
    go_wp2_with (go_at_call 93; refine (uExN2 B q st _ (S.keep hw2.below) hn _ _ _ _ _ _ hw ht).mono ?_; rintro e w3 ⟨rfl, hb3⟩)
    refine ⟨rfl, ?_⟩
    unfold LkE
    rw [hE.out, if_neg (by decide)]
    exact ⟨rfl, (z1.trans (Kq.of_below hw2.below)).trans (Kq.of_below hb3)⟩
  have hE : Hid (st.lkOk = true) := by unfold Hid I8.lkOk; rw [hw, ht]; rfl
  have EX : Hid (∀ w, IAt w B q st → Calls Tryz.prog 93 #[.pointer (some ⟨q, 0, none⟩), .int .i64 (st.lnk st.h.from_), .int .u64 0, .agg #[.int .i64 0, .int .i64 st.h.for_, .int .i64 st.h.block, .int .i64 st.h.last]] w fun e w' => e = .returned (.bool (swaps st.xs (st.lnk st.h.from_) 0)) ∧ IAt w' B q st.lkT ∧ Kq q st.pv w w') := fun w S => uExY B q st w S hn (st.lnk st.h.from_) 0 0 _ _ _ hw ht
  have hTh : Hid (st.lkT.h = st.h) := rfl
  obtain ⟨T, hT⟩ : ∃ T, Hid (st.lkT = T) := ⟨_, rfl⟩
  rw [hT.out] at EX hTh
  cases hd : swaps st.xs (st.lnk st.h.from_) 0
  · have hF : Hid (st.lkF = T) := by unfold Hid I8.lkF; rw [hd, ← hT.out]; rfl
    rw [hd] at EX
    go_upto_region 3 with fail
    refine wp_region_bar2 (C := Cls wc) rfl rfl rfl (by kernel_rfl) (by kernel_rfl) ⟨(Below.refl _ _).drew⟩ ?_
    simp only [List.dropLast]
    repeat' (first
      | go_big_quiet_skip
      | (go_big_quiet_want; first
        | (refine q_load _ _ _ _ rfl rfl (by assumption) ?_; simp only [Act.put, List.setIfInBounds_toArray, List.set_cons_zero, List.set_cons_succ]; go_big_quiet_on)
        | (go_big_quiet_op; first
          | go_big_quiet_on
          | (refine ⟨_, fun _ _ => rfl, ?_⟩; go_big_quiet_on)
          | (apply Exists.intro; refine ⟨fun w' hw' => ?_, ?_⟩
             · (first
               | (go_at_call 87; exact cls_below hw' (iBlock _ _ _ _ _ _ _ _)))
             go_big_quiet_on))))
    refine wpQuiet_nil ?_
    intro w2 hw2
    go_wp2_with (go_at_call 93; refine (EX.out _ (S.keep hw2.below)).mono ?_; rintro e w3 ⟨rfl, S3, z3⟩)
    go_ret
    unfold LkE
    rw [hE.out, if_pos rfl, hF.out, hd]
    exact ⟨rfl, S3, (z1.trans (Kq.of_below hw2.below)).trans z3⟩
  · have hF : Hid (st.lkF = { T with h := { T.h with reply := 1, out := 0 }, d := ({ T.h with reply := 1, out := 0 } : Hd).told 5 }) := by unfold Hid I8.lkF; rw [hd, if_pos rfl, hTh.out, ← hT.out]; rfl
    rw [hd] at EX
    go_upto_region 3 with fail
    refine wp_region_bar2 (C := Cls wc) rfl rfl rfl (by kernel_rfl) (by kernel_rfl) ⟨(Below.refl _ _).drew⟩ ?_
    simp only [List.dropLast]
    repeat' (first
      | go_big_quiet_skip
      | (go_big_quiet_want; first
        | (refine q_load _ _ _ _ rfl rfl (by assumption) ?_; simp only [Act.put, List.setIfInBounds_toArray, List.set_cons_zero, List.set_cons_succ]; go_big_quiet_on)
        | (go_big_quiet_op; first
          | go_big_quiet_on
          | (refine ⟨_, fun _ _ => rfl, ?_⟩; go_big_quiet_on)
          | (apply Exists.intro; refine ⟨fun w' hw' => ?_, ?_⟩
             · (first
               | (go_at_call 87; exact cls_below hw' (iBlock _ _ _ _ _ _ _ _)))
             go_big_quiet_on))))
    refine wpQuiet_nil ?_
    intro w2 hw2
    go_upto_region 5 with (go_at_call 93; refine (EX.out _ (S.keep hw2.below)).mono ?_; rintro e w3 ⟨rfl, S3, z3⟩; have c39 : w3.cell? ⟨q, 39, none⟩ = some (.int .i64 T.h.reply) := S3.is.cell 39; have f39 := S3.fz 39; have c40 : w3.cell? ⟨q, 40, none⟩ = some (.int .i64 T.h.out) := S3.is.cell 40; have f40 := S3.fz 40)
    replace z3 := (z1.trans (Kq.of_below hw2.below)).trans z3
    clear S lp lx lw hw2 z1 EX
    go_upto_region 6 with fail
    change Code.wp _ _ _ _ ((w3.setCell ⟨q, 39, none⟩ (.int .i64 1)).setCell ⟨q, 40, none⟩ (.int .i64 0))
    have S4 : IAt ((w3.setCell ⟨q, 39, none⟩ (.int .i64 1)).setCell ⟨q, 40, none⟩ (.int .i64 0)) B q { T with h := { T.h with reply := 1, out := 0 } } := (S3.put (st' := { T with h := { T.h with reply := 1 } }) 39 _ (by omega) rfl rfl rfl).put 40 _ (by omega) rfl rfl rfl
    replace z3 := (z3.set 39 (.int .i64 1)).set 40 (.int .i64 0)
    generalize (w3.setCell ⟨q, 39, none⟩ (.int .i64 1)).setCell ⟨q, 40, none⟩ (.int .i64 0) = w4 at *
    clear c39 f39 c40 f40 S3
    obtain ⟨h2, hh2⟩ : ∃ h2 : Hd, Hid ({ T.h with reply := 1, out := 0 } = h2) := ⟨_, rfl⟩
    rw [hh2.out] at S4 hF
    obtain ⟨U, hU⟩ : ∃ U : I8, Hid ({ T with h := h2 } = U) := ⟨_, rfl⟩
    have hUh : Hid (U.h = h2) := by unfold Hid; rw [← hU.out]
    have hF2 : Hid (st.lkF = { U with d := h2.told 5 }) := by unfold Hid; rw [hF.out, ← hU.out]
    rw [hU.out] at S4
    have hr : w4.rangeAt q 7 h2.vs := fun k v hv => (S4.is.cell (7 + k)).trans (by rw [← hUh.out] at hv; exact U.hl k v hv)
    go_upto_region 7 with (first
      | (refine wpList_load_mid rfl 28 (.tmp 46) rfl q 7 rfl h2.vs _ hr Tryz.underlying28 rfl infoH ?_)
      | (go_at_call 94; refine (iDeed h2 5 _).mono ?_; rintro e w5 ⟨rfl, hb5⟩; replace S4 := S4.keep hb5; replace z3 := z3.trans (Kq.of_below hb5); clear hr)
      | (refine storeI rfl (.tmp 52) (.tmp 48) rfl B q U (h2.told 5) rfl rfl S4 ?_; intro w6 S6 k6))
    go_wp2
    go_ret
    unfold LkE
    rw [hE.out, if_pos rfl, hF2.out, hd]
    exact ⟨rfl, S6, k6 _ _ z3⟩
end Go.Proofs.YtgmoemjiffglbaaGreat
namespace Go.Proofs.YtgmoemjiffglbaaGreat
open Go.RowKit
set_option maxRecDepth 100000
set_option linter.unusedVariables false
set_option linter.unusedSimpArgs false
theorem noGoto_nl {Q : Exit → Act → World → Prop} {a : Act} {w : World} (h : Q .normal a w) : Exit.noGoto Q .normal a w := h
/-- A scope out of which the run jumps to a label at most once. -/
theorem wp_scope_hop {P : Program} {a : Act} {w : World} {Q : Exit → Act → World → Prop} {c : Code}
    (h : ∀ R : Exit → Act → World → Prop, (∀ e a w, (∀ l, e ≠ .goto l) → Q e a w → R e a w) → (∀ l rest, findLabel c l = some rest → ∀ a w, rest.wp P (Exit.noGoto Q) a w → R (.goto l) a w) → c.wp P R a w) : (Code.scope c).wp P Q a w := by
  have h2 := h (fun e a w => match e with
    | .goto l => ∃ rest, findLabel c l = some rest ∧ rest.wp P (Exit.noGoto Q) a w
    | e => Q e a w) (fun e a w hn hq => by cases e <;> first | exact hq | exact absurd rfl (hn _)) (fun l rest hf a w hw => ⟨rest, hf, hw⟩)
  intro b k cs
  obtain ⟨e, a₁, w₁, hq, harr⟩ := h2 b (.inScope c :: k) cs
  cases e with
  | normal => exact ⟨.normal, a₁, w₁, hq, .head step_scope (Steps.trans harr (.one step_inScope))⟩
  | exit id => exact ⟨.exit id, a₁, w₁, hq, fun k' hk => .head step_scope (harr k' (by simp [exitTo, hk]))⟩
  | goto l =>
    obtain ⟨rest, hf, hw⟩ := hq
    have hg : gotoIn l (.inScope c :: k) = some (.code rest :: .inScope c :: k) := by simp [gotoIn, hf]
    obtain ⟨e₂, a₂, w₂, hq₂, harr₂⟩ := hw b (.inScope c :: k) cs
    have pre := harr _ hg
    cases e₂ with
    | normal => exact ⟨.normal, a₂, w₂, hq₂, .head step_scope (Steps.trans pre (Steps.trans harr₂ (.one step_inScope)))⟩
    | exit id => exact ⟨.exit id, a₂, w₂, hq₂, fun k' hk => .head step_scope (Steps.trans pre (harr₂ k' (by simp [exitTo, hk])))⟩
    | goto l' => exact hq₂.elim
    | ret => exact ⟨_, a₂, w₂, hq₂, .of_steps (.head step_scope pre) harr₂⟩
    | panic ch => exact ⟨_, a₂, w₂, hq₂, .of_steps (.head step_scope pre) harr₂⟩
    | outgrown => exact ⟨_, a₂, w₂, hq₂, .of_steps (.head step_scope pre) harr₂⟩
  | ret => exact ⟨_, a₁, w₁, hq, .of_steps (.one step_scope) harr⟩
  | panic ch => exact ⟨_, a₁, w₁, hq, .of_steps (.one step_scope) harr⟩
  | outgrown => exact ⟨_, a₁, w₁, hq, .of_steps (.one step_scope) harr⟩
set_option maxHeartbeats 8000000 in
theorem un_33 (B q : Nat) (st : I8) (w : World) (S : IAt w B q st) (hn : st.n ≤ 16777216) (hs : 0 ≤ st.h.seen ∧ st.h.seen ≤ 18446744073709551615) (hp : 0 ≤ st.h.put ∧ st.h.put ≤ 18446744073709551615) (ha : aOk st.p st.s st.l st.c st.k st.n = true) (bd : ∀ x ∈ st.xs, 0 ≤ x ∧ x ≤ 18446744073709551615) (hat : st.h.at_ = 33) :
    Calls Tryz.prog 21 #[.pointer (some ⟨q, 0, none⟩)] w (Ends B q st.pv w ((st.wrO (st.blk 1) 0 0 0 0).map fun t => t.to 34)) := by
  have c12 : w.cell? ⟨q, 12, none⟩ = some (.int .i64 st.h.at_) := S.is.cell 12
  rw [hat] at c12
  have hhat : Hid (st.h.at_ = 33) := hat
  clear hat
  cases hr : st.wrO (st.blk 1) 0 0 0 0 with
  | none =>
    simp only [Option.map_none]
    unfold Ends
    go_enter Tryz.func21, Tryz.ntmps21
    refine wp_scope_hop fun R hR hG => ?_
    have hG0 : Hid (_) := hG 0 _ rfl
    have hG1 : Hid (_) := hG 1 _ rfl
    clear hG
    go_upto_region 3 with fail
    refine wp_region_bar (C := Cls w) rfl rfl (by kernel_rfl) (by kernel_rfl) ⟨(Below.refl _ _).drew⟩ ?_
    simp only [List.dropLast]
    repeat' (first
      | go_big_quiet_skip
      | (go_big_quiet_want; first
        | (refine q_load _ _ _ _ rfl rfl (by assumption) ?_; simp only [Act.put, List.setIfInBounds_toArray, List.set_cons_zero, List.set_cons_succ]; go_big_quiet_on)
        | (go_big_quiet_op; first
          | go_big_quiet_on
          | (refine ⟨_, fun _ _ => rfl, ?_⟩; go_big_quiet_on)
          | (apply Exists.intro; refine ⟨fun w' hw' => ?_, ?_⟩
             · (first
               | (go_at_call 49; exact cls_below hw' (pBlock B q st _ _ (S.keep hw'.below))))
             go_big_quiet_on))))
    refine wpQuiet_nil ?_
    intro w2 hw2
    go_wp2_with (go_at_call 48; refine (iStWrite B q st _ _ _ _ _ _ (S.keep hw2.below) hn).mono ?_; intro e w3 hE; rw [hr] at hE; obtain ⟨rfl, z3⟩ := hE)
    refine hR _ _ _ (fun l h => by cases h) ?_
    exact ⟨rfl, rfl, ((Kq.of_below hw2.below).trans z3)⟩
  | some t =>
    simp only [Option.map_some]
    unfold Ends
    go_enter Tryz.func21, Tryz.ntmps21
    refine wp_scope_hop fun R hR hG => ?_
    have hG0 : Hid (_) := hG 0 _ rfl
    have hG1 : Hid (_) := hG 1 _ rfl
    clear hG
    go_upto_region 3 with fail
    refine wp_region_bar (C := Cls w) rfl rfl (by kernel_rfl) (by kernel_rfl) ⟨(Below.refl _ _).drew⟩ ?_
    simp only [List.dropLast]
    repeat' (first
      | go_big_quiet_skip
      | (go_big_quiet_want; first
        | (refine q_load _ _ _ _ rfl rfl (by assumption) ?_; simp only [Act.put, List.setIfInBounds_toArray, List.set_cons_zero, List.set_cons_succ]; go_big_quiet_on)
        | (go_big_quiet_op; first
          | go_big_quiet_on
          | (refine ⟨_, fun _ _ => rfl, ?_⟩; go_big_quiet_on)
          | (apply Exists.intro; refine ⟨fun w' hw' => ?_, ?_⟩
             · (first
               | (go_at_call 49; exact cls_below hw' (pBlock B q st _ _ (S.keep hw'.below))))
             go_big_quiet_on))))
    refine wpQuiet_nil ?_
    intro w2 hw2
    go_wp2_with (go_at_call 48; refine (iStWrite B q st _ _ _ _ _ _ (S.keep hw2.below) hn).mono ?_; intro e w3 hE; rw [hr] at hE; obtain ⟨rfl, S3, z3⟩ := hE; clear c12; have c12 : w3.cell? ⟨q, 12, none⟩ = some (.int .i64 t.h.at_) := S3.is.cell 12; have f12 := S3.fz 12)
    (try go_step3)
    refine hG0.out _ _ ?_
    go_wp2
    rw [Exit.noGoto_ret]
    first | go_end0 | refine bodyPost_ret (results_none rfl _ _ _) rfl ?_
    exact ⟨rfl, S3.to 34, (((Kq.of_below hw2.below).trans z3)).set _ _⟩
set_option maxHeartbeats 8000000 in
theorem un_34 (B q : Nat) (st : I8) (w : World) (S : IAt w B q st) (hn : st.n ≤ 16777216) (hs : 0 ≤ st.h.seen ∧ st.h.seen ≤ 18446744073709551615) (hp : 0 ≤ st.h.put ∧ st.h.put ≤ 18446744073709551615) (ha : aOk st.p st.s st.l st.c st.k st.n = true) (bd : ∀ x ∈ st.xs, 0 ≤ x ∧ x ≤ 18446744073709551615) (hat : st.h.at_ = 34) :
    Calls Tryz.prog 21 #[.pointer (some ⟨q, 0, none⟩)] w (Ends B q st.pv w (some { st with h := { st.h with seen := (red st.xs (st.root 4)), from_ := uI (red st.xs (st.root 4)), at_ := 35 } })) := by
  have c12 : w.cell? ⟨q, 12, none⟩ = some (.int .i64 st.h.at_) := S.is.cell 12
  rw [hat] at c12
  have hhat : Hid (st.h.at_ = 34) := hat
  clear hat
  unfold Ends
  have US : Hid (∀ w, IAt w B q st → Calls Tryz.prog 50 #[.pointer (some ⟨q, 0, none⟩), .int .i64 4, .int .i64 35] w fun e w' => e = .returned (.int .i64 (uI (red st.xs (st.root 4)))) ∧ IAt w' B q { st with h := { st.h with seen := (red st.xs (st.root 4)), at_ := 35 } } ∧ Kq q st.pv w w') := fun w S => uSee B q st w S hn ha bd 4 35 (by omega)
  clear bd ha
  generalize red st.xs (st.root 4) = x at *
  go_enter Tryz.func21, Tryz.ntmps21
  refine wp_scope_hop fun R hR hG => ?_
  have hG0 : Hid (_) := hG 0 _ rfl
  have hG1 : Hid (_) := hG 1 _ rfl
  clear hG
  go_wp2_with (go_at_call 50; refine (US.out _ S).mono ?_; rintro e w3 ⟨rfl, S3, z3⟩; have c28 : w3.cell? ⟨q, 28, none⟩ = some (.int .i64 st.h.from_) := S3.is.cell 28; have f28 := S3.fz 28)
  refine hR _ _ _ (fun l h => by cases h) ?_
  first | go_end0 | refine bodyPost_ret (results_none rfl _ _ _) rfl ?_
  exact ⟨rfl, S3.put (st' := { st with h := { st.h with seen := x, from_ := uI x, at_ := 35 } }) 28 _ (by omega) rfl rfl rfl, z3.set _ _⟩
set_option maxHeartbeats 8000000 in
theorem un_35 (B q : Nat) (st : I8) (w : World) (S : IAt w B q st) (hn : st.n ≤ 16777216) (hs : 0 ≤ st.h.seen ∧ st.h.seen ≤ 18446744073709551615) (hp : 0 ≤ st.h.put ∧ st.h.put ≤ 18446744073709551615) (ha : aOk st.p st.s st.l st.c st.k st.n = true) (bd : ∀ x ∈ st.xs, 0 ≤ x ∧ x ≤ 18446744073709551615) (hat : st.h.at_ = 35) :
    Calls Tryz.prog 21 #[.pointer (some ⟨q, 0, none⟩)] w (Ends B q st.pv w (st.grdO 5 st.h.from_ 36)) := by
  have c12 : w.cell? ⟨q, 12, none⟩ = some (.int .i64 st.h.at_) := S.is.cell 12
  rw [hat] at c12
  have hhat : Hid (st.h.at_ = 35) := hat
  clear hat
  have c28 : w.cell? ⟨q, 28, none⟩ = some (.int .i64 st.h.from_) := S.is.cell 28
  cases hr : st.grdO 5 st.h.from_ 36 with
  | none =>
    unfold Ends
    go_enter Tryz.func21, Tryz.ntmps21
    refine wp_scope_hop fun R hR hG => ?_
    have hG0 : Hid (_) := hG 0 _ rfl
    have hG1 : Hid (_) := hG 1 _ rfl
    clear hG
    go_wp2_with (go_at_call 51; refine (uGuard B q st _ S hn _ _ _).mono ?_; intro e w3 hE; rw [hr] at hE; obtain ⟨rfl, z3⟩ := hE)
    refine hR _ _ _ (fun l h => by cases h) ?_
    exact ⟨rfl, rfl, z3⟩
  | some t =>
    unfold Ends
    go_enter Tryz.func21, Tryz.ntmps21
    refine wp_scope_hop fun R hR hG => ?_
    have hG0 : Hid (_) := hG 0 _ rfl
    have hG1 : Hid (_) := hG 1 _ rfl
    clear hG
    go_wp2_with (go_at_call 51; refine (uGuard B q st _ S hn _ _ _).mono ?_; intro e w3 hE; rw [hr] at hE; obtain ⟨rfl, S3, z3⟩ := hE)
    refine hR _ _ _ (fun l h => by cases h) ?_
    first | go_end0 | refine bodyPost_ret (results_none rfl _ _ _) rfl ?_
    exact ⟨rfl, S3, z3⟩
set_option maxHeartbeats 8000000 in
theorem un_36 (B q : Nat) (st : I8) (w : World) (S : IAt w B q st) (hn : st.n ≤ 16777216) (hs : 0 ≤ st.h.seen ∧ st.h.seen ≤ 18446744073709551615) (hp : 0 ≤ st.h.put ∧ st.h.put ≤ 18446744073709551615) (ha : aOk st.p st.s st.l st.c st.k st.n = true) (bd : ∀ x ∈ st.xs, 0 ≤ x ∧ x ≤ 18446744073709551615) (hat : st.h.at_ = 36) :
    Calls Tryz.prog 21 #[.pointer (some ⟨q, 0, none⟩)] w (Ends B q st.pv w (some (if red st.xs (st.root 4) = st.h.seen then (st.to 37) else st.to 34))) := by
  have c12 : w.cell? ⟨q, 12, none⟩ = some (.int .i64 st.h.at_) := S.is.cell 12
  rw [hat] at c12
  have hhat : Hid (st.h.at_ = 36) := hat
  clear hat
  have UI : Hid (∀ w, IAt w B q st → Calls Tryz.prog 52 #[.pointer (some ⟨q, 0, none⟩), .int .i64 4] w fun e w' => e = .returned (.bool (red st.xs (st.root 4) == st.h.seen)) ∧ Below w.heap.size w w') := fun w S => uIs B q st w S hn ha bd 4 (by omega)
  clear bd ha
  unfold Ends
  by_cases hk : red st.xs (st.root 4) = st.h.seen
  · rw [if_pos hk]
    have hkb : (red st.xs (st.root 4) == st.h.seen) = true := by simp [hk]
    rw [hkb] at UI
    clear hk hkb
    go_enter Tryz.func21, Tryz.ntmps21
    refine wp_scope_hop fun R hR hG => ?_
    have hG0 : Hid (_) := hG 0 _ rfl
    have hG1 : Hid (_) := hG 1 _ rfl
    clear hG
    go_wp2_with (go_at_call 52; refine (UI.out _ S).mono ?_; rintro e w3 ⟨rfl, hb⟩; have S3 := S.keep hb; clear c12; have c12 : w3.cell? ⟨q, 12, none⟩ = some (.int .i64 st.h.at_) := S3.is.cell 12; have f12 := S3.fz 12)
    refine hR _ _ _ (fun l h => by cases h) ?_
    first | go_end0 | refine bodyPost_ret (results_none rfl _ _ _) rfl ?_
    exact ⟨rfl, S3.to 37, (Kq.of_below hb).set _ _⟩
  · rw [if_neg hk]
    have hkb : (red st.xs (st.root 4) == st.h.seen) = false := by simp [hk]
    rw [hkb] at UI
    clear hk hkb
    go_enter Tryz.func21, Tryz.ntmps21
    refine wp_scope_hop fun R hR hG => ?_
    have hG0 : Hid (_) := hG 0 _ rfl
    have hG1 : Hid (_) := hG 1 _ rfl
    clear hG
    go_wp2_with (go_at_call 52; refine (UI.out _ S).mono ?_; rintro e w3 ⟨rfl, hb⟩; have S3 := S.keep hb; clear c12; have c12 : w3.cell? ⟨q, 12, none⟩ = some (.int .i64 st.h.at_) := S3.is.cell 12; have f12 := S3.fz 12)
    (try go_step3)
    refine hG0.out _ _ ?_
    go_wp2
    rw [Exit.noGoto_ret]
    first | go_end0 | refine bodyPost_ret (results_none rfl _ _ _) rfl ?_
    exact ⟨rfl, S3.to 34, (Kq.of_below hb).set _ _⟩
set_option maxHeartbeats 8000000 in
theorem un_37 (B q : Nat) (st : I8) (w : World) (S : IAt w B q st) (hn : st.n ≤ 16777216) (hs : 0 ≤ st.h.seen ∧ st.h.seen ≤ 18446744073709551615) (hp : 0 ≤ st.h.put ∧ st.h.put ≤ 18446744073709551615) (ha : aOk st.p st.s st.l st.c st.k st.n = true) (bd : ∀ x ∈ st.xs, 0 ≤ x ∧ x ≤ 18446744073709551615) (hat : st.h.at_ = 37) :
    Calls Tryz.prog 21 #[.pointer (some ⟨q, 0, none⟩)] w (Ends B q st.pv w (st.lastO)) := by
  have c12 : w.cell? ⟨q, 12, none⟩ = some (.int .i64 st.h.at_) := S.is.cell 12
  rw [hat] at c12
  have hhat : Hid (st.h.at_ = 37) := hat
  clear hat
  cases hr : st.lastO with
  | none =>
    unfold Ends
    go_enter Tryz.func21, Tryz.ntmps21
    refine wp_scope_hop fun R hR hG => ?_
    have hG0 : Hid (_) := hG 0 _ rfl
    have hG1 : Hid (_) := hG 1 _ rfl
    clear hG
    go_wp2_with (go_at_call 53; refine (uLast B q st _ S hn bd).mono ?_; intro e w3 hE; rw [hr] at hE; obtain ⟨rfl, z3⟩ := hE)
    refine hR _ _ _ (fun l h => by cases h) ?_
    exact ⟨rfl, rfl, z3⟩
  | some t =>
    unfold Ends
    go_enter Tryz.func21, Tryz.ntmps21
    refine wp_scope_hop fun R hR hG => ?_
    have hG0 : Hid (_) := hG 0 _ rfl
    have hG1 : Hid (_) := hG 1 _ rfl
    clear hG
    go_wp2_with (go_at_call 53; refine (uLast B q st _ S hn bd).mono ?_; intro e w3 hE; rw [hr] at hE; obtain ⟨rfl, S3, z3⟩ := hE)
    refine hR _ _ _ (fun l h => by cases h) ?_
    first | go_end0 | refine bodyPost_ret (results_none rfl _ _ _) rfl ?_
    exact ⟨rfl, S3, z3⟩
set_option maxHeartbeats 8000000 in
theorem un_38 (B q : Nat) (st : I8) (w : World) (S : IAt w B q st) (hn : st.n ≤ 16777216) (hs : 0 ≤ st.h.seen ∧ st.h.seen ≤ 18446744073709551615) (hp : 0 ≤ st.h.put ∧ st.h.put ≤ 18446744073709551615) (ha : aOk st.p st.s st.l st.c st.k st.n = true) (bd : ∀ x ∈ st.xs, 0 ≤ x ∧ x ≤ 18446744073709551615) (hat : st.h.at_ = 38) :
    Calls Tryz.prog 21 #[.pointer (some ⟨q, 0, none⟩)] w (Ends B q st.pv w ((st.mvO st.h.seen st.h.next).map fun t => t.to 34)) := by
  have c12 : w.cell? ⟨q, 12, none⟩ = some (.int .i64 st.h.at_) := S.is.cell 12
  rw [hat] at c12
  have hhat : Hid (st.h.at_ = 38) := hat
  clear hat
  have A := S.is
  have l1 : ∀ w', Cls w w' → (loadVar 25 ⟨q, 22, none⟩).run Tryz.prog w' = .ok (.int .u64 st.h.seen) w' := ld_i A Tryz.underlying25 rfl
  have l2 : ∀ w', Cls w w' → (loadVar 2 ⟨q, 29, none⟩).run Tryz.prog w' = .ok (.int .i64 st.h.next) w' := ld_i A Tryz.underlying2 rfl
  clear A
  cases hr : st.mvO st.h.seen st.h.next with
  | none =>
    simp only [Option.map_none]
    unfold Ends
    go_enter Tryz.func21, Tryz.ntmps21
    refine wp_scope_hop fun R hR hG => ?_
    have hG0 : Hid (_) := hG 0 _ rfl
    have hG1 : Hid (_) := hG 1 _ rfl
    clear hG
    go_upto_region 14 with fail
    refine wp_region_bar (C := Cls w) rfl rfl (by kernel_rfl) (by kernel_rfl) ⟨(Below.refl _ _).drew⟩ ?_
    simp only [List.dropLast]
    repeat' (first
      | go_big_quiet_skip
      | (go_big_quiet_want; first
        | (refine q_load _ _ _ _ rfl rfl (by assumption) ?_; simp only [Act.put, List.setIfInBounds_toArray, List.set_cons_zero, List.set_cons_succ]; go_big_quiet_on)
        | (go_big_quiet_op; first
          | go_big_quiet_on
          | (refine ⟨_, fun _ _ => rfl, ?_⟩; go_big_quiet_on))))
    refine wpQuiet_nil ?_
    intro w2 hw2
    go_wp2_with (go_at_call 54; refine (uMove B q st _ (S.keep hw2.below) hn ha _ _ hs).mono ?_; intro e w3 hE; rw [hr] at hE; obtain ⟨rfl, z3⟩ := hE)
    refine hR _ _ _ (fun l h => by cases h) ?_
    exact ⟨rfl, rfl, ((Kq.of_below hw2.below).trans z3)⟩
  | some t =>
    simp only [Option.map_some]
    unfold Ends
    go_enter Tryz.func21, Tryz.ntmps21
    refine wp_scope_hop fun R hR hG => ?_
    have hG0 : Hid (_) := hG 0 _ rfl
    have hG1 : Hid (_) := hG 1 _ rfl
    clear hG
    go_upto_region 14 with fail
    refine wp_region_bar (C := Cls w) rfl rfl (by kernel_rfl) (by kernel_rfl) ⟨(Below.refl _ _).drew⟩ ?_
    simp only [List.dropLast]
    repeat' (first
      | go_big_quiet_skip
      | (go_big_quiet_want; first
        | (refine q_load _ _ _ _ rfl rfl (by assumption) ?_; simp only [Act.put, List.setIfInBounds_toArray, List.set_cons_zero, List.set_cons_succ]; go_big_quiet_on)
        | (go_big_quiet_op; first
          | go_big_quiet_on
          | (refine ⟨_, fun _ _ => rfl, ?_⟩; go_big_quiet_on))))
    refine wpQuiet_nil ?_
    intro w2 hw2
    go_wp2_with (go_at_call 54; refine (uMove B q st _ (S.keep hw2.below) hn ha _ _ hs).mono ?_; intro e w3 hE; rw [hr] at hE; obtain ⟨rfl, S3, z3⟩ := hE; clear c12; have c12 : w3.cell? ⟨q, 12, none⟩ = some (.int .i64 t.h.at_) := S3.is.cell 12; have f12 := S3.fz 12)
    (try go_step3)
    refine hG0.out _ _ ?_
    go_wp2
    rw [Exit.noGoto_ret]
    first | go_end0 | refine bodyPost_ret (results_none rfl _ _ _) rfl ?_
    exact ⟨rfl, S3.to 34, (((Kq.of_below hw2.below).trans z3)).set _ _⟩
set_option maxHeartbeats 8000000 in
theorem un_39 (B q : Nat) (st : I8) (w : World) (S : IAt w B q st) (hn : st.n ≤ 16777216) (hs : 0 ≤ st.h.seen ∧ st.h.seen ≤ 18446744073709551615) (hp : 0 ≤ st.h.put ∧ st.h.put ≤ 18446744073709551615) (ha : aOk st.p st.s st.l st.c st.k st.n = true) (bd : ∀ x ∈ st.xs, 0 ≤ x ∧ x ≤ 18446744073709551615) (hat : st.h.at_ = 39) :
    Calls Tryz.prog 21 #[.pointer (some ⟨q, 0, none⟩)] w (Ends B q st.pv w (if st.lkOk = true then some (if swaps st.xs (st.lnk st.h.from_) 0 = true then st.lkD.to 40 else st.lkT.to 34) else none)) := by
  have c12 : w.cell? ⟨q, 12, none⟩ = some (.int .i64 st.h.at_) := S.is.cell 12
  rw [hat] at c12
  have hhat : Hid (st.h.at_ = 39) := hat
  clear hat
  have UL : Hid (∀ w, IAt w B q st → Calls Tryz.prog 55 #[.pointer (some ⟨q, 0, none⟩)] w (LkE B q st w)) := fun w S => uLink B q st w S hn
  clear bd ha
  cases hO : st.lkOk
  · rw [if_neg (by decide)]
    unfold Ends
    go_enter Tryz.func21, Tryz.ntmps21
    refine wp_scope_hop fun R hR hG => ?_
    have hG0 : Hid (_) := hG 0 _ rfl
    have hG1 : Hid (_) := hG 1 _ rfl
    clear hG
    go_wp2_with (go_at_call 55; refine (UL.out _ S).mono ?_; intro e w3 hE; unfold LkE at hE; rw [hO, if_neg (by decide)] at hE; obtain ⟨rfl, z3⟩ := hE)
    refine hR _ _ _ (fun l h => by cases h) ?_
    exact ⟨rfl, rfl, z3⟩
  · rw [if_pos rfl]
    unfold Ends
    cases hd : swaps st.xs (st.lnk st.h.from_) 0
    · rw [if_neg (by decide)]
      have hF : st.lkF = st.lkT := by unfold I8.lkF; rw [hd]; rfl
      go_enter Tryz.func21, Tryz.ntmps21
      refine wp_scope_hop fun R hR hG => ?_
      have hG0 : Hid (_) := hG 0 _ rfl
      have hG1 : Hid (_) := hG 1 _ rfl
      clear hG
      go_wp2_with (go_at_call 55; refine (UL.out _ S).mono ?_; intro e w3 hE; unfold LkE at hE; rw [hO, if_pos rfl, hd, hF] at hE; obtain ⟨rfl, S3, z3⟩ := hE; clear c12; have c12 : w3.cell? ⟨q, 12, none⟩ = some (.int .i64 st.lkT.h.at_) := S3.is.cell 12; have f12 := S3.fz 12)
      (try go_step3)
      refine hG0.out _ _ ?_
      go_wp2
      rw [Exit.noGoto_ret]
      first | go_end0 | refine bodyPost_ret (results_none rfl _ _ _) rfl ?_
      exact ⟨rfl, S3.to 34, z3.set _ _⟩
    · rw [if_pos rfl]
      have hF : st.lkF = st.lkD := by unfold I8.lkF; rw [hd]; rfl
      go_enter Tryz.func21, Tryz.ntmps21
      refine wp_scope_hop fun R hR hG => ?_
      have hG0 : Hid (_) := hG 0 _ rfl
      have hG1 : Hid (_) := hG 1 _ rfl
      clear hG
      go_wp2_with (go_at_call 55; refine (UL.out _ S).mono ?_; intro e w3 hE; unfold LkE at hE; rw [hO, if_pos rfl, hd, hF] at hE; obtain ⟨rfl, S3, z3⟩ := hE; clear c12; have c12 : w3.cell? ⟨q, 12, none⟩ = some (.int .i64 st.lkD.h.at_) := S3.is.cell 12; have f12 := S3.fz 12)
      refine hR _ _ _ (fun l h => by cases h) ?_
      first | go_end0 | refine bodyPost_ret (results_none rfl _ _ _) rfl ?_
      exact ⟨rfl, S3.to 40, z3.set _ _⟩
set_option maxHeartbeats 8000000 in
theorem un_40 (B q : Nat) (st : I8) (w : World) (S : IAt w B q st) (hn : st.n ≤ 16777216) (hs : 0 ≤ st.h.seen ∧ st.h.seen ≤ 18446744073709551615) (hp : 0 ≤ st.h.put ∧ st.h.put ≤ 18446744073709551615) (ha : aOk st.p st.s st.l st.c st.k st.n = true) (bd : ∀ x ∈ st.xs, 0 ≤ x ∧ x ≤ 18446744073709551615) (hat : st.h.at_ = 40) :
    Calls Tryz.prog 21 #[.pointer (some ⟨q, 0, none⟩)] w (Ends B q st.pv w ((st.mvO st.h.seen st.h.block).map fun t => t.to 2)) := by
  have c12 : w.cell? ⟨q, 12, none⟩ = some (.int .i64 st.h.at_) := S.is.cell 12
  rw [hat] at c12
  have hhat : Hid (st.h.at_ = 40) := hat
  clear hat
  have A := S.is
  have l1 : ∀ w', Cls w w' → (loadVar 25 ⟨q, 22, none⟩).run Tryz.prog w' = .ok (.int .u64 st.h.seen) w' := ld_i A Tryz.underlying25 rfl
  have l2 : ∀ w', Cls w w' → (loadVar 2 ⟨q, 27, none⟩).run Tryz.prog w' = .ok (.int .i64 st.h.block) w' := ld_i A Tryz.underlying2 rfl
  clear A
  cases hr : st.mvO st.h.seen st.h.block with
  | none =>
    simp only [Option.map_none]
    unfold Ends
    go_enter Tryz.func21, Tryz.ntmps21
    refine wp_scope_hop fun R hR hG => ?_
    have hG0 : Hid (_) := hG 0 _ rfl
    have hG1 : Hid (_) := hG 1 _ rfl
    clear hG
    go_upto_region 19 with fail
    refine wp_region_bar (C := Cls w) rfl rfl (by kernel_rfl) (by kernel_rfl) ⟨(Below.refl _ _).drew⟩ ?_
    simp only [List.dropLast]
    repeat' (first
      | go_big_quiet_skip
      | (go_big_quiet_want; first
        | (refine q_load _ _ _ _ rfl rfl (by assumption) ?_; simp only [Act.put, List.setIfInBounds_toArray, List.set_cons_zero, List.set_cons_succ]; go_big_quiet_on)
        | (go_big_quiet_op; first
          | go_big_quiet_on
          | (refine ⟨_, fun _ _ => rfl, ?_⟩; go_big_quiet_on))))
    refine wpQuiet_nil ?_
    intro w2 hw2
    go_wp2_with (go_at_call 54; refine (uMove B q st _ (S.keep hw2.below) hn ha _ _ hs).mono ?_; intro e w3 hE; rw [hr] at hE; obtain ⟨rfl, z3⟩ := hE)
    refine hR _ _ _ (fun l h => by cases h) ?_
    exact ⟨rfl, rfl, ((Kq.of_below hw2.below).trans z3)⟩
  | some t =>
    simp only [Option.map_some]
    unfold Ends
    go_enter Tryz.func21, Tryz.ntmps21
    refine wp_scope_hop fun R hR hG => ?_
    have hG0 : Hid (_) := hG 0 _ rfl
    have hG1 : Hid (_) := hG 1 _ rfl
    clear hG
    go_upto_region 19 with fail
    refine wp_region_bar (C := Cls w) rfl rfl (by kernel_rfl) (by kernel_rfl) ⟨(Below.refl _ _).drew⟩ ?_
    simp only [List.dropLast]
    repeat' (first
      | go_big_quiet_skip
      | (go_big_quiet_want; first
        | (refine q_load _ _ _ _ rfl rfl (by assumption) ?_; simp only [Act.put, List.setIfInBounds_toArray, List.set_cons_zero, List.set_cons_succ]; go_big_quiet_on)
        | (go_big_quiet_op; first
          | go_big_quiet_on
          | (refine ⟨_, fun _ _ => rfl, ?_⟩; go_big_quiet_on))))
    refine wpQuiet_nil ?_
    intro w2 hw2
    go_wp2_with (go_at_call 54; refine (uMove B q st _ (S.keep hw2.below) hn ha _ _ hs).mono ?_; intro e w3 hE; rw [hr] at hE; obtain ⟨rfl, S3, z3⟩ := hE; clear c12; have c12 : w3.cell? ⟨q, 12, none⟩ = some (.int .i64 t.h.at_) := S3.is.cell 12; have f12 := S3.fz 12)
    refine hR _ _ _ (fun l h => by cases h) ?_
    first | go_end0 | refine bodyPost_ret (results_none rfl _ _ _) rfl ?_
    exact ⟨rfl, S3.to 2, (((Kq.of_below hw2.below).trans z3)).set _ _⟩
set_option maxHeartbeats 8000000 in
theorem un_41 (B q : Nat) (st : I8) (w : World) (S : IAt w B q st) (hn : st.n ≤ 16777216) (hs : 0 ≤ st.h.seen ∧ st.h.seen ≤ 18446744073709551615) (hp : 0 ≤ st.h.put ∧ st.h.put ≤ 18446744073709551615) (ha : aOk st.p st.s st.l st.c st.k st.n = true) (bd : ∀ x ∈ st.xs, 0 ≤ x ∧ x ≤ 18446744073709551615) (hat : st.h.at_ = 41) :
    Calls Tryz.prog 21 #[.pointer (some ⟨q, 0, none⟩)] w (Ends B q st.pv w (some { st with h := { st.h with seen := (red st.xs (st.root 3)), block := uI (red st.xs (st.root 3)), at_ := 42 } })) := by
  have c12 : w.cell? ⟨q, 12, none⟩ = some (.int .i64 st.h.at_) := S.is.cell 12
  rw [hat] at c12
  have hhat : Hid (st.h.at_ = 41) := hat
  clear hat
  unfold Ends
  have US : Hid (∀ w, IAt w B q st → Calls Tryz.prog 50 #[.pointer (some ⟨q, 0, none⟩), .int .i64 3, .int .i64 42] w fun e w' => e = .returned (.int .i64 (uI (red st.xs (st.root 3)))) ∧ IAt w' B q { st with h := { st.h with seen := (red st.xs (st.root 3)), at_ := 42 } } ∧ Kq q st.pv w w') := fun w S => uSee B q st w S hn ha bd 3 42 (by omega)
  clear bd ha
  generalize red st.xs (st.root 3) = x at *
  go_enter Tryz.func21, Tryz.ntmps21
  refine wp_scope_hop fun R hR hG => ?_
  have hG0 : Hid (_) := hG 0 _ rfl
  have hG1 : Hid (_) := hG 1 _ rfl
  clear hG
  go_wp2_with (go_at_call 50; refine (US.out _ S).mono ?_; rintro e w3 ⟨rfl, S3, z3⟩; have c27 : w3.cell? ⟨q, 27, none⟩ = some (.int .i64 st.h.block) := S3.is.cell 27; have f27 := S3.fz 27)
  refine hR _ _ _ (fun l h => by cases h) ?_
  first | go_end0 | refine bodyPost_ret (results_none rfl _ _ _) rfl ?_
  exact ⟨rfl, S3.put (st' := { st with h := { st.h with seen := x, block := uI x, at_ := 42 } }) 27 _ (by omega) rfl rfl rfl, z3.set _ _⟩
set_option maxHeartbeats 8000000 in
theorem un_42 (B q : Nat) (st : I8) (w : World) (S : IAt w B q st) (hn : st.n ≤ 16777216) (hs : 0 ≤ st.h.seen ∧ st.h.seen ≤ 18446744073709551615) (hp : 0 ≤ st.h.put ∧ st.h.put ≤ 18446744073709551615) (ha : aOk st.p st.s st.l st.c st.k st.n = true) (bd : ∀ x ∈ st.xs, 0 ≤ x ∧ x ≤ 18446744073709551615) (hat : st.h.at_ = 42) :
    Calls Tryz.prog 21 #[.pointer (some ⟨q, 0, none⟩)] w (Ends B q st.pv w (st.grdO 5 st.h.block 43)) := by
  have c12 : w.cell? ⟨q, 12, none⟩ = some (.int .i64 st.h.at_) := S.is.cell 12
  rw [hat] at c12
  have hhat : Hid (st.h.at_ = 42) := hat
  clear hat
  have c27 : w.cell? ⟨q, 27, none⟩ = some (.int .i64 st.h.block) := S.is.cell 27
  cases hr : st.grdO 5 st.h.block 43 with
  | none =>
    unfold Ends
    go_enter Tryz.func21, Tryz.ntmps21
    refine wp_scope_hop fun R hR hG => ?_
    have hG0 : Hid (_) := hG 0 _ rfl
    have hG1 : Hid (_) := hG 1 _ rfl
    clear hG
    go_wp2_with (go_at_call 51; refine (uGuard B q st _ S hn _ _ _).mono ?_; intro e w3 hE; rw [hr] at hE; obtain ⟨rfl, z3⟩ := hE)
    refine hR _ _ _ (fun l h => by cases h) ?_
    exact ⟨rfl, rfl, z3⟩
  | some t =>
    unfold Ends
    go_enter Tryz.func21, Tryz.ntmps21
    refine wp_scope_hop fun R hR hG => ?_
    have hG0 : Hid (_) := hG 0 _ rfl
    have hG1 : Hid (_) := hG 1 _ rfl
    clear hG
    go_wp2_with (go_at_call 51; refine (uGuard B q st _ S hn _ _ _).mono ?_; intro e w3 hE; rw [hr] at hE; obtain ⟨rfl, S3, z3⟩ := hE)
    refine hR _ _ _ (fun l h => by cases h) ?_
    first | go_end0 | refine bodyPost_ret (results_none rfl _ _ _) rfl ?_
    exact ⟨rfl, S3, z3⟩
set_option maxHeartbeats 8000000 in
theorem un_43 (B q : Nat) (st : I8) (w : World) (S : IAt w B q st) (hn : st.n ≤ 16777216) (hs : 0 ≤ st.h.seen ∧ st.h.seen ≤ 18446744073709551615) (hp : 0 ≤ st.h.put ∧ st.h.put ≤ 18446744073709551615) (ha : aOk st.p st.s st.l st.c st.k st.n = true) (bd : ∀ x ∈ st.xs, 0 ≤ x ∧ x ≤ 18446744073709551615) (hat : st.h.at_ = 43) :
    Calls Tryz.prog 21 #[.pointer (some ⟨q, 0, none⟩)] w (Ends B q st.pv w (some (if red st.xs (st.root 3) = st.h.seen then (st.to 44) else st.to 41))) := by
  have c12 : w.cell? ⟨q, 12, none⟩ = some (.int .i64 st.h.at_) := S.is.cell 12
  rw [hat] at c12
  have hhat : Hid (st.h.at_ = 43) := hat
  clear hat
  have UI : Hid (∀ w, IAt w B q st → Calls Tryz.prog 52 #[.pointer (some ⟨q, 0, none⟩), .int .i64 3] w fun e w' => e = .returned (.bool (red st.xs (st.root 3) == st.h.seen)) ∧ Below w.heap.size w w') := fun w S => uIs B q st w S hn ha bd 3 (by omega)
  clear bd ha
  unfold Ends
  by_cases hk : red st.xs (st.root 3) = st.h.seen
  · rw [if_pos hk]
    have hkb : (red st.xs (st.root 3) == st.h.seen) = true := by simp [hk]
    rw [hkb] at UI
    clear hk hkb
    go_enter Tryz.func21, Tryz.ntmps21
    refine wp_scope_hop fun R hR hG => ?_
    have hG0 : Hid (_) := hG 0 _ rfl
    have hG1 : Hid (_) := hG 1 _ rfl
    clear hG
    go_wp2_with (go_at_call 52; refine (UI.out _ S).mono ?_; rintro e w3 ⟨rfl, hb⟩; have S3 := S.keep hb; clear c12; have c12 : w3.cell? ⟨q, 12, none⟩ = some (.int .i64 st.h.at_) := S3.is.cell 12; have f12 := S3.fz 12)
    refine hR _ _ _ (fun l h => by cases h) ?_
    first | go_end0 | refine bodyPost_ret (results_none rfl _ _ _) rfl ?_
    exact ⟨rfl, S3.to 44, (Kq.of_below hb).set _ _⟩
  · rw [if_neg hk]
    have hkb : (red st.xs (st.root 3) == st.h.seen) = false := by simp [hk]
    rw [hkb] at UI
    clear hk hkb
    go_enter Tryz.func21, Tryz.ntmps21
    refine wp_scope_hop fun R hR hG => ?_
    have hG0 : Hid (_) := hG 0 _ rfl
    have hG1 : Hid (_) := hG 1 _ rfl
    clear hG
    go_wp2_with (go_at_call 52; refine (UI.out _ S).mono ?_; rintro e w3 ⟨rfl, hb⟩; have S3 := S.keep hb; clear c12; have c12 : w3.cell? ⟨q, 12, none⟩ = some (.int .i64 st.h.at_) := S3.is.cell 12; have f12 := S3.fz 12)
    (try go_step3)
    refine hG1.out _ _ ?_
    go_wp2
    refine noGoto_nl ?_
    first | go_end0 | refine bodyPost_ret (results_none rfl _ _ _) rfl ?_
    exact ⟨rfl, S3.to 41, (Kq.of_below hb).set _ _⟩
set_option maxHeartbeats 8000000 in
theorem un_44 (B q : Nat) (st : I8) (w : World) (S : IAt w B q st) (hn : st.n ≤ 16777216) (hs : 0 ≤ st.h.seen ∧ st.h.seen ≤ 18446744073709551615) (hp : 0 ≤ st.h.put ∧ st.h.put ≤ 18446744073709551615) (ha : aOk st.p st.s st.l st.c st.k st.n = true) (bd : ∀ x ∈ st.xs, 0 ≤ x ∧ x ≤ 18446744073709551615) (hat : st.h.at_ = 44) :
    Calls Tryz.prog 21 #[.pointer (some ⟨q, 0, none⟩)] w (Ends B q st.pv w (st.frstO)) := by
  have c12 : w.cell? ⟨q, 12, none⟩ = some (.int .i64 st.h.at_) := S.is.cell 12
  rw [hat] at c12
  have hhat : Hid (st.h.at_ = 44) := hat
  clear hat
  cases hr : st.frstO with
  | none =>
    unfold Ends
    go_enter Tryz.func21, Tryz.ntmps21
    refine wp_scope_hop fun R hR hG => ?_
    have hG0 : Hid (_) := hG 0 _ rfl
    have hG1 : Hid (_) := hG 1 _ rfl
    clear hG
    go_wp2_with (go_at_call 56; refine (uFirst B q st _ S hn bd).mono ?_; intro e w3 hE; rw [hr] at hE; obtain ⟨rfl, z3⟩ := hE)
    refine hR _ _ _ (fun l h => by cases h) ?_
    exact ⟨rfl, rfl, z3⟩
  | some t =>
    unfold Ends
    go_enter Tryz.func21, Tryz.ntmps21
    refine wp_scope_hop fun R hR hG => ?_
    have hG0 : Hid (_) := hG 0 _ rfl
    have hG1 : Hid (_) := hG 1 _ rfl
    clear hG
    go_wp2_with (go_at_call 56; refine (uFirst B q st _ S hn bd).mono ?_; intro e w3 hE; rw [hr] at hE; obtain ⟨rfl, S3, z3⟩ := hE)
    refine hR _ _ _ (fun l h => by cases h) ?_
    first | go_end0 | refine bodyPost_ret (results_none rfl _ _ _) rfl ?_
    exact ⟨rfl, S3, z3⟩
set_option maxHeartbeats 8000000 in
theorem un_45 (B q : Nat) (st : I8) (w : World) (S : IAt w B q st) (hn : st.n ≤ 16777216) (hs : 0 ≤ st.h.seen ∧ st.h.seen ≤ 18446744073709551615) (hp : 0 ≤ st.h.put ∧ st.h.put ≤ 18446744073709551615) (ha : aOk st.p st.s st.l st.c st.k st.n = true) (bd : ∀ x ∈ st.xs, 0 ≤ x ∧ x ≤ 18446744073709551615) (hat : st.h.at_ = 45) :
    Calls Tryz.prog 21 #[.pointer (some ⟨q, 0, none⟩)] w (Ends B q st.pv w (st.grdO 6 st.h.next 46)) := by
  have c12 : w.cell? ⟨q, 12, none⟩ = some (.int .i64 st.h.at_) := S.is.cell 12
  rw [hat] at c12
  have hhat : Hid (st.h.at_ = 45) := hat
  clear hat
  have c29 : w.cell? ⟨q, 29, none⟩ = some (.int .i64 st.h.next) := S.is.cell 29
  cases hr : st.grdO 6 st.h.next 46 with
  | none =>
    unfold Ends
    go_enter Tryz.func21, Tryz.ntmps21
    refine wp_scope_hop fun R hR hG => ?_
    have hG0 : Hid (_) := hG 0 _ rfl
    have hG1 : Hid (_) := hG 1 _ rfl
    clear hG
    go_wp2_with (go_at_call 51; refine (uGuard B q st _ S hn _ _ _).mono ?_; intro e w3 hE; rw [hr] at hE; obtain ⟨rfl, z3⟩ := hE)
    refine hR _ _ _ (fun l h => by cases h) ?_
    exact ⟨rfl, rfl, z3⟩
  | some t =>
    unfold Ends
    go_enter Tryz.func21, Tryz.ntmps21
    refine wp_scope_hop fun R hR hG => ?_
    have hG0 : Hid (_) := hG 0 _ rfl
    have hG1 : Hid (_) := hG 1 _ rfl
    clear hG
    go_wp2_with (go_at_call 51; refine (uGuard B q st _ S hn _ _ _).mono ?_; intro e w3 hE; rw [hr] at hE; obtain ⟨rfl, S3, z3⟩ := hE)
    refine hR _ _ _ (fun l h => by cases h) ?_
    first | go_end0 | refine bodyPost_ret (results_none rfl _ _ _) rfl ?_
    exact ⟨rfl, S3, z3⟩
set_option maxHeartbeats 8000000 in
theorem un_46 (B q : Nat) (st : I8) (w : World) (S : IAt w B q st) (hn : st.n ≤ 16777216) (hs : 0 ≤ st.h.seen ∧ st.h.seen ≤ 18446744073709551615) (hp : 0 ≤ st.h.put ∧ st.h.put ≤ 18446744073709551615) (ha : aOk st.p st.s st.l st.c st.k st.n = true) (bd : ∀ x ∈ st.xs, 0 ≤ x ∧ x ≤ 18446744073709551615) (hat : st.h.at_ = 46) :
    Calls Tryz.prog 21 #[.pointer (some ⟨q, 0, none⟩)] w (Ends B q st.pv w (some (if red st.xs (st.root 3) = st.h.seen then ({ st with h := { st.h with from_ := st.h.next, at_ := 47 } } : I8) else st.to 41))) := by
  have c12 : w.cell? ⟨q, 12, none⟩ = some (.int .i64 st.h.at_) := S.is.cell 12
  rw [hat] at c12
  have hhat : Hid (st.h.at_ = 46) := hat
  clear hat
  have UI : Hid (∀ w, IAt w B q st → Calls Tryz.prog 52 #[.pointer (some ⟨q, 0, none⟩), .int .i64 3] w fun e w' => e = .returned (.bool (red st.xs (st.root 3) == st.h.seen)) ∧ Below w.heap.size w w') := fun w S => uIs B q st w S hn ha bd 3 (by omega)
  clear bd ha
  unfold Ends
  by_cases hk : red st.xs (st.root 3) = st.h.seen
  · rw [if_pos hk]
    have hkb : (red st.xs (st.root 3) == st.h.seen) = true := by simp [hk]
    rw [hkb] at UI
    clear hk hkb
    go_enter Tryz.func21, Tryz.ntmps21
    refine wp_scope_hop fun R hR hG => ?_
    have hG0 : Hid (_) := hG 0 _ rfl
    have hG1 : Hid (_) := hG 1 _ rfl
    clear hG
    go_wp2_with (go_at_call 52; refine (UI.out _ S).mono ?_; rintro e w3 ⟨rfl, hb⟩; have S3 := S.keep hb; clear c12; have c12 : w3.cell? ⟨q, 12, none⟩ = some (.int .i64 st.h.at_) := S3.is.cell 12; have f12 := S3.fz 12; have c28 : w3.cell? ⟨q, 28, none⟩ = some (.int .i64 st.h.from_) := S3.is.cell 28; have f28 := S3.fz 28; have c29 : w3.cell? ⟨q, 29, none⟩ = some (.int .i64 st.h.next) := S3.is.cell 29)
    refine hR _ _ _ (fun l h => by cases h) ?_
    first | go_end0 | refine bodyPost_ret (results_none rfl _ _ _) rfl ?_
    exact ⟨rfl, (S3.put (st' := { st with h := { st.h with from_ := st.h.next } }) 28 _ (by omega) rfl rfl rfl).put 12 _ (by omega) rfl rfl rfl, ((Kq.of_below hb).set _ _).set _ _⟩
  · rw [if_neg hk]
    have hkb : (red st.xs (st.root 3) == st.h.seen) = false := by simp [hk]
    rw [hkb] at UI
    clear hk hkb
    go_enter Tryz.func21, Tryz.ntmps21
    refine wp_scope_hop fun R hR hG => ?_
    have hG0 : Hid (_) := hG 0 _ rfl
    have hG1 : Hid (_) := hG 1 _ rfl
    clear hG
    go_wp2_with (go_at_call 52; refine (UI.out _ S).mono ?_; rintro e w3 ⟨rfl, hb⟩; have S3 := S.keep hb; clear c12; have c12 : w3.cell? ⟨q, 12, none⟩ = some (.int .i64 st.h.at_) := S3.is.cell 12; have f12 := S3.fz 12)
    (try go_step3)
    refine hG1.out _ _ ?_
    go_wp2
    refine noGoto_nl ?_
    first | go_end0 | refine bodyPost_ret (results_none rfl _ _ _) rfl ?_
    exact ⟨rfl, S3.to 41, (Kq.of_below hb).set _ _⟩
set_option maxHeartbeats 8000000 in
theorem un_47 (B q : Nat) (st : I8) (w : World) (S : IAt w B q st) (hn : st.n ≤ 16777216) (hs : 0 ≤ st.h.seen ∧ st.h.seen ≤ 18446744073709551615) (hp : 0 ≤ st.h.put ∧ st.h.put ≤ 18446744073709551615) (ha : aOk st.p st.s st.l st.c st.k st.n = true) (bd : ∀ x ∈ st.xs, 0 ≤ x ∧ x ≤ 18446744073709551615) (hat : st.h.at_ = 47) :
    Calls Tryz.prog 21 #[.pointer (some ⟨q, 0, none⟩)] w (Ends B q st.pv w (st.lagO)) := by
  have c12 : w.cell? ⟨q, 12, none⟩ = some (.int .i64 st.h.at_) := S.is.cell 12
  rw [hat] at c12
  have hhat : Hid (st.h.at_ = 47) := hat
  clear hat
  cases hr : st.lagO with
  | none =>
    unfold Ends
    go_enter Tryz.func21, Tryz.ntmps21
    refine wp_scope_hop fun R hR hG => ?_
    have hG0 : Hid (_) := hG 0 _ rfl
    have hG1 : Hid (_) := hG 1 _ rfl
    clear hG
    go_wp2_with (go_at_call 57; refine (uLag B q st _ S hn ha bd).mono ?_; intro e w3 hE; rw [hr] at hE; obtain ⟨rfl, z3⟩ := hE)
    refine hR _ _ _ (fun l h => by cases h) ?_
    exact ⟨rfl, rfl, z3⟩
  | some t =>
    unfold Ends
    go_enter Tryz.func21, Tryz.ntmps21
    refine wp_scope_hop fun R hR hG => ?_
    have hG0 : Hid (_) := hG 0 _ rfl
    have hG1 : Hid (_) := hG 1 _ rfl
    clear hG
    go_wp2_with (go_at_call 57; refine (uLag B q st _ S hn ha bd).mono ?_; intro e w3 hE; rw [hr] at hE; obtain ⟨rfl, S3, z3⟩ := hE)
    refine hR _ _ _ (fun l h => by cases h) ?_
    first | go_end0 | refine bodyPost_ret (results_none rfl _ _ _) rfl ?_
    exact ⟨rfl, S3, z3⟩
set_option maxHeartbeats 8000000 in
theorem un_48 (B q : Nat) (st : I8) (w : World) (S : IAt w B q st) (hn : st.n ≤ 16777216) (hs : 0 ≤ st.h.seen ∧ st.h.seen ≤ 18446744073709551615) (hp : 0 ≤ st.h.put ∧ st.h.put ≤ 18446744073709551615) (ha : aOk st.p st.s st.l st.c st.k st.n = true) (bd : ∀ x ∈ st.xs, 0 ≤ x ∧ x ≤ 18446744073709551615) (hat : st.h.at_ = 48) :
    Calls Tryz.prog 21 #[.pointer (some ⟨q, 0, none⟩)] w (Ends B q st.pv w ((st.mvO st.h.put st.h.next).map fun t => t.to 29)) := by
  have c12 : w.cell? ⟨q, 12, none⟩ = some (.int .i64 st.h.at_) := S.is.cell 12
  rw [hat] at c12
  have hhat : Hid (st.h.at_ = 48) := hat
  clear hat
  have A := S.is
  have l1 : ∀ w', Cls w w' → (loadVar 25 ⟨q, 23, none⟩).run Tryz.prog w' = .ok (.int .u64 st.h.put) w' := ld_i A Tryz.underlying25 rfl
  have l2 : ∀ w', Cls w w' → (loadVar 2 ⟨q, 29, none⟩).run Tryz.prog w' = .ok (.int .i64 st.h.next) w' := ld_i A Tryz.underlying2 rfl
  clear A
  cases hr : st.mvO st.h.put st.h.next with
  | none =>
    simp only [Option.map_none]
    unfold Ends
    go_enter Tryz.func21, Tryz.ntmps21
    refine wp_scope_hop fun R hR hG => ?_
    have hG0 : Hid (_) := hG 0 _ rfl
    have hG1 : Hid (_) := hG 1 _ rfl
    clear hG
    go_upto_region 38 with fail
    refine wp_region_bar (C := Cls w) rfl rfl (by kernel_rfl) (by kernel_rfl) ⟨(Below.refl _ _).drew⟩ ?_
    simp only [List.dropLast]
    repeat' (first
      | go_big_quiet_skip
      | (go_big_quiet_want; first
        | (refine q_load _ _ _ _ rfl rfl (by assumption) ?_; simp only [Act.put, List.setIfInBounds_toArray, List.set_cons_zero, List.set_cons_succ]; go_big_quiet_on)
        | (go_big_quiet_op; first
          | go_big_quiet_on
          | (refine ⟨_, fun _ _ => rfl, ?_⟩; go_big_quiet_on))))
    refine wpQuiet_nil ?_
    intro w2 hw2
    go_wp2_with (go_at_call 54; refine (uMove B q st _ (S.keep hw2.below) hn ha _ _ hp).mono ?_; intro e w3 hE; rw [hr] at hE; obtain ⟨rfl, z3⟩ := hE)
    refine hR _ _ _ (fun l h => by cases h) ?_
    exact ⟨rfl, rfl, ((Kq.of_below hw2.below).trans z3)⟩
  | some t =>
    simp only [Option.map_some]
    unfold Ends
    go_enter Tryz.func21, Tryz.ntmps21
    refine wp_scope_hop fun R hR hG => ?_
    have hG0 : Hid (_) := hG 0 _ rfl
    have hG1 : Hid (_) := hG 1 _ rfl
    clear hG
    go_upto_region 38 with fail
    refine wp_region_bar (C := Cls w) rfl rfl (by kernel_rfl) (by kernel_rfl) ⟨(Below.refl _ _).drew⟩ ?_
    simp only [List.dropLast]
    repeat' (first
      | go_big_quiet_skip
      | (go_big_quiet_want; first
        | (refine q_load _ _ _ _ rfl rfl (by assumption) ?_; simp only [Act.put, List.setIfInBounds_toArray, List.set_cons_zero, List.set_cons_succ]; go_big_quiet_on)
        | (go_big_quiet_op; first
          | go_big_quiet_on
          | (refine ⟨_, fun _ _ => rfl, ?_⟩; go_big_quiet_on))))
    refine wpQuiet_nil ?_
    intro w2 hw2
    go_wp2_with (go_at_call 54; refine (uMove B q st _ (S.keep hw2.below) hn ha _ _ hp).mono ?_; intro e w3 hE; rw [hr] at hE; obtain ⟨rfl, S3, z3⟩ := hE; clear c12; have c12 : w3.cell? ⟨q, 12, none⟩ = some (.int .i64 t.h.at_) := S3.is.cell 12; have f12 := S3.fz 12)
    refine hR _ _ _ (fun l h => by cases h) ?_
    first | go_end0 | refine bodyPost_ret (results_none rfl _ _ _) rfl ?_
    exact ⟨rfl, S3.to 29, (((Kq.of_below hw2.below).trans z3)).set _ _⟩
def I8.unext (st : I8) : Option I8 :=
  if st.h.at_ = 33 then ((st.wrO (st.blk 1) 0 0 0 0).map fun t => t.to 34) else
  if st.h.at_ = 34 then (some { st with h := { st.h with seen := red st.xs (st.root 4), from_ := uI (red st.xs (st.root 4)), at_ := 35 } }) else
  if st.h.at_ = 35 then (st.grdO 5 st.h.from_ 36) else
  if st.h.at_ = 36 then (some (if red st.xs (st.root 4) = st.h.seen then st.to 37 else st.to 34)) else
  if st.h.at_ = 37 then (st.lastO) else
  if st.h.at_ = 38 then ((st.mvO st.h.seen st.h.next).map fun t => t.to 34) else
  if st.h.at_ = 39 then (if st.lkOk = true then some (if swaps st.xs (st.lnk st.h.from_) 0 = true then st.lkD.to 40 else st.lkT.to 34) else none) else
  if st.h.at_ = 40 then ((st.mvO st.h.seen st.h.block).map fun t => t.to 2) else
  if st.h.at_ = 41 then (some { st with h := { st.h with seen := red st.xs (st.root 3), block := uI (red st.xs (st.root 3)), at_ := 42 } }) else
  if st.h.at_ = 42 then (st.grdO 5 st.h.block 43) else
  if st.h.at_ = 43 then (some (if red st.xs (st.root 3) = st.h.seen then st.to 44 else st.to 41)) else
  if st.h.at_ = 44 then (st.frstO) else
  if st.h.at_ = 45 then (st.grdO 6 st.h.next 46) else
  if st.h.at_ = 46 then (some (if red st.xs (st.root 3) = st.h.seen then { st with h := { st.h with from_ := st.h.next, at_ := 47 } } else st.to 41)) else
  if st.h.at_ = 47 then (st.lagO) else
  ((st.mvO st.h.put st.h.next).map fun t => t.to 29)
theorem uNext (B q : Nat) (st : I8) (w : World) (S : IAt w B q st) (hn : st.n ≤ 16777216) (hs : 0 ≤ st.h.seen ∧ st.h.seen ≤ 18446744073709551615) (hp : 0 ≤ st.h.put ∧ st.h.put ≤ 18446744073709551615) (ha : aOk st.p st.s st.l st.c st.k st.n = true) (bd : ∀ x ∈ st.xs, 0 ≤ x ∧ x ≤ 18446744073709551615) (hat : 33 ≤ st.h.at_ ∧ st.h.at_ ≤ 48) :
    Calls Tryz.prog 21 #[.pointer (some ⟨q, 0, none⟩)] w (Ends B q st.pv w st.unext) := by
  unfold I8.unext
  by_cases k33 : st.h.at_ = 33
  · rw [if_pos k33]; exact un_33 B q st w S hn hs hp ha bd k33
  rw [if_neg k33]
  by_cases k34 : st.h.at_ = 34
  · rw [if_pos k34]; exact un_34 B q st w S hn hs hp ha bd k34
  rw [if_neg k34]
  by_cases k35 : st.h.at_ = 35
  · rw [if_pos k35]; exact un_35 B q st w S hn hs hp ha bd k35
  rw [if_neg k35]
  by_cases k36 : st.h.at_ = 36
  · rw [if_pos k36]; exact un_36 B q st w S hn hs hp ha bd k36
  rw [if_neg k36]
  by_cases k37 : st.h.at_ = 37
  · rw [if_pos k37]; exact un_37 B q st w S hn hs hp ha bd k37
  rw [if_neg k37]
  by_cases k38 : st.h.at_ = 38
  · rw [if_pos k38]; exact un_38 B q st w S hn hs hp ha bd k38
  rw [if_neg k38]
  by_cases k39 : st.h.at_ = 39
  · rw [if_pos k39]; exact un_39 B q st w S hn hs hp ha bd k39
  rw [if_neg k39]
  by_cases k40 : st.h.at_ = 40
  · rw [if_pos k40]; exact un_40 B q st w S hn hs hp ha bd k40
  rw [if_neg k40]
  by_cases k41 : st.h.at_ = 41
  · rw [if_pos k41]; exact un_41 B q st w S hn hs hp ha bd k41
  rw [if_neg k41]
  by_cases k42 : st.h.at_ = 42
  · rw [if_pos k42]; exact un_42 B q st w S hn hs hp ha bd k42
  rw [if_neg k42]
  by_cases k43 : st.h.at_ = 43
  · rw [if_pos k43]; exact un_43 B q st w S hn hs hp ha bd k43
  rw [if_neg k43]
  by_cases k44 : st.h.at_ = 44
  · rw [if_pos k44]; exact un_44 B q st w S hn hs hp ha bd k44
  rw [if_neg k44]
  by_cases k45 : st.h.at_ = 45
  · rw [if_pos k45]; exact un_45 B q st w S hn hs hp ha bd k45
  rw [if_neg k45]
  by_cases k46 : st.h.at_ = 46
  · rw [if_pos k46]; exact un_46 B q st w S hn hs hp ha bd k46
  rw [if_neg k46]
  by_cases k47 : st.h.at_ = 47
  · rw [if_pos k47]; exact un_47 B q st w S hn hs hp ha bd k47
  rw [if_neg k47]
  exact un_48 B q st w S hn hs hp ha bd (by omega)
end Go.Proofs.YtgmoemjiffglbaaGreat
namespace Go.Proofs.YtgmoemjiffglbaaGreat
open Go.RowKit
set_option maxRecDepth 100000
set_option linter.unusedVariables false
set_option linter.unusedSimpArgs false
theorem Nc.swp2 {a b : S8} (h : Nc a b) (k p i v at_ y : Int) : Nc a ((b.wrd k p i v).swp at_ y (wv k p i v)).2 := (h.wrd _ _ _ _).swp _ _ _ (wv_bd _ _ _ _)
theorem Nc.pull {a b : S8} (h : Nc a b) (y k : Int) : Nc a (b.pull y k) := h.swp2 _ _ _ _ _ _
theorem Nc.rd9 {a b : S8} (h : Nc a b) (x : Int) : Nc a (b.rd9 x) := (h.rdS _).hand _
theorem Nc.to {a b : S8} (h : Nc a b) (x : Int) : Nc a (b.to x) := h.hand _
theorem nc11 {s : S8} (h : Nc s s) : Nc s s.go11 := by
  unfold S8.go11
  by_cases k33 : s.h.at_ = 33
  · rw [if_pos k33]
    exact (h.wr _ 0 ⟨by omega, by omega⟩).to _
  rw [if_neg k33]
  by_cases k34 : s.h.at_ = 34
  · rw [if_pos k34]
    exact (h.rd9 _).hand _
  rw [if_neg k34]
  by_cases k35 : s.h.at_ = 35
  · rw [if_pos k35]
    exact (h.put _ _ _ _ _).to _
  rw [if_neg k35]
  by_cases k36 : s.h.at_ = 36
  · rw [if_pos k36]
    unfold S8.agn
    split
    · exact ((h.to _).rdS _).to _
    · exact (h.to _).rdS _
  rw [if_neg k36]
  by_cases k37 : s.h.at_ = 37
  · rw [if_pos k37]
    exact ((h.rdS _).hand _).to _
  rw [if_neg k37]
  by_cases k38 : s.h.at_ = 38
  · rw [if_pos k38]
    exact (h.pull _ _).to _
  rw [if_neg k38]
  by_cases k39 : s.h.at_ = 39
  · rw [if_pos k39]
    unfold S8.linkUp S8.linkW
    have k : Nc s (((s.to 34).wrd 0 s.h.for_ s.h.block s.h.last).swp s.lnk 0 (wv 0 s.h.for_ s.h.block s.h.last)).2 := (h.to _).swp2 _ _ _ _ _ _
    split
    · exact ((k.hand _).deed _).to _
    · exact k
  rw [if_neg k39]
  by_cases k40 : s.h.at_ = 40
  · rw [if_pos k40]
    exact (h.pull _ _).to _
  rw [if_neg k40]
  by_cases k41 : s.h.at_ = 41
  · rw [if_pos k41]
    exact (h.rd9 _).hand _
  rw [if_neg k41]
  by_cases k42 : s.h.at_ = 42
  · rw [if_pos k42]
    exact (h.put _ _ _ _ _).to _
  rw [if_neg k42]
  by_cases k43 : s.h.at_ = 43
  · rw [if_pos k43]
    unfold S8.agn
    split
    · exact ((h.to _).rdS _).to _
    · exact (h.to _).rdS _
  rw [if_neg k43]
  by_cases k44 : s.h.at_ = 44
  · rw [if_pos k44]
    unfold S8.first11 S8.nx11
    split
    · exact Nc.reply ((h.rdS _).hand _) _ _
    · exact Nc.to ((h.rdS _).hand _) _
  rw [if_neg k44]
  by_cases k45 : s.h.at_ = 45
  · rw [if_pos k45]
    exact (h.put _ _ _ _ _).to _
  rw [if_neg k45]
  by_cases k46 : s.h.at_ = 46
  · rw [if_pos k46]
    unfold S8.agn46
    split
    · exact ((h.to _).rdS _).hand _
    · exact (h.to _).rdS _
  rw [if_neg k46]
  by_cases k47 : s.h.at_ = 47
  · rw [if_pos k47]
    unfold S8.lag11
    split
    · exact (h.rdS _).hand _
    · exact (h.rdS _).to _
  rw [if_neg k47]
  exact (h.pull _ _).to _
end Go.Proofs.YtgmoemjiffglbaaGreat
namespace Go.Proofs.YtgmoemjiffglbaaGreat
open Go.RowKit
set_option maxRecDepth 100000
set_option linter.unusedVariables false
set_option linter.unusedSimpArgs false
theorem Sm.rt {s : S8} {t : I8} (M : Sm s t) (r : Int) : s.root r = t.root r := by unfold S8.root I8.root; rw [M.p, M.ss, M.l, M.c, M.k]
theorem Sm.lnk {s : S8} {t : I8} (M : Sm s t) : s.lnk = t.lnk t.h.from_ := by unfold S8.lnk I8.lnk; rw [M.p, M.ss, M.l, M.c, M.k, M.h]
theorem ex_bad {s : S8} {a k p i v y : Int} (h : wOk k p i v = false ∨ thr a s.n = false) : ((s.wrd k p i v).swp a y (wv k p i v)).1 = false ∧ ((s.wrd k p i v).swp a y (wv k p i v)).2.ok = false := by
  have hb : ((s.wrd k p i v).rdS a).ok = false := by
    rcases h with h | h
    · exact rdS_bad (by unfold S8.wrd; rw [h]; rfl) a
    · unfold S8.rdS
      rw [S8.wrd_n, h]
      rfl
  unfold S8.swp
  rw [if_pos (.inr hb)]
  exact ⟨rfl, hb⟩
theorem sm_ex {s : S8} {t : I8} (M : Sm s t) (ok : s.ok = true) (a y k p i v : Int) (hw : wOk k p i v = true) (ht : thr a t.n = true) : ((s.wrd k p i v).swp a y (wv k p i v)).1 = swaps t.xs a y ∧ Sm ((s.wrd k p i v).swp a y (wv k p i v)).2 (t.exT a y (pk k p i v)) ∧ ((s.wrd k p i v).swp a y (wv k p i v)).2.ok = true := by
  have e1 : wv k p i v = pk k p i v := by unfold wv; rw [hw]; rfl
  have e2 : s.wrd k p i v = s := by unfold S8.wrd; rw [hw]; rfl
  have hl : t.xs.length = t.n := by rw [← M.ar, M.len, M.n]
  rw [e1, e2]
  have e3 : s.rdS a = s := M.rdY ht
  have e4 : swaps t.xs a y = (red t.xs a == y) := sw_red hl ht
  by_cases hy : red t.xs a = y
  · have hs : swaps t.xs a y = true := by rw [e4]; simp [hy]
    have e5 : s.swp a y (pk k p i v) = (true, s.wr a (pk k p i v)) := by
      unfold S8.swp
      rw [e3, M.rd, if_neg (by rw [ok]; simpa using hy)]
    rw [e5, hs]
    have H := agr_wr M ok a (pk k p i v) k p i v hw rfl
    have e6 : t.wrO a k p i v = some (t.exT a y (pk k p i v)) := by
      unfold I8.wrO I8.exT wrote swapped
      rw [if_pos ⟨hw, ht⟩, hl, ht, hs]
    rw [e6] at H
    exact ⟨rfl, H.1, H.2⟩
  · have hs : swaps t.xs a y = false := by rw [e4]; simp [hy]
    have e5 : s.swp a y (pk k p i v) = (false, s) := by
      unfold S8.swp
      rw [e3, M.rd, if_pos (.inl hy)]
    rw [e5, hs, exT_no hs]
    exact ⟨rfl, M, ok⟩
theorem agr_pull {s : S8} {t : I8} (M : Sm s t) (ok : s.ok = true) (ha : aOk t.p t.s t.l t.c t.k t.n = true) (y b : Int) : Agr (s.pull y b) (t.mvO y b) := by
  have ht : thr (t.root 4) t.n = true := root_thr ha (by omega) (by omega)
  have e : IntKind.i64.wrap (uS y + 1) = wrap64 (uS y + 1) := by simp only [IntKind.wrap_i64, wrap64]
  unfold S8.pull I8.mvO
  rw [e, M.rt]
  cases hw : wOk 0 0 b (wrap64 (uS y + 1))
  · rw [if_neg (by decide)]
    exact (ex_bad (.inl hw)).2
  · rw [if_pos rfl]
    exact (sm_ex M ok _ y 0 0 b _ hw ht).2
def I8.linkO (t : I8) : Option I8 := if t.lkOk = true then some (if swaps t.xs (t.lnk t.h.from_) 0 = true then t.lkD.to 40 else t.lkT.to 34) else none
theorem agr_linkUp {s : S8} {t : I8} (M : Sm s t) (ok : s.ok = true) : Agr s.linkUp t.linkO := by
  have N : Sm (s.to 34) (t.to 34) := M.hand (fun h => { h with at_ := 34 })
  have ok2 : (s.to 34).ok = true := ok
  unfold S8.linkUp S8.linkW I8.linkO
  rw [M.lnk, M.h]
  cases hw : wOk 0 t.h.for_ t.h.block t.h.last
  · obtain ⟨h1, h2⟩ := ex_bad (s := s.to 34) (a := t.lnk t.h.from_) (y := 0) (.inl hw)
    have hk : t.lkOk = false := by unfold I8.lkOk; rw [hw]; rfl
    rw [h1, hk, if_neg (by decide), if_neg (by decide)]
    exact h2
  · cases ht : thr (t.lnk t.h.from_) t.n
    · obtain ⟨h1, h2⟩ := ex_bad (s := s.to 34) (a := t.lnk t.h.from_) (k := 0) (p := t.h.for_) (i := t.h.block) (v := t.h.last) (y := 0) (.inr (by show thr _ s.n = false; rw [M.n]; exact ht))
      have hk : t.lkOk = false := by unfold I8.lkOk; rw [hw, ht]; rfl
      rw [h1, hk, if_neg (by decide), if_neg (by decide)]
      exact h2
    · obtain ⟨h1, h2, h3⟩ := sm_ex N ok2 (t.lnk t.h.from_) 0 0 t.h.for_ t.h.block t.h.last hw ht
      have e : swaps (t.to 34).xs (t.lnk t.h.from_) 0 = swaps t.xs (t.lnk t.h.from_) 0 := rfl
      have hk : t.lkOk = true := by unfold I8.lkOk; rw [hw, ht]; rfl
      rw [h1, e, hk]
      clear h1 e
      cases hd : swaps t.xs (t.lnk t.h.from_) 0
      · rw [if_neg (by decide), if_pos rfl, if_neg (by decide)]
        exact ⟨h2, h3⟩
      · rw [if_pos rfl, if_pos rfl, if_pos rfl]
        unfold S8.ret11
        generalize (((s.to 34).wrd 0 t.h.for_ t.h.block t.h.last).swp (t.lnk t.h.from_) 0 (wv 0 t.h.for_ t.h.block t.h.last)).2 = V at *
        have hh : V.h = { t.h with at_ := 34 } := h2.h
        refine ⟨⟨h2.p, h2.ss, h2.l, h2.c, h2.k, h2.n, h2.ar, h2.len, ?_, ?_⟩, h3⟩
        · show ({ V.h with reply := 1, out := 0, at_ := 40 } : Hd) = _
          rw [hh]
          rfl
        · show Hd.told { V.h with reply := 1, out := 0 } 5 = _
          rw [hh]
          rfl
theorem agr_see {s : S8} {t : I8} (M : Sm s t) (ok : s.ok = true) (ha : aOk t.p t.s t.l t.c t.k t.n = true) (r : Int) (hr : 0 ≤ r ∧ r ≤ 4) (f : Int → Hd → Hd) : Agr { (s.rd9 (s.root r)) with h := f (s.rd (s.root r)) (s.rd9 (s.root r)).h } (some { t with h := f (red t.xs (t.root r)) { t.h with seen := red t.xs (t.root r) } }) := by
  have ht : thr (t.root r) t.n = true := root_thr ha hr.1 hr.2
  unfold S8.rd9
  rw [M.rt, M.rdY ht, M.rd]
  exact ⟨M.hand (fun h => f (red t.xs (t.root r)) { h with seen := red t.xs (t.root r) }), ok⟩
theorem agr_agn {s : S8} {t : I8} (M : Sm s t) (ok : s.ok = true) (ha : aOk t.p t.s t.l t.c t.k t.n = true) (back r : Int) (hr : 0 ≤ r ∧ r ≤ 4) (F : S8 → S8) (f : Hd → Hd) (hF : ∀ s, F s = { s with h := f s.h }) (hf : f { t.h with at_ := back } = f t.h) :
    Agr (if (s.to back).rd ((s.to back).root r) = s.h.seen then F ((s.to back).rdS ((s.to back).root r)) else (s.to back).rdS ((s.to back).root r)) (some (if red t.xs (t.root r) = t.h.seen then { t with h := f t.h } else t.to back)) := by
  have ht : thr (t.root r) t.n = true := root_thr ha hr.1 hr.2
  have N : Sm (s.to back) (t.to back) := M.hand (fun h => { h with at_ := back })
  have e1 : (s.to back).root r = t.root r := N.rt r
  have e2 : (s.to back).rd (t.root r) = red t.xs (t.root r) := N.rd _
  have e3 : (s.to back).rdS (t.root r) = s.to back := N.rdY ht
  have e4 : s.h.seen = t.h.seen := by rw [M.h]
  rw [e1, e2, e3, e4]
  by_cases hk : red t.xs (t.root r) = t.h.seen
  · rw [if_pos hk, if_pos hk, hF]
    refine ⟨?_, ok⟩
    have := N.hand f
    rw [show ({ (t.to back) with h := f (t.to back).h } : I8) = { t with h := f t.h } from by show ({ t with h := f { t.h with at_ := back } } : I8) = _; rw [hf]] at this
    exact this
  · rw [if_neg hk, if_neg hk]
    exact ⟨N, ok⟩
theorem agr_last {s : S8} {t : I8} (M : Sm s t) (ok : s.ok = true) : Agr s.last11 t.lastO := by
  unfold S8.last11 I8.lastO
  rw [M.lnk]
  cases ht : thr (t.lnk t.h.from_) t.n
  · rw [if_neg (show ¬ (false = true) by decide)]
    exact M.rdN ht
  · rw [if_pos (show true = true from rfl), M.rdY ht, M.rd]
    exact ⟨M.hand (fun h => { h with next := uI (red t.xs (t.lnk t.h.from_)), at_ := if uI (red t.xs (t.lnk t.h.from_)) = 0 then 39 else 38 }), ok⟩
theorem agr_first {s : S8} {t : I8} (M : Sm s t) (ok : s.ok = true) : Agr s.first11 t.frstO := by
  have e : s.blk 1 = t.lnk t.h.block := by rw [M.blk]; rfl
  unfold S8.first11 S8.nx11 I8.frstO
  rw [e]
  cases ht : thr (t.lnk t.h.block) t.n
  · rw [if_neg (show ¬ (false = true) by decide)]
    have hb := M.rdN ht
    split
    · rw [reply_e]; exact hb
    · exact hb
  · rw [if_pos (show true = true from rfl), M.rdY ht, M.rd]
    by_cases h0 : uI (red t.xs (t.lnk t.h.block)) = 0
    · rw [if_pos h0, if_pos h0, reply_e]
      exact ⟨M.hand (fun h => { h with next := uI (red t.xs (t.lnk t.h.block)), reply := 3, out := 0, at_ := 2 }), ok⟩
    · rw [if_neg h0, if_neg h0]
      exact ⟨M.hand (fun h => { h with next := uI (red t.xs (t.lnk t.h.block)), at_ := 45 }), ok⟩
theorem agr_lag {s : S8} {t : I8} (M : Sm s t) (ok : s.ok = true) (ha : aOk t.p t.s t.l t.c t.k t.n = true) : Agr s.lag11 t.lagO := by
  have ht : thr (t.root 4) t.n = true := root_thr ha (by omega) (by omega)
  have e : s.h.block = t.h.block := by rw [M.h]
  unfold S8.lag11 I8.lagO
  rw [M.rt, M.rdY ht, M.rd, e]
  by_cases hk : uI (red t.xs (t.root 4)) = t.h.block
  · rw [if_pos hk, if_pos hk]
    exact ⟨M.hand (fun h => { h with put := red t.xs (t.root 4), at_ := 48 }), ok⟩
  · rw [if_neg hk, if_neg hk]
    exact ⟨M.hand (fun h => { h with at_ := 29 }), ok⟩
theorem join11 {s : S8} {t : I8} (M : Sm s t) (ok : s.ok = true) (ha : aOk t.p t.s t.l t.c t.k t.n = true) (hu : t.h.up = true) : Fin s.go11 t.unext := by
  refine Agr.fin ?_
  have hc : s.h.at_ = t.h.at_ := by rw [M.h]
  unfold S8.go11 I8.unext
  rw [hc]
  by_cases k33 : t.h.at_ = 33
  · rw [if_pos k33, if_pos k33]
    rw [M.blk]
    exact (agr_wr M ok _ _ _ _ _ _ wOk_zero rfl).to 34
  rw [if_neg k33, if_neg k33]
  by_cases k34 : t.h.at_ = 34
  · rw [if_pos k34, if_pos k34]
    exact agr_see M ok ha 4 (by omega) (fun x h => { h with from_ := uI x, at_ := 35 })
  rw [if_neg k34, if_neg k34]
  by_cases k35 : t.h.at_ = 35
  · rw [if_pos k35, if_pos k35]
    unfold I8.grdO
    rw [M.slot, M.h]
    exact (agr_put M ok _ _ _ _ _).to 36
  rw [if_neg k35, if_neg k35]
  by_cases k36 : t.h.at_ = 36
  · rw [if_pos k36, if_pos k36]
    exact agr_agn M ok ha 34 4 (by omega) (fun s => s.to 37) (fun h => { h with at_ := 37 }) (fun s => rfl) rfl
  rw [if_neg k36, if_neg k36]
  by_cases k37 : t.h.at_ = 37
  · rw [if_pos k37, if_pos k37]
    exact agr_last M ok
  rw [if_neg k37, if_neg k37]
  by_cases k38 : t.h.at_ = 38
  · rw [if_pos k38, if_pos k38]
    rw [M.h]
    exact (agr_pull M ok ha _ _).to 34
  rw [if_neg k38, if_neg k38]
  by_cases k39 : t.h.at_ = 39
  · rw [if_pos k39, if_pos k39]
    exact agr_linkUp M ok
  rw [if_neg k39, if_neg k39]
  by_cases k40 : t.h.at_ = 40
  · rw [if_pos k40, if_pos k40]
    rw [M.h]
    exact (agr_pull M ok ha _ _).to 2
  rw [if_neg k40, if_neg k40]
  by_cases k41 : t.h.at_ = 41
  · rw [if_pos k41, if_pos k41]
    exact agr_see M ok ha 3 (by omega) (fun x h => { h with block := uI x, at_ := 42 })
  rw [if_neg k41, if_neg k41]
  by_cases k42 : t.h.at_ = 42
  · rw [if_pos k42, if_pos k42]
    unfold I8.grdO
    rw [M.slot, M.h]
    exact (agr_put M ok _ _ _ _ _).to 43
  rw [if_neg k42, if_neg k42]
  by_cases k43 : t.h.at_ = 43
  · rw [if_pos k43, if_pos k43]
    exact agr_agn M ok ha 41 3 (by omega) (fun s => s.to 44) (fun h => { h with at_ := 44 }) (fun s => rfl) rfl
  rw [if_neg k43, if_neg k43]
  by_cases k44 : t.h.at_ = 44
  · rw [if_pos k44, if_pos k44]
    exact agr_first M ok
  rw [if_neg k44, if_neg k44]
  by_cases k45 : t.h.at_ = 45
  · rw [if_pos k45, if_pos k45]
    unfold I8.grdO
    rw [M.slot, M.h]
    exact (agr_put M ok _ _ _ _ _).to 46
  rw [if_neg k45, if_neg k45]
  by_cases k46 : t.h.at_ = 46
  · rw [if_pos k46, if_pos k46]
    exact agr_agn M ok ha 41 3 (by omega) S8.still11 (fun h => { h with from_ := h.next, at_ := 47 }) (fun s => rfl) rfl
  rw [if_neg k46, if_neg k46]
  by_cases k47 : t.h.at_ = 47
  · rw [if_pos k47, if_pos k47]
    exact agr_lag M ok ha
  rw [if_neg k47, if_neg k47]
  rw [M.h]
  exact (agr_pull M ok ha _ _).to 29
theorem Meas.exT {t : I8} {a y k p i v : Int} (hw : wOk k p i v = true) : Meas t (t.exT a y (pk k p i v)) := ⟨rfl, rfl, rfl, rfl, rfl, rfl, fun b => swapped_bd b (pk_bd hw) a y⟩
theorem Meas.mvO {st t : I8} {y b : Int} (h : st.mvO y b = some t) : Meas st t := by
  unfold I8.mvO at h
  split at h
  · rename_i hw
    cases h
    exact Meas.exT hw
  · cases h
theorem Meas.at11 {st t : I8} {o : Option I8} {x : Int} (H : ∀ u, o = some u → Meas st u) (h : (o.map fun u => u.to x) = some t) : Meas st t := by
  cases o with
  | none => cases h
  | some u =>
    cases h
    exact (H u rfl).trans (Meas.hand u _)
theorem Meas.grdO {st t : I8} {f b x : Int} (h : st.grdO f b x = some t) : Meas st t := Meas.at11 (fun u e => Meas.wrO e) h
theorem Meas.linkO {st t : I8} (h : st.linkO = some t) : Meas st t := by
  unfold I8.linkO at h
  cases hk : st.lkOk
  · rw [hk, if_neg (by decide)] at h; cases h
  · rw [hk, if_pos rfl] at h
    have hw : wOk 0 st.h.for_ st.h.block st.h.last = true := by
      unfold I8.lkOk at hk
      simp at hk
      exact hk.1
    have m : Meas st st.lkT := Meas.exT hw
    cases h
    by_cases hd : swaps st.xs (st.lnk st.h.from_) 0 = true
    · rw [if_pos hd]; exact m.trans ⟨rfl, rfl, rfl, rfl, rfl, rfl, id⟩
    · rw [if_neg hd]; exact m.trans (Meas.hand _ _)
theorem Meas.unext {st t : I8} (h : st.unext = some t) : Meas st t := by
  unfold I8.unext at h
  by_cases k33 : st.h.at_ = 33
  · rw [if_pos k33] at h
    exact Meas.at11 (fun u e => Meas.wrO e) h
  rw [if_neg k33] at h
  by_cases k34 : st.h.at_ = 34
  · rw [if_pos k34] at h
    cases h; exact Meas.hand st _
  rw [if_neg k34] at h
  by_cases k35 : st.h.at_ = 35
  · rw [if_pos k35] at h
    exact Meas.grdO h
  rw [if_neg k35] at h
  by_cases k36 : st.h.at_ = 36
  · rw [if_pos k36] at h
    cases h; split <;> exact Meas.hand st _
  rw [if_neg k36] at h
  by_cases k37 : st.h.at_ = 37
  · rw [if_pos k37] at h
    unfold I8.lastO at h
    split at h
    · cases h; exact Meas.hand st _
    · cases h
  rw [if_neg k37] at h
  by_cases k38 : st.h.at_ = 38
  · rw [if_pos k38] at h
    exact Meas.at11 (fun u e => Meas.mvO e) h
  rw [if_neg k38] at h
  by_cases k39 : st.h.at_ = 39
  · rw [if_pos k39] at h
    exact Meas.linkO h
  rw [if_neg k39] at h
  by_cases k40 : st.h.at_ = 40
  · rw [if_pos k40] at h
    exact Meas.at11 (fun u e => Meas.mvO e) h
  rw [if_neg k40] at h
  by_cases k41 : st.h.at_ = 41
  · rw [if_pos k41] at h
    cases h; exact Meas.hand st _
  rw [if_neg k41] at h
  by_cases k42 : st.h.at_ = 42
  · rw [if_pos k42] at h
    exact Meas.grdO h
  rw [if_neg k42] at h
  by_cases k43 : st.h.at_ = 43
  · rw [if_pos k43] at h
    cases h; split <;> exact Meas.hand st _
  rw [if_neg k43] at h
  by_cases k44 : st.h.at_ = 44
  · rw [if_pos k44] at h
    unfold I8.frstO at h
    split at h
    · cases h; split <;> exact Meas.hand st _
    · cases h
  rw [if_neg k44] at h
  by_cases k45 : st.h.at_ = 45
  · rw [if_pos k45] at h
    exact Meas.grdO h
  rw [if_neg k45] at h
  by_cases k46 : st.h.at_ = 46
  · rw [if_pos k46] at h
    cases h; split <;> exact Meas.hand st _
  rw [if_neg k46] at h
  by_cases k47 : st.h.at_ = 47
  · rw [if_pos k47] at h
    cases h; split <;> exact Meas.hand st _
  rw [if_neg k47] at h
  exact Meas.at11 (fun u e => Meas.mvO e) h
end Go.Proofs.YtgmoemjiffglbaaGreat
