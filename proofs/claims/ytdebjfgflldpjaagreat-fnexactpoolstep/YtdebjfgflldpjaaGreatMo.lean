/-
  The program's pool: to want a block, to chain one.
  The program's pool: to chain a block.
  The program's pool: the next thing.
  The specification's pool: its helpers.
  The specification's pool: the next thing.
  The specification's pool: to want a block, to list one.
-/
import Derived.Test.YtdebjfgflldpjaaGreatMn
import Derived.Deep.Cut
import Derived.Deep.RegionHeld3
namespace Go.Proofs.YtdebjfgflldpjaaGreat
open Go.RowKit
set_option maxRecDepth 100000
set_option linter.unusedVariables false
set_option linter.unusedSimpArgs false
theorem intO_pv {st t : I8} {k b : Int} (h : st.intO k b = some t) : t.pv = st.pv := (I8.wrO_pv h).trans rfl
theorem intO_n {st t : I8} {k b : Int} (h : st.intO k b = some t) : t.n = st.n := (I8.wrO_some h).trans rfl
def I8.wantO (st : I8) : Option I8 := (st.intO 1 st.h.block).bind fun t => if inB t.asked 0 1 = true then t.prepO (t.root t.asked) t.h.next 1 12 9 else none
set_option maxHeartbeats 2000000 in
theorem pWant (B q : Nat) (st : I8) (w : World) (S : IAt w B q st) (hn : st.n ≤ 16777216) (hs : 0 ≤ st.h.seen ∧ st.h.seen ≤ 18446744073709551615) :
    Calls Tryz.prog 60 #[.pointer (some ⟨q, 0, none⟩)] w (Ends B q st.pv w st.wantO) := by
  have A := S.is
  have lb : ∀ w', Cls w w' → (loadVar 2 ⟨q, 27, none⟩).run Tryz.prog w' = .ok (.int .i64 st.h.block) w' := ld_i A Tryz.underlying2 rfl
  clear A
  unfold I8.wantO
  cases hr : st.intO 1 st.h.block with
  | none =>
    simp only [Option.bind_none]
    unfold Ends
    go_enter Tryz.func60, Tryz.ntmps60
    go_upto_region 1 with fail
    refine wp_region_bar (C := Cls w) rfl rfl (by kernel_rfl) (by kernel_rfl) ⟨(Below.refl _ _).drew⟩ ?_
    simp only [List.dropLast]
    repeat' (first
      | go_big_quiet_skip
      | (go_big_quiet_want; first
        | (refine q_load _ _ _ _ rfl rfl (by assumption) ?_; simp only [Act.put, List.setIfInBounds_toArray, List.set_cons_zero, List.set_cons_succ]; go_big_quiet_on)
        | (go_big_quiet_op; first
          | go_big_quiet_on
          | (refine ⟨_, fun _ _ => rfl, ?_⟩; go_big_quiet_on))))
    refine wpQuiet_nil ?_
    intro w2 hw2
    go_wp2_with (go_at_call 65; refine (iIntend B q st _ _ _ (S.keep hw2.below) hn).mono ?_; intro e w3 hE; rw [hr] at hE; obtain ⟨rfl, z3⟩ := hE)
    exact ⟨rfl, rfl, (Kq.of_below hw2.below).trans z3⟩
  | some t =>
    simp only [Option.bind_some]
    have hpv := intO_pv hr
    cases hc : inB t.asked 0 1
    · rw [if_neg (by decide)]
      unfold Ends
      go_enter Tryz.func60, Tryz.ntmps60
      go_upto_region 1 with fail
      refine wp_region_bar (C := Cls w) rfl rfl (by kernel_rfl) (by kernel_rfl) ⟨(Below.refl _ _).drew⟩ ?_
      simp only [List.dropLast]
      repeat' (first
        | go_big_quiet_skip
        | (go_big_quiet_want; first
          | (refine q_load _ _ _ _ rfl rfl (by assumption) ?_; simp only [Act.put, List.setIfInBounds_toArray, List.set_cons_zero, List.set_cons_succ]; go_big_quiet_on)
          | (go_big_quiet_op; first
            | go_big_quiet_on
            | (refine ⟨_, fun _ _ => rfl, ?_⟩; go_big_quiet_on))))
      refine wpQuiet_nil ?_
      intro w2 hw2
      go_upto_region 2 with (go_at_call 65; refine (iIntend B q st _ _ _ (S.keep hw2.below) hn).mono ?_; intro e w3 hE; rw [hr] at hE; obtain ⟨rfl, S3, z3⟩ := hE)
      replace z3 := (Kq.of_below hw2.below).trans z3
      have A := S3.is
      have lx : ∀ w', Cls w3 w' → (loadVar 2 ⟨q, 29, none⟩).run Tryz.prog w' = .ok (.int .i64 t.h.next) w' := ld_i A Tryz.underlying2 rfl
      clear A lb
      refine wp_region_dies (C := Cls w3) [0, 1, 2, 3, 5, 6, 7, 8] 4 (by simp only [List.map_cons, List.map_nil, List.getD_cons_succ, List.getD_cons_zero]; rfl) (by kernel_rfl) rfl (by kernel_rfl) (by kernel_rfl) (by kernel_rfl) (by decide) ⟨(Below.refl _ _).drew⟩ (fun c a d v w h => by cases d <;> exact h) ?_
      repeat' (first
        | go_big_quiet_skip
        | (go_big_quiet_want; first
          | (refine q_load _ _ _ _ rfl rfl (by assumption) ?_; simp only [Act.put, List.setIfInBounds_toArray, List.set_cons_zero, List.set_cons_succ]; go_big_quiet_on)
          | (go_big_quiet_op; first
            | go_big_quiet_on
            | (refine ⟨_, fun _ _ => rfl, ?_⟩; go_big_quiet_on)
            | (apply Exists.intro; refine ⟨fun w' hw' => ?_, ?_⟩
               · (first
                 | (go_at_call 100; exact cls_same hw' (pAsked B q t _ (S3.keep hw'.below))))
               go_big_quiet_on))))
      refine wpQuiet_nil ?_
      refine ⟨by rfl, fun w4 hw4 => ?_⟩
      go_simp
      go_at_call 67
      refine (pFreeN B q t _ _ (S3.keep hw4.below) hc).mono ?_
      rintro e w5 ⟨rfl, rfl⟩
      exact ⟨rfl, rfl, z3.trans (Kq.of_below hw4.below)⟩
    · rw [if_pos rfl]
      unfold I8.prepO
      cases hw : wOk 0 t.h.for_ t.h.next t.h.last
      · rw [if_neg (by decide)]
        unfold Ends
        go_enter Tryz.func60, Tryz.ntmps60
        go_upto_region 1 with fail
        refine wp_region_bar (C := Cls w) rfl rfl (by kernel_rfl) (by kernel_rfl) ⟨(Below.refl _ _).drew⟩ ?_
        simp only [List.dropLast]
        repeat' (first
          | go_big_quiet_skip
          | (go_big_quiet_want; first
            | (refine q_load _ _ _ _ rfl rfl (by assumption) ?_; simp only [Act.put, List.setIfInBounds_toArray, List.set_cons_zero, List.set_cons_succ]; go_big_quiet_on)
            | (go_big_quiet_op; first
              | go_big_quiet_on
              | (refine ⟨_, fun _ _ => rfl, ?_⟩; go_big_quiet_on))))
        refine wpQuiet_nil ?_
        intro w2 hw2
        go_upto_region 2 with (go_at_call 65; refine (iIntend B q st _ _ _ (S.keep hw2.below) hn).mono ?_; intro e w3 hE; rw [hr] at hE; obtain ⟨rfl, S3, z3⟩ := hE)
        replace z3 := (Kq.of_below hw2.below).trans z3
        have A := S3.is
        have lx : ∀ w', Cls w3 w' → (loadVar 2 ⟨q, 29, none⟩).run Tryz.prog w' = .ok (.int .i64 t.h.next) w' := ld_i A Tryz.underlying2 rfl
        clear A lb
        refine wp_region_bar (C := Cls w3) rfl rfl (by kernel_rfl) (by kernel_rfl) ⟨(Below.refl _ _).drew⟩ ?_
        simp only [List.dropLast]
        repeat' (first
          | go_big_quiet_skip
          | (go_big_quiet_want; first
            | (refine q_load _ _ _ _ rfl rfl (by assumption) ?_; simp only [Act.put, List.setIfInBounds_toArray, List.set_cons_zero, List.set_cons_succ]; go_big_quiet_on)
            | (go_big_quiet_op; first
              | go_big_quiet_on
              | (refine ⟨_, fun _ _ => rfl, ?_⟩; go_big_quiet_on)
              | (apply Exists.intro; refine ⟨fun w' hw' => ?_, ?_⟩
                 · (first
                   | (go_at_call 100; exact cls_same hw' (pAsked B q t _ (S3.keep hw'.below)))
                   | (go_at_call 67; exact cls_below hw' (pFreeY B q t _ _ (S3.keep hw'.below) hc)))
                 go_big_quiet_on))))
        refine wpQuiet_nil ?_
        intro w4 hw4
        go_wp2_with (go_at_call 103; refine (pPrepN B q t _ _ _ _ _ _ (S3.keep hw4.below) hw).mono ?_; rintro e w5 ⟨rfl, hb5⟩)
        exact ⟨rfl, rfl, (z3.trans (Kq.of_below hw4.below)).trans (Kq.of_below hb5)⟩
      · rw [if_pos rfl]
        have PP : Hid (∀ w4, IAt w4 B q t → Calls Tryz.prog 103 #[.pointer (some ⟨q, 0, none⟩), .int .i64 (t.root t.asked), .int .i64 t.h.next, .int .i64 1, .int .i64 12, .int .i64 9] w4 fun e w' => e = .returned (.tuple #[]) ∧ IAt w' B q _ ∧ Kq q t.pv w4 w') := fun w4 S4 => pPrepY B q t (t.root t.asked) t.h.next 1 12 9 w4 S4 hw
        generalize ({ t with h := { t.h with addr := t.root t.asked, put := pk 0 t.h.for_ t.h.next t.h.last, does := 1, good := 12, bad := 9, at_ := 6 } } : I8) = fin at *
        unfold Ends
        go_enter Tryz.func60, Tryz.ntmps60
        go_upto_region 1 with fail
        refine wp_region_bar (C := Cls w) rfl rfl (by kernel_rfl) (by kernel_rfl) ⟨(Below.refl _ _).drew⟩ ?_
        simp only [List.dropLast]
        repeat' (first
          | go_big_quiet_skip
          | (go_big_quiet_want; first
            | (refine q_load _ _ _ _ rfl rfl (by assumption) ?_; simp only [Act.put, List.setIfInBounds_toArray, List.set_cons_zero, List.set_cons_succ]; go_big_quiet_on)
            | (go_big_quiet_op; first
              | go_big_quiet_on
              | (refine ⟨_, fun _ _ => rfl, ?_⟩; go_big_quiet_on))))
        refine wpQuiet_nil ?_
        intro w2 hw2
        go_upto_region 2 with (go_at_call 65; refine (iIntend B q st _ _ _ (S.keep hw2.below) hn).mono ?_; intro e w3 hE; rw [hr] at hE; obtain ⟨rfl, S3, z3⟩ := hE)
        replace z3 := (Kq.of_below hw2.below).trans z3
        have A := S3.is
        have lx : ∀ w', Cls w3 w' → (loadVar 2 ⟨q, 29, none⟩).run Tryz.prog w' = .ok (.int .i64 t.h.next) w' := ld_i A Tryz.underlying2 rfl
        clear A lb
        refine wp_region_bar (C := Cls w3) rfl rfl (by kernel_rfl) (by kernel_rfl) ⟨(Below.refl _ _).drew⟩ ?_
        simp only [List.dropLast]
        repeat' (first
          | go_big_quiet_skip
          | (go_big_quiet_want; first
            | (refine q_load _ _ _ _ rfl rfl (by assumption) ?_; simp only [Act.put, List.setIfInBounds_toArray, List.set_cons_zero, List.set_cons_succ]; go_big_quiet_on)
            | (go_big_quiet_op; first
              | go_big_quiet_on
              | (refine ⟨_, fun _ _ => rfl, ?_⟩; go_big_quiet_on)
              | (apply Exists.intro; refine ⟨fun w' hw' => ?_, ?_⟩
                 · (first
                   | (go_at_call 100; exact cls_same hw' (pAsked B q t _ (S3.keep hw'.below)))
                   | (go_at_call 67; exact cls_below hw' (pFreeY B q t _ _ (S3.keep hw'.below) hc)))
                 go_big_quiet_on))))
        refine wpQuiet_nil ?_
        intro w4 hw4
        go_wp2_with (go_at_call 103; refine (PP.out _ (S3.keep hw4.below)).mono ?_; rintro e w5 ⟨rfl, S5, z5⟩; rw [hpv] at z5)
        first | go_end0 | refine bodyPost_ret (results_none rfl _ _ _) rfl ?_
        exact ⟨rfl, S5, (z3.trans (Kq.of_below hw4.below)).trans z5⟩
end Go.Proofs.YtdebjfgflldpjaaGreat
namespace Go.Proofs.YtdebjfgflldpjaaGreat
open Go.RowKit
set_option maxRecDepth 100000
set_option linter.unusedVariables false
set_option linter.unusedSimpArgs false
def I8.done3 (st u : I8) : I8 := if st.h.code = 3 then { u with h := { u.h with reply := 1, out := 0 } } else u
def I8.chain2 (t : I8) : Option I8 := if inB t.cls 0 1 = true then t.prepO (t.root t.cls) t.h.block 2 t.behind 19 else none
def I8.chainO (st : I8) : Option I8 := (st.wrO (st.blk 1) 0 0 (uI st.h.seen) 0).bind fun t => t.chain2.map st.done3
set_option maxHeartbeats 16000000 in
theorem pLink (B q : Nat) (st : I8) (w : World) (S : IAt w B q st) (hn : st.n ≤ 16777216) (hs : 0 ≤ st.h.seen ∧ st.h.seen ≤ 18446744073709551615) :
    Calls Tryz.prog 111 #[.pointer (some ⟨q, 0, none⟩)] w (Ends B q st.pv w (st.wrO (st.blk 1) 0 0 (uI st.h.seen) 0)) := by
  have A := S.is
  have lb : ∀ w', Cls w w' → (loadVar 25 ⟨q, 22, none⟩).run Tryz.prog w' = .ok (.int .u64 st.h.seen) w' := ld_i A Tryz.underlying25 rfl
  clear A
  cases hr : st.wrO (st.blk 1) 0 0 (uI st.h.seen) 0
  all_goals
    unfold Ends
    go_enter Tryz.func111, Tryz.ntmps111
    go_upto_region 0 with fail
    refine wp_region_bar (C := Cls w) rfl rfl (by kernel_rfl) (by kernel_rfl) ⟨(Below.refl _ _).drew⟩ ?_
    simp only [List.dropLast]
    repeat' (first
      | go_big_quiet_skip
      | (go_big_quiet_want; first
        | (refine q_load _ _ _ _ rfl rfl (by assumption) ?_; simp only [Act.put, List.setIfInBounds_toArray, List.set_cons_zero, List.set_cons_succ]; go_big_quiet_on)
        | (refine q_field _ _ _ _ _ rfl rfl (run_wordI9 _ _ _ _) ?_; simp only [Act.put, List.setIfInBounds_toArray, List.set_cons_zero, List.set_cons_succ]; go_big_quiet_on)
        | (go_big_quiet_op; first
          | go_big_quiet_on
          | (refine ⟨_, fun _ _ => rfl, ?_⟩; go_big_quiet_on)
          | (apply Exists.intro; refine ⟨fun w' hw' => ?_, ?_⟩
             · (first
               | (go_at_call 59; exact cls_below hw' (pBlock B q st _ _ (S.keep hw'.below)))
               | (go_at_call 101; exact cls_below hw' (iUnpack _ hs.1 hs.2 _)))
             go_big_quiet_on))))
    refine wpQuiet_nil ?_
    intro w2 hw2
  · go_wp2_with (go_at_call 62; refine (iStWrite B q st _ _ _ _ _ _ (S.keep hw2.below) hn).mono ?_; intro e w3 hE; rw [hr] at hE; obtain ⟨rfl, z3⟩ := hE)
    exact ⟨rfl, rfl, (Kq.of_below hw2.below).trans z3⟩
  · go_wp2_with (go_at_call 62; refine (iStWrite B q st _ _ _ _ _ _ (S.keep hw2.below) hn).mono ?_; intro e w3 hE; rw [hr] at hE; obtain ⟨rfl, S3, z3⟩ := hE)
    first | go_end0 | refine bodyPost_ret (results_none rfl _ _ _) rfl ?_
    exact ⟨rfl, S3, (Kq.of_below hw2.below).trans z3⟩
set_option maxHeartbeats 16000000 in
theorem pChain1 (B q : Nat) (st : I8) (w : World) (S : IAt w B q st) (hn : st.n ≤ 16777216) (hs : 0 ≤ st.h.seen ∧ st.h.seen ≤ 18446744073709551615) (hr : st.wrO (st.blk 1) 0 0 (uI st.h.seen) 0 = none) :
    Calls Tryz.prog 69 #[.pointer (some ⟨q, 0, none⟩)] w (Ends B q st.pv w none) := by
  unfold Ends
  go_enter Tryz.func69, Tryz.ntmps69
  go_wp2_with (go_at_call 111; refine (pLink B q st _ S hn hs).mono ?_; intro e w3 hE; rw [hr] at hE; obtain ⟨rfl, z3⟩ := hE)
  exact ⟨rfl, rfl, z3⟩
set_option maxHeartbeats 16000000 in
theorem pChain2 (B q : Nat) (st : I8) (w : World) (S : IAt w B q st) (hn : st.n ≤ 16777216) (hs : 0 ≤ st.h.seen ∧ st.h.seen ≤ 18446744073709551615) (t : I8) (hr : st.wrO (st.blk 1) 0 0 (uI st.h.seen) 0 = some t) (hpv : t.pv = st.pv) (hc : inB t.cls 0 1 = false) :
    Calls Tryz.prog 69 #[.pointer (some ⟨q, 0, none⟩)] w (Ends B q st.pv w none) := by
  unfold Ends
  go_enter Tryz.func69, Tryz.ntmps69
  go_upto_region 2 with (go_at_call 111; refine (pLink B q st _ S hn hs).mono ?_; intro e w3 hE; rw [hr] at hE; obtain ⟨rfl, S3, z3⟩ := hE)
  have A := S3.is
  have lx : ∀ w', Cls w3 w' → (loadVar 2 ⟨q, 27, none⟩).run Tryz.prog w' = .ok (.int .i64 t.h.block) w' := ld_i A Tryz.underlying2 rfl
  clear A hr
  refine wp_region_dies (C := Cls w3) [0, 1, 2, 3, 5, 6, 7, 8, 9] 4 (by simp only [List.map_cons, List.map_nil, List.getD_cons_succ, List.getD_cons_zero]; rfl) (by kernel_rfl) rfl (by kernel_rfl) (by kernel_rfl) (by kernel_rfl) (by decide) ⟨(Below.refl _ _).drew⟩ (fun c a d v w h => by cases d <;> exact h) ?_
  repeat' (first
    | go_big_quiet_skip
    | (go_big_quiet_want; first
      | (refine q_load _ _ _ _ rfl rfl (by assumption) ?_; simp only [Act.put, List.setIfInBounds_toArray, List.set_cons_zero, List.set_cons_succ]; go_big_quiet_on)
      | (go_big_quiet_op; first
        | go_big_quiet_on
        | (refine ⟨_, fun _ _ => rfl, ?_⟩; go_big_quiet_on)
        | (apply Exists.intro; refine ⟨fun w' hw' => ?_, ?_⟩
           · (first
             | (go_at_call 68; exact cls_below hw' (pClass B q t _ (S3.keep hw'.below))))
           go_big_quiet_on))))
  refine wpQuiet_nil ?_
  refine ⟨by rfl, fun w4 hw4 => ?_⟩
  go_simp
  go_at_call 67
  refine (pFreeN B q t _ _ (S3.keep hw4.below) hc).mono ?_
  rintro e w5 ⟨rfl, rfl⟩
  exact ⟨rfl, rfl, z3.trans (Kq.of_below hw4.below)⟩
set_option maxHeartbeats 16000000 in
theorem pChain3 (B q : Nat) (st : I8) (w : World) (S : IAt w B q st) (hn : st.n ≤ 16777216) (hs : 0 ≤ st.h.seen ∧ st.h.seen ≤ 18446744073709551615) (t : I8) (hr : st.wrO (st.blk 1) 0 0 (uI st.h.seen) 0 = some t) (hpv : t.pv = st.pv) (hc : inB t.cls 0 1 = true) (hw : wOk 0 t.h.for_ t.h.block t.h.last = false) :
    Calls Tryz.prog 69 #[.pointer (some ⟨q, 0, none⟩)] w (Ends B q st.pv w none) := by
  unfold Ends
  go_enter Tryz.func69, Tryz.ntmps69
  go_upto_region 2 with (go_at_call 111; refine (pLink B q st _ S hn hs).mono ?_; intro e w3 hE; rw [hr] at hE; obtain ⟨rfl, S3, z3⟩ := hE)
  have A := S3.is
  have lx : ∀ w', Cls w3 w' → (loadVar 2 ⟨q, 27, none⟩).run Tryz.prog w' = .ok (.int .i64 t.h.block) w' := ld_i A Tryz.underlying2 rfl
  clear A hr
  refine wp_region_bar (C := Cls w3) rfl rfl (by kernel_rfl) (by kernel_rfl) ⟨(Below.refl _ _).drew⟩ ?_
  simp only [List.dropLast]
  repeat' (first
    | go_big_quiet_skip
    | (go_big_quiet_want; first
      | (refine q_load _ _ _ _ rfl rfl (by assumption) ?_; simp only [Act.put, List.setIfInBounds_toArray, List.set_cons_zero, List.set_cons_succ]; go_big_quiet_on)
      | (go_big_quiet_op; first
        | go_big_quiet_on
        | (refine ⟨_, fun _ _ => rfl, ?_⟩; go_big_quiet_on)
        | (apply Exists.intro; refine ⟨fun w' hw' => ?_, ?_⟩
           · (first
             | (go_at_call 68; exact cls_below hw' (pClass B q t _ (S3.keep hw'.below)))
             | (go_at_call 67; exact cls_below hw' (pFreeY B q t _ _ (S3.keep hw'.below) hc))
             | (go_at_call 112; exact cls_same hw' (pBehind B q t _ (S3.keep hw'.below))))
           go_big_quiet_on))))
  refine wpQuiet_nil ?_
  intro w4 hw4
  go_wp2_with (go_at_call 103; refine (pPrepN B q t _ _ _ _ _ _ (S3.keep hw4.below) hw).mono ?_; rintro e w5 ⟨rfl, hb5⟩)
  exact ⟨rfl, rfl, (z3.trans (Kq.of_below hw4.below)).trans (Kq.of_below hb5)⟩
set_option maxHeartbeats 16000000 in
theorem pChain4 (B q : Nat) (st : I8) (w : World) (S : IAt w B q st) (hn : st.n ≤ 16777216) (hs : 0 ≤ st.h.seen ∧ st.h.seen ≤ 18446744073709551615) (t : I8) (hr : st.wrO (st.blk 1) 0 0 (uI st.h.seen) 0 = some t) (hpv : t.pv = st.pv) (hc : inB t.cls 0 1 = true) (fin : I8) (PP : Hid (∀ w4, IAt w4 B q t → Calls Tryz.prog 103 #[.pointer (some ⟨q, 0, none⟩), .int .i64 (t.root t.cls), .int .i64 t.h.block, .int .i64 2, .int .i64 t.behind, .int .i64 19] w4 fun e w' => e = .returned (.tuple #[]) ∧ IAt w' B q fin ∧ Kq q t.pv w4 w')) (hkc : fin.h.code = 3) :
    Calls Tryz.prog 69 #[.pointer (some ⟨q, 0, none⟩)] w (Ends B q st.pv w (some { fin with h := { fin.h with reply := 1, out := 0 } })) := by
  obtain ⟨fo, hF⟩ : ∃ f : I8, Hid ({ fin with h := { fin.h with reply := 1, out := 0 } } = f) := ⟨_, rfl⟩
  rw [hF.out]
  unfold Ends
  go_enter Tryz.func69, Tryz.ntmps69
  go_upto_region 2 with (go_at_call 111; refine (pLink B q st _ S hn hs).mono ?_; intro e w3 hE; rw [hr] at hE; obtain ⟨rfl, S3, z3⟩ := hE)
  have A := S3.is
  have lx : ∀ w', Cls w3 w' → (loadVar 2 ⟨q, 27, none⟩).run Tryz.prog w' = .ok (.int .i64 t.h.block) w' := ld_i A Tryz.underlying2 rfl
  clear A hr
  refine wp_region_bar (C := Cls w3) rfl rfl (by kernel_rfl) (by kernel_rfl) ⟨(Below.refl _ _).drew⟩ ?_
  simp only [List.dropLast]
  repeat' (first
    | go_big_quiet_skip
    | (go_big_quiet_want; first
      | (refine q_load _ _ _ _ rfl rfl (by assumption) ?_; simp only [Act.put, List.setIfInBounds_toArray, List.set_cons_zero, List.set_cons_succ]; go_big_quiet_on)
      | (go_big_quiet_op; first
        | go_big_quiet_on
        | (refine ⟨_, fun _ _ => rfl, ?_⟩; go_big_quiet_on)
        | (apply Exists.intro; refine ⟨fun w' hw' => ?_, ?_⟩
           · (first
             | (go_at_call 68; exact cls_below hw' (pClass B q t _ (S3.keep hw'.below)))
             | (go_at_call 67; exact cls_below hw' (pFreeY B q t _ _ (S3.keep hw'.below) hc))
             | (go_at_call 112; exact cls_same hw' (pBehind B q t _ (S3.keep hw'.below))))
           go_big_quiet_on))))
  refine wpQuiet_nil ?_
  intro w4 hw4
  go_wp2_with (go_at_call 103; refine (PP.out _ (S3.keep hw4.below)).mono ?_; rintro e w5 ⟨rfl, S5, z5⟩; rw [hpv] at z5; have c13 : w5.cell? ⟨q, 13, none⟩ = some (.int .i64 3) := (S5.is.cell 13).trans (by show some (Value.int .i64 fin.h.code) = _; rw [hkc]); have c39 : w5.cell? ⟨q, 39, none⟩ = some (.int .i64 fin.h.reply) := S5.is.cell 39; have f39 := S5.fz 39; have c40 : w5.cell? ⟨q, 40, none⟩ = some (.int .i64 fin.h.out) := S5.is.cell 40; have f40 := S5.fz 40)
  first | go_end0 | refine bodyPost_ret (results_none rfl _ _ _) rfl ?_
  rw [← hF.out]
  exact ⟨rfl, (S5.put (st' := { fin with h := { fin.h with reply := 1 } }) 39 _ (by omega) rfl rfl rfl).put 40 _ (by omega) rfl rfl rfl, (((z3.trans (Kq.of_below hw4.below)).trans z5).set 39 _).set 40 _⟩
set_option maxHeartbeats 16000000 in
theorem pChain5 (B q : Nat) (st : I8) (w : World) (S : IAt w B q st) (hn : st.n ≤ 16777216) (hs : 0 ≤ st.h.seen ∧ st.h.seen ≤ 18446744073709551615) (t : I8) (hr : st.wrO (st.blk 1) 0 0 (uI st.h.seen) 0 = some t) (hpv : t.pv = st.pv) (hc : inB t.cls 0 1 = true) (fin : I8) (PP : Hid (∀ w4, IAt w4 B q t → Calls Tryz.prog 103 #[.pointer (some ⟨q, 0, none⟩), .int .i64 (t.root t.cls), .int .i64 t.h.block, .int .i64 2, .int .i64 t.behind, .int .i64 19] w4 fun e w' => e = .returned (.tuple #[]) ∧ IAt w' B q fin ∧ Kq q t.pv w4 w')) (hkb : (fin.h.code == 3) = false) :
    Calls Tryz.prog 69 #[.pointer (some ⟨q, 0, none⟩)] w (Ends B q st.pv w (some fin)) := by
  unfold Ends
  go_enter Tryz.func69, Tryz.ntmps69
  go_upto_region 2 with (go_at_call 111; refine (pLink B q st _ S hn hs).mono ?_; intro e w3 hE; rw [hr] at hE; obtain ⟨rfl, S3, z3⟩ := hE)
  have A := S3.is
  have lx : ∀ w', Cls w3 w' → (loadVar 2 ⟨q, 27, none⟩).run Tryz.prog w' = .ok (.int .i64 t.h.block) w' := ld_i A Tryz.underlying2 rfl
  clear A hr
  refine wp_region_bar (C := Cls w3) rfl rfl (by kernel_rfl) (by kernel_rfl) ⟨(Below.refl _ _).drew⟩ ?_
  simp only [List.dropLast]
  repeat' (first
    | go_big_quiet_skip
    | (go_big_quiet_want; first
      | (refine q_load _ _ _ _ rfl rfl (by assumption) ?_; simp only [Act.put, List.setIfInBounds_toArray, List.set_cons_zero, List.set_cons_succ]; go_big_quiet_on)
      | (go_big_quiet_op; first
        | go_big_quiet_on
        | (refine ⟨_, fun _ _ => rfl, ?_⟩; go_big_quiet_on)
        | (apply Exists.intro; refine ⟨fun w' hw' => ?_, ?_⟩
           · (first
             | (go_at_call 68; exact cls_below hw' (pClass B q t _ (S3.keep hw'.below)))
             | (go_at_call 67; exact cls_below hw' (pFreeY B q t _ _ (S3.keep hw'.below) hc))
             | (go_at_call 112; exact cls_same hw' (pBehind B q t _ (S3.keep hw'.below))))
           go_big_quiet_on))))
  refine wpQuiet_nil ?_
  intro w4 hw4
  go_wp2_with (go_at_call 103; refine (PP.out _ (S3.keep hw4.below)).mono ?_; rintro e w5 ⟨rfl, S5, z5⟩; rw [hpv] at z5; have c13 : w5.cell? ⟨q, 13, none⟩ = some (.int .i64 fin.h.code) := S5.is.cell 13)
  first | go_end0 | refine bodyPost_ret (results_none rfl _ _ _) rfl ?_
  exact ⟨rfl, S5, ((z3.trans (Kq.of_below hw4.below)).trans z5)⟩
theorem pChain (B q : Nat) (st : I8) (w : World) (S : IAt w B q st) (hn : st.n ≤ 16777216) (hs : 0 ≤ st.h.seen ∧ st.h.seen ≤ 18446744073709551615) :
    Calls Tryz.prog 69 #[.pointer (some ⟨q, 0, none⟩)] w (Ends B q st.pv w st.chainO) := by
  unfold I8.chainO
  cases hr : st.wrO (st.blk 1) 0 0 (uI st.h.seen) 0 with
  | none => exact pChain1 B q st w S hn hs hr
  | some t =>
    have hth := I8.wrO_h hr
    have hpv := I8.wrO_pv hr
    show Calls _ _ _ _ (Ends B q st.pv w (t.chain2.map st.done3))
    unfold I8.chain2
    cases hc : inB t.cls 0 1
    · exact pChain2 B q st w S hn hs t hr hpv hc
    · rw [if_pos rfl]
      unfold I8.prepO
      cases hw : wOk 0 t.h.for_ t.h.block t.h.last
      · exact pChain3 B q st w S hn hs t hr hpv hc hw
      · rw [if_pos rfl]
        show Calls _ _ _ _ (Ends B q st.pv w (some (st.done3 _)))
        unfold I8.done3
        have hfc : (I8.h { t with h := { t.h with addr := t.root t.cls, put := pk 0 t.h.for_ t.h.block t.h.last, does := 2, good := t.behind, bad := 19, at_ := 6 } }).code = st.h.code := by rw [← hth]
        by_cases hk : st.h.code = 3
        · rw [if_pos hk]
          exact pChain4 B q st w S hn hs t hr hpv hc _ (fun w4 S4 => pPrepY B q t (t.root t.cls) t.h.block 2 t.behind 19 w4 S4 hw) (hfc.trans hk)
        · rw [if_neg hk]
          exact pChain5 B q st w S hn hs t hr hpv hc _ (fun w4 S4 => pPrepY B q t (t.root t.cls) t.h.block 2 t.behind 19 w4 S4 hw) (by rw [hfc]; simp [hk])
end Go.Proofs.YtdebjfgflldpjaaGreat
namespace Go.Proofs.YtdebjfgflldpjaaGreat
open Go.RowKit
set_option maxRecDepth 100000
set_option linter.unusedVariables false
set_option linter.unusedSimpArgs false
set_option maxHeartbeats 4000000 in
theorem pn_9 (B q : Nat) (st : I8) (w : World) (S : IAt w B q st) (hn : st.n ≤ 16777216) (hs : 0 ≤ st.h.seen ∧ st.h.seen ≤ 18446744073709551615) (ha : aOk st.p st.s st.l st.c st.k st.n = true) (bd : ∀ x ∈ st.xs, 0 ≤ x ∧ x ≤ 18446744073709551615) (hat : st.h.at_ = 9) :
    Calls Tryz.prog 24 #[.pointer (some ⟨q, 0, none⟩)] w (Ends B q st.pv w st.freeO) := by
  have c12 : w.cell? ⟨q, 12, none⟩ = some (.int .i64 st.h.at_) := S.is.cell 12
  rw [hat] at c12
  cases hr : st.freeO
  all_goals
    unfold Ends
    go_enter Tryz.func24, Tryz.ntmps24
  · go_wp2_with (go_at_call 57; refine (pSee B q st _ S hn ha bd).mono ?_; intro e w3 hE; rw [hr] at hE; obtain ⟨rfl, z3⟩ := hE)
    exact ⟨rfl, rfl, z3⟩
  · go_wp2_with (go_at_call 57; refine (pSee B q st _ S hn ha bd).mono ?_; intro e w3 hE; rw [hr] at hE; obtain ⟨rfl, S3, z3⟩ := hE)
    first | go_end0 | refine bodyPost_ret (results_none rfl _ _ _) rfl ?_
    exact ⟨rfl, S3, z3⟩
set_option maxHeartbeats 4000000 in
theorem pn_11 (B q : Nat) (st : I8) (w : World) (S : IAt w B q st) (hn : st.n ≤ 16777216) (hs : 0 ≤ st.h.seen ∧ st.h.seen ≤ 18446744073709551615) (ha : aOk st.p st.s st.l st.c st.k st.n = true) (bd : ∀ x ∈ st.xs, 0 ≤ x ∧ x ≤ 18446744073709551615) (hat : st.h.at_ = 11) :
    Calls Tryz.prog 24 #[.pointer (some ⟨q, 0, none⟩)] w (Ends B q st.pv w st.wantO) := by
  have c12 : w.cell? ⟨q, 12, none⟩ = some (.int .i64 st.h.at_) := S.is.cell 12
  rw [hat] at c12
  cases hr : st.wantO
  all_goals
    unfold Ends
    go_enter Tryz.func24, Tryz.ntmps24
  · go_wp2_with (go_at_call 60; refine (pWant B q st _ S hn hs).mono ?_; intro e w3 hE; rw [hr] at hE; obtain ⟨rfl, z3⟩ := hE)
    exact ⟨rfl, rfl, z3⟩
  · go_wp2_with (go_at_call 60; refine (pWant B q st _ S hn hs).mono ?_; intro e w3 hE; rw [hr] at hE; obtain ⟨rfl, S3, z3⟩ := hE)
    first | go_end0 | refine bodyPost_ret (results_none rfl _ _ _) rfl ?_
    exact ⟨rfl, S3, z3⟩
set_option maxHeartbeats 4000000 in
theorem pn_12 (B q : Nat) (st : I8) (w : World) (S : IAt w B q st) (hn : st.n ≤ 16777216) (hs : 0 ≤ st.h.seen ∧ st.h.seen ≤ 18446744073709551615) (ha : aOk st.p st.s st.l st.c st.k st.n = true) (bd : ∀ x ∈ st.xs, 0 ≤ x ∧ x ≤ 18446744073709551615) (hat : st.h.at_ = 12) :
    Calls Tryz.prog 24 #[.pointer (some ⟨q, 0, none⟩)] w (Ends B q st.pv w st.holdO) := by
  have c12 : w.cell? ⟨q, 12, none⟩ = some (.int .i64 st.h.at_) := S.is.cell 12
  rw [hat] at c12
  cases hr : st.holdO
  all_goals
    unfold Ends
    go_enter Tryz.func24, Tryz.ntmps24
  · go_wp2_with (go_at_call 61; refine (pHold B q st _ S hn ha bd).mono ?_; intro e w3 hE; rw [hr] at hE; obtain ⟨rfl, z3⟩ := hE)
    exact ⟨rfl, rfl, z3⟩
  · go_wp2_with (go_at_call 61; refine (pHold B q st _ S hn ha bd).mono ?_; intro e w3 hE; rw [hr] at hE; obtain ⟨rfl, S3, z3⟩ := hE)
    first | go_end0 | refine bodyPost_ret (results_none rfl _ _ _) rfl ?_
    exact ⟨rfl, S3, z3⟩
set_option maxHeartbeats 4000000 in
theorem pn_14 (B q : Nat) (st : I8) (w : World) (S : IAt w B q st) (hn : st.n ≤ 16777216) (hs : 0 ≤ st.h.seen ∧ st.h.seen ≤ 18446744073709551615) (ha : aOk st.p st.s st.l st.c st.k st.n = true) (bd : ∀ x ∈ st.xs, 0 ≤ x ∧ x ≤ 18446744073709551615) (hat : st.h.at_ = 14) :
    Calls Tryz.prog 24 #[.pointer (some ⟨q, 0, none⟩)] w (Ends B q st.pv w st.mineO) := by
  have c12 : w.cell? ⟨q, 12, none⟩ = some (.int .i64 st.h.at_) := S.is.cell 12
  rw [hat] at c12
  cases hr : st.mineO
  all_goals
    unfold Ends
    go_enter Tryz.func24, Tryz.ntmps24
  · go_wp2_with (go_at_call 63; refine (pMine B q st _ S hn ha bd).mono ?_; intro e w3 hE; rw [hr] at hE; obtain ⟨rfl, z3⟩ := hE)
    exact ⟨rfl, rfl, z3⟩
  · go_wp2_with (go_at_call 63; refine (pMine B q st _ S hn ha bd).mono ?_; intro e w3 hE; rw [hr] at hE; obtain ⟨rfl, S3, z3⟩ := hE)
    first | go_end0 | refine bodyPost_ret (results_none rfl _ _ _) rfl ?_
    exact ⟨rfl, S3, z3⟩
set_option maxHeartbeats 4000000 in
theorem pn_20 (B q : Nat) (st : I8) (w : World) (S : IAt w B q st) (hn : st.n ≤ 16777216) (hs : 0 ≤ st.h.seen ∧ st.h.seen ≤ 18446744073709551615) (ha : aOk st.p st.s st.l st.c st.k st.n = true) (bd : ∀ x ∈ st.xs, 0 ≤ x ∧ x ≤ 18446744073709551615) (hat : st.h.at_ = 20) :
    Calls Tryz.prog 24 #[.pointer (some ⟨q, 0, none⟩)] w (Ends B q st.pv w st.chainO) := by
  have c12 : w.cell? ⟨q, 12, none⟩ = some (.int .i64 st.h.at_) := S.is.cell 12
  rw [hat] at c12
  cases hr : st.chainO
  all_goals
    unfold Ends
    go_enter Tryz.func24, Tryz.ntmps24
  · go_wp2_with (go_at_call 69; refine (pChain B q st _ S hn hs).mono ?_; intro e w3 hE; rw [hr] at hE; obtain ⟨rfl, z3⟩ := hE)
    exact ⟨rfl, rfl, z3⟩
  · go_wp2_with (go_at_call 69; refine (pChain B q st _ S hn hs).mono ?_; intro e w3 hE; rw [hr] at hE; obtain ⟨rfl, S3, z3⟩ := hE)
    first | go_end0 | refine bodyPost_ret (results_none rfl _ _ _) rfl ?_
    exact ⟨rfl, S3, z3⟩
def I8.underO (st : I8) : Option I8 := if thr (st.blk 1) st.n = true then some { st with h := { st.h with next := uI (red st.xs (st.blk 1)), at_ := 11 } } else none
set_option maxHeartbeats 4000000 in
theorem pn_10 (B q : Nat) (st : I8) (w : World) (S : IAt w B q st) (hn : st.n ≤ 16777216) (hs : 0 ≤ st.h.seen ∧ st.h.seen ≤ 18446744073709551615) (ha : aOk st.p st.s st.l st.c st.k st.n = true) (bd : ∀ x ∈ st.xs, 0 ≤ x ∧ x ≤ 18446744073709551615) (hat : st.h.at_ = 10) :
    Calls Tryz.prog 24 #[.pointer (some ⟨q, 0, none⟩)] w (Ends B q st.pv w st.underO) := by
  have c12 : w.cell? ⟨q, 12, none⟩ = some (.int .i64 st.h.at_) := S.is.cell 12
  rw [hat] at c12
  unfold I8.underO
  cases ht : thr (st.blk 1) st.n
  · rw [if_neg (by decide)]
    unfold Ends
    go_enter Tryz.func24, Tryz.ntmps24
    go_wp2_with (first
      | (go_at_call 59; refine (pBlock B q st _ _ S).mono ?_; rintro e w2 ⟨rfl, hb⟩; replace S := S.keep hb)
      | (go_at_call 58; refine (pIndexN B q st _ _ S hn ht).mono ?_; rintro e w3 ⟨rfl, rfl⟩))
    exact ⟨rfl, rfl, Kq.of_below hb⟩
  · rw [if_pos rfl]
    have hb0 := red_bd bd (st.blk 1)
    clear bd ha
    obtain ⟨x, hx⟩ : ∃ x, Hid (uI (red st.xs (st.blk 1)) = x) := ⟨_, rfl⟩
    have PI : Hid (∀ w, IAt w B q st → Calls Tryz.prog 58 #[.pointer (some ⟨q, 0, none⟩), .int .i64 (st.blk 1)] w fun e w' => e = .returned (.int .i64 x) ∧ Below w.heap.size w w') := fun w S => by
      have := pIndexY B q st (st.blk 1) w S hn ht hb0
      rw [hx.out] at this
      exact this
    rw [hx.out]
    have hhat : Hid (st.h.at_ = 10) := hat
    clear hat
    unfold Ends
    go_enter Tryz.func24, Tryz.ntmps24
    go_upto_region 4 with fail
    go_wp2_with (first
      | (go_at_call 59; refine (pBlock B q st _ _ S).mono ?_; rintro e w2 ⟨rfl, hb⟩; replace S := S.keep hb)
      | (go_at_call 58; refine (PI.out _ S).mono ?_; rintro e w3 ⟨rfl, hb3⟩; replace S := S.keep hb3; clear c12; have c12 : w3.cell? ⟨q, 12, none⟩ = some (.int .i64 st.h.at_) := S.is.cell 12; have f12 := S.fz 12; have c29 : w3.cell? ⟨q, 29, none⟩ = some (.int .i64 st.h.next) := S.is.cell 29; have f29 := S.fz 29))
    first | go_end0 | refine bodyPost_ret (results_none rfl _ _ _) rfl ?_
    exact ⟨rfl, (S.put (st' := { st with h := { st.h with next := x } }) 29 _ (by omega) rfl rfl rfl).put 12 _ (by omega) rfl rfl rfl, (((Kq.of_below hb).trans (Kq.of_below hb3)).set 29 _).set 12 _⟩
def I8.fillO (st : I8) : Option I8 := (st.wrO (st.blk 2) 0 0 st.h.b 0).map fun t => t.to 21
set_option maxHeartbeats 4000000 in
theorem pn_13 (B q : Nat) (st : I8) (w : World) (S : IAt w B q st) (hn : st.n ≤ 16777216) (hs : 0 ≤ st.h.seen ∧ st.h.seen ≤ 18446744073709551615) (ha : aOk st.p st.s st.l st.c st.k st.n = true) (bd : ∀ x ∈ st.xs, 0 ≤ x ∧ x ≤ 18446744073709551615) (hat : st.h.at_ = 13) :
    Calls Tryz.prog 24 #[.pointer (some ⟨q, 0, none⟩)] w (Ends B q st.pv w st.fillO) := by
  have c12 : w.cell? ⟨q, 12, none⟩ = some (.int .i64 st.h.at_) := S.is.cell 12
  rw [hat] at c12
  have A := S.is
  have l1 : ∀ w', Cls w w' → (loadVar 2 ⟨q, 15, none⟩).run Tryz.prog w' = .ok (.int .i64 st.h.b) w' := ld_i A Tryz.underlying2 rfl
  clear A
  unfold I8.fillO
  cases hr : st.wrO (st.blk 2) 0 0 st.h.b 0 with
  | none =>
    simp only [Option.map_none]
    unfold Ends
    go_enter Tryz.func24, Tryz.ntmps24
    go_upto_region 10 with fail
    refine wp_region_bar (C := Cls w) rfl rfl (by kernel_rfl) (by kernel_rfl) ⟨(Below.refl _ _).drew⟩ ?_
    simp only [List.dropLast]
    repeat' (first
      | go_big_quiet_skip
      | (go_big_quiet_want; first
        | (refine q_load _ _ _ _ rfl rfl (by assumption) ?_; simp only [Act.put, List.setIfInBounds_toArray, List.set_cons_zero, List.set_cons_succ]; go_big_quiet_on)
        | (go_big_quiet_op; first
          | go_big_quiet_on
          | (refine ⟨_, fun _ _ => rfl, ?_⟩; go_big_quiet_on)
          | (apply Exists.intro; refine ⟨fun w' hw' => ?_, ?_⟩
             · (first
               | (go_at_call 59; exact cls_below hw' (pBlock B q st _ _ (S.keep hw'.below))))
             go_big_quiet_on))))
    refine wpQuiet_nil ?_
    intro w2 hw2
    go_wp2_with (go_at_call 62; refine (iStWrite B q st _ _ _ _ _ _ (S.keep hw2.below) hn).mono ?_; intro e w3 hE; rw [hr] at hE; obtain ⟨rfl, z3⟩ := hE)
    exact ⟨rfl, rfl, (Kq.of_below hw2.below).trans z3⟩
  | some t =>
    simp only [Option.map_some]
    have hpv := I8.wrO_pv hr
    unfold Ends
    go_enter Tryz.func24, Tryz.ntmps24
    go_upto_region 10 with fail
    refine wp_region_bar (C := Cls w) rfl rfl (by kernel_rfl) (by kernel_rfl) ⟨(Below.refl _ _).drew⟩ ?_
    simp only [List.dropLast]
    repeat' (first
      | go_big_quiet_skip
      | (go_big_quiet_want; first
        | (refine q_load _ _ _ _ rfl rfl (by assumption) ?_; simp only [Act.put, List.setIfInBounds_toArray, List.set_cons_zero, List.set_cons_succ]; go_big_quiet_on)
        | (go_big_quiet_op; first
          | go_big_quiet_on
          | (refine ⟨_, fun _ _ => rfl, ?_⟩; go_big_quiet_on)
          | (apply Exists.intro; refine ⟨fun w' hw' => ?_, ?_⟩
             · (first
               | (go_at_call 59; exact cls_below hw' (pBlock B q st _ _ (S.keep hw'.below))))
             go_big_quiet_on))))
    refine wpQuiet_nil ?_
    intro w2 hw2
    go_wp2_with (go_at_call 62; refine (iStWrite B q st _ _ _ _ _ _ (S.keep hw2.below) hn).mono ?_; intro e w3 hE; rw [hr] at hE; obtain ⟨rfl, S3, z3⟩ := hE; clear c12; have c12 : w3.cell? ⟨q, 12, none⟩ = some (.int .i64 t.h.at_) := S3.is.cell 12; have f12 := S3.fz 12)
    first | go_end0 | refine bodyPost_ret (results_none rfl _ _ _) rfl ?_
    exact ⟨rfl, S3.to 21, ((Kq.of_below hw2.below).trans z3).set _ _⟩
def I8.storeO (st : I8) : Option I8 := (st.wrO (st.blk (wrap64 (2 + st.h.b))) 0 0 st.h.c 0).map fun t => t.rep 1 0
set_option maxHeartbeats 4000000 in
theorem pn_15 (B q : Nat) (st : I8) (w : World) (S : IAt w B q st) (hn : st.n ≤ 16777216) (hs : 0 ≤ st.h.seen ∧ st.h.seen ≤ 18446744073709551615) (ha : aOk st.p st.s st.l st.c st.k st.n = true) (bd : ∀ x ∈ st.xs, 0 ≤ x ∧ x ≤ 18446744073709551615) (hat : st.h.at_ = 15) :
    Calls Tryz.prog 24 #[.pointer (some ⟨q, 0, none⟩)] w (Ends B q st.pv w st.storeO) := by
  have c12 : w.cell? ⟨q, 12, none⟩ = some (.int .i64 st.h.at_) := S.is.cell 12
  rw [hat] at c12
  have A := S.is
  have l1 : ∀ w', Cls w w' → (loadVar 2 ⟨q, 15, none⟩).run Tryz.prog w' = .ok (.int .i64 st.h.b) w' := ld_i A Tryz.underlying2 rfl
  have l2 : ∀ w', Cls w w' → (loadVar 2 ⟨q, 16, none⟩).run Tryz.prog w' = .ok (.int .i64 st.h.c) w' := ld_i A Tryz.underlying2 rfl
  clear A
  unfold I8.storeO
  cases hr : st.wrO (st.blk (wrap64 (2 + st.h.b))) 0 0 st.h.c 0 with
  | none =>
    simp only [Option.map_none]
    unfold Ends
    go_enter Tryz.func24, Tryz.ntmps24
    go_upto_region 15 with fail
    refine wp_region_bar (C := Cls w) rfl rfl (by kernel_rfl) (by kernel_rfl) ⟨(Below.refl _ _).drew⟩ ?_
    simp only [List.dropLast]
    repeat' (first
      | go_big_quiet_skip
      | (go_big_quiet_want; first
        | (refine q_load _ _ _ _ rfl rfl (by assumption) ?_; simp only [Act.put, List.setIfInBounds_toArray, List.set_cons_zero, List.set_cons_succ]; go_big_quiet_on)
        | (go_big_quiet_op; first
          | go_big_quiet_on
          | (refine ⟨_, fun _ _ => rfl, ?_⟩; go_big_quiet_on)
          | (apply Exists.intro; refine ⟨fun w' hw' => ?_, ?_⟩
             · (first
               | (go_at_call 59; exact cls_below hw' (pBlock B q st _ _ (S.keep hw'.below))))
             go_big_quiet_on))))
    refine wpQuiet_nil ?_
    intro w2 hw2
    go_wp2_with (go_at_call 62; refine (iStWrite B q st _ _ _ _ _ _ (S.keep hw2.below) hn).mono ?_; intro e w3 hE; rw [hr] at hE; obtain ⟨rfl, z3⟩ := hE)
    exact ⟨rfl, rfl, (Kq.of_below hw2.below).trans z3⟩
  | some t =>
    simp only [Option.map_some]
    have hpv := I8.wrO_pv hr
    unfold Ends
    go_enter Tryz.func24, Tryz.ntmps24
    go_upto_region 15 with fail
    refine wp_region_bar (C := Cls w) rfl rfl (by kernel_rfl) (by kernel_rfl) ⟨(Below.refl _ _).drew⟩ ?_
    simp only [List.dropLast]
    repeat' (first
      | go_big_quiet_skip
      | (go_big_quiet_want; first
        | (refine q_load _ _ _ _ rfl rfl (by assumption) ?_; simp only [Act.put, List.setIfInBounds_toArray, List.set_cons_zero, List.set_cons_succ]; go_big_quiet_on)
        | (go_big_quiet_op; first
          | go_big_quiet_on
          | (refine ⟨_, fun _ _ => rfl, ?_⟩; go_big_quiet_on)
          | (apply Exists.intro; refine ⟨fun w' hw' => ?_, ?_⟩
             · (first
               | (go_at_call 59; exact cls_below hw' (pBlock B q st _ _ (S.keep hw'.below))))
             go_big_quiet_on))))
    refine wpQuiet_nil ?_
    intro w2 hw2
    go_wp2_with (first
      | (go_at_call 62; refine (iStWrite B q st _ _ _ _ _ _ (S.keep hw2.below) hn).mono ?_; intro e w3 hE; rw [hr] at hE; obtain ⟨rfl, S3, z3⟩ := hE)
      | (go_at_call 64; refine (iReply B q t 1 0 _ S3).mono ?_; rintro e w5 ⟨rfl, S5, z5⟩; rw [hpv] at z5))
    first | go_end0 | refine bodyPost_ret (results_none rfl _ _ _) rfl ?_
    exact ⟨rfl, S5, ((Kq.of_below hw2.below).trans z3).trans z5⟩
def I8.yieldO (st : I8) : Option I8 := (st.intO 2 st.h.block).map fun t => t.to 18
set_option maxHeartbeats 4000000 in
theorem pn_17 (B q : Nat) (st : I8) (w : World) (S : IAt w B q st) (hn : st.n ≤ 16777216) (hs : 0 ≤ st.h.seen ∧ st.h.seen ≤ 18446744073709551615) (ha : aOk st.p st.s st.l st.c st.k st.n = true) (bd : ∀ x ∈ st.xs, 0 ≤ x ∧ x ≤ 18446744073709551615) (hat : st.h.at_ = 17) :
    Calls Tryz.prog 24 #[.pointer (some ⟨q, 0, none⟩)] w (Ends B q st.pv w st.yieldO) := by
  have c12 : w.cell? ⟨q, 12, none⟩ = some (.int .i64 st.h.at_) := S.is.cell 12
  rw [hat] at c12
  have A := S.is
  have l1 : ∀ w', Cls w w' → (loadVar 2 ⟨q, 27, none⟩).run Tryz.prog w' = .ok (.int .i64 st.h.block) w' := ld_i A Tryz.underlying2 rfl
  clear A
  unfold I8.yieldO
  cases hr : st.intO 2 st.h.block with
  | none =>
    simp only [Option.map_none]
    unfold Ends
    go_enter Tryz.func24, Tryz.ntmps24
    go_upto_region 20 with fail
    refine wp_region_bar (C := Cls w) rfl rfl (by kernel_rfl) (by kernel_rfl) ⟨(Below.refl _ _).drew⟩ ?_
    simp only [List.dropLast]
    repeat' (first
      | go_big_quiet_skip
      | (go_big_quiet_want; first
        | (refine q_load _ _ _ _ rfl rfl (by assumption) ?_; simp only [Act.put, List.setIfInBounds_toArray, List.set_cons_zero, List.set_cons_succ]; go_big_quiet_on)
        | (go_big_quiet_op; first
          | go_big_quiet_on
          | (refine ⟨_, fun _ _ => rfl, ?_⟩; go_big_quiet_on))))
    refine wpQuiet_nil ?_
    intro w2 hw2
    go_wp2_with (go_at_call 65; refine (iIntend B q st _ _ _ (S.keep hw2.below) hn).mono ?_; intro e w3 hE; rw [hr] at hE; obtain ⟨rfl, z3⟩ := hE)
    exact ⟨rfl, rfl, (Kq.of_below hw2.below).trans z3⟩
  | some t =>
    simp only [Option.map_some]
    have hpv := intO_pv hr
    unfold Ends
    go_enter Tryz.func24, Tryz.ntmps24
    go_upto_region 20 with fail
    refine wp_region_bar (C := Cls w) rfl rfl (by kernel_rfl) (by kernel_rfl) ⟨(Below.refl _ _).drew⟩ ?_
    simp only [List.dropLast]
    repeat' (first
      | go_big_quiet_skip
      | (go_big_quiet_want; first
        | (refine q_load _ _ _ _ rfl rfl (by assumption) ?_; simp only [Act.put, List.setIfInBounds_toArray, List.set_cons_zero, List.set_cons_succ]; go_big_quiet_on)
        | (go_big_quiet_op; first
          | go_big_quiet_on
          | (refine ⟨_, fun _ _ => rfl, ?_⟩; go_big_quiet_on))))
    refine wpQuiet_nil ?_
    intro w2 hw2
    go_wp2_with (go_at_call 65; refine (iIntend B q st _ _ _ (S.keep hw2.below) hn).mono ?_; intro e w3 hE; rw [hr] at hE; obtain ⟨rfl, S3, z3⟩ := hE; clear c12; have c12 : w3.cell? ⟨q, 12, none⟩ = some (.int .i64 t.h.at_) := S3.is.cell 12; have f12 := S3.fz 12)
    first | go_end0 | refine bodyPost_ret (results_none rfl _ _ _) rfl ?_
    exact ⟨rfl, S3.to 18, ((Kq.of_below hw2.below).trans z3).set _ _⟩
def I8.looseO (st : I8) : Option I8 := (st.wrO (st.blk 0) 0 0 0 0).map fun t => t.to 19
set_option maxHeartbeats 4000000 in
theorem pn_18 (B q : Nat) (st : I8) (w : World) (S : IAt w B q st) (hn : st.n ≤ 16777216) (hs : 0 ≤ st.h.seen ∧ st.h.seen ≤ 18446744073709551615) (ha : aOk st.p st.s st.l st.c st.k st.n = true) (bd : ∀ x ∈ st.xs, 0 ≤ x ∧ x ≤ 18446744073709551615) (hat : st.h.at_ = 18) :
    Calls Tryz.prog 24 #[.pointer (some ⟨q, 0, none⟩)] w (Ends B q st.pv w st.looseO) := by
  have c12 : w.cell? ⟨q, 12, none⟩ = some (.int .i64 st.h.at_) := S.is.cell 12
  rw [hat] at c12
  have A := S.is
  clear A
  unfold I8.looseO
  cases hr : st.wrO (st.blk 0) 0 0 0 0 with
  | none =>
    simp only [Option.map_none]
    unfold Ends
    go_enter Tryz.func24, Tryz.ntmps24
    go_upto_region 23 with fail
    refine wp_region_bar (C := Cls w) rfl rfl (by kernel_rfl) (by kernel_rfl) ⟨(Below.refl _ _).drew⟩ ?_
    simp only [List.dropLast]
    repeat' (first
      | go_big_quiet_skip
      | (go_big_quiet_want; first
        | (refine q_load _ _ _ _ rfl rfl (by assumption) ?_; simp only [Act.put, List.setIfInBounds_toArray, List.set_cons_zero, List.set_cons_succ]; go_big_quiet_on)
        | (go_big_quiet_op; first
          | go_big_quiet_on
          | (refine ⟨_, fun _ _ => rfl, ?_⟩; go_big_quiet_on)
          | (apply Exists.intro; refine ⟨fun w' hw' => ?_, ?_⟩
             · (first
               | (go_at_call 59; exact cls_below hw' (pBlock B q st _ _ (S.keep hw'.below))))
             go_big_quiet_on))))
    refine wpQuiet_nil ?_
    intro w2 hw2
    go_wp2_with (go_at_call 62; refine (iStWrite B q st _ _ _ _ _ _ (S.keep hw2.below) hn).mono ?_; intro e w3 hE; rw [hr] at hE; obtain ⟨rfl, z3⟩ := hE)
    exact ⟨rfl, rfl, (Kq.of_below hw2.below).trans z3⟩
  | some t =>
    simp only [Option.map_some]
    have hpv := I8.wrO_pv hr
    unfold Ends
    go_enter Tryz.func24, Tryz.ntmps24
    go_upto_region 23 with fail
    refine wp_region_bar (C := Cls w) rfl rfl (by kernel_rfl) (by kernel_rfl) ⟨(Below.refl _ _).drew⟩ ?_
    simp only [List.dropLast]
    repeat' (first
      | go_big_quiet_skip
      | (go_big_quiet_want; first
        | (refine q_load _ _ _ _ rfl rfl (by assumption) ?_; simp only [Act.put, List.setIfInBounds_toArray, List.set_cons_zero, List.set_cons_succ]; go_big_quiet_on)
        | (go_big_quiet_op; first
          | go_big_quiet_on
          | (refine ⟨_, fun _ _ => rfl, ?_⟩; go_big_quiet_on)
          | (apply Exists.intro; refine ⟨fun w' hw' => ?_, ?_⟩
             · (first
               | (go_at_call 59; exact cls_below hw' (pBlock B q st _ _ (S.keep hw'.below))))
             go_big_quiet_on))))
    refine wpQuiet_nil ?_
    intro w2 hw2
    go_wp2_with (go_at_call 62; refine (iStWrite B q st _ _ _ _ _ _ (S.keep hw2.below) hn).mono ?_; intro e w3 hE; rw [hr] at hE; obtain ⟨rfl, S3, z3⟩ := hE; clear c12; have c12 : w3.cell? ⟨q, 12, none⟩ = some (.int .i64 t.h.at_) := S3.is.cell 12; have f12 := S3.fz 12)
    first | go_end0 | refine bodyPost_ret (results_none rfl _ _ _) rfl ?_
    exact ⟨rfl, S3.to 19, ((Kq.of_below hw2.below).trans z3).set _ _⟩
def I8.valAt (st : I8) : Int := st.blk (wrap64 (2 + st.h.b))
def I8.fetchO (st : I8) : Option I8 := if thr st.valAt st.n = true then some (st.rep 2 (uI (red st.xs st.valAt))) else none
set_option maxHeartbeats 4000000 in
theorem pn_16 (B q : Nat) (st : I8) (w : World) (S : IAt w B q st) (hn : st.n ≤ 16777216) (hs : 0 ≤ st.h.seen ∧ st.h.seen ≤ 18446744073709551615) (ha : aOk st.p st.s st.l st.c st.k st.n = true) (bd : ∀ x ∈ st.xs, 0 ≤ x ∧ x ≤ 18446744073709551615) (hat : st.h.at_ = 16) :
    Calls Tryz.prog 24 #[.pointer (some ⟨q, 0, none⟩)] w (Ends B q st.pv w st.fetchO) := by
  have c12 : w.cell? ⟨q, 12, none⟩ = some (.int .i64 st.h.at_) := S.is.cell 12
  rw [hat] at c12
  have A := S.is
  have l1 : ∀ w', Cls w w' → (loadVar 2 ⟨q, 15, none⟩).run Tryz.prog w' = .ok (.int .i64 st.h.b) w' := ld_i A Tryz.underlying2 rfl
  clear A
  unfold I8.fetchO
  cases ht : thr st.valAt st.n
  · rw [if_neg (by decide)]
    unfold Ends
    go_enter Tryz.func24, Tryz.ntmps24
    go_upto_region 18 with fail
    refine wp_region_dies (C := Cls w) [0, 1, 2, 3, 4, 5, 6, 7, 8, 9, 10, 11, 12] 13 (by simp only [List.map_cons, List.map_nil, List.getD_cons_succ, List.getD_cons_zero]; rfl) (by kernel_rfl) rfl (by kernel_rfl) (by kernel_rfl) (by kernel_rfl) (by decide) ⟨(Below.refl _ _).drew⟩ (fun c a d v w h => by cases d <;> exact h) ?_
    repeat' (first
      | go_big_quiet_skip
      | (go_big_quiet_want; first
        | (refine q_load _ _ _ _ rfl rfl (by assumption) ?_; simp only [Act.put, List.setIfInBounds_toArray, List.set_cons_zero, List.set_cons_succ]; go_big_quiet_on)
        | (go_big_quiet_op; first
          | go_big_quiet_on
          | (refine ⟨_, fun _ _ => rfl, ?_⟩; go_big_quiet_on)
          | (apply Exists.intro; refine ⟨fun w' hw' => ?_, ?_⟩
             · (first
               | (go_at_call 59; exact cls_below hw' (pBlock B q st _ _ (S.keep hw'.below))))
             go_big_quiet_on))))
    refine wpQuiet_nil ?_
    refine ⟨by rfl, fun w2 hw2 => ?_⟩
    go_simp
    go_at_call 58
    refine (pIndexN B q st st.valAt _ (S.keep hw2.below) hn ht).mono ?_
    rintro e w3 ⟨rfl, rfl⟩
    exact ⟨rfl, rfl, Kq.of_below hw2.below⟩
  · rw [if_pos rfl]
    have hb0 := red_bd bd st.valAt
    clear bd ha
    have PI : Hid (∀ w, IAt w B q st → Calls Tryz.prog 58 #[.pointer (some ⟨q, 0, none⟩), .int .i64 st.valAt] w fun e w' => e = .returned (.int .i64 (uI (red st.xs st.valAt))) ∧ Below w.heap.size w w') := fun w S => pIndexY B q st st.valAt w S hn ht hb0
    unfold Ends
    go_enter Tryz.func24, Tryz.ntmps24
    go_upto_region 18 with fail
    refine wp_region_bar (C := Cls w) rfl rfl (by kernel_rfl) (by kernel_rfl) ⟨(Below.refl _ _).drew⟩ ?_
    simp only [List.dropLast]
    repeat' (first
      | go_big_quiet_skip
      | (go_big_quiet_want; first
        | (refine q_load _ _ _ _ rfl rfl (by assumption) ?_; simp only [Act.put, List.setIfInBounds_toArray, List.set_cons_zero, List.set_cons_succ]; go_big_quiet_on)
        | (go_big_quiet_op; first
          | go_big_quiet_on
          | (refine ⟨_, fun _ _ => rfl, ?_⟩; go_big_quiet_on)
          | (apply Exists.intro; refine ⟨fun w' hw' => ?_, ?_⟩
             · (first
               | (go_at_call 59; exact cls_below hw' (pBlock B q st _ _ (S.keep hw'.below)))
               | (go_at_call 58; exact cls_below hw' (PI.out _ (S.keep hw'.below))))
             go_big_quiet_on))))
    refine wpQuiet_nil ?_
    intro w2 hw2
    go_wp2_with (go_at_call 64; refine (iReply B q st 2 _ _ (S.keep hw2.below)).mono ?_; rintro e w5 ⟨rfl, S5, z5⟩)
    first | go_end0 | refine bodyPost_ret (results_none rfl _ _ _) rfl ?_
    exact ⟨rfl, S5, (Kq.of_below hw2.below).trans z5⟩
def I8.listO (st : I8) : Option I8 := if inB st.cls 0 1 = true then some { st with h := { st.h with seen := red st.xs (st.root st.cls), at_ := 20 } } else none
set_option maxHeartbeats 4000000 in
theorem pn_19 (B q : Nat) (st : I8) (w : World) (S : IAt w B q st) (hn : st.n ≤ 16777216) (hs : 0 ≤ st.h.seen ∧ st.h.seen ≤ 18446744073709551615) (ha : aOk st.p st.s st.l st.c st.k st.n = true) (bd : ∀ x ∈ st.xs, 0 ≤ x ∧ x ≤ 18446744073709551615) (hat : st.h.at_ = 19) :
    Calls Tryz.prog 24 #[.pointer (some ⟨q, 0, none⟩)] w (Ends B q st.pv w st.listO) := by
  have c12 : w.cell? ⟨q, 12, none⟩ = some (.int .i64 st.h.at_) := S.is.cell 12
  rw [hat] at c12
  unfold I8.listO
  cases hc : inB st.cls 0 1
  · rw [if_neg (by decide)]
    unfold Ends
    go_enter Tryz.func24, Tryz.ntmps24
    go_upto_region 26 with fail
    refine wp_region_dies (C := Cls w) [0, 1, 2, 3, 4, 5, 6, 7] 8 (by simp only [List.map_cons, List.map_nil, List.getD_cons_succ, List.getD_cons_zero]; rfl) (by kernel_rfl) rfl (by kernel_rfl) (by kernel_rfl) (by kernel_rfl) (by decide) ⟨(Below.refl _ _).drew⟩ (fun c a d v w h => by cases d <;> exact h) ?_
    repeat' (first
      | go_big_quiet_skip
      | (go_big_quiet_want; first
        | (refine q_load _ _ _ _ rfl rfl (by assumption) ?_; simp only [Act.put, List.setIfInBounds_toArray, List.set_cons_zero, List.set_cons_succ]; go_big_quiet_on)
        | (go_big_quiet_op; first
          | go_big_quiet_on
          | (refine ⟨_, fun _ _ => rfl, ?_⟩; go_big_quiet_on)
          | (apply Exists.intro; refine ⟨fun w' hw' => ?_, ?_⟩
             · (first
               | (go_at_call 68; exact cls_below hw' (pClass B q st _ (S.keep hw'.below))))
             go_big_quiet_on))))
    refine wpQuiet_nil ?_
    refine ⟨by rfl, fun w2 hw2 => ?_⟩
    go_simp
    go_at_call 67
    refine (pFreeN B q st _ _ (S.keep hw2.below) hc).mono ?_
    rintro e w3 ⟨rfl, rfl⟩
    exact ⟨rfl, rfl, Kq.of_below hw2.below⟩
  · rw [if_pos rfl]
    have hc2 : 0 ≤ st.cls ∧ st.cls ≤ 1 := by unfold inB at hc; simpa using hc
    have ht : thr (st.root st.cls) st.n = true := root_thr ha hc2.1 (by omega)
    obtain ⟨x, hx⟩ : ∃ x, Hid (red st.xs (st.root st.cls) = x) := ⟨_, rfl⟩
    rw [hx.out]
    clear bd ha hc2
    have hhat : Hid (st.h.at_ = 19) := hat
    clear hat
    unfold Ends
    go_enter Tryz.func24, Tryz.ntmps24
    go_upto_region 26 with fail
    clear c12
    have c13 : w.drew.cell? ⟨q, 13, none⟩ = some (.int .i64 st.h.code) := S.is.cell 13
    have z : Below w.heap.size w w.drew := (Below.refl _ _).drew
    replace S := S.keep z
    go_region_held3 (fun w' => w'.cell? ⟨q, 13, none⟩ = some (.int .i64 st.h.code)) (first | go_keep | (simp [go_sem]; assumption))
      (first
      | (go_at_call 68; refine (pClass B q st _ S).mono ?_; rintro e w2 ⟨rfl, hb⟩; replace z := z.trans (hb.mono z.size); replace S := S.keep hb; clear hb c13; have c13 : w2.cell? ⟨q, 13, none⟩ = some (.int .i64 st.h.code) := S.is.cell 13)
      | (go_at_call 67; refine (pFreeY B q st _ _ S hc).mono ?_; rintro e w3 ⟨rfl, hb⟩; replace z := z.trans (hb.mono z.size); replace S := S.keep hb; clear hb c13; have c13 : w3.cell? ⟨q, 13, none⟩ = some (.int .i64 st.h.code) := S.is.cell 13)
      | (go_at_call 66; refine (iStReadY B q st _ _ S hn ht).mono ?_; rintro e w4 ⟨rfl, rfl⟩; rw [hx.out]; have c22 : w4.cell? ⟨q, 22, none⟩ = some (.int .u64 st.h.seen) := S.is.cell 22; have f22 := S.fz 22; have c12 : w4.cell? ⟨q, 12, none⟩ = some (.int .i64 st.h.at_) := S.is.cell 12; have f12 := S.fz 12))
    go_wp2
    first | go_end0 | refine bodyPost_ret (results_none rfl _ _ _) rfl ?_
    exact ⟨rfl, (S.put (st' := { st with h := { st.h with seen := x } }) 22 _ (by omega) rfl rfl rfl).put 12 _ (by omega) rfl rfl rfl, ((Kq.of_below z).set 22 _).set 12 _⟩
def I8.pnext (st : I8) : Option I8 :=
  if st.h.at_ = 9 then st.freeO else if st.h.at_ = 10 then st.underO else if st.h.at_ = 11 then st.wantO else if st.h.at_ = 12 then st.holdO else
  if st.h.at_ = 13 then st.fillO else if st.h.at_ = 14 then st.mineO else if st.h.at_ = 15 then st.storeO else if st.h.at_ = 16 then st.fetchO else
  if st.h.at_ = 17 then st.yieldO else if st.h.at_ = 18 then st.looseO else if st.h.at_ = 19 then st.listO else st.chainO
theorem pNext (B q : Nat) (st : I8) (w : World) (S : IAt w B q st) (hn : st.n ≤ 16777216) (hs : 0 ≤ st.h.seen ∧ st.h.seen ≤ 18446744073709551615) (ha : aOk st.p st.s st.l st.c st.k st.n = true) (bd : ∀ x ∈ st.xs, 0 ≤ x ∧ x ≤ 18446744073709551615) (hat : 9 ≤ st.h.at_ ∧ st.h.at_ ≤ 20) :
    Calls Tryz.prog 24 #[.pointer (some ⟨q, 0, none⟩)] w (Ends B q st.pv w st.pnext) := by
  unfold I8.pnext
  by_cases k9 : st.h.at_ = 9
  · rw [if_pos k9]; exact pn_9 B q st w S hn hs ha bd k9
  rw [if_neg k9]
  by_cases k10 : st.h.at_ = 10
  · rw [if_pos k10]; exact pn_10 B q st w S hn hs ha bd k10
  rw [if_neg k10]
  by_cases k11 : st.h.at_ = 11
  · rw [if_pos k11]; exact pn_11 B q st w S hn hs ha bd k11
  rw [if_neg k11]
  by_cases k12 : st.h.at_ = 12
  · rw [if_pos k12]; exact pn_12 B q st w S hn hs ha bd k12
  rw [if_neg k12]
  by_cases k13 : st.h.at_ = 13
  · rw [if_pos k13]; exact pn_13 B q st w S hn hs ha bd k13
  rw [if_neg k13]
  by_cases k14 : st.h.at_ = 14
  · rw [if_pos k14]; exact pn_14 B q st w S hn hs ha bd k14
  rw [if_neg k14]
  by_cases k15 : st.h.at_ = 15
  · rw [if_pos k15]; exact pn_15 B q st w S hn hs ha bd k15
  rw [if_neg k15]
  by_cases k16 : st.h.at_ = 16
  · rw [if_pos k16]; exact pn_16 B q st w S hn hs ha bd k16
  rw [if_neg k16]
  by_cases k17 : st.h.at_ = 17
  · rw [if_pos k17]; exact pn_17 B q st w S hn hs ha bd k17
  rw [if_neg k17]
  by_cases k18 : st.h.at_ = 18
  · rw [if_pos k18]; exact pn_18 B q st w S hn hs ha bd k18
  rw [if_neg k18]
  by_cases k19 : st.h.at_ = 19
  · rw [if_pos k19]; exact pn_19 B q st w S hn hs ha bd k19
  rw [if_neg k19]
  exact pn_20 B q st w S hn hs ha bd (by omega)
end Go.Proofs.YtdebjfgflldpjaaGreat
namespace Go.Proofs.YtdebjfgflldpjaaGreat
open Go.RowKit
set_option maxRecDepth 100000
set_option linter.unusedVariables false
set_option linter.unusedSimpArgs false
theorem cell_other (b k : Nat) : ∀ (w : World) (i : Nat) (v : Value), i ≠ k → (w.setCell ⟨b, k, none⟩ v).cell? ⟨b, i, none⟩ = w.cell? ⟨b, i, none⟩ := fun w i v h => World.cell?_setCell_other _ _ _ _ (by simp <;> omega)
theorem SAt.cast {w : World} {b : Nat} {s1 s2 : S8} (h : SAt w b s1) (e : s1 = s2) : SAt w b s2 := e ▸ h
theorem K2.low {b g : Nat} {w w' : World} (h : K2 b g w w') (hb : ∀ k, k < w.heap.size → w'.heap[k]? = w.heap[k]?) : Below w.heap.size w w' := ⟨h.os, h.tape, h.output, h.size, hb⟩
theorem run_wordField (x0 x1 x2 x3 : Int) (w : World) : (Instr.field 85 (.agg #[.int .i64 x0, .int .i64 x1, .int .i64 x2, .int .i64 x3]) 2).run Tryz.prog w = .ok (.int .i64 x2) w := by
  simp [Instr.field, go_sem, asAgg]
set_option maxHeartbeats 400000 in
theorem sIndex (x : Int) (h0 : 0 ≤ x) (h1 : x ≤ 18446744073709551615) (w : World) :
    Calls Tryz.prog 38 #[.int .u64 x] w fun e w' => e = .returned (.int .i64 (uI x)) ∧ Below w.heap.size w w' := by
  have hf := run_wordField
  go_enter Tryz.func38, Tryz.ntmps38
  go_wp2_with (go_at_call 84; refine (sUnpack _ h0 h1 _).mono ?_; rintro e w1 ⟨rfl, hb⟩)
  go_ret
  exact ⟨rfl, hb⟩

def S8.reply (st : S8) (r o : Int) : S8 := ((st.u_Reply r).u_Out o).u_At 2
set_option maxRecDepth 100000 in
set_option maxHeartbeats 4000000 in
theorem sl8Reply (b : Nat) (st : S8) (r o : Int) (w : World) (S : SAt w b st) :
    Calls Tryz.prog 39 #[.pointer (some ⟨b, 0, none⟩), .int .i64 r, .int .i64 o] w fun e w' => e = .returned (.tuple #[]) ∧ SAt w' b (st.reply r o) ∧ K2 b st.g w w' := by
  have hw : ∀ x : Int, IntKind.i64.wrap x = w64 x := fun x => by unfold w64 wrap64; exact IntKind.wrap_i64 x
  have hw2 : ∀ x : Int, wrap64 x = w64 x := fun _ => rfl
  have k1 := K2.refl b st.g w
  have y13 := S.c_h_At
  (try simp only [S8.rdS_h, S8.wrd_h, S8.wr_h, S8.rdS_d, S8.wrd_d, S8.wr_d, S8.rdS_me, S8.wrd_me, S8.wr_me, S8.rdS_p, S8.wrd_p, S8.wr_p, S8.rdS_s, S8.wrd_s, S8.wr_s, S8.rdS_l, S8.wrd_l, S8.wr_l, S8.rdS_c, S8.wrd_c, S8.wr_c, S8.rdS_k, S8.wrd_k, S8.wr_k, S8.rdS_n, S8.wrd_n, S8.wr_n, S8.rdS_g, S8.wrd_g, S8.wr_g, S8.rdS_cc, S8.wrd_cc, S8.wr_cc, S8.rdS_ra, S8.wrd_ra, S8.wr_ra, S8.rdS_rc, S8.wrd_rc, S8.wr_rc, S8.rdS_runs, S8.wrd_runs, S8.wr_runs, S8.intend_h, S8.intend_p, S8.intend_s, S8.intend_l, S8.intend_c, S8.intend_k, S8.intend_g, S8.intend_n, S8.intend_cc, S8.intend_ra, S8.intend_rc, S8.intend_runs, S8.intend_me, S8.intend_d, S8.uh_h, S8.uh_p, S8.uh_s, S8.uh_l, S8.uh_c, S8.uh_k, S8.uh_g, S8.uh_n, S8.uh_cc, S8.uh_ra, S8.uh_rc, S8.uh_runs, S8.uh_me, S8.uh_d, S8.uok_h, S8.uok_p, S8.uok_s, S8.uok_l, S8.uok_c, S8.uok_k, S8.uok_g, S8.uok_n, S8.uok_cc, S8.uok_ra, S8.uok_rc, S8.uok_runs, S8.uok_me, S8.uok_d, S8.u_Up, S8.u_In, S8.u_Sure, S8.u_Known, S8.u_Life, S8.u_At, S8.u_Code, S8.u_A, S8.u_B, S8.u_C, S8.u_Number, S8.u_For, S8.u_Last, S8.u_Mine, S8.u_Addr, S8.u_Seen, S8.u_Put, S8.u_Good, S8.u_Bad, S8.u_Does, S8.u_Block, S8.u_From, S8.u_Next, S8.u_Value, S8.u_Index, S8.u_Which, S8.u_Kept, S8.u_WasCode, S8.u_WasItem, S8.u_WasNumber, S8.u_WasKind, S8.u_WasTag, S8.u_Reply, S8.u_Out, S8.u_Mark, S8.u_Begin, S8.install, S8.reply, S8.back, S8.never] at y13)
  have y40 := S.c_h_Reply
  (try simp only [S8.rdS_h, S8.wrd_h, S8.wr_h, S8.rdS_d, S8.wrd_d, S8.wr_d, S8.rdS_me, S8.wrd_me, S8.wr_me, S8.rdS_p, S8.wrd_p, S8.wr_p, S8.rdS_s, S8.wrd_s, S8.wr_s, S8.rdS_l, S8.wrd_l, S8.wr_l, S8.rdS_c, S8.wrd_c, S8.wr_c, S8.rdS_k, S8.wrd_k, S8.wr_k, S8.rdS_n, S8.wrd_n, S8.wr_n, S8.rdS_g, S8.wrd_g, S8.wr_g, S8.rdS_cc, S8.wrd_cc, S8.wr_cc, S8.rdS_ra, S8.wrd_ra, S8.wr_ra, S8.rdS_rc, S8.wrd_rc, S8.wr_rc, S8.rdS_runs, S8.wrd_runs, S8.wr_runs, S8.intend_h, S8.intend_p, S8.intend_s, S8.intend_l, S8.intend_c, S8.intend_k, S8.intend_g, S8.intend_n, S8.intend_cc, S8.intend_ra, S8.intend_rc, S8.intend_runs, S8.intend_me, S8.intend_d, S8.uh_h, S8.uh_p, S8.uh_s, S8.uh_l, S8.uh_c, S8.uh_k, S8.uh_g, S8.uh_n, S8.uh_cc, S8.uh_ra, S8.uh_rc, S8.uh_runs, S8.uh_me, S8.uh_d, S8.uok_h, S8.uok_p, S8.uok_s, S8.uok_l, S8.uok_c, S8.uok_k, S8.uok_g, S8.uok_n, S8.uok_cc, S8.uok_ra, S8.uok_rc, S8.uok_runs, S8.uok_me, S8.uok_d, S8.u_Up, S8.u_In, S8.u_Sure, S8.u_Known, S8.u_Life, S8.u_At, S8.u_Code, S8.u_A, S8.u_B, S8.u_C, S8.u_Number, S8.u_For, S8.u_Last, S8.u_Mine, S8.u_Addr, S8.u_Seen, S8.u_Put, S8.u_Good, S8.u_Bad, S8.u_Does, S8.u_Block, S8.u_From, S8.u_Next, S8.u_Value, S8.u_Index, S8.u_Which, S8.u_Kept, S8.u_WasCode, S8.u_WasItem, S8.u_WasNumber, S8.u_WasKind, S8.u_WasTag, S8.u_Reply, S8.u_Out, S8.u_Mark, S8.u_Begin, S8.install, S8.reply, S8.back, S8.never] at y40)
  have y41 := S.c_h_Out
  (try simp only [S8.rdS_h, S8.wrd_h, S8.wr_h, S8.rdS_d, S8.wrd_d, S8.wr_d, S8.rdS_me, S8.wrd_me, S8.wr_me, S8.rdS_p, S8.wrd_p, S8.wr_p, S8.rdS_s, S8.wrd_s, S8.wr_s, S8.rdS_l, S8.wrd_l, S8.wr_l, S8.rdS_c, S8.wrd_c, S8.wr_c, S8.rdS_k, S8.wrd_k, S8.wr_k, S8.rdS_n, S8.wrd_n, S8.wr_n, S8.rdS_g, S8.wrd_g, S8.wr_g, S8.rdS_cc, S8.wrd_cc, S8.wr_cc, S8.rdS_ra, S8.wrd_ra, S8.wr_ra, S8.rdS_rc, S8.wrd_rc, S8.wr_rc, S8.rdS_runs, S8.wrd_runs, S8.wr_runs, S8.intend_h, S8.intend_p, S8.intend_s, S8.intend_l, S8.intend_c, S8.intend_k, S8.intend_g, S8.intend_n, S8.intend_cc, S8.intend_ra, S8.intend_rc, S8.intend_runs, S8.intend_me, S8.intend_d, S8.uh_h, S8.uh_p, S8.uh_s, S8.uh_l, S8.uh_c, S8.uh_k, S8.uh_g, S8.uh_n, S8.uh_cc, S8.uh_ra, S8.uh_rc, S8.uh_runs, S8.uh_me, S8.uh_d, S8.uok_h, S8.uok_p, S8.uok_s, S8.uok_l, S8.uok_c, S8.uok_k, S8.uok_g, S8.uok_n, S8.uok_cc, S8.uok_ra, S8.uok_rc, S8.uok_runs, S8.uok_me, S8.uok_d, S8.u_Up, S8.u_In, S8.u_Sure, S8.u_Known, S8.u_Life, S8.u_At, S8.u_Code, S8.u_A, S8.u_B, S8.u_C, S8.u_Number, S8.u_For, S8.u_Last, S8.u_Mine, S8.u_Addr, S8.u_Seen, S8.u_Put, S8.u_Good, S8.u_Bad, S8.u_Does, S8.u_Block, S8.u_From, S8.u_Next, S8.u_Value, S8.u_Index, S8.u_Which, S8.u_Kept, S8.u_WasCode, S8.u_WasItem, S8.u_WasNumber, S8.u_WasKind, S8.u_WasTag, S8.u_Reply, S8.u_Out, S8.u_Mark, S8.u_Begin, S8.install, S8.reply, S8.back, S8.never] at y41)
  have z13 := S.fz 13
  have z40 := S.fz 40
  have z41 := S.fz 41
  go_enter Tryz.func39, Tryz.ntmps39
  go_wp2_with fail
  all_goals (first | go_end0 | refine bodyPost_ret (results_none rfl _ _ _) rfl ?_)
  refine ⟨rfl, SAt.cast (by repeat (first | with_reducible apply SAt.s_h_At | with_reducible apply SAt.s_h_Reply | with_reducible apply SAt.s_h_Out | with_reducible exact S | with_reducible apply SAt.drew)) ?_, by repeat (first | with_reducible exact k1 | with_reducible apply K2.set | with_reducible apply K2.drew)⟩
  rfl
def S8.install (st : S8) (a x d g b : Int) : S8 := (((((st.u_Addr a).u_Put x).u_Does d).u_Good g).u_Bad b).u_At 6
set_option maxRecDepth 100000 in
set_option maxHeartbeats 4000000 in
theorem sl9Install (b : Nat) (st : S8) (a x d g0 b0 : Int) (w : World) (S : SAt w b st) :
    Calls Tryz.prog 42 #[.pointer (some ⟨b, 0, none⟩), .int .i64 a, .int .u64 x, .int .i64 d, .int .i64 g0, .int .i64 b0] w fun e w' => e = .returned (.tuple #[]) ∧ SAt w' b (st.install a x d g0 b0) ∧ K2 b st.g w w' := by
  have hw : ∀ x : Int, IntKind.i64.wrap x = w64 x := fun x => by unfold w64 wrap64; exact IntKind.wrap_i64 x
  have hw2 : ∀ x : Int, wrap64 x = w64 x := fun _ => rfl
  have k1 := K2.refl b st.g w
  have y13 := S.c_h_At
  (try simp only [S8.rdS_h, S8.wrd_h, S8.wr_h, S8.rdS_d, S8.wrd_d, S8.wr_d, S8.rdS_me, S8.wrd_me, S8.wr_me, S8.rdS_p, S8.wrd_p, S8.wr_p, S8.rdS_s, S8.wrd_s, S8.wr_s, S8.rdS_l, S8.wrd_l, S8.wr_l, S8.rdS_c, S8.wrd_c, S8.wr_c, S8.rdS_k, S8.wrd_k, S8.wr_k, S8.rdS_n, S8.wrd_n, S8.wr_n, S8.rdS_g, S8.wrd_g, S8.wr_g, S8.rdS_cc, S8.wrd_cc, S8.wr_cc, S8.rdS_ra, S8.wrd_ra, S8.wr_ra, S8.rdS_rc, S8.wrd_rc, S8.wr_rc, S8.rdS_runs, S8.wrd_runs, S8.wr_runs, S8.intend_h, S8.intend_p, S8.intend_s, S8.intend_l, S8.intend_c, S8.intend_k, S8.intend_g, S8.intend_n, S8.intend_cc, S8.intend_ra, S8.intend_rc, S8.intend_runs, S8.intend_me, S8.intend_d, S8.uh_h, S8.uh_p, S8.uh_s, S8.uh_l, S8.uh_c, S8.uh_k, S8.uh_g, S8.uh_n, S8.uh_cc, S8.uh_ra, S8.uh_rc, S8.uh_runs, S8.uh_me, S8.uh_d, S8.uok_h, S8.uok_p, S8.uok_s, S8.uok_l, S8.uok_c, S8.uok_k, S8.uok_g, S8.uok_n, S8.uok_cc, S8.uok_ra, S8.uok_rc, S8.uok_runs, S8.uok_me, S8.uok_d, S8.u_Up, S8.u_In, S8.u_Sure, S8.u_Known, S8.u_Life, S8.u_At, S8.u_Code, S8.u_A, S8.u_B, S8.u_C, S8.u_Number, S8.u_For, S8.u_Last, S8.u_Mine, S8.u_Addr, S8.u_Seen, S8.u_Put, S8.u_Good, S8.u_Bad, S8.u_Does, S8.u_Block, S8.u_From, S8.u_Next, S8.u_Value, S8.u_Index, S8.u_Which, S8.u_Kept, S8.u_WasCode, S8.u_WasItem, S8.u_WasNumber, S8.u_WasKind, S8.u_WasTag, S8.u_Reply, S8.u_Out, S8.u_Mark, S8.u_Begin, S8.install, S8.reply, S8.back, S8.never] at y13)
  have y22 := S.c_h_Addr
  (try simp only [S8.rdS_h, S8.wrd_h, S8.wr_h, S8.rdS_d, S8.wrd_d, S8.wr_d, S8.rdS_me, S8.wrd_me, S8.wr_me, S8.rdS_p, S8.wrd_p, S8.wr_p, S8.rdS_s, S8.wrd_s, S8.wr_s, S8.rdS_l, S8.wrd_l, S8.wr_l, S8.rdS_c, S8.wrd_c, S8.wr_c, S8.rdS_k, S8.wrd_k, S8.wr_k, S8.rdS_n, S8.wrd_n, S8.wr_n, S8.rdS_g, S8.wrd_g, S8.wr_g, S8.rdS_cc, S8.wrd_cc, S8.wr_cc, S8.rdS_ra, S8.wrd_ra, S8.wr_ra, S8.rdS_rc, S8.wrd_rc, S8.wr_rc, S8.rdS_runs, S8.wrd_runs, S8.wr_runs, S8.intend_h, S8.intend_p, S8.intend_s, S8.intend_l, S8.intend_c, S8.intend_k, S8.intend_g, S8.intend_n, S8.intend_cc, S8.intend_ra, S8.intend_rc, S8.intend_runs, S8.intend_me, S8.intend_d, S8.uh_h, S8.uh_p, S8.uh_s, S8.uh_l, S8.uh_c, S8.uh_k, S8.uh_g, S8.uh_n, S8.uh_cc, S8.uh_ra, S8.uh_rc, S8.uh_runs, S8.uh_me, S8.uh_d, S8.uok_h, S8.uok_p, S8.uok_s, S8.uok_l, S8.uok_c, S8.uok_k, S8.uok_g, S8.uok_n, S8.uok_cc, S8.uok_ra, S8.uok_rc, S8.uok_runs, S8.uok_me, S8.uok_d, S8.u_Up, S8.u_In, S8.u_Sure, S8.u_Known, S8.u_Life, S8.u_At, S8.u_Code, S8.u_A, S8.u_B, S8.u_C, S8.u_Number, S8.u_For, S8.u_Last, S8.u_Mine, S8.u_Addr, S8.u_Seen, S8.u_Put, S8.u_Good, S8.u_Bad, S8.u_Does, S8.u_Block, S8.u_From, S8.u_Next, S8.u_Value, S8.u_Index, S8.u_Which, S8.u_Kept, S8.u_WasCode, S8.u_WasItem, S8.u_WasNumber, S8.u_WasKind, S8.u_WasTag, S8.u_Reply, S8.u_Out, S8.u_Mark, S8.u_Begin, S8.install, S8.reply, S8.back, S8.never] at y22)
  have y24 := S.c_h_Put
  (try simp only [S8.rdS_h, S8.wrd_h, S8.wr_h, S8.rdS_d, S8.wrd_d, S8.wr_d, S8.rdS_me, S8.wrd_me, S8.wr_me, S8.rdS_p, S8.wrd_p, S8.wr_p, S8.rdS_s, S8.wrd_s, S8.wr_s, S8.rdS_l, S8.wrd_l, S8.wr_l, S8.rdS_c, S8.wrd_c, S8.wr_c, S8.rdS_k, S8.wrd_k, S8.wr_k, S8.rdS_n, S8.wrd_n, S8.wr_n, S8.rdS_g, S8.wrd_g, S8.wr_g, S8.rdS_cc, S8.wrd_cc, S8.wr_cc, S8.rdS_ra, S8.wrd_ra, S8.wr_ra, S8.rdS_rc, S8.wrd_rc, S8.wr_rc, S8.rdS_runs, S8.wrd_runs, S8.wr_runs, S8.intend_h, S8.intend_p, S8.intend_s, S8.intend_l, S8.intend_c, S8.intend_k, S8.intend_g, S8.intend_n, S8.intend_cc, S8.intend_ra, S8.intend_rc, S8.intend_runs, S8.intend_me, S8.intend_d, S8.uh_h, S8.uh_p, S8.uh_s, S8.uh_l, S8.uh_c, S8.uh_k, S8.uh_g, S8.uh_n, S8.uh_cc, S8.uh_ra, S8.uh_rc, S8.uh_runs, S8.uh_me, S8.uh_d, S8.uok_h, S8.uok_p, S8.uok_s, S8.uok_l, S8.uok_c, S8.uok_k, S8.uok_g, S8.uok_n, S8.uok_cc, S8.uok_ra, S8.uok_rc, S8.uok_runs, S8.uok_me, S8.uok_d, S8.u_Up, S8.u_In, S8.u_Sure, S8.u_Known, S8.u_Life, S8.u_At, S8.u_Code, S8.u_A, S8.u_B, S8.u_C, S8.u_Number, S8.u_For, S8.u_Last, S8.u_Mine, S8.u_Addr, S8.u_Seen, S8.u_Put, S8.u_Good, S8.u_Bad, S8.u_Does, S8.u_Block, S8.u_From, S8.u_Next, S8.u_Value, S8.u_Index, S8.u_Which, S8.u_Kept, S8.u_WasCode, S8.u_WasItem, S8.u_WasNumber, S8.u_WasKind, S8.u_WasTag, S8.u_Reply, S8.u_Out, S8.u_Mark, S8.u_Begin, S8.install, S8.reply, S8.back, S8.never] at y24)
  have y25 := S.c_h_Good
  (try simp only [S8.rdS_h, S8.wrd_h, S8.wr_h, S8.rdS_d, S8.wrd_d, S8.wr_d, S8.rdS_me, S8.wrd_me, S8.wr_me, S8.rdS_p, S8.wrd_p, S8.wr_p, S8.rdS_s, S8.wrd_s, S8.wr_s, S8.rdS_l, S8.wrd_l, S8.wr_l, S8.rdS_c, S8.wrd_c, S8.wr_c, S8.rdS_k, S8.wrd_k, S8.wr_k, S8.rdS_n, S8.wrd_n, S8.wr_n, S8.rdS_g, S8.wrd_g, S8.wr_g, S8.rdS_cc, S8.wrd_cc, S8.wr_cc, S8.rdS_ra, S8.wrd_ra, S8.wr_ra, S8.rdS_rc, S8.wrd_rc, S8.wr_rc, S8.rdS_runs, S8.wrd_runs, S8.wr_runs, S8.intend_h, S8.intend_p, S8.intend_s, S8.intend_l, S8.intend_c, S8.intend_k, S8.intend_g, S8.intend_n, S8.intend_cc, S8.intend_ra, S8.intend_rc, S8.intend_runs, S8.intend_me, S8.intend_d, S8.uh_h, S8.uh_p, S8.uh_s, S8.uh_l, S8.uh_c, S8.uh_k, S8.uh_g, S8.uh_n, S8.uh_cc, S8.uh_ra, S8.uh_rc, S8.uh_runs, S8.uh_me, S8.uh_d, S8.uok_h, S8.uok_p, S8.uok_s, S8.uok_l, S8.uok_c, S8.uok_k, S8.uok_g, S8.uok_n, S8.uok_cc, S8.uok_ra, S8.uok_rc, S8.uok_runs, S8.uok_me, S8.uok_d, S8.u_Up, S8.u_In, S8.u_Sure, S8.u_Known, S8.u_Life, S8.u_At, S8.u_Code, S8.u_A, S8.u_B, S8.u_C, S8.u_Number, S8.u_For, S8.u_Last, S8.u_Mine, S8.u_Addr, S8.u_Seen, S8.u_Put, S8.u_Good, S8.u_Bad, S8.u_Does, S8.u_Block, S8.u_From, S8.u_Next, S8.u_Value, S8.u_Index, S8.u_Which, S8.u_Kept, S8.u_WasCode, S8.u_WasItem, S8.u_WasNumber, S8.u_WasKind, S8.u_WasTag, S8.u_Reply, S8.u_Out, S8.u_Mark, S8.u_Begin, S8.install, S8.reply, S8.back, S8.never] at y25)
  have y26 := S.c_h_Bad
  (try simp only [S8.rdS_h, S8.wrd_h, S8.wr_h, S8.rdS_d, S8.wrd_d, S8.wr_d, S8.rdS_me, S8.wrd_me, S8.wr_me, S8.rdS_p, S8.wrd_p, S8.wr_p, S8.rdS_s, S8.wrd_s, S8.wr_s, S8.rdS_l, S8.wrd_l, S8.wr_l, S8.rdS_c, S8.wrd_c, S8.wr_c, S8.rdS_k, S8.wrd_k, S8.wr_k, S8.rdS_n, S8.wrd_n, S8.wr_n, S8.rdS_g, S8.wrd_g, S8.wr_g, S8.rdS_cc, S8.wrd_cc, S8.wr_cc, S8.rdS_ra, S8.wrd_ra, S8.wr_ra, S8.rdS_rc, S8.wrd_rc, S8.wr_rc, S8.rdS_runs, S8.wrd_runs, S8.wr_runs, S8.intend_h, S8.intend_p, S8.intend_s, S8.intend_l, S8.intend_c, S8.intend_k, S8.intend_g, S8.intend_n, S8.intend_cc, S8.intend_ra, S8.intend_rc, S8.intend_runs, S8.intend_me, S8.intend_d, S8.uh_h, S8.uh_p, S8.uh_s, S8.uh_l, S8.uh_c, S8.uh_k, S8.uh_g, S8.uh_n, S8.uh_cc, S8.uh_ra, S8.uh_rc, S8.uh_runs, S8.uh_me, S8.uh_d, S8.uok_h, S8.uok_p, S8.uok_s, S8.uok_l, S8.uok_c, S8.uok_k, S8.uok_g, S8.uok_n, S8.uok_cc, S8.uok_ra, S8.uok_rc, S8.uok_runs, S8.uok_me, S8.uok_d, S8.u_Up, S8.u_In, S8.u_Sure, S8.u_Known, S8.u_Life, S8.u_At, S8.u_Code, S8.u_A, S8.u_B, S8.u_C, S8.u_Number, S8.u_For, S8.u_Last, S8.u_Mine, S8.u_Addr, S8.u_Seen, S8.u_Put, S8.u_Good, S8.u_Bad, S8.u_Does, S8.u_Block, S8.u_From, S8.u_Next, S8.u_Value, S8.u_Index, S8.u_Which, S8.u_Kept, S8.u_WasCode, S8.u_WasItem, S8.u_WasNumber, S8.u_WasKind, S8.u_WasTag, S8.u_Reply, S8.u_Out, S8.u_Mark, S8.u_Begin, S8.install, S8.reply, S8.back, S8.never] at y26)
  have y27 := S.c_h_Does
  (try simp only [S8.rdS_h, S8.wrd_h, S8.wr_h, S8.rdS_d, S8.wrd_d, S8.wr_d, S8.rdS_me, S8.wrd_me, S8.wr_me, S8.rdS_p, S8.wrd_p, S8.wr_p, S8.rdS_s, S8.wrd_s, S8.wr_s, S8.rdS_l, S8.wrd_l, S8.wr_l, S8.rdS_c, S8.wrd_c, S8.wr_c, S8.rdS_k, S8.wrd_k, S8.wr_k, S8.rdS_n, S8.wrd_n, S8.wr_n, S8.rdS_g, S8.wrd_g, S8.wr_g, S8.rdS_cc, S8.wrd_cc, S8.wr_cc, S8.rdS_ra, S8.wrd_ra, S8.wr_ra, S8.rdS_rc, S8.wrd_rc, S8.wr_rc, S8.rdS_runs, S8.wrd_runs, S8.wr_runs, S8.intend_h, S8.intend_p, S8.intend_s, S8.intend_l, S8.intend_c, S8.intend_k, S8.intend_g, S8.intend_n, S8.intend_cc, S8.intend_ra, S8.intend_rc, S8.intend_runs, S8.intend_me, S8.intend_d, S8.uh_h, S8.uh_p, S8.uh_s, S8.uh_l, S8.uh_c, S8.uh_k, S8.uh_g, S8.uh_n, S8.uh_cc, S8.uh_ra, S8.uh_rc, S8.uh_runs, S8.uh_me, S8.uh_d, S8.uok_h, S8.uok_p, S8.uok_s, S8.uok_l, S8.uok_c, S8.uok_k, S8.uok_g, S8.uok_n, S8.uok_cc, S8.uok_ra, S8.uok_rc, S8.uok_runs, S8.uok_me, S8.uok_d, S8.u_Up, S8.u_In, S8.u_Sure, S8.u_Known, S8.u_Life, S8.u_At, S8.u_Code, S8.u_A, S8.u_B, S8.u_C, S8.u_Number, S8.u_For, S8.u_Last, S8.u_Mine, S8.u_Addr, S8.u_Seen, S8.u_Put, S8.u_Good, S8.u_Bad, S8.u_Does, S8.u_Block, S8.u_From, S8.u_Next, S8.u_Value, S8.u_Index, S8.u_Which, S8.u_Kept, S8.u_WasCode, S8.u_WasItem, S8.u_WasNumber, S8.u_WasKind, S8.u_WasTag, S8.u_Reply, S8.u_Out, S8.u_Mark, S8.u_Begin, S8.install, S8.reply, S8.back, S8.never] at y27)
  have z13 := S.fz 13
  have z22 := S.fz 22
  have z24 := S.fz 24
  have z25 := S.fz 25
  have z26 := S.fz 26
  have z27 := S.fz 27
  go_enter Tryz.func42, Tryz.ntmps42
  go_wp2_with fail
  all_goals (first | go_end0 | refine bodyPost_ret (results_none rfl _ _ _) rfl ?_)
  refine ⟨rfl, SAt.cast (by repeat (first | with_reducible apply SAt.s_h_At | with_reducible apply SAt.s_h_Addr | with_reducible apply SAt.s_h_Put | with_reducible apply SAt.s_h_Good | with_reducible apply SAt.s_h_Bad | with_reducible apply SAt.s_h_Does | with_reducible exact S | with_reducible apply SAt.drew)) ?_, by repeat (first | with_reducible exact k1 | with_reducible apply K2.set | with_reducible apply K2.drew)⟩
  rfl
theorem sl8Block (b : Nat) (st : S8) (f : Int) (w : World) (S : SAt w b st) :
    Calls Tryz.prog 40 #[.pointer (some ⟨b, 0, none⟩), .int .i64 f] w fun e w' => e = .returned (.int .i64 (st.blk f)) ∧ Below w.heap.size w w' := by
  obtain ⟨c0, c1, c2, c3, c4⟩ := S.plan
  have c5 := S.c_h_Block
  go_enter Tryz.func40, Tryz.ntmps40
  go_wp2_with fail
  go_region_held3 (fun w' => w'.cell? ⟨b, 0, none⟩ = some (.int .i64 st.p) ∧ w'.cell? ⟨b, 1, none⟩ = some (.int .i64 st.s) ∧ w'.cell? ⟨b, 2, none⟩ = some (.int .i64 st.l) ∧ w'.cell? ⟨b, 3, none⟩ = some (.int .i64 st.c) ∧ w'.cell? ⟨b, 4, none⟩ = some (.int .i64 st.k) ∧ w'.cell? ⟨b, 28, none⟩ = some (.int .i64 st.h.block)) (go_keep)
    (first | (go_at_call 72; refine (sBlock _ _ _ _ _ _ _ _).mono ?_; rintro e w2 ⟨rfl, hb⟩; obtain ⟨c0, c1, c2, c3, c4⟩ := (S.drew.keep hb).plan; have c5 := (S.drew.keep hb).c_h_Block))
  go_wp2
  go_ret
  exact ⟨rfl, (Below.refl _ _).drew.trans hb⟩
def S8.root (st : S8) (r : Int) : Int := vRoot st.p st.s st.l st.c st.k r
def S8.root9 (st : S8) (cl : Int) : Int := if inB cl 0 1 then st.root cl else -1
def S8.class9 (st : S8) : Int := if st.h.code = 2 then st.h.a else 0
def S8.value9 (st : S8) : Int := vBlock st.p st.s st.l st.c st.k st.h.block (w64 (2 + st.h.b))
set_option maxHeartbeats 1000000 in
theorem sl10Root (b : Nat) (st : S8) (r : Int) (w : World) (S : SAt w b st) :
    Calls Tryz.prog 70 #[.pointer (some ⟨b, 0, none⟩), .int .i64 r] w fun e w' => e = .returned (.int .i64 (st.root r)) ∧ Below w.heap.size w w' := by
  obtain ⟨c0, c1, c2, c3, c4⟩ := S.plan
  go_enter Tryz.func70, Tryz.ntmps70
  go_wp2_with (go_at_call 83; refine (sRoot _ _ _ _ _ _ _).mono ?_; rintro e w2 ⟨rfl, hb⟩)
  go_ret
  exact ⟨rfl, hb⟩
set_option maxHeartbeats 1000000 in
theorem sl9Root (b : Nat) (st : S8) (cl : Int) (w : World) (S : SAt w b st) :
    Calls Tryz.prog 36 #[.pointer (some ⟨b, 0, none⟩), .int .i64 cl] w fun e w' => e = .returned (.int .i64 (st.root9 cl)) ∧ Below w.heap.size w w' := by
  obtain ⟨c0, c1, c2, c3, c4⟩ := S.plan
  cases hi : inB cl 0 1
  · have e1 : st.root9 cl = -1 := by unfold S8.root9; rw [hi]; rfl
    rw [e1]
    go_enter Tryz.func36, Tryz.ntmps36
    go_wp2_with (go_at_call 78; refine (sIn _ _ _ _).mono ?_; rintro e w2 ⟨rfl, rfl⟩; rw [hi])
    go_ret
    exact ⟨rfl, Below.refl _ _⟩
  · have e1 : st.root9 cl = st.root cl := by unfold S8.root9; rw [hi]; rfl
    rw [e1]
    have h01 : 0 ≤ cl ∧ cl ≤ 1 := of_decide_eq_true hi
    go_enter Tryz.func36, Tryz.ntmps36
    go_wp2_with (first
      | (go_at_call 78; refine (sIn _ _ _ _).mono ?_; rintro e w2 ⟨rfl, rfl⟩; rw [hi])
      | (go_at_call 83; refine (sRoot _ _ _ _ _ _ _).mono ?_; rintro e w3 ⟨rfl, hb⟩))
    go_ret
    exact ⟨rfl, hb⟩
set_option maxHeartbeats 1000000 in
theorem sl9Class (b : Nat) (st : S8) (w : World) (S : SAt w b st) :
    Calls Tryz.prog 37 #[.pointer (some ⟨b, 0, none⟩)] w fun e w' => e = .returned (.int .i64 st.class9) ∧ w' = w := by
  have c0 := S.c_h_Code
  have c1 := S.c_h_A
  by_cases hc : st.h.code = 2
  · have e1 : st.class9 = st.h.a := by unfold S8.class9; rw [if_pos hc]
    rw [e1]
    go_enter Tryz.func37, Tryz.ntmps37
    go_wp2
    go_ret
    exact ⟨rfl, rfl⟩
  · have e1 : st.class9 = 0 := by unfold S8.class9; rw [if_neg hc]
    rw [e1]
    go_enter Tryz.func37, Tryz.ntmps37
    go_wp2
    go_ret
    exact ⟨rfl, rfl⟩
set_option maxHeartbeats 1000000 in
theorem sl9Value (b : Nat) (st : S8) (w : World) (S : SAt w b st) :
    Calls Tryz.prog 46 #[.pointer (some ⟨b, 0, none⟩)] w fun e w' => e = .returned (.int .i64 st.value9) ∧ Below w.heap.size w w' := by
  obtain ⟨c0, c1, c2, c3, c4⟩ := S.plan
  have c5 := S.c_h_Block
  have c6 := S.c_h_B
  have hw : ∀ x : Int, IntKind.i64.wrap x = w64 x := fun x => by unfold w64 wrap64; exact IntKind.wrap_i64 x
  go_enter Tryz.func46, Tryz.ntmps46
  go_wp2_with fail
  go_region_held3 (fun w' => w'.cell? ⟨b, 0, none⟩ = some (.int .i64 st.p) ∧ w'.cell? ⟨b, 1, none⟩ = some (.int .i64 st.s) ∧ w'.cell? ⟨b, 2, none⟩ = some (.int .i64 st.l) ∧ w'.cell? ⟨b, 3, none⟩ = some (.int .i64 st.c) ∧ w'.cell? ⟨b, 4, none⟩ = some (.int .i64 st.k) ∧ w'.cell? ⟨b, 28, none⟩ = some (.int .i64 st.h.block) ∧ w'.cell? ⟨b, 16, none⟩ = some (.int .i64 st.h.b)) (go_keep)
    (first | (go_at_call 72; refine (sBlock _ _ _ _ _ _ _ _).mono ?_; rintro e w2 ⟨rfl, hb⟩; obtain ⟨c0, c1, c2, c3, c4⟩ := (S.drew.keep hb).plan; have c5 := (S.drew.keep hb).c_h_Block; have c6 := (S.drew.keep hb).c_h_B))
  go_wp2
  go_ret
  exact ⟨rfl, (Below.refl _ _).drew.trans hb⟩
theorem S8.rdS_slot (st : S8) (x : Int) (f : Int) : (st.rdS x).slot f = st.slot f := by simp only [S8.slot, S8.root, S8.root9, S8.blk, S8.value9, S8.class9, S8.rdS_h, S8.rdS_p, S8.rdS_s, S8.rdS_l, S8.rdS_c, S8.rdS_k]
theorem S8.rdS_root (st : S8) (x : Int) (f : Int) : (st.rdS x).root f = st.root f := by simp only [S8.slot, S8.root, S8.root9, S8.blk, S8.value9, S8.class9, S8.rdS_h, S8.rdS_p, S8.rdS_s, S8.rdS_l, S8.rdS_c, S8.rdS_k]
theorem S8.rdS_root9 (st : S8) (x : Int) (f : Int) : (st.rdS x).root9 f = st.root9 f := by simp only [S8.slot, S8.root, S8.root9, S8.blk, S8.value9, S8.class9, S8.rdS_h, S8.rdS_p, S8.rdS_s, S8.rdS_l, S8.rdS_c, S8.rdS_k]
theorem S8.rdS_blk (st : S8) (x : Int) (f : Int) : (st.rdS x).blk f = st.blk f := by simp only [S8.slot, S8.root, S8.root9, S8.blk, S8.value9, S8.class9, S8.rdS_h, S8.rdS_p, S8.rdS_s, S8.rdS_l, S8.rdS_c, S8.rdS_k]
theorem S8.rdS_value9 (st : S8) (x : Int)  : (st.rdS x).value9 = st.value9 := by simp only [S8.slot, S8.root, S8.root9, S8.blk, S8.value9, S8.class9, S8.rdS_h, S8.rdS_p, S8.rdS_s, S8.rdS_l, S8.rdS_c, S8.rdS_k]
theorem S8.rdS_class9 (st : S8) (x : Int)  : (st.rdS x).class9 = st.class9 := by simp only [S8.slot, S8.root, S8.root9, S8.blk, S8.value9, S8.class9, S8.rdS_h, S8.rdS_p, S8.rdS_s, S8.rdS_l, S8.rdS_c, S8.rdS_k]
end Go.Proofs.YtdebjfgflldpjaaGreat
namespace Go.Proofs.YtdebjfgflldpjaaGreat
open Go.RowKit
set_option maxRecDepth 100000
set_option linter.unusedVariables false
set_option linter.unusedSimpArgs false
set_option maxHeartbeats 8000000 in
theorem g9_13 (b : Nat) (st : S8) (w : World) (S : SAt w b st) (hn : st.n ≤ 16777216) (hat : st.h.at_ = 13) :
    Calls Tryz.prog 19 #[.pointer (some ⟨b, 0, none⟩)] w fun e w' => e = .returned (.tuple #[]) ∧ SAt w' b (((st.wrd 0 0 st.h.b 0).wr (st.blk 2) (wv 0 0 st.h.b 0)).to 21) ∧ K2 b st.g w w' := by
  obtain ⟨T, hT⟩ : ∃ T, Hid (((st.wrd 0 0 st.h.b 0).wr (st.blk 2) (wv 0 0 st.h.b 0)) = T) := ⟨_, rfl⟩
  have hTh : T.h = st.h := by rw [← hT.out, S8.wr_h, S8.wrd_h]
  have hTg : T.g = st.g := by rw [← hT.out, S8.wr_g, S8.wrd_g]
  have c13 : w.cell? ⟨b, 13, none⟩ = some (.int .i64 st.h.at_) := S.c_h_At
  rw [hat] at c13
  have hhat : Hid (st.h.at_ = 13) := hat
  clear hat
  go_enter Tryz.func19, Tryz.ntmps19
  go_upto_region 23 with fail
  have S1 := S.drew
  have k1 : K2 b st.g w w.drew := (K2.refl _ _ _).drew
  have c16 : w.drew.cell? ⟨b, 16, none⟩ = some (.int .i64 st.h.b) := S1.c_h_B
  clear c13
  go_region_held3 (fun w' => w'.cell? ⟨b, 16, none⟩ = some (.int .i64 st.h.b)) (go_keep)
    (first
    | (go_at_call 40; refine (sl8Block b st 2 _ S1).mono ?_; rintro e w2 ⟨rfl, hb⟩; replace S1 := S1.keep hb; replace k1 := k1.trans (K2.of_below hb); clear hb; clear c16; have c16 : w2.cell? ⟨b, 16, none⟩ = some (.int .i64 st.h.b) := (by have hq := S1.c_h_B; exact hq))
    | (go_at_call 43; refine (sl8Word b st _ _ _ _ _ S1).mono ?_; rintro e w2 ⟨rfl, S2, k2⟩; replace k1 := k1.trans k2; clear k2 S1; clear c16; have c16 : w2.cell? ⟨b, 16, none⟩ = some (.int .i64 st.h.b) := (by have hq := S2.c_h_B; rw [S8.wrd_h] at hq; exact hq))
    | (go_at_call 44; refine (sl8Write b _ _ _ _ S2 (by rw [S8.wrd_n]; exact hn) (wv_bd _ _ _ _)).mono ?_; rintro e w3 ⟨rfl, S3, k2⟩; rw [S8.wrd_g] at k2; replace k1 := k1.trans k2; clear k2 S2; clear c16; have c16 : w3.cell? ⟨b, 16, none⟩ = some (.int .i64 st.h.b) := (by have hq := S3.c_h_B; rw [S8.wr_h, S8.wrd_h] at hq; exact hq)))
  rw [hT.out] at S3
  have c13 : w3.cell? ⟨b, 13, none⟩ = some (.int .i64 T.h.at_) := S3.c_h_At
  have f13 := S3.fz 13
  go_wp2
  first | go_end0 | refine bodyPost_ret (results_none rfl _ _ _) rfl ?_
  rw [hT.out]
  exact ⟨rfl, S3.to _, k1.set _ _⟩
set_option maxHeartbeats 8000000 in
theorem g9_15 (b : Nat) (st : S8) (w : World) (S : SAt w b st) (hn : st.n ≤ 16777216) (hat : st.h.at_ = 15) :
    Calls Tryz.prog 19 #[.pointer (some ⟨b, 0, none⟩)] w fun e w' => e = .returned (.tuple #[]) ∧ SAt w' b (((st.wrd 0 0 st.h.c 0).wr st.value9 (wv 0 0 st.h.c 0)).reply 1 0) ∧ K2 b st.g w w' := by
  obtain ⟨T, hT⟩ : ∃ T, Hid (((st.wrd 0 0 st.h.c 0).wr st.value9 (wv 0 0 st.h.c 0)) = T) := ⟨_, rfl⟩
  have hTh : T.h = st.h := by rw [← hT.out, S8.wr_h, S8.wrd_h]
  have hTg : T.g = st.g := by rw [← hT.out, S8.wr_g, S8.wrd_g]
  have c13 : w.cell? ⟨b, 13, none⟩ = some (.int .i64 st.h.at_) := S.c_h_At
  rw [hat] at c13
  have hhat : Hid (st.h.at_ = 15) := hat
  clear hat
  go_enter Tryz.func19, Tryz.ntmps19
  go_upto_region 28 with fail
  have S1 := S.drew
  have k1 : K2 b st.g w w.drew := (K2.refl _ _ _).drew
  have c17 : w.drew.cell? ⟨b, 17, none⟩ = some (.int .i64 st.h.c) := S1.c_h_C
  clear c13
  go_region_held3 (fun w' => w'.cell? ⟨b, 17, none⟩ = some (.int .i64 st.h.c)) (go_keep)
    (first
    | (go_at_call 46; refine (sl9Value b st _ S1).mono ?_; rintro e w2 ⟨rfl, hb⟩; replace S1 := S1.keep hb; replace k1 := k1.trans (K2.of_below hb); clear hb; clear c17; have c17 : w2.cell? ⟨b, 17, none⟩ = some (.int .i64 st.h.c) := (by have hq := S1.c_h_C; exact hq))
    | (go_at_call 43; refine (sl8Word b st _ _ _ _ _ S1).mono ?_; rintro e w2 ⟨rfl, S2, k2⟩; replace k1 := k1.trans k2; clear k2 S1; clear c17; have c17 : w2.cell? ⟨b, 17, none⟩ = some (.int .i64 st.h.c) := (by have hq := S2.c_h_C; rw [S8.wrd_h] at hq; exact hq))
    | (go_at_call 44; refine (sl8Write b _ _ _ _ S2 (by rw [S8.wrd_n]; exact hn) (wv_bd _ _ _ _)).mono ?_; rintro e w3 ⟨rfl, S3, k2⟩; rw [S8.wrd_g] at k2; replace k1 := k1.trans k2; clear k2 S2; clear c17; have c17 : w3.cell? ⟨b, 17, none⟩ = some (.int .i64 st.h.c) := (by have hq := S3.c_h_C; rw [S8.wr_h, S8.wrd_h] at hq; exact hq)))
  rw [hT.out] at S3
  go_wp2_with (go_at_call 39; refine (sl8Reply b T 1 0 _ S3).mono ?_; rintro e w4 ⟨rfl, S4, k4⟩; rw [hTg] at k4)
  first | go_end0 | refine bodyPost_ret (results_none rfl _ _ _) rfl ?_
  rw [hT.out]
  exact ⟨rfl, S4, k1.trans k4⟩
def S8.hold9 (st : S8) : S8 := if st.h.code = 2 then ((st.wrd 1 st.h.for_ 0 0).wr (st.blk 0) (wv 1 st.h.for_ 0 0)).reply 1 st.h.block else ((st.wrd 1 st.h.for_ 0 0).wr (st.blk 0) (wv 1 st.h.for_ 0 0)).to 13
set_option maxHeartbeats 8000000 in
theorem g9_12 (b : Nat) (st : S8) (w : World) (S : SAt w b st) (hn : st.n ≤ 16777216) (hat : st.h.at_ = 12) :
    Calls Tryz.prog 19 #[.pointer (some ⟨b, 0, none⟩)] w fun e w' => e = .returned (.tuple #[]) ∧ SAt w' b st.hold9 ∧ K2 b st.g w w' := by
  obtain ⟨T, hT⟩ : ∃ T, Hid (((st.wrd 1 st.h.for_ 0 0).wr (st.blk 0) (wv 1 st.h.for_ 0 0)) = T) := ⟨_, rfl⟩
  have hTh : T.h = st.h := by rw [← hT.out, S8.wr_h, S8.wrd_h]
  have hTg : T.g = st.g := by rw [← hT.out, S8.wr_g, S8.wrd_g]
  have hF : Hid (st.hold9 = if st.h.code = 2 then T.reply 1 st.h.block else T.to 13) := by unfold Hid S8.hold9; rw [hT.out]
  have c13 : w.cell? ⟨b, 13, none⟩ = some (.int .i64 st.h.at_) := S.c_h_At
  rw [hat] at c13
  have hhat : Hid (st.h.at_ = 12) := hat
  clear hat
  go_enter Tryz.func19, Tryz.ntmps19
  go_upto_region 18 with fail
  have S1 := S.drew
  have k1 : K2 b st.g w w.drew := (K2.refl _ _ _).drew
  have c19 : w.drew.cell? ⟨b, 19, none⟩ = some (.int .i64 st.h.for_) := S1.c_h_For
  clear c13
  go_region_held3 (fun w' => w'.cell? ⟨b, 19, none⟩ = some (.int .i64 st.h.for_)) (go_keep)
    (first
    | (go_at_call 40; refine (sl8Block b st 0 _ S1).mono ?_; rintro e w2 ⟨rfl, hb⟩; replace S1 := S1.keep hb; replace k1 := k1.trans (K2.of_below hb); clear hb; clear c19; have c19 : w2.cell? ⟨b, 19, none⟩ = some (.int .i64 st.h.for_) := (by have hq := S1.c_h_For; exact hq))
    | (go_at_call 43; refine (sl8Word b st _ _ _ _ _ S1).mono ?_; rintro e w2 ⟨rfl, S2, k2⟩; replace k1 := k1.trans k2; clear k2 S1; clear c19; have c19 : w2.cell? ⟨b, 19, none⟩ = some (.int .i64 st.h.for_) := (by have hq := S2.c_h_For; rw [S8.wrd_h] at hq; exact hq))
    | (go_at_call 44; refine (sl8Write b _ _ _ _ S2 (by rw [S8.wrd_n]; exact hn) (wv_bd _ _ _ _)).mono ?_; rintro e w3 ⟨rfl, S3, k2⟩; rw [S8.wrd_g] at k2; replace k1 := k1.trans k2; clear k2 S2; clear c19; have c19 : w3.cell? ⟨b, 19, none⟩ = some (.int .i64 st.h.for_) := (by have hq := S3.c_h_For; rw [S8.wr_h, S8.wrd_h] at hq; exact hq)))
  rw [hT.out] at S3
  by_cases hk : st.h.code = 2
  · have c14 : w3.cell? ⟨b, 14, none⟩ = some (.int .i64 2) := by rw [← hk, ← hTh]; exact S3.c_h_Code
    have c28 : w3.cell? ⟨b, 28, none⟩ = some (.int .i64 st.h.block) := by rw [← hTh]; exact S3.c_h_Block
    go_wp2_with (go_at_call 39; refine (sl8Reply b T 1 st.h.block _ S3).mono ?_; rintro e w4 ⟨rfl, S4, k4⟩; rw [hTg] at k4)
    first | go_end0 | refine bodyPost_ret (results_none rfl _ _ _) rfl ?_
    rw [hF.out, if_pos hk]
    exact ⟨rfl, S4, k1.trans k4⟩
  · have hkb : (st.h.code == 2) = false := by simp [hk]
    have c14 : w3.cell? ⟨b, 14, none⟩ = some (.int .i64 st.h.code) := by rw [← hTh]; exact S3.c_h_Code
    have c13 : w3.cell? ⟨b, 13, none⟩ = some (.int .i64 T.h.at_) := S3.c_h_At
    have f13 := S3.fz 13
    go_wp2
    first | go_end0 | refine bodyPost_ret (results_none rfl _ _ _) rfl ?_
    rw [hF.out, if_neg hk]
    exact ⟨rfl, S3.to _, k1.set _ _⟩
set_option maxHeartbeats 8000000 in
theorem g9_18 (b : Nat) (st : S8) (w : World) (S : SAt w b st) (hn : st.n ≤ 16777216) (hat : st.h.at_ = 18) :
    Calls Tryz.prog 19 #[.pointer (some ⟨b, 0, none⟩)] w fun e w' => e = .returned (.tuple #[]) ∧ SAt w' b (((st.wrd 0 0 0 0).wr (st.blk 0) (wv 0 0 0 0)).to 19) ∧ K2 b st.g w w' := by
  obtain ⟨T, hT⟩ : ∃ T, Hid (((st.wrd 0 0 0 0).wr (st.blk 0) (wv 0 0 0 0)) = T) := ⟨_, rfl⟩
  have hTh : T.h = st.h := by rw [← hT.out, S8.wr_h, S8.wrd_h]
  have hTg : T.g = st.g := by rw [← hT.out, S8.wr_g, S8.wrd_g]
  have c13 : w.cell? ⟨b, 13, none⟩ = some (.int .i64 st.h.at_) := S.c_h_At
  rw [hat] at c13
  have hhat : Hid (st.h.at_ = 18) := hat
  clear hat
  go_enter Tryz.func19, Tryz.ntmps19
  go_wp2_with (first
    | (go_at_call 40; refine (sl8Block b st _ _ S).mono ?_; rintro e w2 ⟨rfl, hb⟩; replace S := S.keep hb; have k1 : K2 b st.g w w2 := K2.of_below hb; clear hb)
    | (go_at_call 43; refine (sl8Word b st _ _ _ _ _ S).mono ?_; rintro e w3 ⟨rfl, S2, k2⟩; replace k1 := k1.trans k2; clear k2)
    | (go_at_call 44; refine (sl8Write b _ _ _ _ S2 (by rw [S8.wrd_n]; exact hn) (wv_bd _ _ _ _)).mono ?_; rintro e w4 ⟨rfl, S3, k2⟩; rw [S8.wrd_g] at k2; replace k1 := k1.trans k2; clear k2; rw [hT.out] at S3; clear c13; have c13 : w4.cell? ⟨b, 13, none⟩ = some (.int .i64 T.h.at_) := S3.c_h_At; have f13 := S3.fz 13))
  first | go_end0 | refine bodyPost_ret (results_none rfl _ _ _) rfl ?_
  rw [hT.out]
  exact ⟨rfl, S3.to _, k1.set _ _⟩
set_option maxHeartbeats 8000000 in
theorem g9_17 (b : Nat) (st : S8) (w : World) (S : SAt w b st) (hn : st.n ≤ 16777216) (hat : st.h.at_ = 17) :
    Calls Tryz.prog 19 #[.pointer (some ⟨b, 0, none⟩)] w fun e w' => e = .returned (.tuple #[]) ∧ SAt w' b ((st.intend 2 st.h.block).to 18) ∧ K2 b st.g w w' := by
  obtain ⟨T, hT⟩ : ∃ T, Hid (st.intend 2 st.h.block = T) := ⟨_, rfl⟩
  have c28 : w.cell? ⟨b, 28, none⟩ = some (.int .i64 st.h.block) := S.c_h_Block
  have c13 : w.cell? ⟨b, 13, none⟩ = some (.int .i64 st.h.at_) := S.c_h_At
  rw [hat] at c13
  have hhat : Hid (st.h.at_ = 17) := hat
  clear hat
  go_enter Tryz.func19, Tryz.ntmps19
  go_wp2_with (go_at_call 41; refine (sl8Intend b st 2 st.h.block _ S hn).mono ?_; rintro e w3 ⟨rfl, S3, k3⟩; rw [hT.out] at S3; clear c13 c28; have c13 : w3.cell? ⟨b, 13, none⟩ = some (.int .i64 T.h.at_) := S3.c_h_At; have f13 := S3.fz 13)
  first | go_end0 | refine bodyPost_ret (results_none rfl _ _ _) rfl ?_
  rw [hT.out]
  exact ⟨rfl, S3.to _, k3.set _ _⟩
def S8.under9 (st : S8) : S8 := { (st.rdS (st.blk 1)) with h := { (st.rdS (st.blk 1)).h with next := uI (st.rd (st.blk 1)), at_ := 11 } }
set_option maxHeartbeats 8000000 in
theorem g9_10 (b : Nat) (st : S8) (w : World) (S : SAt w b st) (hn : st.n ≤ 16777216) (hat : st.h.at_ = 10) :
    Calls Tryz.prog 19 #[.pointer (some ⟨b, 0, none⟩)] w fun e w' => e = .returned (.tuple #[]) ∧ SAt w' b st.under9 ∧ K2 b st.g w w' := by
  obtain ⟨T, hT⟩ : ∃ T, Hid (st.rdS (st.blk 1) = T) := ⟨_, rfl⟩
  obtain ⟨x, hx⟩ : ∃ x, Hid (st.rd (st.blk 1) = x) := ⟨_, rfl⟩
  have hF : Hid (st.under9 = { T with h := { T.h with next := uI x, at_ := 11 } }) := by unfold Hid S8.under9; rw [hT.out, hx.out]
  have c13 : w.cell? ⟨b, 13, none⟩ = some (.int .i64 st.h.at_) := S.c_h_At
  rw [hat] at c13
  have hhat : Hid (st.h.at_ = 10) := hat
  clear hat
  go_enter Tryz.func19, Tryz.ntmps19
  go_upto_region 9 with fail
  go_upto_region 10 with (first
    | (go_at_call 40; refine (sl8Block b st _ _ S).mono ?_; rintro e w2 ⟨rfl, hb⟩; replace S := S.keep hb; have k1 : K2 b st.g w w2 := K2.of_below hb; clear hb)
    | (go_at_call 35; refine (sl8Read b st _ _ S hn).mono ?_; rintro e w3 ⟨rfl, S3, k3, hbd⟩; replace k1 := k1.trans k3; rw [hT.out] at S3; rw [hx.out] at hbd; rw [hx.out]; clear k3)
    | (go_at_call 38; refine (sIndex _ hbd.1 hbd.2 _).mono ?_; rintro e w4 ⟨rfl, hb⟩; replace S3 := S3.keep hb; replace k1 := k1.trans (K2.of_below hb); have c30 : w4.cell? ⟨b, 30, none⟩ = some (.int .i64 T.h.next) := S3.c_h_Next; have f30 := S3.fz 30))
  clear c13
  have c13 : w4.cell? ⟨b, 13, none⟩ = some (.int .i64 T.h.at_) := S3.c_h_At
  have f13 := S3.fz 13
  go_wp2
  first | go_end0 | refine bodyPost_ret (results_none rfl _ _ _) rfl ?_
  rw [hF.out]
  exact ⟨rfl, (S3.put (st' := { T with h := { T.h with next := uI x } }) 30 _ rfl ⟨rfl, rfl, rfl, rfl, rfl, rfl⟩).put 13 _ rfl ⟨rfl, rfl, rfl, rfl, rfl, rfl⟩, (k1.set _ _).set _ _⟩
set_option maxHeartbeats 8000000 in
theorem g9_16 (b : Nat) (st : S8) (w : World) (S : SAt w b st) (hn : st.n ≤ 16777216) (hat : st.h.at_ = 16) :
    Calls Tryz.prog 19 #[.pointer (some ⟨b, 0, none⟩)] w fun e w' => e = .returned (.tuple #[]) ∧ SAt w' b ((st.rdS st.value9).reply 2 (uI (st.rd st.value9))) ∧ K2 b st.g w w' := by
  obtain ⟨T, hT⟩ : ∃ T, Hid (st.rdS st.value9 = T) := ⟨_, rfl⟩
  have hTg : T.g = st.g := by rw [← hT.out, S8.rdS_g]
  obtain ⟨x, hx⟩ : ∃ x, Hid (st.rd st.value9 = x) := ⟨_, rfl⟩
  have c13 : w.cell? ⟨b, 13, none⟩ = some (.int .i64 st.h.at_) := S.c_h_At
  rw [hat] at c13
  have hhat : Hid (st.h.at_ = 16) := hat
  clear hat
  go_enter Tryz.func19, Tryz.ntmps19
  go_wp2_with (first
    | (go_at_call 46; refine (sl9Value b st _ S).mono ?_; rintro e w2 ⟨rfl, hb⟩; replace S := S.keep hb; have k1 : K2 b st.g w w2 := K2.of_below hb; clear hb)
    | (go_at_call 35; refine (sl8Read b st _ _ S hn).mono ?_; rintro e w3 ⟨rfl, S3, k3, hbd⟩; replace k1 := k1.trans k3; rw [hT.out] at S3; rw [hx.out] at hbd; rw [hx.out]; clear k3)
    | (go_at_call 38; refine (sIndex _ hbd.1 hbd.2 _).mono ?_; rintro e w4 ⟨rfl, hb⟩; replace S3 := S3.keep hb; replace k1 := k1.trans (K2.of_below hb))
    | (go_at_call 39; refine (sl8Reply b T 2 _ _ S3).mono ?_; rintro e w5 ⟨rfl, S5, k5⟩; rw [hTg] at k5))
  first | go_end0 | refine bodyPost_ret (results_none rfl _ _ _) rfl ?_
  rw [hT.out, hx.out]
  exact ⟨rfl, S5, k1.trans k5⟩
def S8.rd9 (st : S8) (a : Int) : S8 := { (st.rdS a) with h := { (st.rdS a).h with seen := st.rd a } }
def S8.free9 (st : S8) : S8 := if uI (st.rd (st.root9 st.class9)) = 0 then (st.rd9 (st.root9 st.class9)).reply 4 0 else { (st.rd9 (st.root9 st.class9)) with h := { (st.rd9 (st.root9 st.class9)).h with block := uI (st.rd (st.root9 st.class9)), at_ := 10 } }
set_option maxHeartbeats 8000000 in
theorem g9_9 (b : Nat) (st : S8) (w : World) (S : SAt w b st) (hn : st.n ≤ 16777216) (hat : st.h.at_ = 9) :
    Calls Tryz.prog 19 #[.pointer (some ⟨b, 0, none⟩)] w fun e w' => e = .returned (.tuple #[]) ∧ SAt w' b st.free9 ∧ K2 b st.g w w' := by
  obtain ⟨a, hA⟩ : ∃ a, Hid (st.root9 st.class9 = a) := ⟨_, rfl⟩
  obtain ⟨T, hT⟩ : ∃ T, Hid (st.rdS a = T) := ⟨_, rfl⟩
  have hTg : T.g = st.g := by rw [← hT.out, S8.rdS_g]
  obtain ⟨x, hx⟩ : ∃ x, Hid (st.rd a = x) := ⟨_, rfl⟩
  have hF : Hid (st.free9 = if uI x = 0 then S8.reply { T with h := { T.h with seen := x } } 4 0 else { T with h := { T.h with seen := x, block := uI x, at_ := 10 } }) := by unfold Hid S8.free9 S8.rd9; rw [hA.out, hT.out, hx.out]
  have c13 : w.cell? ⟨b, 13, none⟩ = some (.int .i64 st.h.at_) := S.c_h_At
  rw [hat] at c13
  have hhat : Hid (st.h.at_ = 9) := hat
  clear hat
  go_enter Tryz.func19, Tryz.ntmps19
  go_upto_region 2 with fail
  go_upto_region 3 with (first
    | (go_at_call 37; refine (sl9Class b st _ S).mono ?_; rintro e w1 ⟨rfl, rfl⟩)
    | (go_at_call 36; refine (sl9Root b st _ _ S).mono ?_; rintro e w2 ⟨rfl, hb⟩; rw [hA.out]; replace S := S.keep hb; have k1 : K2 b st.g _ w2 := K2.of_below hb; clear hb)
    | (go_at_call 35; refine (sl8Read b st _ _ S hn).mono ?_; rintro e w3 ⟨rfl, S3, k3, hbd⟩; replace k1 := k1.trans k3; rw [hT.out] at S3; rw [hx.out] at hbd; rw [hx.out]; clear k3; have c23 : w3.cell? ⟨b, 23, none⟩ = some (.int .u64 T.h.seen) := S3.c_h_Seen; have f23 := S3.fz 23))
  change Code.wp _ _ _ _ (w3.setCell ⟨b, 23, none⟩ (.int .u64 x))
  have S4 : SAt (w3.setCell ⟨b, 23, none⟩ (.int .u64 x)) b { T with h := { T.h with seen := x } } := S3.put (st' := { T with h := { T.h with seen := x } }) 23 _ rfl ⟨rfl, rfl, rfl, rfl, rfl, rfl⟩
  replace k1 := k1.set 23 (.int .u64 x)
  generalize w3.setCell ⟨b, 23, none⟩ (.int .u64 x) = w4 at *
  clear c13 c23 f23 S3 S
  have c23 : w4.cell? ⟨b, 23, none⟩ = some (.int .u64 x) := S4.c_h_Seen
  have hUg : (S8.g { T with h := { T.h with seen := x } }) = st.g := hTg
  by_cases h0 : uI x = 0
  · go_wp2_with (first
      | (go_at_call 38; refine (sIndex _ hbd.1 hbd.2 _).mono ?_; rintro e w5 ⟨rfl, hb⟩; rw [h0]; replace S4 := S4.keep hb; replace k1 := k1.trans (K2.of_below hb); clear hb)
      | (go_at_call 39; refine (sl8Reply b _ 4 0 _ S4).mono ?_; rintro e w6 ⟨rfl, S6, k6⟩; rw [hUg] at k6))
    first | go_end0 | refine bodyPost_ret (results_none rfl _ _ _) rfl ?_
    rw [hF.out, if_pos h0]
    exact ⟨rfl, S6, k1.trans k6⟩
  · have h0b : (uI x == 0) = false := by simp [h0]
    go_upto_region 6 with (go_at_call 38; refine (sIndex _ hbd.1 hbd.2 _).mono ?_; rintro e w5 ⟨rfl, hb⟩; replace S4 := S4.keep hb; replace k1 := k1.trans (K2.of_below hb); clear hb)
    have c28 : w5.cell? ⟨b, 28, none⟩ = some (.int .i64 T.h.block) := S4.c_h_Block
    have f28 := S4.fz 28
    have c13 : w5.cell? ⟨b, 13, none⟩ = some (.int .i64 T.h.at_) := S4.c_h_At
    have f13 := S4.fz 13
    go_wp2
    first | go_end0 | refine bodyPost_ret (results_none rfl _ _ _) rfl ?_
    rw [hF.out, if_neg h0]
    exact ⟨rfl, (S4.put (st' := { T with h := { T.h with seen := x, block := uI x } }) 28 _ rfl ⟨rfl, rfl, rfl, rfl, rfl, rfl⟩).put 13 _ rfl ⟨rfl, rfl, rfl, rfl, rfl, rfl⟩, (k1.set _ _).set _ _⟩
end Go.Proofs.YtdebjfgflldpjaaGreat
namespace Go.Proofs.YtdebjfgflldpjaaGreat
open Go.RowKit
set_option maxRecDepth 100000
set_option linter.unusedVariables false
set_option linter.unusedSimpArgs false
theorem ins_For (X : S8) (a x d g b : Int) : (X.install a x d g b).h.for_ = X.h.for_ := by simp only [S8.install, S8.u_Addr, S8.u_Put, S8.u_Does, S8.u_Good, S8.u_Bad, S8.u_At, S8.uh_h]
theorem ins_Next (X : S8) (a x d g b : Int) : (X.install a x d g b).h.next = X.h.next := by simp only [S8.install, S8.u_Addr, S8.u_Put, S8.u_Does, S8.u_Good, S8.u_Bad, S8.u_At, S8.uh_h]
theorem ins_Last (X : S8) (a x d g b : Int) : (X.install a x d g b).h.last = X.h.last := by simp only [S8.install, S8.u_Addr, S8.u_Put, S8.u_Does, S8.u_Good, S8.u_Bad, S8.u_At, S8.uh_h]
theorem ins_Block (X : S8) (a x d g b : Int) : (X.install a x d g b).h.block = X.h.block := by simp only [S8.install, S8.u_Addr, S8.u_Put, S8.u_Does, S8.u_Good, S8.u_Bad, S8.u_At, S8.uh_h]
def S8.wantU (T : S8) : S8 := if T.root9 T.class9 < 0 then { T with ok := false } else T
def S8.wantI (U : S8) (a : Int) : S8 := ((U.wrd 0 U.h.for_ U.h.next U.h.last).install a (wv 0 U.h.for_ U.h.next U.h.last) 1 12 9)
def S8.want9 (st : S8) : S8 := ((st.intend 1 st.h.block).wantU).wantI ((st.intend 1 st.h.block).root9 (st.intend 1 st.h.block).class9)
theorem intend_g8 (st : S8) (i j : Int) : (st.intend i j).g = st.g := by simp only [S8.intend, S8.wr_g, S8.wrd_g, S8.u_Last, S8.uh_g]
theorem intend_n8 (st : S8) (i j : Int) : (st.intend i j).n = st.n := by simp only [S8.intend, S8.wr_n, S8.wrd_n, S8.u_Last, S8.uh_n]
set_option maxHeartbeats 16000000 in
theorem g9_11 (b : Nat) (st : S8) (w : World) (S : SAt w b st) (hn : st.n ≤ 16777216) (hat : st.h.at_ = 11) :
    Calls Tryz.prog 19 #[.pointer (some ⟨b, 0, none⟩)] w fun e w' => e = .returned (.tuple #[]) ∧ SAt w' b st.want9 ∧ K2 b st.g w w' := by
  obtain ⟨T, hT⟩ : ∃ T, Hid (st.intend 1 st.h.block = T) := ⟨_, rfl⟩
  have hTg : T.g = st.g := by rw [← hT.out, intend_g8]
  obtain ⟨a, hA⟩ : ∃ a, Hid (T.root9 T.class9 = a) := ⟨_, rfl⟩
  have hF : Hid (st.want9 = T.wantU.wantI a) := by unfold Hid S8.want9; rw [hT.out, hA.out]
  have c28 : w.cell? ⟨b, 28, none⟩ = some (.int .i64 st.h.block) := S.c_h_Block
  have c13 : w.cell? ⟨b, 13, none⟩ = some (.int .i64 st.h.at_) := S.c_h_At
  rw [hat] at c13
  have hhat : Hid (st.h.at_ = 11) := hat
  clear hat
  go_enter Tryz.func19, Tryz.ntmps19
  go_upto_region 14 with (first
    | (go_at_call 41; refine (sl8Intend b st 1 st.h.block _ S hn).mono ?_; rintro e w1 ⟨rfl, S3, k3⟩; rw [hT.out] at S3)
    | (go_at_call 37; refine (sl9Class b T _ S3).mono ?_; rintro e w8 ⟨rfl, hw8⟩; rw [hw8]; clear hw8)
    | (go_at_call 36; refine (sl9Root b T _ _ S3).mono ?_; rintro e w9 ⟨rfl, hb⟩; rw [hA.out]; replace S3 := S3.keep hb; replace k3 := k3.trans (K2.of_below hb); clear hb))
  clear c13 c28 S
  by_cases h0 : a < 0
  · have hF1 : Hid (st.want9 = S8.wantI { T with ok := false } a) := by unfold Hid; rw [hF.out]; unfold S8.wantU; rw [hA.out, if_pos h0]
    have c50 := S3.c_ok
    have f50 := S3.fz 50
    go_upto_region 16 with fail
    refine wp_at (fun W => SAt W b { T with ok := false } ∧ K2 b st.g w W) ⟨S3.s_ok false, k3.set _ _⟩ ?_
    clear S3 k3 c50 f50
    rintro w1 ⟨S1, k1⟩
    have hUg : (S8.g { T with ok := false }) = st.g := hTg
    generalize ({ T with ok := false } : S8) = U at *
    have S1 := S1.drew
    replace k1 := k1.drew
    have c19 : w1.drew.cell? ⟨b, 19, none⟩ = some (.int .i64 U.h.for_) := S1.c_h_For
    have c30 : w1.drew.cell? ⟨b, 30, none⟩ = some (.int .i64 U.h.next) := S1.c_h_Next
    have c20 : w1.drew.cell? ⟨b, 20, none⟩ = some (.int .i64 U.h.last) := S1.c_h_Last
    go_region_held3 (fun w' => w'.cell? ⟨b, 19, none⟩ = some (.int .i64 U.h.for_) ∧ w'.cell? ⟨b, 30, none⟩ = some (.int .i64 U.h.next) ∧ w'.cell? ⟨b, 20, none⟩ = some (.int .i64 U.h.last)) (go_keep)
      (first
      | (go_at_call 43; refine (sl8Word b U _ _ _ _ _ S1).mono ?_; rintro e w2 ⟨rfl, S2, k2⟩; replace k1 := k1.trans (hUg ▸ k2); clear k2 S1; clear c19 c30 c20; have c19 : w2.cell? ⟨b, 19, none⟩ = some (.int .i64 U.h.for_) := (by have hq := S2.c_h_For; rw [S8.wrd_h] at hq; exact hq); have c30 : w2.cell? ⟨b, 30, none⟩ = some (.int .i64 U.h.next) := (by have hq := S2.c_h_Next; rw [S8.wrd_h] at hq; exact hq); have c20 : w2.cell? ⟨b, 20, none⟩ = some (.int .i64 U.h.last) := (by have hq := S2.c_h_Last; rw [S8.wrd_h] at hq; exact hq))
      | (go_at_call 42; refine (sl9Install b _ a _ 1 12 9 _ S2).mono ?_; rintro e w3 ⟨rfl, S3, k2⟩; rw [S8.wrd_g] at k2; replace k1 := k1.trans (hUg ▸ k2); clear k2 S2; clear c19 c30 c20; have c19 : w3.cell? ⟨b, 19, none⟩ = some (.int .i64 U.h.for_) := (by have hq := S3.c_h_For; rw [ins_For, S8.wrd_h] at hq; exact hq); have c30 : w3.cell? ⟨b, 30, none⟩ = some (.int .i64 U.h.next) := (by have hq := S3.c_h_Next; rw [ins_Next, S8.wrd_h] at hq; exact hq); have c20 : w3.cell? ⟨b, 20, none⟩ = some (.int .i64 U.h.last) := (by have hq := S3.c_h_Last; rw [ins_Last, S8.wrd_h] at hq; exact hq)))
    go_wp2
    first | go_end0 | refine bodyPost_ret (results_none rfl _ _ _) rfl ?_
    rw [hF1.out]
    exact ⟨rfl, S3, k1⟩
  · have hF1 : Hid (st.want9 = S8.wantI T a) := by unfold Hid; rw [hF.out]; unfold S8.wantU; rw [hA.out, if_neg h0]
    go_upto_region 16 with fail
    refine wp_at (fun W => SAt W b T ∧ K2 b st.g w W) ⟨S3, k3⟩ ?_
    clear S3 k3
    rintro w1 ⟨S1, k1⟩
    have hUg : T.g = st.g := hTg
    clear hF hT hA
    generalize T = U at *
    have S1 := S1.drew
    replace k1 := k1.drew
    have c19 : w1.drew.cell? ⟨b, 19, none⟩ = some (.int .i64 U.h.for_) := S1.c_h_For
    have c30 : w1.drew.cell? ⟨b, 30, none⟩ = some (.int .i64 U.h.next) := S1.c_h_Next
    have c20 : w1.drew.cell? ⟨b, 20, none⟩ = some (.int .i64 U.h.last) := S1.c_h_Last
    go_region_held3 (fun w' => w'.cell? ⟨b, 19, none⟩ = some (.int .i64 U.h.for_) ∧ w'.cell? ⟨b, 30, none⟩ = some (.int .i64 U.h.next) ∧ w'.cell? ⟨b, 20, none⟩ = some (.int .i64 U.h.last)) (go_keep)
      (first
      | (go_at_call 43; refine (sl8Word b U _ _ _ _ _ S1).mono ?_; rintro e w2 ⟨rfl, S2, k2⟩; replace k1 := k1.trans (hUg ▸ k2); clear k2 S1; clear c19 c30 c20; have c19 : w2.cell? ⟨b, 19, none⟩ = some (.int .i64 U.h.for_) := (by have hq := S2.c_h_For; rw [S8.wrd_h] at hq; exact hq); have c30 : w2.cell? ⟨b, 30, none⟩ = some (.int .i64 U.h.next) := (by have hq := S2.c_h_Next; rw [S8.wrd_h] at hq; exact hq); have c20 : w2.cell? ⟨b, 20, none⟩ = some (.int .i64 U.h.last) := (by have hq := S2.c_h_Last; rw [S8.wrd_h] at hq; exact hq))
      | (go_at_call 42; refine (sl9Install b _ a _ 1 12 9 _ S2).mono ?_; rintro e w3 ⟨rfl, S3, k2⟩; rw [S8.wrd_g] at k2; replace k1 := k1.trans (hUg ▸ k2); clear k2 S2; clear c19 c30 c20; have c19 : w3.cell? ⟨b, 19, none⟩ = some (.int .i64 U.h.for_) := (by have hq := S3.c_h_For; rw [ins_For, S8.wrd_h] at hq; exact hq); have c30 : w3.cell? ⟨b, 30, none⟩ = some (.int .i64 U.h.next) := (by have hq := S3.c_h_Next; rw [ins_Next, S8.wrd_h] at hq; exact hq); have c20 : w3.cell? ⟨b, 20, none⟩ = some (.int .i64 U.h.last) := (by have hq := S3.c_h_Last; rw [ins_Last, S8.wrd_h] at hq; exact hq)))
    go_wp2
    first | go_end0 | refine bodyPost_ret (results_none rfl _ _ _) rfl ?_
    rw [hF1.out]
    exact ⟨rfl, S3, k1⟩
def S8.cls9 (st : S8) : Int := vClass st.p st.s st.l st.c st.k st.h.block
set_option maxHeartbeats 16000000 in
theorem g9_19 (b : Nat) (st : S8) (w : World) (S : SAt w b st) (hn : st.n ≤ 16777216) (hat : st.h.at_ = 19) :
    Calls Tryz.prog 19 #[.pointer (some ⟨b, 0, none⟩)] w fun e w' => e = .returned (.tuple #[]) ∧ SAt w' b ((st.rd9 (st.root9 st.cls9)).to 20) ∧ K2 b st.g w w' := by
  obtain ⟨a, hA⟩ : ∃ a, Hid (st.root9 st.cls9 = a) := ⟨_, rfl⟩
  obtain ⟨T, hT⟩ : ∃ T, Hid (st.rdS a = T) := ⟨_, rfl⟩
  have hTh : T.h = st.h := by rw [← hT.out, S8.rdS_h]
  have hTp : T.p = st.p ∧ T.s = st.s ∧ T.l = st.l ∧ T.c = st.c ∧ T.k = st.k := by rw [← hT.out]; exact ⟨S8.rdS_p _ _, S8.rdS_s _ _, S8.rdS_l _ _, S8.rdS_c _ _, S8.rdS_k _ _⟩
  obtain ⟨t0, t1, t2, t3, t4⟩ := hTp
  obtain ⟨x, hx⟩ : ∃ x, Hid (st.rd a = x) := ⟨_, rfl⟩
  have hF : Hid ((st.rd9 (st.root9 st.cls9)).to 20 = S8.to { T with h := { T.h with seen := x } } 20) := by unfold Hid S8.rd9; rw [hA.out, hT.out, hx.out]
  obtain ⟨d0, d1, d2, d3, d4⟩ := (S.drew).plan
  have c28 : w.drew.cell? ⟨b, 28, none⟩ = some (.int .i64 st.h.block) := (S.drew).c_h_Block
  have c13 : w.cell? ⟨b, 13, none⟩ = some (.int .i64 st.h.at_) := S.c_h_At
  rw [hat] at c13
  have hhat : Hid (st.h.at_ = 19) := hat
  clear hat
  go_enter Tryz.func19, Tryz.ntmps19
  go_upto_region 39 with fail
  clear c13
  have S1 := S.drew
  have k1 : K2 b st.g w w.drew := (K2.refl _ _ _).drew
  clear S
  go_region_held3 (fun w' => w'.cell? ⟨b, 0, none⟩ = some (.int .i64 st.p) ∧ w'.cell? ⟨b, 1, none⟩ = some (.int .i64 st.s) ∧ w'.cell? ⟨b, 2, none⟩ = some (.int .i64 st.l) ∧ w'.cell? ⟨b, 3, none⟩ = some (.int .i64 st.c) ∧ w'.cell? ⟨b, 4, none⟩ = some (.int .i64 st.k) ∧ w'.cell? ⟨b, 28, none⟩ = some (.int .i64 st.h.block)) (first | go_keep | (refine ⟨?_, ?_, ?_, ?_, ?_, ?_⟩ <;> (simp [go_sem]; assumption)))
    (first
    | (go_at_call 47; refine (sClass _ _ _ _ _ _ _).mono ?_; rintro e w2 ⟨rfl, hb⟩; replace S1 := S1.keep hb; replace k1 := k1.trans (K2.of_below hb); clear hb; clear d0 d1 d2 d3 d4 c28; obtain ⟨d0, d1, d2, d3, d4⟩ := S1.plan; have c28 := S1.c_h_Block)
    | (go_at_call 36; refine (sl9Root b st _ _ S1).mono ?_; rintro e w2 ⟨rfl, hb⟩; replace S1 := S1.keep hb; replace k1 := k1.trans (K2.of_below hb); clear hb; clear d0 d1 d2 d3 d4 c28; obtain ⟨d0, d1, d2, d3, d4⟩ := S1.plan; have c28 := S1.c_h_Block)
    | (go_at_call 35; refine (sl8Read b st (st.root9 st.cls9) _ S1 hn).mono ?_; rintro e w3 ⟨rfl, S3, k3, hbd⟩; replace k1 := k1.trans k3; rw [hA.out, hT.out] at S3; rw [hA.out, hx.out]; clear k3 S1; clear d0 d1 d2 d3 d4 c28; obtain ⟨d0, d1, d2, d3, d4⟩ := S3.plan; have c28 := S3.c_h_Block; rw [t0] at d0; rw [t1] at d1; rw [t2] at d2; rw [t3] at d3; rw [t4] at d4; rw [hTh] at c28; have c23 : w3.cell? ⟨b, 23, none⟩ = some (.int .u64 T.h.seen) := S3.c_h_Seen; have f23 := S3.fz 23))
  have c13 : w3.cell? ⟨b, 13, none⟩ = some (.int .i64 T.h.at_) := S3.c_h_At
  have f13 := S3.fz 13
  go_wp2
  first | go_end0 | refine bodyPost_ret (results_none rfl _ _ _) rfl ?_
  rw [hF.out]
  exact ⟨rfl, (S3.put (st' := { T with h := { T.h with seen := x } }) 23 _ rfl ⟨rfl, rfl, rfl, rfl, rfl, rfl⟩).put 13 _ rfl ⟨rfl, rfl, rfl, rfl, rfl, rfl⟩, (k1.set _ _).set _ _⟩
end Go.Proofs.YtdebjfgflldpjaaGreat
