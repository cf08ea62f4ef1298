/-
  The specification's telling of a deed: of one who starts.
  The specification's telling of a deed: of one who adopts.
  The specification's telling of a deed: of any other one.
  The specification's telling of a deed.
  A region that draws its order, all of whose operations but the last leave the world in a class, the last one waiting for all the others: one walk of the others in the order of the text serves every order; then the last one, in every world of the class.
  Words at an offset of a struct's block: read, written, swapped, listed.
-/
import Derived.Test.YtgmoemjiffglbaaGreatMh
namespace Go.Proofs.YtgmoemjiffglbaaGreat
open Go.RowKit
set_option maxRecDepth 100000
set_option linter.unusedVariables false
set_option maxRecDepth 100000 in
set_option maxHeartbeats 8000000 in
theorem told_1_3 (b : Nat) (st : S8) (hc : st.h.code = 1) (w : World) (S : SAt w b st) :
    Calls Tryz.prog 71 #[.pointer (some ⟨b, 0, none⟩), .int .i64 3] w fun e w' => e = .returned (.tuple #[]) ∧ SAt w' b { st with d := ⟨3, st.h.for_, 0, st.h.block, st.h.b, 0⟩ } ∧ K2 b st.g w w' := by
  have z := Below.refl w.heap.size w
  go_enter Tryz.func71, Tryz.ntmps71
  go_upto_region 1 with (first
    | (refine loadV st.h.vs Tryz.underlying28 rfl infoH rfl (.tmp 8) rfl b 8 rfl S.is st.hand_at ?_)
    | (refine newV (vs := st.h.vs) infoH st.h.one rfl (.tmp 4) (.tmp 9) rfl rfl rfl rfl ?_; intro w1 H hb lt1; replace z := z.trans (hb.mono z.size); clear hb))
  have c6 : w1.cell? ⟨w.heap.size, 6, none⟩ = some (.int .i64 1) := (H.cell 6).trans (by show some (Value.int .i64 st.h.code) = _; rw [hc])
  have c8 : w1.cell? ⟨w.heap.size, 8, none⟩ = some (.int .i64 st.h.b) := H.cell 8
  have c10 : w1.cell? ⟨w.heap.size, 10, none⟩ = some (.int .i64 st.h.number) := H.cell 10
  have c11 : w1.cell? ⟨w.heap.size, 11, none⟩ = some (.int .i64 st.h.for_) := H.cell 11
  have c20 : w1.cell? ⟨w.heap.size, 20, none⟩ = some (.int .i64 st.h.block) := H.cell 20
  go_upto_region 2 with (first
    | (refine wpList_built rfl 30 #[(0, .tmp 10), (1, .tmp 12), (2, .tmp 14), (3, .tmp 16)] rfl [(0, .int .i64 3), (1, .int .i64 st.h.for_), (2, .int .i64 st.h.number), (3, .int .i64 st.h.block)] rfl _ (bDeed _ _ _ _) ?_)
    | (refine newV (vs := Dd.vs ⟨3, st.h.for_, st.h.number, st.h.block, 0, 0⟩) (by kernel_rfl) (Dd.one _) rfl (.tmp 5) (.tmp 17) rfl rfl rfl rfl ?_; intro w2 D hb lt2; clear c6 c8 c10 c11 c20; replace H := H.keep hb; replace z := z.trans (hb.mono z.size); clear hb))
  have hz2 : w.heap.size ≤ w1.heap.size := by omega
  obtain ⟨b2, hb2⟩ : ∃ q, Hid (w1.heap.size = q) := ⟨_, rfl⟩
  rw [hb2.out] at D hz2
  rw [hb2.out]
  have c6 : w2.cell? ⟨w.heap.size, 6, none⟩ = some (.int .i64 1) := (H.cell 6).trans (by show some (Value.int .i64 st.h.code) = _; rw [hc])
  have c8 : w2.cell? ⟨w.heap.size, 8, none⟩ = some (.int .i64 st.h.b) := H.cell 8
  have c10 : w2.cell? ⟨w.heap.size, 10, none⟩ = some (.int .i64 st.h.number) := H.cell 10
  have c11 : w2.cell? ⟨w.heap.size, 11, none⟩ = some (.int .i64 st.h.for_) := H.cell 11
  have c20 : w2.cell? ⟨w.heap.size, 20, none⟩ = some (.int .i64 st.h.block) := H.cell 20
  have e2 : w2.cell? ⟨b2, 2, none⟩ = some _ := (D.cell 2).trans rfl
  have g2 : w2.frozen? ⟨b2, 2, none⟩ = false := D.frozen 2
  have e4 : w2.cell? ⟨b2, 4, none⟩ = some _ := (D.cell 4).trans rfl
  have g4 : w2.frozen? ⟨b2, 4, none⟩ = false := D.frozen 4
  go_upto_region 14 with fail
  refine wp_at (fun W => At W b2 (Dd.vs ⟨3, st.h.for_, 0, st.h.block, st.h.b, 0⟩).toArray 30 ∧ Below w.heap.size w W) ⟨((D.set 2 _).set 4 _), (Below.setCell (Below.setCell z (p := ⟨b2, 2, none⟩) hz2 _) (p := ⟨b2, 4, none⟩) hz2 _)⟩ ?_
  clear c6 c8 c10 c11 c20 e2 g2 e4 g4 D z H
  rintro W ⟨D, z⟩
  have S2 := S.keep z
  go_wp2_with (first
    | (refine loadV (Dd.vs ⟨3, st.h.for_, 0, st.h.block, st.h.b, 0⟩) Tryz.underlying30 rfl (by kernel_rfl) rfl (.tmp 5) rfl b2 0 rfl D (fun j v hj => by rw [Nat.zero_add]; simpa using hj) ?_)
    | (refine storeD rfl (.tmp 51) (.tmp 49) rfl b st ⟨3, st.h.for_, 0, st.h.block, st.h.b, 0⟩ rfl rfl S2 ?_; intro W3 S3 kk))
  go_end0
  exact ⟨rfl, S3, kk _ _ (K2.of_below z)⟩

set_option maxRecDepth 100000 in
set_option maxHeartbeats 8000000 in
theorem told_1_5 (b : Nat) (st : S8) (hc : st.h.code = 1) (w : World) (S : SAt w b st) :
    Calls Tryz.prog 71 #[.pointer (some ⟨b, 0, none⟩), .int .i64 5] w fun e w' => e = .returned (.tuple #[]) ∧ SAt w' b { st with d := ⟨5, st.h.for_, 0, st.h.block, st.h.b, 0⟩ } ∧ K2 b st.g w w' := by
  have z := Below.refl w.heap.size w
  go_enter Tryz.func71, Tryz.ntmps71
  go_upto_region 1 with (first
    | (refine loadV st.h.vs Tryz.underlying28 rfl infoH rfl (.tmp 8) rfl b 8 rfl S.is st.hand_at ?_)
    | (refine newV (vs := st.h.vs) infoH st.h.one rfl (.tmp 4) (.tmp 9) rfl rfl rfl rfl ?_; intro w1 H hb lt1; replace z := z.trans (hb.mono z.size); clear hb))
  have c6 : w1.cell? ⟨w.heap.size, 6, none⟩ = some (.int .i64 1) := (H.cell 6).trans (by show some (Value.int .i64 st.h.code) = _; rw [hc])
  have c8 : w1.cell? ⟨w.heap.size, 8, none⟩ = some (.int .i64 st.h.b) := H.cell 8
  have c10 : w1.cell? ⟨w.heap.size, 10, none⟩ = some (.int .i64 st.h.number) := H.cell 10
  have c11 : w1.cell? ⟨w.heap.size, 11, none⟩ = some (.int .i64 st.h.for_) := H.cell 11
  have c20 : w1.cell? ⟨w.heap.size, 20, none⟩ = some (.int .i64 st.h.block) := H.cell 20
  go_upto_region 2 with (first
    | (refine wpList_built rfl 30 #[(0, .tmp 10), (1, .tmp 12), (2, .tmp 14), (3, .tmp 16)] rfl [(0, .int .i64 5), (1, .int .i64 st.h.for_), (2, .int .i64 st.h.number), (3, .int .i64 st.h.block)] rfl _ (bDeed _ _ _ _) ?_)
    | (refine newV (vs := Dd.vs ⟨5, st.h.for_, st.h.number, st.h.block, 0, 0⟩) (by kernel_rfl) (Dd.one _) rfl (.tmp 5) (.tmp 17) rfl rfl rfl rfl ?_; intro w2 D hb lt2; clear c6 c8 c10 c11 c20; replace H := H.keep hb; replace z := z.trans (hb.mono z.size); clear hb))
  have hz2 : w.heap.size ≤ w1.heap.size := by omega
  obtain ⟨b2, hb2⟩ : ∃ q, Hid (w1.heap.size = q) := ⟨_, rfl⟩
  rw [hb2.out] at D hz2
  rw [hb2.out]
  have c6 : w2.cell? ⟨w.heap.size, 6, none⟩ = some (.int .i64 1) := (H.cell 6).trans (by show some (Value.int .i64 st.h.code) = _; rw [hc])
  have c8 : w2.cell? ⟨w.heap.size, 8, none⟩ = some (.int .i64 st.h.b) := H.cell 8
  have c10 : w2.cell? ⟨w.heap.size, 10, none⟩ = some (.int .i64 st.h.number) := H.cell 10
  have c11 : w2.cell? ⟨w.heap.size, 11, none⟩ = some (.int .i64 st.h.for_) := H.cell 11
  have c20 : w2.cell? ⟨w.heap.size, 20, none⟩ = some (.int .i64 st.h.block) := H.cell 20
  have e2 : w2.cell? ⟨b2, 2, none⟩ = some _ := (D.cell 2).trans rfl
  have g2 : w2.frozen? ⟨b2, 2, none⟩ = false := D.frozen 2
  have e4 : w2.cell? ⟨b2, 4, none⟩ = some _ := (D.cell 4).trans rfl
  have g4 : w2.frozen? ⟨b2, 4, none⟩ = false := D.frozen 4
  go_upto_region 14 with fail
  refine wp_at (fun W => At W b2 (Dd.vs ⟨5, st.h.for_, 0, st.h.block, st.h.b, 0⟩).toArray 30 ∧ Below w.heap.size w W) ⟨((D.set 2 _).set 4 _), (Below.setCell (Below.setCell z (p := ⟨b2, 2, none⟩) hz2 _) (p := ⟨b2, 4, none⟩) hz2 _)⟩ ?_
  clear c6 c8 c10 c11 c20 e2 g2 e4 g4 D z H
  rintro W ⟨D, z⟩
  have S2 := S.keep z
  go_wp2_with (first
    | (refine loadV (Dd.vs ⟨5, st.h.for_, 0, st.h.block, st.h.b, 0⟩) Tryz.underlying30 rfl (by kernel_rfl) rfl (.tmp 5) rfl b2 0 rfl D (fun j v hj => by rw [Nat.zero_add]; simpa using hj) ?_)
    | (refine storeD rfl (.tmp 51) (.tmp 49) rfl b st ⟨5, st.h.for_, 0, st.h.block, st.h.b, 0⟩ rfl rfl S2 ?_; intro W3 S3 kk))
  go_end0
  exact ⟨rfl, S3, kk _ _ (K2.of_below z)⟩

set_option maxRecDepth 100000 in
set_option maxHeartbeats 8000000 in
theorem told_1_4 (b : Nat) (st : S8) (hc : st.h.code = 1) (w : World) (S : SAt w b st) :
    Calls Tryz.prog 71 #[.pointer (some ⟨b, 0, none⟩), .int .i64 4] w fun e w' => e = .returned (.tuple #[]) ∧ SAt w' b { st with d := ⟨4, st.h.for_, 0, st.h.block, st.h.value, 0⟩ } ∧ K2 b st.g w w' := by
  have z := Below.refl w.heap.size w
  go_enter Tryz.func71, Tryz.ntmps71
  go_upto_region 1 with (first
    | (refine loadV st.h.vs Tryz.underlying28 rfl infoH rfl (.tmp 8) rfl b 8 rfl S.is st.hand_at ?_)
    | (refine newV (vs := st.h.vs) infoH st.h.one rfl (.tmp 4) (.tmp 9) rfl rfl rfl rfl ?_; intro w1 H hb lt1; replace z := z.trans (hb.mono z.size); clear hb))
  have c6 : w1.cell? ⟨w.heap.size, 6, none⟩ = some (.int .i64 1) := (H.cell 6).trans (by show some (Value.int .i64 st.h.code) = _; rw [hc])
  have c10 : w1.cell? ⟨w.heap.size, 10, none⟩ = some (.int .i64 st.h.number) := H.cell 10
  have c11 : w1.cell? ⟨w.heap.size, 11, none⟩ = some (.int .i64 st.h.for_) := H.cell 11
  have c20 : w1.cell? ⟨w.heap.size, 20, none⟩ = some (.int .i64 st.h.block) := H.cell 20
  have c23 : w1.cell? ⟨w.heap.size, 23, none⟩ = some (.int .i64 st.h.value) := H.cell 23
  go_upto_region 2 with (first
    | (refine wpList_built rfl 30 #[(0, .tmp 10), (1, .tmp 12), (2, .tmp 14), (3, .tmp 16)] rfl [(0, .int .i64 4), (1, .int .i64 st.h.for_), (2, .int .i64 st.h.number), (3, .int .i64 st.h.block)] rfl _ (bDeed _ _ _ _) ?_)
    | (refine newV (vs := Dd.vs ⟨4, st.h.for_, st.h.number, st.h.block, 0, 0⟩) (by kernel_rfl) (Dd.one _) rfl (.tmp 5) (.tmp 17) rfl rfl rfl rfl ?_; intro w2 D hb lt2; clear c6 c10 c11 c20 c23; replace H := H.keep hb; replace z := z.trans (hb.mono z.size); clear hb))
  have hz2 : w.heap.size ≤ w1.heap.size := by omega
  obtain ⟨b2, hb2⟩ : ∃ q, Hid (w1.heap.size = q) := ⟨_, rfl⟩
  rw [hb2.out] at D hz2
  rw [hb2.out]
  have c6 : w2.cell? ⟨w.heap.size, 6, none⟩ = some (.int .i64 1) := (H.cell 6).trans (by show some (Value.int .i64 st.h.code) = _; rw [hc])
  have c10 : w2.cell? ⟨w.heap.size, 10, none⟩ = some (.int .i64 st.h.number) := H.cell 10
  have c11 : w2.cell? ⟨w.heap.size, 11, none⟩ = some (.int .i64 st.h.for_) := H.cell 11
  have c20 : w2.cell? ⟨w.heap.size, 20, none⟩ = some (.int .i64 st.h.block) := H.cell 20
  have c23 : w2.cell? ⟨w.heap.size, 23, none⟩ = some (.int .i64 st.h.value) := H.cell 23
  have e2 : w2.cell? ⟨b2, 2, none⟩ = some _ := (D.cell 2).trans rfl
  have g2 : w2.frozen? ⟨b2, 2, none⟩ = false := D.frozen 2
  have e4 : w2.cell? ⟨b2, 4, none⟩ = some _ := (D.cell 4).trans rfl
  have g4 : w2.frozen? ⟨b2, 4, none⟩ = false := D.frozen 4
  go_upto_region 14 with fail
  refine wp_at (fun W => At W b2 (Dd.vs ⟨4, st.h.for_, 0, st.h.block, st.h.value, 0⟩).toArray 30 ∧ Below w.heap.size w W) ⟨((D.set 2 _).set 4 _), (Below.setCell (Below.setCell z (p := ⟨b2, 2, none⟩) hz2 _) (p := ⟨b2, 4, none⟩) hz2 _)⟩ ?_
  clear c6 c10 c11 c20 c23 e2 g2 e4 g4 D z H
  rintro W ⟨D, z⟩
  have S2 := S.keep z
  go_wp2_with (first
    | (refine loadV (Dd.vs ⟨4, st.h.for_, 0, st.h.block, st.h.value, 0⟩) Tryz.underlying30 rfl (by kernel_rfl) rfl (.tmp 5) rfl b2 0 rfl D (fun j v hj => by rw [Nat.zero_add]; simpa using hj) ?_)
    | (refine storeD rfl (.tmp 51) (.tmp 49) rfl b st ⟨4, st.h.for_, 0, st.h.block, st.h.value, 0⟩ rfl rfl S2 ?_; intro W3 S3 kk))
  go_end0
  exact ⟨rfl, S3, kk _ _ (K2.of_below z)⟩

set_option maxRecDepth 100000 in
set_option maxHeartbeats 8000000 in
theorem told_1_6 (b : Nat) (st : S8) (hc : st.h.code = 1) (w : World) (S : SAt w b st) :
    Calls Tryz.prog 71 #[.pointer (some ⟨b, 0, none⟩), .int .i64 6] w fun e w' => e = .returned (.tuple #[]) ∧ SAt w' b { st with d := ⟨6, st.h.for_, 0, st.h.block, st.h.value, 0⟩ } ∧ K2 b st.g w w' := by
  have z := Below.refl w.heap.size w
  go_enter Tryz.func71, Tryz.ntmps71
  go_upto_region 1 with (first
    | (refine loadV st.h.vs Tryz.underlying28 rfl infoH rfl (.tmp 8) rfl b 8 rfl S.is st.hand_at ?_)
    | (refine newV (vs := st.h.vs) infoH st.h.one rfl (.tmp 4) (.tmp 9) rfl rfl rfl rfl ?_; intro w1 H hb lt1; replace z := z.trans (hb.mono z.size); clear hb))
  have c6 : w1.cell? ⟨w.heap.size, 6, none⟩ = some (.int .i64 1) := (H.cell 6).trans (by show some (Value.int .i64 st.h.code) = _; rw [hc])
  have c10 : w1.cell? ⟨w.heap.size, 10, none⟩ = some (.int .i64 st.h.number) := H.cell 10
  have c11 : w1.cell? ⟨w.heap.size, 11, none⟩ = some (.int .i64 st.h.for_) := H.cell 11
  have c20 : w1.cell? ⟨w.heap.size, 20, none⟩ = some (.int .i64 st.h.block) := H.cell 20
  have c23 : w1.cell? ⟨w.heap.size, 23, none⟩ = some (.int .i64 st.h.value) := H.cell 23
  go_upto_region 2 with (first
    | (refine wpList_built rfl 30 #[(0, .tmp 10), (1, .tmp 12), (2, .tmp 14), (3, .tmp 16)] rfl [(0, .int .i64 6), (1, .int .i64 st.h.for_), (2, .int .i64 st.h.number), (3, .int .i64 st.h.block)] rfl _ (bDeed _ _ _ _) ?_)
    | (refine newV (vs := Dd.vs ⟨6, st.h.for_, st.h.number, st.h.block, 0, 0⟩) (by kernel_rfl) (Dd.one _) rfl (.tmp 5) (.tmp 17) rfl rfl rfl rfl ?_; intro w2 D hb lt2; clear c6 c10 c11 c20 c23; replace H := H.keep hb; replace z := z.trans (hb.mono z.size); clear hb))
  have hz2 : w.heap.size ≤ w1.heap.size := by omega
  obtain ⟨b2, hb2⟩ : ∃ q, Hid (w1.heap.size = q) := ⟨_, rfl⟩
  rw [hb2.out] at D hz2
  rw [hb2.out]
  have c6 : w2.cell? ⟨w.heap.size, 6, none⟩ = some (.int .i64 1) := (H.cell 6).trans (by show some (Value.int .i64 st.h.code) = _; rw [hc])
  have c10 : w2.cell? ⟨w.heap.size, 10, none⟩ = some (.int .i64 st.h.number) := H.cell 10
  have c11 : w2.cell? ⟨w.heap.size, 11, none⟩ = some (.int .i64 st.h.for_) := H.cell 11
  have c20 : w2.cell? ⟨w.heap.size, 20, none⟩ = some (.int .i64 st.h.block) := H.cell 20
  have c23 : w2.cell? ⟨w.heap.size, 23, none⟩ = some (.int .i64 st.h.value) := H.cell 23
  have e2 : w2.cell? ⟨b2, 2, none⟩ = some _ := (D.cell 2).trans rfl
  have g2 : w2.frozen? ⟨b2, 2, none⟩ = false := D.frozen 2
  have e4 : w2.cell? ⟨b2, 4, none⟩ = some _ := (D.cell 4).trans rfl
  have g4 : w2.frozen? ⟨b2, 4, none⟩ = false := D.frozen 4
  go_upto_region 14 with fail
  refine wp_at (fun W => At W b2 (Dd.vs ⟨6, st.h.for_, 0, st.h.block, st.h.value, 0⟩).toArray 30 ∧ Below w.heap.size w W) ⟨((D.set 2 _).set 4 _), (Below.setCell (Below.setCell z (p := ⟨b2, 2, none⟩) hz2 _) (p := ⟨b2, 4, none⟩) hz2 _)⟩ ?_
  clear c6 c10 c11 c20 c23 e2 g2 e4 g4 D z H
  rintro W ⟨D, z⟩
  have S2 := S.keep z
  go_wp2_with (first
    | (refine loadV (Dd.vs ⟨6, st.h.for_, 0, st.h.block, st.h.value, 0⟩) Tryz.underlying30 rfl (by kernel_rfl) rfl (.tmp 5) rfl b2 0 rfl D (fun j v hj => by rw [Nat.zero_add]; simpa using hj) ?_)
    | (refine storeD rfl (.tmp 51) (.tmp 49) rfl b st ⟨6, st.h.for_, 0, st.h.block, st.h.value, 0⟩ rfl rfl S2 ?_; intro W3 S3 kk))
  go_end0
  exact ⟨rfl, S3, kk _ _ (K2.of_below z)⟩

set_option maxRecDepth 100000 in
set_option maxHeartbeats 8000000 in
theorem told_1_7 (b : Nat) (st : S8) (hc : st.h.code = 1) (w : World) (S : SAt w b st) :
    Calls Tryz.prog 71 #[.pointer (some ⟨b, 0, none⟩), .int .i64 7] w fun e w' => e = .returned (.tuple #[]) ∧ SAt w' b { st with d := ⟨7, st.h.for_, 0, st.h.a, st.h.c, 0⟩ } ∧ K2 b st.g w w' := by
  have z := Below.refl w.heap.size w
  go_enter Tryz.func71, Tryz.ntmps71
  go_upto_region 1 with (first
    | (refine loadV st.h.vs Tryz.underlying28 rfl infoH rfl (.tmp 8) rfl b 8 rfl S.is st.hand_at ?_)
    | (refine newV (vs := st.h.vs) infoH st.h.one rfl (.tmp 4) (.tmp 9) rfl rfl rfl rfl ?_; intro w1 H hb lt1; replace z := z.trans (hb.mono z.size); clear hb))
  have c6 : w1.cell? ⟨w.heap.size, 6, none⟩ = some (.int .i64 1) := (H.cell 6).trans (by show some (Value.int .i64 st.h.code) = _; rw [hc])
  have c7 : w1.cell? ⟨w.heap.size, 7, none⟩ = some (.int .i64 st.h.a) := H.cell 7
  have c9 : w1.cell? ⟨w.heap.size, 9, none⟩ = some (.int .i64 st.h.c) := H.cell 9
  have c10 : w1.cell? ⟨w.heap.size, 10, none⟩ = some (.int .i64 st.h.number) := H.cell 10
  have c11 : w1.cell? ⟨w.heap.size, 11, none⟩ = some (.int .i64 st.h.for_) := H.cell 11
  have c20 : w1.cell? ⟨w.heap.size, 20, none⟩ = some (.int .i64 st.h.block) := H.cell 20
  go_upto_region 2 with (first
    | (refine wpList_built rfl 30 #[(0, .tmp 10), (1, .tmp 12), (2, .tmp 14), (3, .tmp 16)] rfl [(0, .int .i64 7), (1, .int .i64 st.h.for_), (2, .int .i64 st.h.number), (3, .int .i64 st.h.block)] rfl _ (bDeed _ _ _ _) ?_)
    | (refine newV (vs := Dd.vs ⟨7, st.h.for_, st.h.number, st.h.block, 0, 0⟩) (by kernel_rfl) (Dd.one _) rfl (.tmp 5) (.tmp 17) rfl rfl rfl rfl ?_; intro w2 D hb lt2; clear c6 c7 c9 c10 c11 c20; replace H := H.keep hb; replace z := z.trans (hb.mono z.size); clear hb))
  have hz2 : w.heap.size ≤ w1.heap.size := by omega
  obtain ⟨b2, hb2⟩ : ∃ q, Hid (w1.heap.size = q) := ⟨_, rfl⟩
  rw [hb2.out] at D hz2
  rw [hb2.out]
  have c6 : w2.cell? ⟨w.heap.size, 6, none⟩ = some (.int .i64 1) := (H.cell 6).trans (by show some (Value.int .i64 st.h.code) = _; rw [hc])
  have c7 : w2.cell? ⟨w.heap.size, 7, none⟩ = some (.int .i64 st.h.a) := H.cell 7
  have c9 : w2.cell? ⟨w.heap.size, 9, none⟩ = some (.int .i64 st.h.c) := H.cell 9
  have c10 : w2.cell? ⟨w.heap.size, 10, none⟩ = some (.int .i64 st.h.number) := H.cell 10
  have c11 : w2.cell? ⟨w.heap.size, 11, none⟩ = some (.int .i64 st.h.for_) := H.cell 11
  have c20 : w2.cell? ⟨w.heap.size, 20, none⟩ = some (.int .i64 st.h.block) := H.cell 20
  have e2 : w2.cell? ⟨b2, 2, none⟩ = some _ := (D.cell 2).trans rfl
  have g2 : w2.frozen? ⟨b2, 2, none⟩ = false := D.frozen 2
  have e3 : w2.cell? ⟨b2, 3, none⟩ = some _ := (D.cell 3).trans rfl
  have g3 : w2.frozen? ⟨b2, 3, none⟩ = false := D.frozen 3
  have e4 : w2.cell? ⟨b2, 4, none⟩ = some _ := (D.cell 4).trans rfl
  have g4 : w2.frozen? ⟨b2, 4, none⟩ = false := D.frozen 4
  go_upto_region 14 with fail
  refine wp_at (fun W => At W b2 (Dd.vs ⟨7, st.h.for_, 0, st.h.a, st.h.c, 0⟩).toArray 30 ∧ Below w.heap.size w W) ⟨(((D.set 2 _).set 3 _).set 4 _), (Below.setCell (Below.setCell (Below.setCell z (p := ⟨b2, 2, none⟩) hz2 _) (p := ⟨b2, 3, none⟩) hz2 _) (p := ⟨b2, 4, none⟩) hz2 _)⟩ ?_
  clear c6 c7 c9 c10 c11 c20 e2 g2 e3 g3 e4 g4 D z H
  rintro W ⟨D, z⟩
  have S2 := S.keep z
  go_wp2_with (first
    | (refine loadV (Dd.vs ⟨7, st.h.for_, 0, st.h.a, st.h.c, 0⟩) Tryz.underlying30 rfl (by kernel_rfl) rfl (.tmp 5) rfl b2 0 rfl D (fun j v hj => by rw [Nat.zero_add]; simpa using hj) ?_)
    | (refine storeD rfl (.tmp 51) (.tmp 49) rfl b st ⟨7, st.h.for_, 0, st.h.a, st.h.c, 0⟩ rfl rfl S2 ?_; intro W3 S3 kk))
  go_end0
  exact ⟨rfl, S3, kk _ _ (K2.of_below z)⟩

set_option maxRecDepth 100000 in
set_option maxHeartbeats 8000000 in
theorem told_1_n (b : Nat) (st : S8) (kind : Int) (k3 : ¬ kind = 3) (k4 : ¬ kind = 4) (k5 : ¬ kind = 5) (k6 : ¬ kind = 6) (k7 : ¬ kind = 7) (hc : st.h.code = 1) (w : World) (S : SAt w b st) :
    Calls Tryz.prog 71 #[.pointer (some ⟨b, 0, none⟩), .int .i64 kind] w fun e w' => e = .returned (.tuple #[]) ∧ SAt w' b { st with d := ⟨kind, st.h.for_, 0, st.h.block, 0, 0⟩ } ∧ K2 b st.g w w' := by
  have z := Below.refl w.heap.size w
  go_enter Tryz.func71, Tryz.ntmps71
  go_upto_region 1 with (first
    | (refine loadV st.h.vs Tryz.underlying28 rfl infoH rfl (.tmp 8) rfl b 8 rfl S.is st.hand_at ?_)
    | (refine newV (vs := st.h.vs) infoH st.h.one rfl (.tmp 4) (.tmp 9) rfl rfl rfl rfl ?_; intro w1 H hb lt1; replace z := z.trans (hb.mono z.size); clear hb))
  have c6 : w1.cell? ⟨w.heap.size, 6, none⟩ = some (.int .i64 1) := (H.cell 6).trans (by show some (Value.int .i64 st.h.code) = _; rw [hc])
  have c10 : w1.cell? ⟨w.heap.size, 10, none⟩ = some (.int .i64 st.h.number) := H.cell 10
  have c11 : w1.cell? ⟨w.heap.size, 11, none⟩ = some (.int .i64 st.h.for_) := H.cell 11
  have c20 : w1.cell? ⟨w.heap.size, 20, none⟩ = some (.int .i64 st.h.block) := H.cell 20
  go_upto_region 2 with (first
    | (refine wpList_built rfl 30 #[(0, .tmp 10), (1, .tmp 12), (2, .tmp 14), (3, .tmp 16)] rfl [(0, .int .i64 kind), (1, .int .i64 st.h.for_), (2, .int .i64 st.h.number), (3, .int .i64 st.h.block)] rfl _ (bDeed _ _ _ _) ?_)
    | (refine newV (vs := Dd.vs ⟨kind, st.h.for_, st.h.number, st.h.block, 0, 0⟩) (by kernel_rfl) (Dd.one _) rfl (.tmp 5) (.tmp 17) rfl rfl rfl rfl ?_; intro w2 D hb lt2; clear c6 c10 c11 c20; replace H := H.keep hb; replace z := z.trans (hb.mono z.size); clear hb))
  have hz2 : w.heap.size ≤ w1.heap.size := by omega
  obtain ⟨b2, hb2⟩ : ∃ q, Hid (w1.heap.size = q) := ⟨_, rfl⟩
  rw [hb2.out] at D hz2
  rw [hb2.out]
  have c6 : w2.cell? ⟨w.heap.size, 6, none⟩ = some (.int .i64 1) := (H.cell 6).trans (by show some (Value.int .i64 st.h.code) = _; rw [hc])
  have c10 : w2.cell? ⟨w.heap.size, 10, none⟩ = some (.int .i64 st.h.number) := H.cell 10
  have c11 : w2.cell? ⟨w.heap.size, 11, none⟩ = some (.int .i64 st.h.for_) := H.cell 11
  have c20 : w2.cell? ⟨w.heap.size, 20, none⟩ = some (.int .i64 st.h.block) := H.cell 20
  have e2 : w2.cell? ⟨b2, 2, none⟩ = some _ := (D.cell 2).trans rfl
  have g2 : w2.frozen? ⟨b2, 2, none⟩ = false := D.frozen 2
  go_upto_region 14 with fail
  refine wp_at (fun W => At W b2 (Dd.vs ⟨kind, st.h.for_, 0, st.h.block, 0, 0⟩).toArray 30 ∧ Below w.heap.size w W) ⟨(D.set 2 _), (Below.setCell z (p := ⟨b2, 2, none⟩) hz2 _)⟩ ?_
  clear c6 c10 c11 c20 e2 g2 D z H
  rintro W ⟨D, z⟩
  have S2 := S.keep z
  go_wp2_with (first
    | (refine loadV (Dd.vs ⟨kind, st.h.for_, 0, st.h.block, 0, 0⟩) Tryz.underlying30 rfl (by kernel_rfl) rfl (.tmp 5) rfl b2 0 rfl D (fun j v hj => by rw [Nat.zero_add]; simpa using hj) ?_)
    | (refine storeD rfl (.tmp 51) (.tmp 49) rfl b st ⟨kind, st.h.for_, 0, st.h.block, 0, 0⟩ rfl rfl S2 ?_; intro W3 S3 kk))
  go_end0
  exact ⟨rfl, S3, kk _ _ (K2.of_below z)⟩

end Go.Proofs.YtgmoemjiffglbaaGreat
namespace Go.Proofs.YtgmoemjiffglbaaGreat
open Go.RowKit
set_option maxRecDepth 100000
set_option linter.unusedVariables false
set_option maxRecDepth 100000 in
set_option maxHeartbeats 8000000 in
theorem told_13_3 (b : Nat) (st : S8) (hc : st.h.code = 13) (w : World) (S : SAt w b st) :
    Calls Tryz.prog 71 #[.pointer (some ⟨b, 0, none⟩), .int .i64 3] w fun e w' => e = .returned (.tuple #[]) ∧ SAt w' b { st with d := ⟨3, st.h.for_, 0, st.h.block, st.h.b, 0⟩ } ∧ K2 b st.g w w' := by
  have z := Below.refl w.heap.size w
  go_enter Tryz.func71, Tryz.ntmps71
  go_upto_region 1 with (first
    | (refine loadV st.h.vs Tryz.underlying28 rfl infoH rfl (.tmp 8) rfl b 8 rfl S.is st.hand_at ?_)
    | (refine newV (vs := st.h.vs) infoH st.h.one rfl (.tmp 4) (.tmp 9) rfl rfl rfl rfl ?_; intro w1 H hb lt1; replace z := z.trans (hb.mono z.size); clear hb))
  have c6 : w1.cell? ⟨w.heap.size, 6, none⟩ = some (.int .i64 13) := (H.cell 6).trans (by show some (Value.int .i64 st.h.code) = _; rw [hc])
  have c8 : w1.cell? ⟨w.heap.size, 8, none⟩ = some (.int .i64 st.h.b) := H.cell 8
  have c10 : w1.cell? ⟨w.heap.size, 10, none⟩ = some (.int .i64 st.h.number) := H.cell 10
  have c11 : w1.cell? ⟨w.heap.size, 11, none⟩ = some (.int .i64 st.h.for_) := H.cell 11
  have c20 : w1.cell? ⟨w.heap.size, 20, none⟩ = some (.int .i64 st.h.block) := H.cell 20
  go_upto_region 2 with (first
    | (refine wpList_built rfl 30 #[(0, .tmp 10), (1, .tmp 12), (2, .tmp 14), (3, .tmp 16)] rfl [(0, .int .i64 3), (1, .int .i64 st.h.for_), (2, .int .i64 st.h.number), (3, .int .i64 st.h.block)] rfl _ (bDeed _ _ _ _) ?_)
    | (refine newV (vs := Dd.vs ⟨3, st.h.for_, st.h.number, st.h.block, 0, 0⟩) (by kernel_rfl) (Dd.one _) rfl (.tmp 5) (.tmp 17) rfl rfl rfl rfl ?_; intro w2 D hb lt2; clear c6 c8 c10 c11 c20; replace H := H.keep hb; replace z := z.trans (hb.mono z.size); clear hb))
  have hz2 : w.heap.size ≤ w1.heap.size := by omega
  obtain ⟨b2, hb2⟩ : ∃ q, Hid (w1.heap.size = q) := ⟨_, rfl⟩
  rw [hb2.out] at D hz2
  rw [hb2.out]
  have c6 : w2.cell? ⟨w.heap.size, 6, none⟩ = some (.int .i64 13) := (H.cell 6).trans (by show some (Value.int .i64 st.h.code) = _; rw [hc])
  have c8 : w2.cell? ⟨w.heap.size, 8, none⟩ = some (.int .i64 st.h.b) := H.cell 8
  have c10 : w2.cell? ⟨w.heap.size, 10, none⟩ = some (.int .i64 st.h.number) := H.cell 10
  have c11 : w2.cell? ⟨w.heap.size, 11, none⟩ = some (.int .i64 st.h.for_) := H.cell 11
  have c20 : w2.cell? ⟨w.heap.size, 20, none⟩ = some (.int .i64 st.h.block) := H.cell 20
  have e2 : w2.cell? ⟨b2, 2, none⟩ = some _ := (D.cell 2).trans rfl
  have g2 : w2.frozen? ⟨b2, 2, none⟩ = false := D.frozen 2
  have e4 : w2.cell? ⟨b2, 4, none⟩ = some _ := (D.cell 4).trans rfl
  have g4 : w2.frozen? ⟨b2, 4, none⟩ = false := D.frozen 4
  go_upto_region 14 with fail
  refine wp_at (fun W => At W b2 (Dd.vs ⟨3, st.h.for_, 0, st.h.block, st.h.b, 0⟩).toArray 30 ∧ Below w.heap.size w W) ⟨((D.set 2 _).set 4 _), (Below.setCell (Below.setCell z (p := ⟨b2, 2, none⟩) hz2 _) (p := ⟨b2, 4, none⟩) hz2 _)⟩ ?_
  clear c6 c8 c10 c11 c20 e2 g2 e4 g4 D z H
  rintro W ⟨D, z⟩
  have S2 := S.keep z
  go_wp2_with (first
    | (refine loadV (Dd.vs ⟨3, st.h.for_, 0, st.h.block, st.h.b, 0⟩) Tryz.underlying30 rfl (by kernel_rfl) rfl (.tmp 5) rfl b2 0 rfl D (fun j v hj => by rw [Nat.zero_add]; simpa using hj) ?_)
    | (refine storeD rfl (.tmp 51) (.tmp 49) rfl b st ⟨3, st.h.for_, 0, st.h.block, st.h.b, 0⟩ rfl rfl S2 ?_; intro W3 S3 kk))
  go_end0
  exact ⟨rfl, S3, kk _ _ (K2.of_below z)⟩

set_option maxRecDepth 100000 in
set_option maxHeartbeats 8000000 in
theorem told_13_5 (b : Nat) (st : S8) (hc : st.h.code = 13) (w : World) (S : SAt w b st) :
    Calls Tryz.prog 71 #[.pointer (some ⟨b, 0, none⟩), .int .i64 5] w fun e w' => e = .returned (.tuple #[]) ∧ SAt w' b { st with d := ⟨5, st.h.for_, 0, st.h.block, st.h.b, 0⟩ } ∧ K2 b st.g w w' := by
  have z := Below.refl w.heap.size w
  go_enter Tryz.func71, Tryz.ntmps71
  go_upto_region 1 with (first
    | (refine loadV st.h.vs Tryz.underlying28 rfl infoH rfl (.tmp 8) rfl b 8 rfl S.is st.hand_at ?_)
    | (refine newV (vs := st.h.vs) infoH st.h.one rfl (.tmp 4) (.tmp 9) rfl rfl rfl rfl ?_; intro w1 H hb lt1; replace z := z.trans (hb.mono z.size); clear hb))
  have c6 : w1.cell? ⟨w.heap.size, 6, none⟩ = some (.int .i64 13) := (H.cell 6).trans (by show some (Value.int .i64 st.h.code) = _; rw [hc])
  have c8 : w1.cell? ⟨w.heap.size, 8, none⟩ = some (.int .i64 st.h.b) := H.cell 8
  have c10 : w1.cell? ⟨w.heap.size, 10, none⟩ = some (.int .i64 st.h.number) := H.cell 10
  have c11 : w1.cell? ⟨w.heap.size, 11, none⟩ = some (.int .i64 st.h.for_) := H.cell 11
  have c20 : w1.cell? ⟨w.heap.size, 20, none⟩ = some (.int .i64 st.h.block) := H.cell 20
  go_upto_region 2 with (first
    | (refine wpList_built rfl 30 #[(0, .tmp 10), (1, .tmp 12), (2, .tmp 14), (3, .tmp 16)] rfl [(0, .int .i64 5), (1, .int .i64 st.h.for_), (2, .int .i64 st.h.number), (3, .int .i64 st.h.block)] rfl _ (bDeed _ _ _ _) ?_)
    | (refine newV (vs := Dd.vs ⟨5, st.h.for_, st.h.number, st.h.block, 0, 0⟩) (by kernel_rfl) (Dd.one _) rfl (.tmp 5) (.tmp 17) rfl rfl rfl rfl ?_; intro w2 D hb lt2; clear c6 c8 c10 c11 c20; replace H := H.keep hb; replace z := z.trans (hb.mono z.size); clear hb))
  have hz2 : w.heap.size ≤ w1.heap.size := by omega
  obtain ⟨b2, hb2⟩ : ∃ q, Hid (w1.heap.size = q) := ⟨_, rfl⟩
  rw [hb2.out] at D hz2
  rw [hb2.out]
  have c6 : w2.cell? ⟨w.heap.size, 6, none⟩ = some (.int .i64 13) := (H.cell 6).trans (by show some (Value.int .i64 st.h.code) = _; rw [hc])
  have c8 : w2.cell? ⟨w.heap.size, 8, none⟩ = some (.int .i64 st.h.b) := H.cell 8
  have c10 : w2.cell? ⟨w.heap.size, 10, none⟩ = some (.int .i64 st.h.number) := H.cell 10
  have c11 : w2.cell? ⟨w.heap.size, 11, none⟩ = some (.int .i64 st.h.for_) := H.cell 11
  have c20 : w2.cell? ⟨w.heap.size, 20, none⟩ = some (.int .i64 st.h.block) := H.cell 20
  have e2 : w2.cell? ⟨b2, 2, none⟩ = some _ := (D.cell 2).trans rfl
  have g2 : w2.frozen? ⟨b2, 2, none⟩ = false := D.frozen 2
  have e4 : w2.cell? ⟨b2, 4, none⟩ = some _ := (D.cell 4).trans rfl
  have g4 : w2.frozen? ⟨b2, 4, none⟩ = false := D.frozen 4
  go_upto_region 14 with fail
  refine wp_at (fun W => At W b2 (Dd.vs ⟨5, st.h.for_, 0, st.h.block, st.h.b, 0⟩).toArray 30 ∧ Below w.heap.size w W) ⟨((D.set 2 _).set 4 _), (Below.setCell (Below.setCell z (p := ⟨b2, 2, none⟩) hz2 _) (p := ⟨b2, 4, none⟩) hz2 _)⟩ ?_
  clear c6 c8 c10 c11 c20 e2 g2 e4 g4 D z H
  rintro W ⟨D, z⟩
  have S2 := S.keep z
  go_wp2_with (first
    | (refine loadV (Dd.vs ⟨5, st.h.for_, 0, st.h.block, st.h.b, 0⟩) Tryz.underlying30 rfl (by kernel_rfl) rfl (.tmp 5) rfl b2 0 rfl D (fun j v hj => by rw [Nat.zero_add]; simpa using hj) ?_)
    | (refine storeD rfl (.tmp 51) (.tmp 49) rfl b st ⟨5, st.h.for_, 0, st.h.block, st.h.b, 0⟩ rfl rfl S2 ?_; intro W3 S3 kk))
  go_end0
  exact ⟨rfl, S3, kk _ _ (K2.of_below z)⟩

set_option maxRecDepth 100000 in
set_option maxHeartbeats 8000000 in
theorem told_13_4 (b : Nat) (st : S8) (hc : st.h.code = 13) (w : World) (S : SAt w b st) :
    Calls Tryz.prog 71 #[.pointer (some ⟨b, 0, none⟩), .int .i64 4] w fun e w' => e = .returned (.tuple #[]) ∧ SAt w' b { st with d := ⟨4, st.h.for_, 0, st.h.block, st.h.value, 0⟩ } ∧ K2 b st.g w w' := by
  have z := Below.refl w.heap.size w
  go_enter Tryz.func71, Tryz.ntmps71
  go_upto_region 1 with (first
    | (refine loadV st.h.vs Tryz.underlying28 rfl infoH rfl (.tmp 8) rfl b 8 rfl S.is st.hand_at ?_)
    | (refine newV (vs := st.h.vs) infoH st.h.one rfl (.tmp 4) (.tmp 9) rfl rfl rfl rfl ?_; intro w1 H hb lt1; replace z := z.trans (hb.mono z.size); clear hb))
  have c6 : w1.cell? ⟨w.heap.size, 6, none⟩ = some (.int .i64 13) := (H.cell 6).trans (by show some (Value.int .i64 st.h.code) = _; rw [hc])
  have c10 : w1.cell? ⟨w.heap.size, 10, none⟩ = some (.int .i64 st.h.number) := H.cell 10
  have c11 : w1.cell? ⟨w.heap.size, 11, none⟩ = some (.int .i64 st.h.for_) := H.cell 11
  have c20 : w1.cell? ⟨w.heap.size, 20, none⟩ = some (.int .i64 st.h.block) := H.cell 20
  have c23 : w1.cell? ⟨w.heap.size, 23, none⟩ = some (.int .i64 st.h.value) := H.cell 23
  go_upto_region 2 with (first
    | (refine wpList_built rfl 30 #[(0, .tmp 10), (1, .tmp 12), (2, .tmp 14), (3, .tmp 16)] rfl [(0, .int .i64 4), (1, .int .i64 st.h.for_), (2, .int .i64 st.h.number), (3, .int .i64 st.h.block)] rfl _ (bDeed _ _ _ _) ?_)
    | (refine newV (vs := Dd.vs ⟨4, st.h.for_, st.h.number, st.h.block, 0, 0⟩) (by kernel_rfl) (Dd.one _) rfl (.tmp 5) (.tmp 17) rfl rfl rfl rfl ?_; intro w2 D hb lt2; clear c6 c10 c11 c20 c23; replace H := H.keep hb; replace z := z.trans (hb.mono z.size); clear hb))
  have hz2 : w.heap.size ≤ w1.heap.size := by omega
  obtain ⟨b2, hb2⟩ : ∃ q, Hid (w1.heap.size = q) := ⟨_, rfl⟩
  rw [hb2.out] at D hz2
  rw [hb2.out]
  have c6 : w2.cell? ⟨w.heap.size, 6, none⟩ = some (.int .i64 13) := (H.cell 6).trans (by show some (Value.int .i64 st.h.code) = _; rw [hc])
  have c10 : w2.cell? ⟨w.heap.size, 10, none⟩ = some (.int .i64 st.h.number) := H.cell 10
  have c11 : w2.cell? ⟨w.heap.size, 11, none⟩ = some (.int .i64 st.h.for_) := H.cell 11
  have c20 : w2.cell? ⟨w.heap.size, 20, none⟩ = some (.int .i64 st.h.block) := H.cell 20
  have c23 : w2.cell? ⟨w.heap.size, 23, none⟩ = some (.int .i64 st.h.value) := H.cell 23
  have e2 : w2.cell? ⟨b2, 2, none⟩ = some _ := (D.cell 2).trans rfl
  have g2 : w2.frozen? ⟨b2, 2, none⟩ = false := D.frozen 2
  have e4 : w2.cell? ⟨b2, 4, none⟩ = some _ := (D.cell 4).trans rfl
  have g4 : w2.frozen? ⟨b2, 4, none⟩ = false := D.frozen 4
  go_upto_region 14 with fail
  refine wp_at (fun W => At W b2 (Dd.vs ⟨4, st.h.for_, 0, st.h.block, st.h.value, 0⟩).toArray 30 ∧ Below w.heap.size w W) ⟨((D.set 2 _).set 4 _), (Below.setCell (Below.setCell z (p := ⟨b2, 2, none⟩) hz2 _) (p := ⟨b2, 4, none⟩) hz2 _)⟩ ?_
  clear c6 c10 c11 c20 c23 e2 g2 e4 g4 D z H
  rintro W ⟨D, z⟩
  have S2 := S.keep z
  go_wp2_with (first
    | (refine loadV (Dd.vs ⟨4, st.h.for_, 0, st.h.block, st.h.value, 0⟩) Tryz.underlying30 rfl (by kernel_rfl) rfl (.tmp 5) rfl b2 0 rfl D (fun j v hj => by rw [Nat.zero_add]; simpa using hj) ?_)
    | (refine storeD rfl (.tmp 51) (.tmp 49) rfl b st ⟨4, st.h.for_, 0, st.h.block, st.h.value, 0⟩ rfl rfl S2 ?_; intro W3 S3 kk))
  go_end0
  exact ⟨rfl, S3, kk _ _ (K2.of_below z)⟩

set_option maxRecDepth 100000 in
set_option maxHeartbeats 8000000 in
theorem told_13_6 (b : Nat) (st : S8) (hc : st.h.code = 13) (w : World) (S : SAt w b st) :
    Calls Tryz.prog 71 #[.pointer (some ⟨b, 0, none⟩), .int .i64 6] w fun e w' => e = .returned (.tuple #[]) ∧ SAt w' b { st with d := ⟨6, st.h.for_, 0, st.h.block, st.h.value, 0⟩ } ∧ K2 b st.g w w' := by
  have z := Below.refl w.heap.size w
  go_enter Tryz.func71, Tryz.ntmps71
  go_upto_region 1 with (first
    | (refine loadV st.h.vs Tryz.underlying28 rfl infoH rfl (.tmp 8) rfl b 8 rfl S.is st.hand_at ?_)
    | (refine newV (vs := st.h.vs) infoH st.h.one rfl (.tmp 4) (.tmp 9) rfl rfl rfl rfl ?_; intro w1 H hb lt1; replace z := z.trans (hb.mono z.size); clear hb))
  have c6 : w1.cell? ⟨w.heap.size, 6, none⟩ = some (.int .i64 13) := (H.cell 6).trans (by show some (Value.int .i64 st.h.code) = _; rw [hc])
  have c10 : w1.cell? ⟨w.heap.size, 10, none⟩ = some (.int .i64 st.h.number) := H.cell 10
  have c11 : w1.cell? ⟨w.heap.size, 11, none⟩ = some (.int .i64 st.h.for_) := H.cell 11
  have c20 : w1.cell? ⟨w.heap.size, 20, none⟩ = some (.int .i64 st.h.block) := H.cell 20
  have c23 : w1.cell? ⟨w.heap.size, 23, none⟩ = some (.int .i64 st.h.value) := H.cell 23
  go_upto_region 2 with (first
    | (refine wpList_built rfl 30 #[(0, .tmp 10), (1, .tmp 12), (2, .tmp 14), (3, .tmp 16)] rfl [(0, .int .i64 6), (1, .int .i64 st.h.for_), (2, .int .i64 st.h.number), (3, .int .i64 st.h.block)] rfl _ (bDeed _ _ _ _) ?_)
    | (refine newV (vs := Dd.vs ⟨6, st.h.for_, st.h.number, st.h.block, 0, 0⟩) (by kernel_rfl) (Dd.one _) rfl (.tmp 5) (.tmp 17) rfl rfl rfl rfl ?_; intro w2 D hb lt2; clear c6 c10 c11 c20 c23; replace H := H.keep hb; replace z := z.trans (hb.mono z.size); clear hb))
  have hz2 : w.heap.size ≤ w1.heap.size := by omega
  obtain ⟨b2, hb2⟩ : ∃ q, Hid (w1.heap.size = q) := ⟨_, rfl⟩
  rw [hb2.out] at D hz2
  rw [hb2.out]
  have c6 : w2.cell? ⟨w.heap.size, 6, none⟩ = some (.int .i64 13) := (H.cell 6).trans (by show some (Value.int .i64 st.h.code) = _; rw [hc])
  have c10 : w2.cell? ⟨w.heap.size, 10, none⟩ = some (.int .i64 st.h.number) := H.cell 10
  have c11 : w2.cell? ⟨w.heap.size, 11, none⟩ = some (.int .i64 st.h.for_) := H.cell 11
  have c20 : w2.cell? ⟨w.heap.size, 20, none⟩ = some (.int .i64 st.h.block) := H.cell 20
  have c23 : w2.cell? ⟨w.heap.size, 23, none⟩ = some (.int .i64 st.h.value) := H.cell 23
  have e2 : w2.cell? ⟨b2, 2, none⟩ = some _ := (D.cell 2).trans rfl
  have g2 : w2.frozen? ⟨b2, 2, none⟩ = false := D.frozen 2
  have e4 : w2.cell? ⟨b2, 4, none⟩ = some _ := (D.cell 4).trans rfl
  have g4 : w2.frozen? ⟨b2, 4, none⟩ = false := D.frozen 4
  go_upto_region 14 with fail
  refine wp_at (fun W => At W b2 (Dd.vs ⟨6, st.h.for_, 0, st.h.block, st.h.value, 0⟩).toArray 30 ∧ Below w.heap.size w W) ⟨((D.set 2 _).set 4 _), (Below.setCell (Below.setCell z (p := ⟨b2, 2, none⟩) hz2 _) (p := ⟨b2, 4, none⟩) hz2 _)⟩ ?_
  clear c6 c10 c11 c20 c23 e2 g2 e4 g4 D z H
  rintro W ⟨D, z⟩
  have S2 := S.keep z
  go_wp2_with (first
    | (refine loadV (Dd.vs ⟨6, st.h.for_, 0, st.h.block, st.h.value, 0⟩) Tryz.underlying30 rfl (by kernel_rfl) rfl (.tmp 5) rfl b2 0 rfl D (fun j v hj => by rw [Nat.zero_add]; simpa using hj) ?_)
    | (refine storeD rfl (.tmp 51) (.tmp 49) rfl b st ⟨6, st.h.for_, 0, st.h.block, st.h.value, 0⟩ rfl rfl S2 ?_; intro W3 S3 kk))
  go_end0
  exact ⟨rfl, S3, kk _ _ (K2.of_below z)⟩

set_option maxRecDepth 100000 in
set_option maxHeartbeats 8000000 in
theorem told_13_7 (b : Nat) (st : S8) (hc : st.h.code = 13) (w : World) (S : SAt w b st) :
    Calls Tryz.prog 71 #[.pointer (some ⟨b, 0, none⟩), .int .i64 7] w fun e w' => e = .returned (.tuple #[]) ∧ SAt w' b { st with d := ⟨7, st.h.for_, 0, st.h.a, st.h.c, 0⟩ } ∧ K2 b st.g w w' := by
  have z := Below.refl w.heap.size w
  go_enter Tryz.func71, Tryz.ntmps71
  go_upto_region 1 with (first
    | (refine loadV st.h.vs Tryz.underlying28 rfl infoH rfl (.tmp 8) rfl b 8 rfl S.is st.hand_at ?_)
    | (refine newV (vs := st.h.vs) infoH st.h.one rfl (.tmp 4) (.tmp 9) rfl rfl rfl rfl ?_; intro w1 H hb lt1; replace z := z.trans (hb.mono z.size); clear hb))
  have c6 : w1.cell? ⟨w.heap.size, 6, none⟩ = some (.int .i64 13) := (H.cell 6).trans (by show some (Value.int .i64 st.h.code) = _; rw [hc])
  have c7 : w1.cell? ⟨w.heap.size, 7, none⟩ = some (.int .i64 st.h.a) := H.cell 7
  have c9 : w1.cell? ⟨w.heap.size, 9, none⟩ = some (.int .i64 st.h.c) := H.cell 9
  have c10 : w1.cell? ⟨w.heap.size, 10, none⟩ = some (.int .i64 st.h.number) := H.cell 10
  have c11 : w1.cell? ⟨w.heap.size, 11, none⟩ = some (.int .i64 st.h.for_) := H.cell 11
  have c20 : w1.cell? ⟨w.heap.size, 20, none⟩ = some (.int .i64 st.h.block) := H.cell 20
  go_upto_region 2 with (first
    | (refine wpList_built rfl 30 #[(0, .tmp 10), (1, .tmp 12), (2, .tmp 14), (3, .tmp 16)] rfl [(0, .int .i64 7), (1, .int .i64 st.h.for_), (2, .int .i64 st.h.number), (3, .int .i64 st.h.block)] rfl _ (bDeed _ _ _ _) ?_)
    | (refine newV (vs := Dd.vs ⟨7, st.h.for_, st.h.number, st.h.block, 0, 0⟩) (by kernel_rfl) (Dd.one _) rfl (.tmp 5) (.tmp 17) rfl rfl rfl rfl ?_; intro w2 D hb lt2; clear c6 c7 c9 c10 c11 c20; replace H := H.keep hb; replace z := z.trans (hb.mono z.size); clear hb))
  have hz2 : w.heap.size ≤ w1.heap.size := by omega
  obtain ⟨b2, hb2⟩ : ∃ q, Hid (w1.heap.size = q) := ⟨_, rfl⟩
  rw [hb2.out] at D hz2
  rw [hb2.out]
  have c6 : w2.cell? ⟨w.heap.size, 6, none⟩ = some (.int .i64 13) := (H.cell 6).trans (by show some (Value.int .i64 st.h.code) = _; rw [hc])
  have c7 : w2.cell? ⟨w.heap.size, 7, none⟩ = some (.int .i64 st.h.a) := H.cell 7
  have c9 : w2.cell? ⟨w.heap.size, 9, none⟩ = some (.int .i64 st.h.c) := H.cell 9
  have c10 : w2.cell? ⟨w.heap.size, 10, none⟩ = some (.int .i64 st.h.number) := H.cell 10
  have c11 : w2.cell? ⟨w.heap.size, 11, none⟩ = some (.int .i64 st.h.for_) := H.cell 11
  have c20 : w2.cell? ⟨w.heap.size, 20, none⟩ = some (.int .i64 st.h.block) := H.cell 20
  have e2 : w2.cell? ⟨b2, 2, none⟩ = some _ := (D.cell 2).trans rfl
  have g2 : w2.frozen? ⟨b2, 2, none⟩ = false := D.frozen 2
  have e3 : w2.cell? ⟨b2, 3, none⟩ = some _ := (D.cell 3).trans rfl
  have g3 : w2.frozen? ⟨b2, 3, none⟩ = false := D.frozen 3
  have e4 : w2.cell? ⟨b2, 4, none⟩ = some _ := (D.cell 4).trans rfl
  have g4 : w2.frozen? ⟨b2, 4, none⟩ = false := D.frozen 4
  go_upto_region 14 with fail
  refine wp_at (fun W => At W b2 (Dd.vs ⟨7, st.h.for_, 0, st.h.a, st.h.c, 0⟩).toArray 30 ∧ Below w.heap.size w W) ⟨(((D.set 2 _).set 3 _).set 4 _), (Below.setCell (Below.setCell (Below.setCell z (p := ⟨b2, 2, none⟩) hz2 _) (p := ⟨b2, 3, none⟩) hz2 _) (p := ⟨b2, 4, none⟩) hz2 _)⟩ ?_
  clear c6 c7 c9 c10 c11 c20 e2 g2 e3 g3 e4 g4 D z H
  rintro W ⟨D, z⟩
  have S2 := S.keep z
  go_wp2_with (first
    | (refine loadV (Dd.vs ⟨7, st.h.for_, 0, st.h.a, st.h.c, 0⟩) Tryz.underlying30 rfl (by kernel_rfl) rfl (.tmp 5) rfl b2 0 rfl D (fun j v hj => by rw [Nat.zero_add]; simpa using hj) ?_)
    | (refine storeD rfl (.tmp 51) (.tmp 49) rfl b st ⟨7, st.h.for_, 0, st.h.a, st.h.c, 0⟩ rfl rfl S2 ?_; intro W3 S3 kk))
  go_end0
  exact ⟨rfl, S3, kk _ _ (K2.of_below z)⟩

set_option maxRecDepth 100000 in
set_option maxHeartbeats 8000000 in
theorem told_13_n (b : Nat) (st : S8) (kind : Int) (k3 : ¬ kind = 3) (k4 : ¬ kind = 4) (k5 : ¬ kind = 5) (k6 : ¬ kind = 6) (k7 : ¬ kind = 7) (hc : st.h.code = 13) (w : World) (S : SAt w b st) :
    Calls Tryz.prog 71 #[.pointer (some ⟨b, 0, none⟩), .int .i64 kind] w fun e w' => e = .returned (.tuple #[]) ∧ SAt w' b { st with d := ⟨kind, st.h.for_, 0, st.h.block, 0, 0⟩ } ∧ K2 b st.g w w' := by
  have z := Below.refl w.heap.size w
  go_enter Tryz.func71, Tryz.ntmps71
  go_upto_region 1 with (first
    | (refine loadV st.h.vs Tryz.underlying28 rfl infoH rfl (.tmp 8) rfl b 8 rfl S.is st.hand_at ?_)
    | (refine newV (vs := st.h.vs) infoH st.h.one rfl (.tmp 4) (.tmp 9) rfl rfl rfl rfl ?_; intro w1 H hb lt1; replace z := z.trans (hb.mono z.size); clear hb))
  have c6 : w1.cell? ⟨w.heap.size, 6, none⟩ = some (.int .i64 13) := (H.cell 6).trans (by show some (Value.int .i64 st.h.code) = _; rw [hc])
  have c10 : w1.cell? ⟨w.heap.size, 10, none⟩ = some (.int .i64 st.h.number) := H.cell 10
  have c11 : w1.cell? ⟨w.heap.size, 11, none⟩ = some (.int .i64 st.h.for_) := H.cell 11
  have c20 : w1.cell? ⟨w.heap.size, 20, none⟩ = some (.int .i64 st.h.block) := H.cell 20
  go_upto_region 2 with (first
    | (refine wpList_built rfl 30 #[(0, .tmp 10), (1, .tmp 12), (2, .tmp 14), (3, .tmp 16)] rfl [(0, .int .i64 kind), (1, .int .i64 st.h.for_), (2, .int .i64 st.h.number), (3, .int .i64 st.h.block)] rfl _ (bDeed _ _ _ _) ?_)
    | (refine newV (vs := Dd.vs ⟨kind, st.h.for_, st.h.number, st.h.block, 0, 0⟩) (by kernel_rfl) (Dd.one _) rfl (.tmp 5) (.tmp 17) rfl rfl rfl rfl ?_; intro w2 D hb lt2; clear c6 c10 c11 c20; replace H := H.keep hb; replace z := z.trans (hb.mono z.size); clear hb))
  have hz2 : w.heap.size ≤ w1.heap.size := by omega
  obtain ⟨b2, hb2⟩ : ∃ q, Hid (w1.heap.size = q) := ⟨_, rfl⟩
  rw [hb2.out] at D hz2
  rw [hb2.out]
  have c6 : w2.cell? ⟨w.heap.size, 6, none⟩ = some (.int .i64 13) := (H.cell 6).trans (by show some (Value.int .i64 st.h.code) = _; rw [hc])
  have c10 : w2.cell? ⟨w.heap.size, 10, none⟩ = some (.int .i64 st.h.number) := H.cell 10
  have c11 : w2.cell? ⟨w.heap.size, 11, none⟩ = some (.int .i64 st.h.for_) := H.cell 11
  have c20 : w2.cell? ⟨w.heap.size, 20, none⟩ = some (.int .i64 st.h.block) := H.cell 20
  have e2 : w2.cell? ⟨b2, 2, none⟩ = some _ := (D.cell 2).trans rfl
  have g2 : w2.frozen? ⟨b2, 2, none⟩ = false := D.frozen 2
  go_upto_region 14 with fail
  refine wp_at (fun W => At W b2 (Dd.vs ⟨kind, st.h.for_, 0, st.h.block, 0, 0⟩).toArray 30 ∧ Below w.heap.size w W) ⟨(D.set 2 _), (Below.setCell z (p := ⟨b2, 2, none⟩) hz2 _)⟩ ?_
  clear c6 c10 c11 c20 e2 g2 D z H
  rintro W ⟨D, z⟩
  have S2 := S.keep z
  go_wp2_with (first
    | (refine loadV (Dd.vs ⟨kind, st.h.for_, 0, st.h.block, 0, 0⟩) Tryz.underlying30 rfl (by kernel_rfl) rfl (.tmp 5) rfl b2 0 rfl D (fun j v hj => by rw [Nat.zero_add]; simpa using hj) ?_)
    | (refine storeD rfl (.tmp 51) (.tmp 49) rfl b st ⟨kind, st.h.for_, 0, st.h.block, 0, 0⟩ rfl rfl S2 ?_; intro W3 S3 kk))
  go_end0
  exact ⟨rfl, S3, kk _ _ (K2.of_below z)⟩

end Go.Proofs.YtgmoemjiffglbaaGreat
namespace Go.Proofs.YtgmoemjiffglbaaGreat
open Go.RowKit
set_option maxRecDepth 100000
set_option linter.unusedVariables false
set_option maxRecDepth 100000 in
set_option maxHeartbeats 8000000 in
theorem told_n_3 (b : Nat) (st : S8) (h1 : ¬ st.h.code = 1) (h2 : ¬ st.h.code = 13) (w : World) (S : SAt w b st) :
    Calls Tryz.prog 71 #[.pointer (some ⟨b, 0, none⟩), .int .i64 3] w fun e w' => e = .returned (.tuple #[]) ∧ SAt w' b { st with d := ⟨3, st.h.for_, st.h.number, st.h.block, st.h.b, 0⟩ } ∧ K2 b st.g w w' := by
  have z := Below.refl w.heap.size w
  have x1 : (st.h.code == 1) = false := by simp [h1]
  have x13 : (st.h.code == 13) = false := by simp [h2]
  go_enter Tryz.func71, Tryz.ntmps71
  go_upto_region 1 with (first
    | (refine loadV st.h.vs Tryz.underlying28 rfl infoH rfl (.tmp 8) rfl b 8 rfl S.is st.hand_at ?_)
    | (refine newV (vs := st.h.vs) infoH st.h.one rfl (.tmp 4) (.tmp 9) rfl rfl rfl rfl ?_; intro w1 H hb lt1; replace z := z.trans (hb.mono z.size); clear hb))
  have c6 : w1.cell? ⟨w.heap.size, 6, none⟩ = some (.int .i64 st.h.code) := H.cell 6
  have c8 : w1.cell? ⟨w.heap.size, 8, none⟩ = some (.int .i64 st.h.b) := H.cell 8
  have c10 : w1.cell? ⟨w.heap.size, 10, none⟩ = some (.int .i64 st.h.number) := H.cell 10
  have c11 : w1.cell? ⟨w.heap.size, 11, none⟩ = some (.int .i64 st.h.for_) := H.cell 11
  have c20 : w1.cell? ⟨w.heap.size, 20, none⟩ = some (.int .i64 st.h.block) := H.cell 20
  go_upto_region 2 with (first
    | (refine wpList_built rfl 30 #[(0, .tmp 10), (1, .tmp 12), (2, .tmp 14), (3, .tmp 16)] rfl [(0, .int .i64 3), (1, .int .i64 st.h.for_), (2, .int .i64 st.h.number), (3, .int .i64 st.h.block)] rfl _ (bDeed _ _ _ _) ?_)
    | (refine newV (vs := Dd.vs ⟨3, st.h.for_, st.h.number, st.h.block, 0, 0⟩) (by kernel_rfl) (Dd.one _) rfl (.tmp 5) (.tmp 17) rfl rfl rfl rfl ?_; intro w2 D hb lt2; clear c6 c8 c10 c11 c20; replace H := H.keep hb; replace z := z.trans (hb.mono z.size); clear hb))
  have hz2 : w.heap.size ≤ w1.heap.size := by omega
  obtain ⟨b2, hb2⟩ : ∃ q, Hid (w1.heap.size = q) := ⟨_, rfl⟩
  rw [hb2.out] at D hz2
  rw [hb2.out]
  have c6 : w2.cell? ⟨w.heap.size, 6, none⟩ = some (.int .i64 st.h.code) := H.cell 6
  have c8 : w2.cell? ⟨w.heap.size, 8, none⟩ = some (.int .i64 st.h.b) := H.cell 8
  have c10 : w2.cell? ⟨w.heap.size, 10, none⟩ = some (.int .i64 st.h.number) := H.cell 10
  have c11 : w2.cell? ⟨w.heap.size, 11, none⟩ = some (.int .i64 st.h.for_) := H.cell 11
  have c20 : w2.cell? ⟨w.heap.size, 20, none⟩ = some (.int .i64 st.h.block) := H.cell 20
  have e4 : w2.cell? ⟨b2, 4, none⟩ = some _ := (D.cell 4).trans rfl
  have g4 : w2.frozen? ⟨b2, 4, none⟩ = false := D.frozen 4
  go_upto_region 14 with fail
  refine wp_at (fun W => At W b2 (Dd.vs ⟨3, st.h.for_, st.h.number, st.h.block, st.h.b, 0⟩).toArray 30 ∧ Below w.heap.size w W) ⟨(D.set 4 _), (Below.setCell z (p := ⟨b2, 4, none⟩) hz2 _)⟩ ?_
  clear c6 c8 c10 c11 c20 e4 g4 D z H
  rintro W ⟨D, z⟩
  have S2 := S.keep z
  go_wp2_with (first
    | (refine loadV (Dd.vs ⟨3, st.h.for_, st.h.number, st.h.block, st.h.b, 0⟩) Tryz.underlying30 rfl (by kernel_rfl) rfl (.tmp 5) rfl b2 0 rfl D (fun j v hj => by rw [Nat.zero_add]; simpa using hj) ?_)
    | (refine storeD rfl (.tmp 51) (.tmp 49) rfl b st ⟨3, st.h.for_, st.h.number, st.h.block, st.h.b, 0⟩ rfl rfl S2 ?_; intro W3 S3 kk))
  go_end0
  exact ⟨rfl, S3, kk _ _ (K2.of_below z)⟩

set_option maxRecDepth 100000 in
set_option maxHeartbeats 8000000 in
theorem told_n_5 (b : Nat) (st : S8) (h1 : ¬ st.h.code = 1) (h2 : ¬ st.h.code = 13) (w : World) (S : SAt w b st) :
    Calls Tryz.prog 71 #[.pointer (some ⟨b, 0, none⟩), .int .i64 5] w fun e w' => e = .returned (.tuple #[]) ∧ SAt w' b { st with d := ⟨5, st.h.for_, st.h.number, st.h.block, st.h.b, 0⟩ } ∧ K2 b st.g w w' := by
  have z := Below.refl w.heap.size w
  have x1 : (st.h.code == 1) = false := by simp [h1]
  have x13 : (st.h.code == 13) = false := by simp [h2]
  go_enter Tryz.func71, Tryz.ntmps71
  go_upto_region 1 with (first
    | (refine loadV st.h.vs Tryz.underlying28 rfl infoH rfl (.tmp 8) rfl b 8 rfl S.is st.hand_at ?_)
    | (refine newV (vs := st.h.vs) infoH st.h.one rfl (.tmp 4) (.tmp 9) rfl rfl rfl rfl ?_; intro w1 H hb lt1; replace z := z.trans (hb.mono z.size); clear hb))
  have c6 : w1.cell? ⟨w.heap.size, 6, none⟩ = some (.int .i64 st.h.code) := H.cell 6
  have c8 : w1.cell? ⟨w.heap.size, 8, none⟩ = some (.int .i64 st.h.b) := H.cell 8
  have c10 : w1.cell? ⟨w.heap.size, 10, none⟩ = some (.int .i64 st.h.number) := H.cell 10
  have c11 : w1.cell? ⟨w.heap.size, 11, none⟩ = some (.int .i64 st.h.for_) := H.cell 11
  have c20 : w1.cell? ⟨w.heap.size, 20, none⟩ = some (.int .i64 st.h.block) := H.cell 20
  go_upto_region 2 with (first
    | (refine wpList_built rfl 30 #[(0, .tmp 10), (1, .tmp 12), (2, .tmp 14), (3, .tmp 16)] rfl [(0, .int .i64 5), (1, .int .i64 st.h.for_), (2, .int .i64 st.h.number), (3, .int .i64 st.h.block)] rfl _ (bDeed _ _ _ _) ?_)
    | (refine newV (vs := Dd.vs ⟨5, st.h.for_, st.h.number, st.h.block, 0, 0⟩) (by kernel_rfl) (Dd.one _) rfl (.tmp 5) (.tmp 17) rfl rfl rfl rfl ?_; intro w2 D hb lt2; clear c6 c8 c10 c11 c20; replace H := H.keep hb; replace z := z.trans (hb.mono z.size); clear hb))
  have hz2 : w.heap.size ≤ w1.heap.size := by omega
  obtain ⟨b2, hb2⟩ : ∃ q, Hid (w1.heap.size = q) := ⟨_, rfl⟩
  rw [hb2.out] at D hz2
  rw [hb2.out]
  have c6 : w2.cell? ⟨w.heap.size, 6, none⟩ = some (.int .i64 st.h.code) := H.cell 6
  have c8 : w2.cell? ⟨w.heap.size, 8, none⟩ = some (.int .i64 st.h.b) := H.cell 8
  have c10 : w2.cell? ⟨w.heap.size, 10, none⟩ = some (.int .i64 st.h.number) := H.cell 10
  have c11 : w2.cell? ⟨w.heap.size, 11, none⟩ = some (.int .i64 st.h.for_) := H.cell 11
  have c20 : w2.cell? ⟨w.heap.size, 20, none⟩ = some (.int .i64 st.h.block) := H.cell 20
  have e4 : w2.cell? ⟨b2, 4, none⟩ = some _ := (D.cell 4).trans rfl
  have g4 : w2.frozen? ⟨b2, 4, none⟩ = false := D.frozen 4
  go_upto_region 14 with fail
  refine wp_at (fun W => At W b2 (Dd.vs ⟨5, st.h.for_, st.h.number, st.h.block, st.h.b, 0⟩).toArray 30 ∧ Below w.heap.size w W) ⟨(D.set 4 _), (Below.setCell z (p := ⟨b2, 4, none⟩) hz2 _)⟩ ?_
  clear c6 c8 c10 c11 c20 e4 g4 D z H
  rintro W ⟨D, z⟩
  have S2 := S.keep z
  go_wp2_with (first
    | (refine loadV (Dd.vs ⟨5, st.h.for_, st.h.number, st.h.block, st.h.b, 0⟩) Tryz.underlying30 rfl (by kernel_rfl) rfl (.tmp 5) rfl b2 0 rfl D (fun j v hj => by rw [Nat.zero_add]; simpa using hj) ?_)
    | (refine storeD rfl (.tmp 51) (.tmp 49) rfl b st ⟨5, st.h.for_, st.h.number, st.h.block, st.h.b, 0⟩ rfl rfl S2 ?_; intro W3 S3 kk))
  go_end0
  exact ⟨rfl, S3, kk _ _ (K2.of_below z)⟩

set_option maxRecDepth 100000 in
set_option maxHeartbeats 8000000 in
theorem told_n_4 (b : Nat) (st : S8) (h1 : ¬ st.h.code = 1) (h2 : ¬ st.h.code = 13) (w : World) (S : SAt w b st) :
    Calls Tryz.prog 71 #[.pointer (some ⟨b, 0, none⟩), .int .i64 4] w fun e w' => e = .returned (.tuple #[]) ∧ SAt w' b { st with d := ⟨4, st.h.for_, st.h.number, st.h.block, st.h.value, 0⟩ } ∧ K2 b st.g w w' := by
  have z := Below.refl w.heap.size w
  have x1 : (st.h.code == 1) = false := by simp [h1]
  have x13 : (st.h.code == 13) = false := by simp [h2]
  go_enter Tryz.func71, Tryz.ntmps71
  go_upto_region 1 with (first
    | (refine loadV st.h.vs Tryz.underlying28 rfl infoH rfl (.tmp 8) rfl b 8 rfl S.is st.hand_at ?_)
    | (refine newV (vs := st.h.vs) infoH st.h.one rfl (.tmp 4) (.tmp 9) rfl rfl rfl rfl ?_; intro w1 H hb lt1; replace z := z.trans (hb.mono z.size); clear hb))
  have c6 : w1.cell? ⟨w.heap.size, 6, none⟩ = some (.int .i64 st.h.code) := H.cell 6
  have c10 : w1.cell? ⟨w.heap.size, 10, none⟩ = some (.int .i64 st.h.number) := H.cell 10
  have c11 : w1.cell? ⟨w.heap.size, 11, none⟩ = some (.int .i64 st.h.for_) := H.cell 11
  have c20 : w1.cell? ⟨w.heap.size, 20, none⟩ = some (.int .i64 st.h.block) := H.cell 20
  have c23 : w1.cell? ⟨w.heap.size, 23, none⟩ = some (.int .i64 st.h.value) := H.cell 23
  go_upto_region 2 with (first
    | (refine wpList_built rfl 30 #[(0, .tmp 10), (1, .tmp 12), (2, .tmp 14), (3, .tmp 16)] rfl [(0, .int .i64 4), (1, .int .i64 st.h.for_), (2, .int .i64 st.h.number), (3, .int .i64 st.h.block)] rfl _ (bDeed _ _ _ _) ?_)
    | (refine newV (vs := Dd.vs ⟨4, st.h.for_, st.h.number, st.h.block, 0, 0⟩) (by kernel_rfl) (Dd.one _) rfl (.tmp 5) (.tmp 17) rfl rfl rfl rfl ?_; intro w2 D hb lt2; clear c6 c10 c11 c20 c23; replace H := H.keep hb; replace z := z.trans (hb.mono z.size); clear hb))
  have hz2 : w.heap.size ≤ w1.heap.size := by omega
  obtain ⟨b2, hb2⟩ : ∃ q, Hid (w1.heap.size = q) := ⟨_, rfl⟩
  rw [hb2.out] at D hz2
  rw [hb2.out]
  have c6 : w2.cell? ⟨w.heap.size, 6, none⟩ = some (.int .i64 st.h.code) := H.cell 6
  have c10 : w2.cell? ⟨w.heap.size, 10, none⟩ = some (.int .i64 st.h.number) := H.cell 10
  have c11 : w2.cell? ⟨w.heap.size, 11, none⟩ = some (.int .i64 st.h.for_) := H.cell 11
  have c20 : w2.cell? ⟨w.heap.size, 20, none⟩ = some (.int .i64 st.h.block) := H.cell 20
  have c23 : w2.cell? ⟨w.heap.size, 23, none⟩ = some (.int .i64 st.h.value) := H.cell 23
  have e4 : w2.cell? ⟨b2, 4, none⟩ = some _ := (D.cell 4).trans rfl
  have g4 : w2.frozen? ⟨b2, 4, none⟩ = false := D.frozen 4
  go_upto_region 14 with fail
  refine wp_at (fun W => At W b2 (Dd.vs ⟨4, st.h.for_, st.h.number, st.h.block, st.h.value, 0⟩).toArray 30 ∧ Below w.heap.size w W) ⟨(D.set 4 _), (Below.setCell z (p := ⟨b2, 4, none⟩) hz2 _)⟩ ?_
  clear c6 c10 c11 c20 c23 e4 g4 D z H
  rintro W ⟨D, z⟩
  have S2 := S.keep z
  go_wp2_with (first
    | (refine loadV (Dd.vs ⟨4, st.h.for_, st.h.number, st.h.block, st.h.value, 0⟩) Tryz.underlying30 rfl (by kernel_rfl) rfl (.tmp 5) rfl b2 0 rfl D (fun j v hj => by rw [Nat.zero_add]; simpa using hj) ?_)
    | (refine storeD rfl (.tmp 51) (.tmp 49) rfl b st ⟨4, st.h.for_, st.h.number, st.h.block, st.h.value, 0⟩ rfl rfl S2 ?_; intro W3 S3 kk))
  go_end0
  exact ⟨rfl, S3, kk _ _ (K2.of_below z)⟩

set_option maxRecDepth 100000 in
set_option maxHeartbeats 8000000 in
theorem told_n_6 (b : Nat) (st : S8) (h1 : ¬ st.h.code = 1) (h2 : ¬ st.h.code = 13) (w : World) (S : SAt w b st) :
    Calls Tryz.prog 71 #[.pointer (some ⟨b, 0, none⟩), .int .i64 6] w fun e w' => e = .returned (.tuple #[]) ∧ SAt w' b { st with d := ⟨6, st.h.for_, st.h.number, st.h.block, st.h.value, 0⟩ } ∧ K2 b st.g w w' := by
  have z := Below.refl w.heap.size w
  have x1 : (st.h.code == 1) = false := by simp [h1]
  have x13 : (st.h.code == 13) = false := by simp [h2]
  go_enter Tryz.func71, Tryz.ntmps71
  go_upto_region 1 with (first
    | (refine loadV st.h.vs Tryz.underlying28 rfl infoH rfl (.tmp 8) rfl b 8 rfl S.is st.hand_at ?_)
    | (refine newV (vs := st.h.vs) infoH st.h.one rfl (.tmp 4) (.tmp 9) rfl rfl rfl rfl ?_; intro w1 H hb lt1; replace z := z.trans (hb.mono z.size); clear hb))
  have c6 : w1.cell? ⟨w.heap.size, 6, none⟩ = some (.int .i64 st.h.code) := H.cell 6
  have c10 : w1.cell? ⟨w.heap.size, 10, none⟩ = some (.int .i64 st.h.number) := H.cell 10
  have c11 : w1.cell? ⟨w.heap.size, 11, none⟩ = some (.int .i64 st.h.for_) := H.cell 11
  have c20 : w1.cell? ⟨w.heap.size, 20, none⟩ = some (.int .i64 st.h.block) := H.cell 20
  have c23 : w1.cell? ⟨w.heap.size, 23, none⟩ = some (.int .i64 st.h.value) := H.cell 23
  go_upto_region 2 with (first
    | (refine wpList_built rfl 30 #[(0, .tmp 10), (1, .tmp 12), (2, .tmp 14), (3, .tmp 16)] rfl [(0, .int .i64 6), (1, .int .i64 st.h.for_), (2, .int .i64 st.h.number), (3, .int .i64 st.h.block)] rfl _ (bDeed _ _ _ _) ?_)
    | (refine newV (vs := Dd.vs ⟨6, st.h.for_, st.h.number, st.h.block, 0, 0⟩) (by kernel_rfl) (Dd.one _) rfl (.tmp 5) (.tmp 17) rfl rfl rfl rfl ?_; intro w2 D hb lt2; clear c6 c10 c11 c20 c23; replace H := H.keep hb; replace z := z.trans (hb.mono z.size); clear hb))
  have hz2 : w.heap.size ≤ w1.heap.size := by omega
  obtain ⟨b2, hb2⟩ : ∃ q, Hid (w1.heap.size = q) := ⟨_, rfl⟩
  rw [hb2.out] at D hz2
  rw [hb2.out]
  have c6 : w2.cell? ⟨w.heap.size, 6, none⟩ = some (.int .i64 st.h.code) := H.cell 6
  have c10 : w2.cell? ⟨w.heap.size, 10, none⟩ = some (.int .i64 st.h.number) := H.cell 10
  have c11 : w2.cell? ⟨w.heap.size, 11, none⟩ = some (.int .i64 st.h.for_) := H.cell 11
  have c20 : w2.cell? ⟨w.heap.size, 20, none⟩ = some (.int .i64 st.h.block) := H.cell 20
  have c23 : w2.cell? ⟨w.heap.size, 23, none⟩ = some (.int .i64 st.h.value) := H.cell 23
  have e4 : w2.cell? ⟨b2, 4, none⟩ = some _ := (D.cell 4).trans rfl
  have g4 : w2.frozen? ⟨b2, 4, none⟩ = false := D.frozen 4
  go_upto_region 14 with fail
  refine wp_at (fun W => At W b2 (Dd.vs ⟨6, st.h.for_, st.h.number, st.h.block, st.h.value, 0⟩).toArray 30 ∧ Below w.heap.size w W) ⟨(D.set 4 _), (Below.setCell z (p := ⟨b2, 4, none⟩) hz2 _)⟩ ?_
  clear c6 c10 c11 c20 c23 e4 g4 D z H
  rintro W ⟨D, z⟩
  have S2 := S.keep z
  go_wp2_with (first
    | (refine loadV (Dd.vs ⟨6, st.h.for_, st.h.number, st.h.block, st.h.value, 0⟩) Tryz.underlying30 rfl (by kernel_rfl) rfl (.tmp 5) rfl b2 0 rfl D (fun j v hj => by rw [Nat.zero_add]; simpa using hj) ?_)
    | (refine storeD rfl (.tmp 51) (.tmp 49) rfl b st ⟨6, st.h.for_, st.h.number, st.h.block, st.h.value, 0⟩ rfl rfl S2 ?_; intro W3 S3 kk))
  go_end0
  exact ⟨rfl, S3, kk _ _ (K2.of_below z)⟩

set_option maxRecDepth 100000 in
set_option maxHeartbeats 8000000 in
theorem told_n_7 (b : Nat) (st : S8) (h1 : ¬ st.h.code = 1) (h2 : ¬ st.h.code = 13) (w : World) (S : SAt w b st) :
    Calls Tryz.prog 71 #[.pointer (some ⟨b, 0, none⟩), .int .i64 7] w fun e w' => e = .returned (.tuple #[]) ∧ SAt w' b { st with d := ⟨7, st.h.for_, st.h.number, st.h.a, st.h.c, 0⟩ } ∧ K2 b st.g w w' := by
  have z := Below.refl w.heap.size w
  have x1 : (st.h.code == 1) = false := by simp [h1]
  have x13 : (st.h.code == 13) = false := by simp [h2]
  go_enter Tryz.func71, Tryz.ntmps71
  go_upto_region 1 with (first
    | (refine loadV st.h.vs Tryz.underlying28 rfl infoH rfl (.tmp 8) rfl b 8 rfl S.is st.hand_at ?_)
    | (refine newV (vs := st.h.vs) infoH st.h.one rfl (.tmp 4) (.tmp 9) rfl rfl rfl rfl ?_; intro w1 H hb lt1; replace z := z.trans (hb.mono z.size); clear hb))
  have c6 : w1.cell? ⟨w.heap.size, 6, none⟩ = some (.int .i64 st.h.code) := H.cell 6
  have c7 : w1.cell? ⟨w.heap.size, 7, none⟩ = some (.int .i64 st.h.a) := H.cell 7
  have c9 : w1.cell? ⟨w.heap.size, 9, none⟩ = some (.int .i64 st.h.c) := H.cell 9
  have c10 : w1.cell? ⟨w.heap.size, 10, none⟩ = some (.int .i64 st.h.number) := H.cell 10
  have c11 : w1.cell? ⟨w.heap.size, 11, none⟩ = some (.int .i64 st.h.for_) := H.cell 11
  have c20 : w1.cell? ⟨w.heap.size, 20, none⟩ = some (.int .i64 st.h.block) := H.cell 20
  go_upto_region 2 with (first
    | (refine wpList_built rfl 30 #[(0, .tmp 10), (1, .tmp 12), (2, .tmp 14), (3, .tmp 16)] rfl [(0, .int .i64 7), (1, .int .i64 st.h.for_), (2, .int .i64 st.h.number), (3, .int .i64 st.h.block)] rfl _ (bDeed _ _ _ _) ?_)
    | (refine newV (vs := Dd.vs ⟨7, st.h.for_, st.h.number, st.h.block, 0, 0⟩) (by kernel_rfl) (Dd.one _) rfl (.tmp 5) (.tmp 17) rfl rfl rfl rfl ?_; intro w2 D hb lt2; clear c6 c7 c9 c10 c11 c20; replace H := H.keep hb; replace z := z.trans (hb.mono z.size); clear hb))
  have hz2 : w.heap.size ≤ w1.heap.size := by omega
  obtain ⟨b2, hb2⟩ : ∃ q, Hid (w1.heap.size = q) := ⟨_, rfl⟩
  rw [hb2.out] at D hz2
  rw [hb2.out]
  have c6 : w2.cell? ⟨w.heap.size, 6, none⟩ = some (.int .i64 st.h.code) := H.cell 6
  have c7 : w2.cell? ⟨w.heap.size, 7, none⟩ = some (.int .i64 st.h.a) := H.cell 7
  have c9 : w2.cell? ⟨w.heap.size, 9, none⟩ = some (.int .i64 st.h.c) := H.cell 9
  have c10 : w2.cell? ⟨w.heap.size, 10, none⟩ = some (.int .i64 st.h.number) := H.cell 10
  have c11 : w2.cell? ⟨w.heap.size, 11, none⟩ = some (.int .i64 st.h.for_) := H.cell 11
  have c20 : w2.cell? ⟨w.heap.size, 20, none⟩ = some (.int .i64 st.h.block) := H.cell 20
  have e3 : w2.cell? ⟨b2, 3, none⟩ = some _ := (D.cell 3).trans rfl
  have g3 : w2.frozen? ⟨b2, 3, none⟩ = false := D.frozen 3
  have e4 : w2.cell? ⟨b2, 4, none⟩ = some _ := (D.cell 4).trans rfl
  have g4 : w2.frozen? ⟨b2, 4, none⟩ = false := D.frozen 4
  go_upto_region 14 with fail
  refine wp_at (fun W => At W b2 (Dd.vs ⟨7, st.h.for_, st.h.number, st.h.a, st.h.c, 0⟩).toArray 30 ∧ Below w.heap.size w W) ⟨((D.set 3 _).set 4 _), (Below.setCell (Below.setCell z (p := ⟨b2, 3, none⟩) hz2 _) (p := ⟨b2, 4, none⟩) hz2 _)⟩ ?_
  clear c6 c7 c9 c10 c11 c20 e3 g3 e4 g4 D z H
  rintro W ⟨D, z⟩
  have S2 := S.keep z
  go_wp2_with (first
    | (refine loadV (Dd.vs ⟨7, st.h.for_, st.h.number, st.h.a, st.h.c, 0⟩) Tryz.underlying30 rfl (by kernel_rfl) rfl (.tmp 5) rfl b2 0 rfl D (fun j v hj => by rw [Nat.zero_add]; simpa using hj) ?_)
    | (refine storeD rfl (.tmp 51) (.tmp 49) rfl b st ⟨7, st.h.for_, st.h.number, st.h.a, st.h.c, 0⟩ rfl rfl S2 ?_; intro W3 S3 kk))
  go_end0
  exact ⟨rfl, S3, kk _ _ (K2.of_below z)⟩

set_option maxRecDepth 100000 in
set_option maxHeartbeats 8000000 in
theorem told_n_n (b : Nat) (st : S8) (kind : Int) (k3 : ¬ kind = 3) (k4 : ¬ kind = 4) (k5 : ¬ kind = 5) (k6 : ¬ kind = 6) (k7 : ¬ kind = 7) (h1 : ¬ st.h.code = 1) (h2 : ¬ st.h.code = 13) (w : World) (S : SAt w b st) :
    Calls Tryz.prog 71 #[.pointer (some ⟨b, 0, none⟩), .int .i64 kind] w fun e w' => e = .returned (.tuple #[]) ∧ SAt w' b { st with d := ⟨kind, st.h.for_, st.h.number, st.h.block, 0, 0⟩ } ∧ K2 b st.g w w' := by
  have z := Below.refl w.heap.size w
  have x1 : (st.h.code == 1) = false := by simp [h1]
  have x13 : (st.h.code == 13) = false := by simp [h2]
  go_enter Tryz.func71, Tryz.ntmps71
  go_upto_region 1 with (first
    | (refine loadV st.h.vs Tryz.underlying28 rfl infoH rfl (.tmp 8) rfl b 8 rfl S.is st.hand_at ?_)
    | (refine newV (vs := st.h.vs) infoH st.h.one rfl (.tmp 4) (.tmp 9) rfl rfl rfl rfl ?_; intro w1 H hb lt1; replace z := z.trans (hb.mono z.size); clear hb))
  have c6 : w1.cell? ⟨w.heap.size, 6, none⟩ = some (.int .i64 st.h.code) := H.cell 6
  have c10 : w1.cell? ⟨w.heap.size, 10, none⟩ = some (.int .i64 st.h.number) := H.cell 10
  have c11 : w1.cell? ⟨w.heap.size, 11, none⟩ = some (.int .i64 st.h.for_) := H.cell 11
  have c20 : w1.cell? ⟨w.heap.size, 20, none⟩ = some (.int .i64 st.h.block) := H.cell 20
  go_upto_region 2 with (first
    | (refine wpList_built rfl 30 #[(0, .tmp 10), (1, .tmp 12), (2, .tmp 14), (3, .tmp 16)] rfl [(0, .int .i64 kind), (1, .int .i64 st.h.for_), (2, .int .i64 st.h.number), (3, .int .i64 st.h.block)] rfl _ (bDeed _ _ _ _) ?_)
    | (refine newV (vs := Dd.vs ⟨kind, st.h.for_, st.h.number, st.h.block, 0, 0⟩) (by kernel_rfl) (Dd.one _) rfl (.tmp 5) (.tmp 17) rfl rfl rfl rfl ?_; intro w2 D hb lt2; clear c6 c10 c11 c20; replace H := H.keep hb; replace z := z.trans (hb.mono z.size); clear hb))
  have hz2 : w.heap.size ≤ w1.heap.size := by omega
  obtain ⟨b2, hb2⟩ : ∃ q, Hid (w1.heap.size = q) := ⟨_, rfl⟩
  rw [hb2.out] at D hz2
  rw [hb2.out]
  have c6 : w2.cell? ⟨w.heap.size, 6, none⟩ = some (.int .i64 st.h.code) := H.cell 6
  have c10 : w2.cell? ⟨w.heap.size, 10, none⟩ = some (.int .i64 st.h.number) := H.cell 10
  have c11 : w2.cell? ⟨w.heap.size, 11, none⟩ = some (.int .i64 st.h.for_) := H.cell 11
  have c20 : w2.cell? ⟨w.heap.size, 20, none⟩ = some (.int .i64 st.h.block) := H.cell 20
  skip
  go_upto_region 14 with fail
  refine wp_at (fun W => At W b2 (Dd.vs ⟨kind, st.h.for_, st.h.number, st.h.block, 0, 0⟩).toArray 30 ∧ Below w.heap.size w W) ⟨D, z⟩ ?_
  clear c6 c10 c11 c20  D z H
  rintro W ⟨D, z⟩
  have S2 := S.keep z
  go_wp2_with (first
    | (refine loadV (Dd.vs ⟨kind, st.h.for_, st.h.number, st.h.block, 0, 0⟩) Tryz.underlying30 rfl (by kernel_rfl) rfl (.tmp 5) rfl b2 0 rfl D (fun j v hj => by rw [Nat.zero_add]; simpa using hj) ?_)
    | (refine storeD rfl (.tmp 51) (.tmp 49) rfl b st ⟨kind, st.h.for_, st.h.number, st.h.block, 0, 0⟩ rfl rfl S2 ?_; intro W3 S3 kk))
  go_end0
  exact ⟨rfl, S3, kk _ _ (K2.of_below z)⟩

end Go.Proofs.YtgmoemjiffglbaaGreat
namespace Go.Proofs.YtgmoemjiffglbaaGreat
open Go.RowKit
set_option maxRecDepth 100000
set_option linter.unusedVariables false
theorem sTold (b : Nat) (st : S8) (kind : Int) (w : World) (S : SAt w b st) :
    Calls Tryz.prog 71 #[.pointer (some ⟨b, 0, none⟩), .int .i64 kind] w fun e w' => e = .returned (.tuple #[]) ∧ SAt w' b { st with d := st.h.told kind } ∧ K2 b st.g w w' := by
  unfold Hd.told
  by_cases c1 : st.h.code = 1
  · rw [if_pos c1]
    by_cases k3 : kind = 3
    · subst k3; exact told_1_3 b st c1 w S
    by_cases k5 : kind = 5
    · subst k5; exact told_1_5 b st c1 w S
    by_cases k4 : kind = 4
    · subst k4; exact told_1_4 b st c1 w S
    by_cases k6 : kind = 6
    · subst k6; exact told_1_6 b st c1 w S
    by_cases k7 : kind = 7
    · subst k7; exact told_1_7 b st c1 w S
    rw [if_neg k7, if_neg k3, if_neg k5, if_neg k4, if_neg k6, if_neg k7]
    exact told_1_n b st kind k3 k4 k5 k6 k7 c1 w S
  · rw [if_neg c1]
    by_cases c13 : st.h.code = 13
    · rw [if_pos c13]
      by_cases k3 : kind = 3
      · subst k3; exact told_13_3 b st c13 w S
      by_cases k5 : kind = 5
      · subst k5; exact told_13_5 b st c13 w S
      by_cases k4 : kind = 4
      · subst k4; exact told_13_4 b st c13 w S
      by_cases k6 : kind = 6
      · subst k6; exact told_13_6 b st c13 w S
      by_cases k7 : kind = 7
      · subst k7; exact told_13_7 b st c13 w S
      rw [if_neg k7, if_neg k3, if_neg k5, if_neg k4, if_neg k6, if_neg k7]
      exact told_13_n b st kind k3 k4 k5 k6 k7 c13 w S
    · rw [if_neg c13]
      by_cases k3 : kind = 3
      · subst k3; exact told_n_3 b st c1 c13 w S
      by_cases k5 : kind = 5
      · subst k5; exact told_n_5 b st c1 c13 w S
      by_cases k4 : kind = 4
      · subst k4; exact told_n_4 b st c1 c13 w S
      by_cases k6 : kind = 6
      · subst k6; exact told_n_6 b st c1 c13 w S
      by_cases k7 : kind = 7
      · subst k7; exact told_n_7 b st c1 c13 w S
      rw [if_neg k7, if_neg k3, if_neg k5, if_neg k4, if_neg k6, if_neg k7]
      exact told_n_n b st kind k3 k4 k5 k6 k7 c1 c13 w S
end Go.Proofs.YtgmoemjiffglbaaGreat
namespace Go.Proofs.YtgmoemjiffglbaaGreat
open Go.RowKit
set_option linter.unusedVariables false
section
variable {P : Program} {ops : Array Oper} {md : Region.Mode} {C : World → Prop}
/-- Each operation below n is waited for by a later one up to n; none waits for n. -/
def bar1 (md : Region.Mode) (ops : Array Oper) (n : Nat) : Bool :=
  ((List.range n).all fun i => (List.range (n + 1)).any fun j => decide (i < j) && ((ops[j]?).map fun o => o.after.any fun e => Region.binds md e && e.on == i).getD false)
def bar0 (md : Region.Mode) (ops : Array Oper) (n : Nat) : Bool := ops.all fun o => o.after.all fun e => !(Region.binds md e && e.on == n)
/-- Operation n + 1 waits for n and for none behind it; no other one waits for n. -/
def bar2 (md : Region.Mode) (ops : Array Oper) (n : Nat) : Bool :=
  ((List.range ops.size).all fun j => j == n + 1 || ((ops[j]?).map fun o => o.after.all fun e => !(Region.binds md e && e.on == n)).getD true)
  && ((ops[n + 1]?).map fun o => (o.after.any fun e => Region.binds md e && e.on == n) && o.after.all fun e => decide (e.on ≤ n)).getD false
def lexTo (md : Region.Mode) (ops : Array Oper) (n : Nat) : Nat → Nat → Array Bool → Bool
  | 0, _, L => decide (Region.ready md ops L = [n])
  | f + 1, k, L => (Region.ready md ops L).contains k && (k != n) && decide (k < n) && Region.free md ops L k && lexTo md ops n f (k + 1) (L.setIfInBounds k true)
def barOK (ops : Array Oper) (n : Nat) : Bool := Region.noSelect ops && bar1 .any ops n && bar0 .any ops n && lexTo .any ops n n 0 (Array.replicate ops.size false)
def barOK2 (ops : Array Oper) (n : Nat) : Bool := Region.noSelect ops && bar1 .any ops n && bar0 .any ops (n + 1) && bar2 .any ops n && lexTo .any ops n n 0 (Array.replicate ops.size false)
def Closed (md : Region.Mode) (ops : Array Oper) (L : Array Bool) : Prop := L.size = ops.size ∧ ∀ j o, ops[j]? = some o → L.getD j false = true → ∀ e ∈ o.after, Region.binds md e = true → L.getD e.on false = true
theorem Closed.next {L : Array Bool} (h : Closed md ops L) {i : Nat} (hi : i ∈ Region.ready md ops L) : Closed md ops (L.setIfInBounds i true) := by
  refine ⟨by rw [Array.size_setIfInBounds]; exact h.1, ?_⟩
  intro j o ho hj e he hb
  obtain ⟨h0, o', ho', hall⟩ := mem_ready.1 hi
  by_cases hij : i = j
  · subst hij
    rw [ho] at ho'
    cases ho'
    exact getD_set_true (hall e he hb)
  · rw [getD_set_ne false hij] at hj
    exact getD_set_true (h.2 j o ho hj e he hb)
theorem closed_nil : Closed md ops (Array.replicate ops.size false) := by
  refine ⟨by simp, ?_⟩
  intro j o _ hj
  by_cases h : j < ops.size <;> simp [h] at hj
theorem bar_all {L : Array Bool} {n : Nat} (hc : Closed md ops L) (hB : bar1 md ops n = true) (hn : n ∈ Region.ready md ops L) : ∀ d i, i + d + 1 = n → L.getD i false = true := by
  obtain ⟨h0, o, ho, hall⟩ := mem_ready.1 hn
  simp only [bar1, Bool.and_eq_true, List.all_eq_true, List.any_eq_true, List.mem_range, decide_eq_true_eq] at hB
  intro d
  induction d using Nat.strongRecOn with
  | _ d ih =>
    intro i hi
    obtain ⟨j, hj, hij, he⟩ := hB i (by omega)
    cases hoj : ops[j]? with
    | none => rw [hoj] at he; simp at he
    | some oj =>
      rw [hoj] at he
      simp only [Option.map_some, Option.getD_some] at he
      obtain ⟨e, hm, hb⟩ := Array.any_eq_true'.1 he
      simp only [Bool.and_eq_true, beq_iff_eq] at hb
      by_cases hjn : j = n
      · subst hjn
        rw [ho] at hoj
        cases hoj
        have := hall e hm hb.1
        rwa [hb.2] at this
      · have := hc.2 j oj hoj (ih (n - j - 1) (by omega) j (by omega)) e hm hb.1
        rwa [hb.2] at this
theorem bar_not {L : Array Bool} {n i : Nat} (hc : Closed md ops L) (hB : bar1 md ops n = true) (hi : L.getD i true = false) (hin : i < n) : n ∉ Region.ready md ops L := by
  intro hn
  have := bar_all hc hB hn (n - i - 1) i (by omega)
  rcases Nat.lt_or_ge i L.size with h' | h'
  · simp [h'] at hi this
    rw [hi] at this
    cases this
  · simp [Array.getElem?_eq_none h'] at hi
def wpAnyB (P : Program) (md : Region.Mode) (ops : Array Oper) (C : World → Prop) (n : Nat) (Q : Act → Prop) : Nat → Array Bool → Act → Prop
  | 0, L, a => Region.ready md ops L = [n] ∧ Q a
  | fuel + 1, L, a => n ∉ Region.ready md ops L ∧ Region.ready md ops L ≠ [] ∧ ∀ i ∈ Region.ready md ops L, qOp P ops C i (wpAnyB P md ops C n Q fuel (L.setIfInBounds i true)) a
theorem wpAnyB_first {n : Nat} {Q : Act → Prop} {i : Nat} {oi : Oper} {v : Value} (hB : bar1 md ops n = true) (hin : i < n) (hi : ops[i]? = some oi) (hsel : ∀ (j : Nat) (o : Oper) cs b, ops[j]? = some o → o.op ≠ .select cs b) :
    ∀ (fuel : Nat) (L : Array Bool) (a : Act), Closed md ops L →
      (∀ j oj, ops[j]? = some oj → j ≠ i → L.getD j true = false → (∀ e ∈ oj.after, Region.binds md e = true → e.on ≠ i) → oi.apart ops oj = true) →
      i ∈ Region.ready md ops L → YieldsIn P ops C oi v a →
      wpAnyB P md ops C n Q fuel (L.setIfInBounds i true) (a.put oi.dst v) → wpAnyB P md ops C n Q (fuel + 1) L a := by
  intro fuel
  induction fuel with
  | zero =>
    intro L a hc _ hr hy H
    have hnn := bar_not hc hB (mem_ready.1 hr).1 hin
    refine ⟨hnn, fun h => (by rw [h] at hr; cases hr), fun j hj => ?_⟩
    by_cases hji : j = i
    · subst hji; exact hy.qOp hi H
    · have := ready_mono hj hji
      rw [H.1] at this
      have e : j = n := by simpa using this
      subst e
      exact absurd hj hnn
  | succ fuel ih =>
    intro L a hc hfree hr hy H
    have hnn := bar_not hc hB (mem_ready.1 hr).1 hin
    refine ⟨hnn, fun h => (by rw [h] at hr; cases hr), fun j hj => ?_⟩
    by_cases hji : j = i
    · subst hji; exact hy.qOp hi H
    · have h1 := H.2.2 j (ready_mono hj hji)
      obtain ⟨hjun, oj, hoj, hall⟩ := mem_ready.1 hj
      have hnot : ∀ e ∈ oj.after, Region.binds md e = true → e.on ≠ i := fun e he hb heq => by
        have h1 := hall e he hb
        have h0 := (mem_ready.1 hr).1
        rw [heq] at h1
        rcases Nat.lt_or_ge i L.size with h' | h'
        · simp [h'] at h0 h1; rw [h0] at h1; cases h1
        · simp [Array.getElem?_eq_none h'] at h1
      have h2 := qOp_put hoj (hfree j oj hoj hji hjun hnot) (fun cs b => hsel i oi cs b hi) (fun cs b => hsel j oj cs b hoj) hy h1
      have hfree' : ∀ k ok, ops[k]? = some ok → k ≠ i → (L.setIfInBounds j true).getD k true = false →
          (∀ e ∈ ok.after, Region.binds md e = true → e.on ≠ i) → oi.apart ops ok = true := fun k ok hk hki hun hno => by
        refine hfree k ok hk hki ?_ hno
        by_cases hjk : j = k
        · subst hjk; exact hjun
        · rw [getD_set_ne true hjk] at hun; exact hun
      refine qOp_mono (fun a' h3 => ih (L.setIfInBounds j true) a' (hc.next hj) hfree' (ready_mono hr (Ne.symm hji)) h3.1 ?_) h2
      rw [Array.setIfInBounds_comm _ _ hji]
      exact h3.2
theorem wpAnyB_lex {n : Nat} {Q : Act → Prop} (hs : Region.noSelect ops = true) (hB : bar1 md ops n = true) : ∀ (l : List Oper) (k : Nat) (L : Array Bool) (a : Act), Closed md ops L → (∀ j, j < l.length → l[j]? = ops[k + j]?) →
    lexTo md ops n l.length k L = true → wpQuiet P ops C Q l a → wpAnyB P md ops C n Q l.length L a
  | [], _, _, _, _, _, hB, h => ⟨by simpa [lexTo] using hB, h⟩
  | o :: l, k, L, a, hc, hl, hx, h => by
    have h0 : ops[k]? = some o := by simpa using (hl 0 (by simp)).symm
    simp only [List.length_cons, lexTo, Bool.and_eq_true, decide_eq_true_eq] at hx
    obtain ⟨⟨⟨⟨hr, hne⟩, hlt⟩, hf⟩, hB'⟩ := hx
    have hst : qOp P ops C k (wpQuiet P ops C Q l) a := by unfold qOp; simp only [h0]; exact h
    obtain ⟨v, hy, hK⟩ := yieldsIn_of_qOp h0 hst
    have hr' : k ∈ Region.ready md ops L := by simpa using hr
    exact wpAnyB_first hB hlt h0 (Region.noSelect_spec hs) l.length L a hc (Region.free_spec h0 hf) hr' hy
      (wpAnyB_lex hs hB l (k + 1) _ _ (hc.next hr') (fun j hj => by have := hl (j + 1) (by simpa using hj); simpa [Nat.add_assoc, Nat.add_comm 1 j] using this) hB' hK)
theorem bar0_spec {n : Nat} (hB : bar0 md ops n = true) {j : Nat} {o : Oper} (ho : ops[j]? = some o) : ∀ e ∈ o.after, Region.binds md e = true → e.on ≠ n := by
  intro e he hb heq
  have h3 := Array.all_eq_true_iff_forall_mem.1 hB o (Array.mem_of_getElem? ho)
  have h4 := Array.all_eq_true_iff_forall_mem.1 h3 e he
  simp [hb, heq] at h4
theorem ready_un {L : Array Bool} {i j : Nat} (hj : j ∈ Region.ready md ops (L.setIfInBounds i true)) (hji : j ≠ i) (hw : ∀ o, ops[j]? = some o → ∀ e ∈ o.after, Region.binds md e = true → e.on ≠ i) : j ∈ Region.ready md ops L := by
  obtain ⟨hj0, o, ho, hall⟩ := mem_ready.1 hj
  refine mem_ready.2 ⟨by rw [getD_set_ne true (Ne.symm hji)] at hj0; exact hj0, o, ho, fun e he hb => ?_⟩
  have h5 := hall e he hb
  rwa [getD_set_ne false (Ne.symm (hw o ho e he hb))] at h5
theorem ready_ne {L : Array Bool} {i j : Nat} (hi : L.getD i true = false) (hj : j ∈ Region.ready md ops (L.setIfInBounds i true)) : j ≠ i := by
  rintro rfl
  have h0 := (mem_ready.1 hj).1
  rcases Nat.lt_or_ge j L.size with h' | h'
  · simp [h'] at h0
  · simp [Array.getElem?_eq_none h'] at hi
theorem wpAny_of_bar {n : Nat} {Q : Act → Prop} {Q' : Exit → Act → World → Prop} (hB : bar0 md ops n = true) (hQ : ∀ a w, C w → Q a → wpOp P ops Q' n (fun a' w' => Q' .normal a' w') a w) : ∀ (fuel : Nat) (L : Array Bool) (a : Act) (w : World), C w →
    wpAnyB P md ops C n Q fuel L a → wpAny P md ops Q' (fuel + 1) L a w
  | 0, L, a, w, hw, h => by
    obtain ⟨h1, h2⟩ := h
    refine ⟨fun h0 => (by rw [h1] at h0; cases h0), fun i hi => ?_⟩
    rw [h1] at hi
    have e : i = n := by simpa using hi
    subst e
    refine wpOp_mono (fun a' w' hq => ⟨?_, hq⟩) (hQ a w hw h2)
    have hi0 : L.getD i true = false := (mem_ready.1 (show i ∈ Region.ready md ops L by rw [h1]; simp)).1
    refine List.eq_nil_iff_forall_not_mem.2 fun j hj => ?_
    have := ready_un hj (ready_ne hi0 hj) (fun o ho => bar0_spec hB ho)
    rw [h1] at this
    exact ready_ne hi0 hj (by simpa using this)
  | fuel + 1, L, a, w, hw, h => ⟨fun h0 => absurd h0 h.2.1, fun i hi => wpOp_of_qOp hw (fun a' w' hw' => wpAny_of_bar hB hQ fuel _ a' w' hw') (h.2.2 i hi)⟩
theorem wpAny_of_bar2 {n : Nat} {Q : Act → Prop} {Q' : Exit → Act → World → Prop} (hB1 : bar1 md ops n = true) (hB0 : bar0 md ops (n + 1) = true) (hB2 : bar2 md ops n = true)
    (hQ : ∀ a w, C w → Q a → wpOp P ops Q' n (fun a' w' => wpOp P ops Q' (n + 1) (fun a'' w'' => Q' .normal a'' w'') a' w') a w) : ∀ (fuel : Nat) (L : Array Bool) (a : Act) (w : World), Closed md ops L → C w →
    wpAnyB P md ops C n Q fuel L a → wpAny P md ops Q' (fuel + 2) L a w
  | 0, L, a, w, hc, hw, h => by
    obtain ⟨h1, h2⟩ := h
    have hnr : n ∈ Region.ready md ops L := by rw [h1]; simp
    have hn0 : L.getD n true = false := (mem_ready.1 hnr).1
    simp only [bar2, Bool.and_eq_true, List.all_eq_true, List.mem_range] at hB2
    obtain ⟨hW, hX⟩ := hB2
    have only : ∀ j, j ∈ Region.ready md ops (L.setIfInBounds n true) → j = n + 1 := by
      intro j hj
      refine Classical.byContradiction fun hne => ?_
      have hu := ready_un hj (ready_ne hn0 hj) (fun o ho e he hb heq => by
        have h3 := hW j (Array.getElem?_eq_some_iff.1 ho).1
        simp only [ho, Option.map_some, Option.getD_some, Bool.or_eq_true, beq_iff_eq, hne, false_or] at h3
        have h4 := Array.all_eq_true_iff_forall_mem.1 h3 e he
        simp [hb, heq] at h4)
      rw [h1] at hu
      exact ready_ne hn0 hj (by simpa using hu)
    have isin : n + 1 ∈ Region.ready md ops (L.setIfInBounds n true) := by
      cases ho : ops[n + 1]? with
      | none => rw [ho] at hX; simp at hX
      | some o =>
        rw [ho] at hX
        simp only [Option.map_some, Option.getD_some, Bool.and_eq_true] at hX
        obtain ⟨hX1, hX2⟩ := hX
        have hlow : ∀ e ∈ o.after, Region.binds md e = true → (L.setIfInBounds n true).getD e.on false = true := by
          intro e he hb
          have h4 := Array.all_eq_true_iff_forall_mem.1 hX2 e he
          simp only [decide_eq_true_eq] at h4
          by_cases hen : e.on = n
          · rw [hen]
            rcases Nat.lt_or_ge n L.size with h' | h'
            · simp [h']
            · simp [Array.getElem?_eq_none h'] at hn0
          · exact getD_set_true (bar_all hc hB1 hnr (n - e.on - 1) e.on (by omega))
        refine mem_ready.2 ⟨?_, o, ho, hlow⟩
        obtain ⟨e, he, hb⟩ := Array.any_eq_true'.1 hX1
        simp only [Bool.and_eq_true, beq_iff_eq] at hb
        rw [getD_set_ne true (by omega)]
        cases hL : L.getD (n + 1) true
        · rfl
        · rcases Nat.lt_or_ge (n + 1) L.size with h' | h'
          · have h5 : L.getD (n + 1) false = true := by simpa [h'] using hL
            have h6 := hc.2 (n + 1) o ho h5 e he hb.1
            rw [hb.2] at h6
            have h'' : n < L.size := by omega
            simp [h''] at hn0 h6
            rw [hn0] at h6
            cases h6
          · have h7 := (Array.getElem?_eq_some_iff.1 ho).1
            have h8 := hc.1
            omega
    refine ⟨fun h0 => (by rw [h1] at h0; cases h0), fun i hi => ?_⟩
    rw [h1] at hi
    have ei : i = n := by simpa using hi
    subst ei
    refine wpOp_mono (fun a' w' hq => ⟨fun h0 => (by rw [h0] at isin; cases isin), fun j hj => ?_⟩) (hQ a w hw h2)
    have ej := only j hj
    subst ej
    refine wpOp_mono (fun a'' w'' hq' => ⟨?_, hq'⟩) hq
    refine List.eq_nil_iff_forall_not_mem.2 fun k hk => ?_
    have hi1 : (L.setIfInBounds i true).getD (i + 1) true = false := (mem_ready.1 isin).1
    have hu := ready_un hk (ready_ne hi1 hk) (fun o ho => bar0_spec hB0 ho)
    exact ready_ne hi1 hk (only k hu)
  | fuel + 1, L, a, w, hc, hw, h => ⟨fun h0 => absurd h0 h.2.1, fun i hi => wpOp_of_qOp hw (fun a' w' hw' => wpAny_of_bar2 hB1 hB0 hB2 hQ fuel _ a' w' (hc.next hi) hw') (h.2.2 i hi)⟩
/-- Operation m ends all by a panic, whenever it comes up; what is in the frame besides its operands makes no difference. -/
def Dies (P : Program) (ops : Array Oper) (C : World → Prop) (Q : Exit → Act → World → Prop) (o : Oper) (a : Act) : Prop :=
  Region.wanted o (yielded ops a.tmps) = true ∧ ∀ w, C w → o.wp P a w (fun _ _ => False) Q
theorem Dies.back {Q : Exit → Act → World → Prop} {o oi : Oper} {v : Value} {a : Act} (hap : oi.apart ops o = true) (hs : ∀ cs b, o.op ≠ .select cs b)
    (hQ : ∀ c a (d : Option Tmp) v w, Q (.panic c) (a.put d v) w → Q (.panic c) a w) (h : Dies P ops C Q o (a.put oi.dst v)) : Dies P ops C Q o a := by
  obtain ⟨h1, h2, h3⟩ := Oper.apart_spec hap
  obtain ⟨k1, k2⟩ := h
  rw [wanted_put o a oi.dst v h1] at k1
  refine ⟨k1, fun w hw => ?_⟩
  have k := k2 w hw
  unfold Oper.wp at *
  rw [execOp_put o hs a oi.dst v h1] at k
  generalize (execOp a.eval o).run P w = r at *
  cases r with
  | ok n w' =>
    cases n <;> simp only [Oper.upon] at k ⊢
    case enter f args =>
      refine Calls.mono k fun e w'' he => ?_
      cases e with
      | returned u => exact he
      | panicked c => exact hQ _ _ _ _ _ he
      | outgrown => exact he
    all_goals first | exact k | exact Rows.mono k fun _ _ he => he
  | halt x w' =>
    cases x <;> simp only [Oper.upon] at k ⊢
    case panic u => exact hQ _ _ _ _ _ k
def wpAnyD (P : Program) (md : Region.Mode) (ops : Array Oper) (C : World → Prop) (m : Nat) (T : Act → Prop) : Nat → Array Bool → Act → Prop
  | 0, L, a => Region.ready md ops L = [m] ∧ T a
  | fuel + 1, L, a => Region.ready md ops L ≠ [] ∧ (m ∈ Region.ready md ops L → T a) ∧ ∀ i ∈ Region.ready md ops L, i ≠ m → qOp P ops C i (wpAnyD P md ops C m T fuel (L.setIfInBounds i true)) a
theorem wpAnyD_first {m : Nat} {om : Oper} {Q : Exit → Act → World → Prop} {i : Nat} {oi : Oper} {v : Value} (hom : ops[m]? = some om) (him : i ≠ m) (hi : ops[i]? = some oi) (hsel : ∀ (j : Nat) (o : Oper) cs b, ops[j]? = some o → o.op ≠ .select cs b)
    (hQ : ∀ c a (d : Option Tmp) v w, Q (.panic c) (a.put d v) w → Q (.panic c) a w) :
    ∀ (fuel : Nat) (L : Array Bool) (a : Act),
      (∀ j oj, ops[j]? = some oj → j ≠ i → L.getD j true = false → (∀ e ∈ oj.after, Region.binds md e = true → e.on ≠ i) → oi.apart ops oj = true) →
      i ∈ Region.ready md ops L → YieldsIn P ops C oi v a →
      wpAnyD P md ops C m (Dies P ops C Q om) fuel (L.setIfInBounds i true) (a.put oi.dst v) → wpAnyD P md ops C m (Dies P ops C Q om) (fuel + 1) L a := by
  have nots : ∀ (L : Array Bool) j oj, i ∈ Region.ready md ops L → ops[j]? = some oj → j ∈ Region.ready md ops L → ∀ e ∈ oj.after, Region.binds md e = true → e.on ≠ i := by
    intro L j oj hr hoj hj e he hb heq
    obtain ⟨hjun, o', ho', hall⟩ := mem_ready.1 hj
    rw [hoj] at ho'
    cases ho'
    have h1 := hall e he hb
    have h0 := (mem_ready.1 hr).1
    rw [heq] at h1
    rcases Nat.lt_or_ge i L.size with h' | h'
    · simp [h'] at h0 h1; rw [h0] at h1; cases h1
    · simp [Array.getElem?_eq_none h'] at h1
  intro fuel
  induction fuel with
  | zero =>
    intro L a hfree hr hy H
    refine ⟨fun h => (by rw [h] at hr; cases hr), fun hmr => ?_, fun j hj hjm => ?_⟩
    · exact H.2.back (hfree m om hom (Ne.symm him) (mem_ready.1 hmr).1 (nots L m om hr hom hmr)) (fun cs b => hsel m om cs b hom) hQ
    · by_cases hji : j = i
      · subst hji; exact hy.qOp hi H
      · have := ready_mono hj hji
        rw [H.1] at this
        exact absurd (by simpa using this) hjm
  | succ fuel ih =>
    intro L a hfree hr hy H
    refine ⟨fun h => (by rw [h] at hr; cases hr), fun hmr => ?_, fun j hj hjm => ?_⟩
    · exact (H.2.1 (ready_mono hmr (Ne.symm him))).back (hfree m om hom (Ne.symm him) (mem_ready.1 hmr).1 (nots L m om hr hom hmr)) (fun cs b => hsel m om cs b hom) hQ
    · by_cases hji : j = i
      · subst hji; exact hy.qOp hi H
      · have h1 := H.2.2 j (ready_mono hj hji) hjm
        obtain ⟨hjun, oj, hoj, hall⟩ := mem_ready.1 hj
        have hnot := nots L j oj hr hoj hj
        have h2 := qOp_put hoj (hfree j oj hoj hji hjun hnot) (fun cs b => hsel i oi cs b hi) (fun cs b => hsel j oj cs b hoj) hy h1
        have hfree' : ∀ k ok, ops[k]? = some ok → k ≠ i → (L.setIfInBounds j true).getD k true = false →
            (∀ e ∈ ok.after, Region.binds md e = true → e.on ≠ i) → oi.apart ops ok = true := fun k ok hk hki hun hno => by
          refine hfree k ok hk hki ?_ hno
          by_cases hjk : j = k
          · subst hjk; exact hjun
          · rw [getD_set_ne true hjk] at hun; exact hun
        refine qOp_mono (fun a' h3 => ih (L.setIfInBounds j true) a' hfree' (ready_mono hr (Ne.symm hji)) h3.1 ?_) h2
        rw [Array.setIfInBounds_comm _ _ hji]
        exact h3.2
def lexD (md : Region.Mode) (ops : Array Oper) (m : Nat) : List Nat → Array Bool → Bool
  | [], L => decide (Region.ready md ops L = [m])
  | i :: is, L => (Region.ready md ops L).contains i && (i != m) && Region.free md ops L i && lexD md ops m is (L.setIfInBounds i true)
theorem wpAnyD_lex {m : Nat} {om : Oper} {Q : Exit → Act → World → Prop} (hs : Region.noSelect ops = true) (hom : ops[m]? = some om) (hQ : ∀ c a (d : Option Tmp) v w, Q (.panic c) (a.put d v) w → Q (.panic c) a w) :
    ∀ (l : List Oper) (is : List Nat) (L : Array Bool) (a : Act), is.map (fun i => ops[i]?) = l.map some →
    lexD md ops m is L = true → wpQuiet P ops C (Dies P ops C Q om) l a → wpAnyD P md ops C m (Dies P ops C Q om) l.length L a
  | [], [], L, a, _, hB, h => ⟨by simpa [lexD] using hB, h⟩
  | [], i :: is, _, _, hl, _, _ => by simp at hl
  | o :: l, [], _, _, hl, _, _ => by simp at hl
  | o :: l, i :: is, L, a, hl, hx, h => by
    simp only [List.map_cons, List.cons.injEq] at hl
    obtain ⟨h0, hl⟩ := hl
    simp only [lexD, Bool.and_eq_true] at hx
    obtain ⟨⟨⟨hr, hne⟩, hf⟩, hB'⟩ := hx
    have hst : qOp P ops C i (wpQuiet P ops C (Dies P ops C Q om) l) a := by unfold qOp; simp only [h0]; exact h
    obtain ⟨v, hy, hK⟩ := yieldsIn_of_qOp h0 hst
    exact wpAnyD_first hom (by simpa using hne) h0 (Region.noSelect_spec hs) hQ l.length L a (Region.free_spec h0 hf) (by simpa using hr) hy
      (wpAnyD_lex hs hom hQ l is _ _ hl hB' hK)
theorem wpAny_of_dies {m : Nat} {om : Oper} {Q : Exit → Act → World → Prop} (hom : ops[m]? = some om) (e : Nat) : ∀ (fuel : Nat) (L : Array Bool) (a : Act) (w : World), C w →
    wpAnyD P md ops C m (Dies P ops C Q om) fuel L a → wpAny P md ops Q (fuel + 1 + e) L a w := by
  have base : ∀ (L : Array Bool) (a : Act) (w : World) (K : Act → World → Prop), C w → Dies P ops C Q om a → wpOp P ops Q m K a w := by
    intro L a w K hw h
    unfold wpOp
    simp only [hom, h.1, if_true]
    exact .inl (Oper.wp_mono (fun _ _ h => h.elim) (h.2 w hw))
  intro fuel
  induction fuel with
  | zero =>
    intro L a w hw h
    obtain ⟨h1, h2⟩ := h
    rw [show 0 + 1 + e = e + 1 by omega]
    refine ⟨fun h0 => (by rw [h1] at h0; cases h0), fun i hi => ?_⟩
    rw [h1] at hi
    have ei : i = m := by simpa using hi
    subst ei
    exact base L a w _ hw h2
  | succ fuel ih =>
    intro L a w hw h
    rw [show fuel + 1 + 1 + e = (fuel + 1 + e) + 1 by omega]
    refine ⟨fun h0 => absurd h0 h.1, fun i hi => ?_⟩
    by_cases him : i = m
    · subst him
      exact base L a w _ hw (h.2.1 hi)
    · exact wpOp_of_qOp hw (fun a' w' hw' => ih _ a' w' hw') (h.2.2 i hi him)
end
def noOp : Oper := { dst := none, op := .move (.tmp 0), type := 0, pos := "", after := #[], guard := none }
theorem wp_region_dies {P : Program} {C : World → Prop} {id : Nat} {Q : Exit → Act → World → Prop} {a : Act} {w : World} {full l0 : List Oper} {om : Oper} (is : List Nat) (m : Nat) (hl1 : (is.map fun i => full.getD i noOp) = l0) (hl : (is.all fun i => decide (i < full.length)) = true) (hom : full.toArray[m]? = some om) (hm : P.follows .mixedOrders = true)
    (hs : Region.noSelect full.toArray = true) (hB : lexD .any full.toArray m is (Array.replicate full.length false) = true) (hn : is.length < full.length) (hC : C w.drew)
    (hQ : ∀ c a (d : Option Tmp) v w, Q (.panic c) (a.put d v) w → Q (.panic c) a w)
    (h : wpQuiet P full.toArray C (Dies P full.toArray C Q om) l0 a) : (Code.region id full.toArray true).wp P Q a w := by
  subst hl1
  refine wp_region_any hm ?_
  obtain ⟨l, hl0⟩ : ∃ l, l = is.map fun i => full.getD i noOp := ⟨_, rfl⟩
  rw [← hl0] at h
  have hl : is.map (fun i => full.toArray[i]?) = l.map some := by
    rw [hl0]
    clear hB hn h hl0
    induction is with
    | nil => rfl
    | cons i is ih =>
      simp only [List.all_cons, Bool.and_eq_true, decide_eq_true_eq] at hl
      have e : full[i]? = some full[i] := List.getElem?_eq_getElem hl.1
      rw [List.map_cons, List.map_cons, List.map_cons, ih hl.2]
      simp [e]
  have hll : l.length = is.length := by
    have := congrArg List.length hl
    simpa using this.symm
  have key := wpAnyD_lex (P := P) (C := C) hs hom hQ l is (Array.replicate full.toArray.size false) a hl (by simpa using hB) h
  have := wpAny_of_dies (P := P) (Q := Q) hom (full.length - (l.length + 1)) l.length _ a w.drew hC key
  have hsz : l.length + 1 + (full.length - (l.length + 1)) = full.toArray.size := by
    simp only [List.size_toArray]
    omega
  rw [hsz] at this
  exact this
theorem wp_region_bar {P : Program} {C : World → Prop} {id : Nat} {Q : Exit → Act → World → Prop} {a : Act} {w : World} {l full : List Oper} {o : Oper} (hf : full.dropLast = l) (ho : full.getLast? = some o) (hm : P.follows .mixedOrders = true)
    (hB : barOK full.toArray (full.length - 1) = true) (hC : C w.drew)
    (h : wpQuiet P full.toArray C (fun a' => ∀ w', C w' → wpList P full.toArray Q [o] a' w') l a) : (Code.region id full.toArray true).wp P Q a w := by
  have hfull : full = l ++ [o] := by
    subst hf
    have hne : full ≠ [] := by rintro rfl; simp at ho
    rw [List.getLast?_eq_some_getLast hne] at ho
    have := List.dropLast_concat_getLast hne
    rw [Option.some.inj ho] at this
    exact this.symm
  have hlen : full.length = l.length + 1 := by rw [hfull]; simp
  simp only [barOK, Bool.and_eq_true] at hB
  obtain ⟨⟨⟨hs, hb⟩, hb0⟩, hx⟩ := hB
  have hn1 : full.length - 1 = l.length := by omega
  rw [hn1] at hb hb0 hx
  refine wp_region_any hm ?_
  have hsz : full.toArray.size = l.length + 1 := by simpa using hlen
  have key := wpAnyB_lex (P := P) (C := C) (Q := fun a' => ∀ w', C w' → wpList P full.toArray Q [o] a' w') hs hb l 0 (Array.replicate full.toArray.size false) a closed_nil
    (fun j hj => by simp [hfull, List.getElem?_append_left hj]) hx h
  have := wpAny_of_bar (P := P) (Q' := Q) hb0 (fun a' w' hC' hq => by
    have h1 := hq w' hC'
    have e0 : full.toArray[l.length]? = some o := by simp [hfull]
    unfold wpOp
    simp only [e0]
    simpa [wpList] using h1) l.length _ a w.drew hC key
  rw [← hsz] at this
  exact this
theorem wp_region_bar2 {P : Program} {C : World → Prop} {id : Nat} {Q : Exit → Act → World → Prop} {a : Act} {w : World} {l full : List Oper} {o o2 : Oper} (hf : full.dropLast.dropLast = l) (ho : full.dropLast.getLast? = some o) (ho2 : full.getLast? = some o2) (hm : P.follows .mixedOrders = true)
    (hB : barOK2 full.toArray (full.length - 2) = true) (hC : C w.drew)
    (h : wpQuiet P full.toArray C (fun a' => ∀ w', C w' → wpList P full.toArray Q [o, o2] a' w') l a) : (Code.region id full.toArray true).wp P Q a w := by
  have app : ∀ (l : List Oper) (o : Oper), l.getLast? = some o → l = l.dropLast ++ [o] := by
    intro l o ho
    have hne : l ≠ [] := by rintro rfl; simp at ho
    rw [List.getLast?_eq_some_getLast hne] at ho
    have := List.dropLast_concat_getLast hne
    rw [Option.some.inj ho] at this
    exact this.symm
  have hfull : full = l ++ [o, o2] := by
    have e1 := app _ _ ho2
    rw [app _ _ ho, hf] at e1
    simpa using e1
  have hlen : full.length = l.length + 2 := by rw [hfull]; simp
  simp only [barOK2, Bool.and_eq_true] at hB
  obtain ⟨⟨⟨⟨hs, hb⟩, hb0⟩, hb2⟩, hx⟩ := hB
  have hn1 : full.length - 2 = l.length := by omega
  rw [hn1] at hb hb0 hb2 hx
  refine wp_region_any hm ?_
  have hsz : full.toArray.size = l.length + 2 := by simpa using hlen
  have key := wpAnyB_lex (P := P) (C := C) (Q := fun a' => ∀ w', C w' → wpList P full.toArray Q [o, o2] a' w') hs hb l 0 (Array.replicate full.toArray.size false) a closed_nil
    (fun j hj => by simp [hfull, List.getElem?_append_left hj]) hx h
  have := wpAny_of_bar2 (P := P) (Q' := Q) hb hb0 hb2 (fun a' w' hC' hq => by
    have h1 := hq w' hC'
    have e0 : full.toArray[l.length]? = some o := by simp [hfull]
    have e1 : full.toArray[l.length + 1]? = some o2 := by simp [hfull]
    unfold wpOp
    simp only [e0, e1]
    simpa [wpList] using h1) l.length _ a w.drew closed_nil hC key
  rw [← hsz] at this
  exact this
end Go.Proofs.YtgmoemjiffglbaaGreat
namespace Go.Proofs.YtgmoemjiffglbaaGreat
open Go.RowKit
set_option maxRecDepth 100000
set_option linter.unusedVariables false
set_option linter.unusedSimpArgs false
/-- All but block q and the block of the pages' row stays. -/
structure Kq (q : Nat) (pv : Value) (w w' : World) : Prop where
  os : w'.os = w.os
  tape : w'.tape = w.tape
  output : w'.output = w.output
  size : w.heap.size ≤ w'.heap.size
  block : ∀ k, k < w.heap.size → k ≠ q → pv.ownBlock ≠ some k → w'.heap[k]? = w.heap[k]?
theorem Kq.refl (q : Nat) (pv : Value) (w : World) : Kq q pv w w := ⟨rfl, rfl, rfl, Nat.le_refl _, fun _ _ _ _ => rfl⟩
theorem Kq.trans {q : Nat} {pv : Value} {x y z : World} (h : Kq q pv x y) (k : Kq q pv y z) : Kq q pv x z :=
  ⟨k.os.trans h.os, k.tape.trans h.tape, k.output.trans h.output, Nat.le_trans h.size k.size, fun i hi hb hg => (k.block i (Nat.lt_of_lt_of_le hi h.size) hb hg).trans (h.block i hi hb hg)⟩
theorem Kq.of_below {q : Nat} {pv : Value} {w w' : World} (h : Below w.heap.size w w') : Kq q pv w w' := ⟨h.os, h.tape, h.output, h.size, fun k hk _ _ => h.block k hk⟩
theorem Kq.set {q : Nat} {pv : Value} {a w : World} (h : Kq q pv a w) (o : Nat) (v : Value) : Kq q pv a (w.setCell ⟨q, o, none⟩ v) :=
  ⟨h.os, h.tape, h.output, by simpa [World.setCell] using h.size, fun k hk hb hg => (Below.heap_setCell _ _ _ _ hb).trans (h.block k hk hb hg)⟩
theorem Kq.seto {q r : Nat} {pv : Value} {a w : World} (h : Kq q pv a w) (hr : pv.ownBlock = some r) (o : Nat) (v : Value) : Kq q pv a (w.setCell ⟨r, o, none⟩ v) :=
  ⟨h.os, h.tape, h.output, by simpa [World.setCell] using h.size, fun k hk hb hg => (Below.heap_setCell _ _ _ _ (fun e => hg (by rw [hr, e]))).trans (h.block k hk hb hg)⟩
theorem Kq.drew {q : Nat} {pv : Value} {a w : World} (h : Kq q pv a w) : Kq q pv a w.drew := ⟨h.os, h.tape, h.output, h.size, h.block⟩
theorem Kq.sets {q : Nat} {pv : Value} {a : World} : ∀ (vs : List Value) (o : Nat) (w : World), Kq q pv a w → Kq q pv a (w.setCells q o vs)
  | [], _, _, h => h
  | v :: r, o, w, h => by rw [World.setCells]; exact Kq.sets r (o + 1) _ (h.set o v)
theorem Kq.low {q B : Nat} {pv : Value} {w w' : World} (h : Kq q pv w w') (hq : B ≤ q) (hp : ∀ r, pv.ownBlock = some r → B ≤ r) (hB : B ≤ w.heap.size) : Below B w w' :=
  ⟨h.os, h.tape, h.output, h.size, fun k hk => h.block k (by omega) (by omega) (fun e => by have := hp k e; omega)⟩
/-- What stands of words at cell o of block q: their pages hold xs, n of them. -/
structure Wso (w : World) (B q o n : Nat) (xs : List Int) (cs : Array Value) (t : TypeId) : Prop where
  ex : ∃ pv ps, At w q cs t ∧ cs[o]? = some pv ∧ cs[o + 1]? = some (.int .i64 n) ∧ Pgs w B pv ps ((n + 63) / 64) xs ∧ pv.ownBlock ≠ some q ∧ ∀ p ∈ ps, p.1 ≠ q
  len : xs.length = n
  qB : B ≤ q
theorem Wso.at_ {w : World} {B q o n : Nat} {xs : List Int} {cs : Array Value} {t : TypeId} (h : Wso w B q o n xs cs t) : At w q cs t := by
  obtain ⟨⟨pv, ps, h1, -⟩, -, -⟩ := h
  exact h1
theorem Wso.keep {w w' : World} {B q o n : Nat} {xs : List Int} {cs : Array Value} {t : TypeId} (h : Wso w B q o n xs cs t) (hb : Below w.heap.size w w') : Wso w' B q o n xs cs t := by
  obtain ⟨⟨pv, ps, h1, c0, c1, h2, h3, h4⟩, hl, hq⟩ := h
  exact ⟨⟨pv, ps, h1.keep hb, c0, c1, h2.keep hb, h3, h4⟩, hl, hq⟩
/-- A store into another cell of the struct. -/
theorem Wso.put {w : World} {B q o n : Nat} {xs : List Int} {cs : Array Value} {t : TypeId} (h : Wso w B q o n xs cs t) (i : Nat) (v : Value) (h0 : i ≠ o) (h1 : i ≠ o + 1) : Wso (w.setCell ⟨q, i, none⟩ v) B q o n xs (cs.setIfInBounds i v) t := by
  obtain ⟨⟨pv, ps, h2, c0, c1, h3, h4, h5⟩, hl, hq⟩ := h
  exact ⟨⟨pv, ps, h2.set i v, by rw [Array.getElem?_setIfInBounds_ne h0]; exact c0, by rw [Array.getElem?_setIfInBounds_ne h1]; exact c1, h3.other (a := ⟨q, i, none⟩) h4 h5 v, h4, h5⟩, hl, hq⟩
/-- The page of a place: its pointer in the row of pages, and its words. -/
theorem Wso.page {w : World} {B q o n : Nat} {xs : List Int} {cs : Array Value} {t : TypeId} (h : Wso w B q o n xs cs t) {i : Nat} (hi : i < n) :
    ∃ (r cap b oo : Nat) (ps : List (Nat × Nat)), w.cell? ⟨q, o, none⟩ = some (.slice (some ⟨r, 0, none⟩) ((n + 63) / 64) cap) ∧ w.cell? ⟨q, o + 1, none⟩ = some (.int .i64 n) ∧
      w.cell? ⟨r, i / 64, none⟩ = some (.pointer (some ⟨b, oo, none⟩)) ∧ w.frozen? ⟨r, i / 64, none⟩ = false ∧ w.rangeAt b oo (chunk xs (i / 64)) ∧ i / 64 < (n + 63) / 64 ∧
      At w q cs t ∧ cs[o]? = some (.slice (some ⟨r, 0, none⟩) ((n + 63) / 64) cap) ∧ cs[o + 1]? = some (.int .i64 n) ∧ Pgs w B (.slice (some ⟨r, 0, none⟩) ((n + 63) / 64) cap) ps ((n + 63) / 64) xs ∧ r ≠ q ∧ (∀ p ∈ ps, p.1 ≠ q) ∧ b < w.heap.size ∧ B ≤ r ∧ r < w.heap.size := by
  obtain ⟨⟨pv, ps, h1, c0, c1, h2, h3, h4⟩, hl, hq⟩ := h
  have hk : i / 64 < (n + 63) / 64 := by omega
  rcases h2.own.2 with ⟨rfl, h0⟩ | ⟨r, cap, cur, rfl, hB, hcur, hc1, hc2, hc3, hc4⟩
  · omega
  · have hp : i / 64 < ps.length := by rw [h2.len]; exact hk
    obtain ⟨hb, hbr, hc⟩ := h2.pg (i / 64) ps[i / 64] (List.getElem?_eq_getElem hp)
    have hcell := World.ownsRow.cellAt h2.own (i / 64) (by omega)
    refine ⟨r, cap, ps[i / 64].1, ps[i / 64].2, ps, (h1.cell o).trans c0, (h1.cell (o + 1)).trans c1, ?_, World.ownsRow.frozenAt h2.own _, hc, hk, h1, c0, c1, h2, fun e => h3 (by simp [Value.ownBlock, e]), h4, hb, hB, (World.ownsRow.lt h2.own r rfl).2⟩
    rw [hcell]
    simp [hp, ptr]
set_option maxHeartbeats 2000000 in
theorem ioRead (B q o n : Nat) (xs : List Int) (at_ : Int) (w : World) (cs : Array Value) (t : TypeId) (h : Wso w B q o n xs cs t) (hn : n ≤ 16777216) :
    Calls Tryz.prog 112 #[.pointer (some ⟨q, o, none⟩), .int .i64 at_] w fun e w' => e = .returned (.tuple #[.int .u64 (red xs at_), .bool (thr at_ n)]) ∧ w' = w := by
  have hl := h.len
  cases ht : thr at_ n
  · have er : red xs at_ = 0 := by unfold red; rw [hl, ht]; rfl
    rw [er]
    obtain ⟨⟨pv, ps, h1, -, c1, -⟩, -, -⟩ := h
    have q1 := (h1.cell (o + 1)).trans c1
    go_enter Tryz.func112, Tryz.ntmps112
    go_wp2_with (go_at_call 73; refine (iWithin _ _ _ _).mono ?_; rintro e w2 ⟨rfl, rfl⟩; rw [thr_inB, ht])
    go_returns
    exact ⟨rfl, rfl⟩
  · obtain ⟨i, hi, rfl⟩ := thr_true ht
    have er : red xs (i : Int) = xs.getD i 0 := by unfold red; rw [hl, ht]; simp
    rw [er]
    obtain ⟨r, cap, b, oo, ps, q0, q1, c0, -, hc, hk, -⟩ := h.page hi
    have c1 := hc (i % 64) _ (chunk_at _ _ _ (by omega))
    rw [show 64 * (i / 64) + i % 64 = i from by omega] at c1
    obtain ⟨z, hz⟩ : ∃ z : Int, Hid (xs.getD i 0 = z) := ⟨_, rfl⟩
    rw [hz.out] at c1 ⊢
    obtain ⟨M, hM⟩ : ∃ M : Nat, Hid ((n + 63) / 64 = M) := ⟨_, rfl⟩
    rw [hM.out] at q0 hk
    obtain ⟨k, j, hkj⟩ : ∃ k j : Nat, Hid (i / 64 = k ∧ i % 64 = j) := ⟨_, _, rfl, rfl⟩
    rw [hkj.out.1] at c0 hk
    rw [hkj.out.2] at c1
    have e1 : (i : Int) / 64 = (k : Int) := by have := hkj.out; omega
    have e2 : (i : Int) % 64 = (j : Int) := by have := hkj.out; omega
    have b1 : (k : Int) < (M : Int) := by omega
    have b2 : (j : Int) < 64 := by have := hkj.out; omega
    go_enter Tryz.func112, Tryz.ntmps112
    go_wp2_with (go_at_call 73; refine (iWithin _ _ _ _).mono ?_; rintro e w2 ⟨rfl, rfl⟩; rw [thr_inB, ht])
    go_returns
    exact ⟨rfl, rfl⟩
/-- A page of one's own takes the place of page i / 64. -/
theorem Wso.wrote {w w1 : World} {B q o n r cap W i : Nat} {cs : Array Value} {t : TypeId} {xs : List Int} {ps : List (Nat × Nat)} {x : Int} (hl : xs.length = n) (hi : i < n)
    (a : At w q cs t) (a0 : cs[o]? = some (.slice (some ⟨r, 0, none⟩) ((n + 63) / 64) cap)) (a1 : cs[o + 1]? = some (.int .i64 n)) (p : Pgs w B (.slice (some ⟨r, 0, none⟩) ((n + 63) / 64) cap) ps ((n + 63) / 64) xs) (rq : r ≠ q) (hp : ∀ p ∈ ps, p.1 ≠ q) (hB : B ≤ q)
    (b1 : Below w.heap.size w w1) (hW : W = w.heap.size) (hc : w1.rangeAt W 0 (chunk (xs.set i x) (i / 64))) : Wso (w1.setCell ⟨r, i / 64, none⟩ (ptr (W, 0))) B q o n (xs.set i x) cs t := by
  have hk : i / 64 < (n + 63) / 64 := by omega
  have rl := (World.ownsRow.lt p.own r rfl).2
  have Wl : W < w1.heap.size := World.block_lt_of_cell? w1 _ (hc 0 _ (chunk_at _ _ _ (by omega)))
  have p1 := p.keep b1
  refine ⟨⟨_, ps.set (i / 64) (W, 0), (a.keep b1).other (a := ⟨r, i / 64, none⟩) (Ne.symm rq) _, a0, a1, ⟨by simp [p.len], ?_, ?_⟩, by simpa [Value.ownBlock] using rq, ?_⟩, by simp [hl], hB⟩
  · have := (World.ownsRow.stored p1.own (i / 64) (ptr (W, 0))).1
    simpa [List.map_set] using this
  · intro j u hu
    rw [List.getElem?_set] at hu
    by_cases e : i / 64 = j
    · subst e
      rw [if_pos rfl, if_pos (by rw [p.len]; exact hk)] at hu
      simp at hu
      subst hu
      refine ⟨by simpa [World.setCell] using Wl, fun e => (by omega : r ≠ W) (by simpa [Value.ownBlock] using e), rangeAt_block hc (Below.heap_setCell _ _ _ _ (by show W ≠ r; omega))⟩
    · rw [if_neg e] at hu
      obtain ⟨h1, h2, h3⟩ := p1.pg j u hu
      refine ⟨by simpa [World.setCell] using h1, h2, ?_⟩
      rw [chunk_other e]
      exact rangeAt_block h3 (Below.heap_setCell _ _ _ _ (fun e => h2 (by simp [Value.ownBlock]; exact e.symm)))
  · intro u hu
    rcases List.mem_or_eq_of_mem_set hu with hu | rfl
    · exact hp u hu
    · have := a.lt
      show W ≠ q
      omega
set_option maxHeartbeats 4000000 in
theorem ioWrite (B q o n : Nat) (xs : List Int) (at_ x : Int) (w : World) (cs : Array Value) (t : TypeId) (h : Wso w B q o n xs cs t) (hn : n ≤ 16777216) (pv : Value) (hpv : cs[o]? = some pv) :
    Calls Tryz.prog 85 #[.pointer (some ⟨q, o, none⟩), .int .i64 at_, .int .u64 x] w fun e w' => e = .returned (.bool (thr at_ n)) ∧ Wso w' B q o n (wrote xs at_ x) cs t ∧ Kq q pv w w' := by
  have hl := h.len
  cases ht : thr at_ n
  · rw [wrote_n hl ht]
    have hh := h
    obtain ⟨⟨pv0, ps, h1, -, c1, -⟩, -, -⟩ := hh
    have q1 := (h1.cell (o + 1)).trans c1
    go_enter Tryz.func85, Tryz.ntmps85
    go_wp2_with (go_at_call 73; refine (iWithin _ _ _ _).mono ?_; rintro e w2 ⟨rfl, rfl⟩; rw [thr_inB, ht])
    go_ret
    exact ⟨rfl, h, Kq.refl _ _ _⟩
  · obtain ⟨i, hi, rfl⟩ := thr_true ht
    rw [wrote_y hl hi]
    obtain ⟨r, cap, b, oo, ps, q0, q1, c0, f0, hc, hk, aq, a0, a1, P, rq, hpq, hb, hBr, hrl⟩ := h.page hi
    have hBq := h.qB
    have hpr : pv.ownBlock = some r := by rw [a0] at hpv; rw [← Option.some.inj hpv]; rfl
    have hrB : B ≤ w.heap.size := by omega
    obtain ⟨M, hM⟩ : ∃ M : Nat, Hid ((n + 63) / 64 = M) := ⟨_, rfl⟩
    obtain ⟨k, j, hkj⟩ : ∃ k j : Nat, Hid (i / 64 = k ∧ i % 64 = j) := ⟨_, _, rfl, rfl⟩
    have HP : Hid (Pgs w B (.slice (some ⟨r, 0, none⟩) ((n + 63) / 64) cap) ps ((n + 63) / 64) xs ∧ At w q cs t ∧ cs[o]? = some (.slice (some ⟨r, 0, none⟩) ((n + 63) / 64) cap) ∧ cs[o + 1]? = some (.int .i64 n)) := ⟨P, aq, a0, a1⟩
    clear P aq a0 a1
    rw [hM.out] at q0 hk
    rw [hkj.out.1] at c0 f0 hc hk
    have e1 : (i : Int) / 64 = (k : Int) := by have := hkj.out; omega
    have e2 : (i : Int) % 64 = (j : Int) := by have := hkj.out; omega
    have b1 : (k : Int) < (M : Int) := by omega
    have b2 : (j : Int) < 64 := by have := hkj.out; omega
    have hth := zeros_there w
    have hB1 : Below w.heap.size w ((w.alloc (.cells (List.replicate 64 (Value.int .u64 0)).toArray 115)).setCells w.heap.size 0 (chunk xs k)) := below_setCellsW _ (Nat.le_refl _) _ _ _ ((Below.refl _ _).alloc (Nat.le_refl _) _)
    have hR1 := World.rangeAt_setCells_same _ w.heap.size 0 (chunk xs k) (by rw [chunk_len]; exact hth)
    have hF1 : ∀ j, ((w.alloc (.cells (List.replicate 64 (Value.int .u64 0)).toArray 115)).setCells w.heap.size 0 (chunk xs k)).frozen? ⟨w.heap.size, j, none⟩ = false := fun j => by rw [World.frozen?_setCells]; exact (zeros_at w).frozen j
    go_enter Tryz.func85, Tryz.ntmps85
    go_upto_region 4 with (first
      | (go_at_call 73; refine (iWithin _ _ _ _).mono ?_; rintro e w2 ⟨rfl, rfl⟩; rw [thr_inB, ht])
      | (refine wpList_load_mid (by rfl) 115 (.tmp 24) (by rfl) b oo (by rfl) (chunk xs k) _ hc Tryz.underlying115 rfl (by rw [chunk_len]; exact infoA) ?_)
      | (refine wpList_store_mid (by rfl) 115 (.tmp 7) (.tmp 25) (by rfl) w2.heap.size 0 (chunk xs k).toArray (by rfl) (by rfl) (by simp only [List.size_toArray, chunk_len]; exact hth) (by simp only [List.size_toArray, chunk_len]; exact infoA) (all_oneCell_toArray (chunk_one xs k)) ?_))
    change Code.wp _ _ _ _ ((w2.alloc (Obj.cells (List.replicate 64 (Value.int .u64 0)).toArray 115)).setCells w2.heap.size 0 (chunk xs k))
    clear hth
    generalize ((w2.alloc (Obj.cells (List.replicate 64 (Value.int .u64 0)).toArray 115)).setCells w2.heap.size 0 (chunk xs k)) = w3 at *
    have c3 := hR1 j _ (chunk_at _ _ _ (by omega))
    have f3 := hF1 j
    rw [Nat.zero_add] at c3
    have d0 := (hB1.cell (p := ⟨r, k, none⟩) hrl).trans c0
    have g0 := (hB1.frozen (p := ⟨r, k, none⟩) hrl).trans f0
    have hql := HP.out.2.1.lt
    have p0 := (hB1.cell (p := ⟨q, o, none⟩) hql).trans q0
    have hne : r ≠ w2.heap.size := by omega
    have hne2 : q ≠ w2.heap.size := by omega
    have fin := Wso.wrote (x := x) hl hi HP.out.2.1 HP.out.2.2.1 HP.out.2.2.2 HP.out.1 rq hpq hBq (hB1.setCell (p := ⟨w2.heap.size, j, none⟩) (Nat.le_refl _) (.int .u64 x)) rfl (by
      have := rangeAt_setCell hR1 j (by rw [chunk_len]; omega) (.int .u64 x)
      rw [Nat.zero_add] at this
      rw [← chunk_set hl hi x, hkj.out.1, hkj.out.2]
      exact this)
    rw [hkj.out.1] at fin
    have FIN : Hid (Wso ((w3.setCell ⟨w2.heap.size, j, none⟩ (.int .u64 x)).setCell ⟨r, k, none⟩ (ptr (w2.heap.size, 0))) B q o n (xs.set i x) cs t) := fin
    clear fin hR1 hc hF1 c0 f0 q0 q1
    go_wp2
    go_ret
    refine ⟨rfl, FIN.out, ?_⟩
    exact (Kq.of_below (hB1.setCell (p := ⟨w2.heap.size, j, none⟩) (Nat.le_refl _) (.int .u64 x))).seto hpr k _
set_option maxHeartbeats 2000000 in
theorem ioSwap (B q o n : Nat) (xs : List Int) (at_ y x : Int) (w : World) (cs : Array Value) (t : TypeId) (h : Wso w B q o n xs cs t) (hn : n ≤ 16777216) (pv : Value) (hpv : cs[o]? = some pv) :
    Calls Tryz.prog 116 #[.pointer (some ⟨q, o, none⟩), .int .i64 at_, .int .u64 y, .int .u64 x] w fun e w' => e = .returned (.bool (swaps xs at_ y)) ∧ Wso w' B q o n (swapped xs at_ y x) cs t ∧ Kq q pv w w' := by
  have hl := h.len
  cases ht : thr at_ n
  · obtain ⟨e1, e2⟩ := swap_n (x := x) (y := y) hl (.inl ht)
    rw [e1, e2]
    go_enter Tryz.func116, Tryz.ntmps116
    go_wp2_with (go_at_call 112; refine (ioRead B q o n xs _ _ cs t h hn).mono ?_; rintro e w1 ⟨rfl, rfl⟩; rw [ht])
    go_ret
    exact ⟨rfl, h, Kq.refl _ _ _⟩
  · obtain ⟨i, hi, rfl⟩ := thr_true ht
    obtain ⟨z, hz⟩ : ∃ z : Int, Hid (red xs (i : Int) = z) := ⟨_, rfl⟩
    have er : xs.getD i 0 = z := by rw [← hz.out]; unfold red; rw [hl, ht]; simp
    by_cases hzy : z = y
    · subst hzy
      obtain ⟨e1, e2⟩ := swap_y (x := x) hl hi er
      rw [e1, e2, ← wrote_y hl hi]
      clear er e1 e2
      go_enter Tryz.func116, Tryz.ntmps116
      go_wp2_with (first
        | (go_at_call 112; refine (ioRead B q o n xs _ _ cs t h hn).mono ?_; rintro e w1 ⟨rfl, rfl⟩; rw [ht, hz.out])
        | (go_at_call 85; refine (ioWrite B q o n xs _ _ _ cs t h hn pv hpv).mono ?_; rintro e w2 ⟨rfl, hW, hb⟩; rw [ht]))
      go_ret
      exact ⟨rfl, hW, hb⟩
    · obtain ⟨e1, e2⟩ := swap_n (a := (i : Int)) (x := x) (y := y) hl (.inr (by rw [Int.toNat_natCast, er]; exact hzy))
      rw [e1, e2]
      clear er e1 e2
      go_enter Tryz.func116, Tryz.ntmps116
      go_wp2_with (go_at_call 112; refine (ioRead B q o n xs _ _ cs t h hn).mono ?_; rintro e w1 ⟨rfl, rfl⟩; rw [ht, hz.out])
      go_ret
      exact ⟨rfl, h, Kq.refl _ _ _⟩
set_option maxHeartbeats 4000000 in
theorem ioList (B q o n : Nat) (xs : List Int) (w : World) (cs : Array Value) (t : TypeId) (h : Wso w B q o n xs cs t) (hn : n ≤ 16777216) (bd : ∀ x ∈ xs, 0 ≤ x ∧ x ≤ 18446744073709551615) :
    Calls Tryz.prog 84 #[.pointer (some ⟨q, o, none⟩)] w fun e w' => e = .returned (.slice (some ⟨w.heap.size, 0, none⟩) n n) ∧ Ws w' w.heap.size n n xs ∧ Below w.heap.size w w' := by
  have hmk := run_make_row' (P := Tryz.prog) 24 25 (.int .u64 0) 8 Tryz.underlying24 infoU rfl .i64 .i64 n (by omega) (by omega)
  have hW := Ws.made w n (by omega)
  have hB : Below w.heap.size w (w.alloc (.cells (madeCells #[.int .u64 0] n) 25)) := (Below.refl _ _).alloc (Nat.le_refl _) _
  obtain ⟨⟨pv, ps, aq, a0, a1, P, h3, h4⟩, hl, hq⟩ := h
  obtain ⟨pa, pb, pc, rfl⟩ := P.sl
  have hpb : pb = (n + 63) / 64 := by
    rcases P.own.2 with ⟨hv, h0⟩ | ⟨r, cap, cur, hv, _⟩
    · obtain ⟨-, rfl, -⟩ : pa = none ∧ pb = 0 ∧ pc = 0 := by simpa using hv
      exact h0.symm
    · obtain ⟨-, e, -⟩ : pa = some ⟨r, 0, none⟩ ∧ pb = (n + 63) / 64 ∧ pc = cap := by simpa using hv
      exact e
  have q0 := (aq.cell o).trans a0
  have q1 := (aq.cell (o + 1)).trans a1
  have ql := aq.lt
  obtain ⟨M, hM⟩ : ∃ M : Nat, Hid ((n + 63) / 64 = M) := ⟨_, rfl⟩
  rw [hM.out] at hpb P
  subst hpb
  have hMn : pb ≤ 16777216 ∧ ∀ i, i < pb → 64 * i < n := by
    have := hM.out
    exact ⟨by omega, fun i hi => by omega⟩
  have d0 : (w.alloc (.cells (madeCells #[.int .u64 0] n) 25)).cell? ⟨q, o, none⟩ = some (.slice pa pb pc) := (hB.cell (p := ⟨q, o, none⟩) ql).trans q0
  go_enter Tryz.func84, Tryz.ntmps84
  go_wp2
  obtain ⟨G, hG⟩ : ∃ G : Nat, Hid (G = w.heap.size) := ⟨_, rfl⟩
  rw [← hG.out]
  go_loopg [16] pb (fun g y wr => ∃ i : Nat, i ≤ pb ∧ g = pb - i ∧ y = .int .i64 i ∧ Ws wr G n n (xs.take (64 * i) ++ List.replicate (n - 64 * i) 0) ∧ Below G w wr)
  case atStart => exact ⟨0, Nat.zero_le _, rfl, rfl, by rw [hG.out]; simpa using hW, by rw [hG.out]; exact hB⟩
  case round =>
    clear hW hB hmk d0 q0 a0 a1
    obtain ⟨i, i0, hg, rfl, hW, hB⟩ := hrel
    by_cases hi : i < pb
    · have hi' : (i : Int) < pb := by omega
      have hin := hMn.2 i hi
      rcases P.own.2 with ⟨hv, h0⟩ | ⟨r, cap, cur, hv, _⟩
      · omega
      · obtain ⟨rfl, -, rfl⟩ : pa = some ⟨r, 0, none⟩ ∧ pb = pb ∧ pc = cap := by simpa using hv
        have hp : i < ps.length := by rw [P.len]; exact hi
        obtain ⟨hb, hbr, hc⟩ := P.pg i ps[i] (List.getElem?_eq_getElem hp)
        obtain ⟨b, oo, hbo⟩ : ∃ b oo, ps[i] = (b, oo) := ⟨_, _, rfl⟩
        have c0 : wr.cell? ⟨r, i, none⟩ = some (.pointer (some ⟨b, oo, none⟩)) := by
          rw [hB.cell (p := ⟨r, i, none⟩) (by show r < G; rw [hG.out]; exact (World.ownsRow.lt P.own r rfl).2), World.ownsRow.cellAt P.own i (by omega)]
          simp [hp, ptr, hbo]
        rw [hbo] at hb hbr hc
        have hc1 : wr.rangeAt b oo (chunk xs i) := rangeAt_block hc (hB.block b (by rw [hG.out]; exact hb))
        have hsrc := part64_src hl hc1
        have hfull := hW.full
        have hlen : (xs.take (64 * i) ++ List.replicate (n - 64 * i) 0).length = n := by simp [hl]; omega
        have hm0 := part64_len (i := i) hl
        have hfit : i * 64 + (part64 xs i).length ≤ ((xs.take (64 * i) ++ List.replicate (n - 64 * i) 0).map (Value.int .u64)).length := by
          rw [List.length_map, hlen, hm0]
          have := Nat.min_le_right 64 (n - 64 * i)
          simp only [Nat.min_def] at *
          split <;> omega
        have hsp := part64_splice hl hin
        have z1 : (i : Int) * 64 < (n : Int) := by omega
        have hm1 : (part64 xs i).length = Nat.min 64 (n - i * 64) := by rw [hm0, Nat.mul_comm]
        have HS : Hid (splice ((xs.take (64 * i) ++ List.replicate (n - 64 * i) 0).map (Value.int .u64)) (i * 64) (part64 xs i) = (xs.take (64 * (i + 1)) ++ List.replicate (n - 64 * (i + 1)) 0).map (Value.int .u64)) := by rw [Nat.mul_comm i 64]; exact hsp
        clear hsp hm0 hlen
        generalize (xs.take (64 * i) ++ List.replicate (n - 64 * i) 0).map (Value.int .u64) = cur at hfull hfit HS
        obtain ⟨s, hs⟩ : ∃ s : Nat, Hid (i * 64 = s) := ⟨_, rfl⟩
        rw [hs.out] at hfit HS hm1
        have hwr : IntKind.i64.wrap ((i : Int) * 64) = (s : Int) := by rw [IntKind.wrap_i64]; have := hs.out; omega
        have s0 : (0 : Int) ≤ (s : Int) := by omega
        have s1 : (s : Int) ≤ (n : Int) := by have := hs.out; omega
        have s2 : ¬ n = s := by have := hs.out; omega
        go_wp2
        go_region_law (refine step_copy_splice (by rfl) (.tmp 24) (.tmp 27) 24 24 (by rfl) 25 Tryz.underlying24 infoU1 _ _ (n - s) (n - s) 64 64 (by rfl) (by rfl) G s cur 25 hfull (part64 xs i) hm1 (fun _ => ⟨rfl, _, rfl, hsrc⟩) hfit (part64_one xs i) G w hB.drew (Nat.le_refl _) ?_; intro w4 hg4 hb4)
        all_goals
          go_wp2
          have hW4 := Ws.of_full (w := w4) (g := G) (n := n) (xs := xs.take (64 * (i + 1)) ++ List.replicate (n - 64 * (i + 1)) 0) (by simp [hl]; omega) hn (by rw [← HS.out]; exact hg4.out) (fun x hx => by
            rcases List.mem_append.1 hx with hx | hx
            · exact bd x (List.mem_of_mem_take hx)
            · have := (List.mem_replicate.1 hx).2; omega)
          go_roundg (gk - 1)
          case measure => omega
          case rel => exact ⟨i + 1, by omega, by omega, by go_num, hW4, hb4⟩
    · obtain rfl : i = pb := by omega
      go_wp2
      go_ret
      rw [← hG.out]
      refine ⟨rfl, ?_, hB⟩
      have e : xs.take (64 * i) = xs := List.take_of_length_le (by have := hM.out; omega)
      have e2 : n - 64 * i = 0 := by have := hM.out; omega
      rw [e, e2] at hW
      simpa using hW
end Go.Proofs.YtgmoemjiffglbaaGreat
