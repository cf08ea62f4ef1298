/-
  The program's stack: the table of its next things; the next thing.
  The specification's stack: the next thing.
  The specification's stack: to pick, to push; the next thing.
  The stack: the specification's step and the program's come to the same.
  What the specification's StackStep answers.
  What the program's StackStep answers, in the same form.
-/
import Derived.Test.YtdebjfgflldpjaaGreatMp
import Derived.Deep.LoopGhost
namespace Go.Proofs.YtdebjfgflldpjaaGreat
open Go.RowKit
set_option maxRecDepth 100000
set_option linter.unusedVariables false
set_option linter.unusedSimpArgs false
def thF : List FuncId := [116, 117, 118, 119, 120, 121, 122, 123, 124, 125, 126, 127]
def thV (q i : Nat) : List Value := [.int .i64 (21 + i), .func (.func (thF.getD i 0)) #[.pointer (some ⟨q, 0, none⟩)] #[]]
def thL (q : Nat) : List Value := (List.range 12).flatMap (thV q)
theorem tThings (q : Nat) (w : World) : Calls Tryz.prog 75 #[.pointer (some ⟨q, 0, none⟩)] w fun e w' =>
    e = .returned (.slice (some ⟨w.heap.size, 0, none⟩) 12 12) ∧ At w' w.heap.size (thL q).toArray 94 ∧ Below w.heap.size w w' := by
  have hmf : ∀ (fn : Fn) (first cap : Array Value) (w : World), (Instr.makeFunc fn first cap).run Tryz.prog w = .ok (.func fn first cap) w := fun _ _ _ _ => rfl
  have FIN : Hid (At (w.alloc (.cells (thL q).toArray 94)) w.heap.size (thL q).toArray 94 ∧ Below w.heap.size w (w.alloc (.cells (thL q).toArray 94))) := ⟨At.new w _ _, (Below.refl _ _).alloc (Nat.le_refl _) _⟩
  go_enter Tryz.func75, Tryz.ntmps75
  go_wp2
  go_ret
  exact ⟨rfl, FIN.out⟩
theorem th_at {w : World} {g q : Nat} {t : TypeId} (A : At w g (thL q).toArray t) (i : Nat) (hi : i < 12) : w.rangeAt g (i * 2) (thV q i) := by
  intro k v hv
  rw [A.cell]
  have : k < 2 := (List.getElem?_eq_some_iff.1 hv).1
  obtain rfl | rfl : k = 0 ∨ k = 1 := by omega
  all_goals
    rcases i with _ | _ | _ | _ | _ | _ | _ | _ | _ | _ | _ | _ | i
    all_goals first | exact hv | (exfalso; omega)
theorem infoTh : (Tryz.prog.info? 94).map (·.size) = some 2 := by kernel_rfl
theorem thV_one (q i : Nat) : ∀ v ∈ thV q i, v.oneCell' = true := by simp [thV, Value.oneCell']
set_option maxHeartbeats 4000000 in
theorem tLoop (B q : Nat) (st : I8) (w : World) (S : IAt w B q st) (j : Nat) (hj : j < 12) (hat : st.h.at_ = 21 + j) (r : Option I8)
    (HC : ∀ w, (callFunc (thF.getD j 0) #[.pointer (some ⟨q, 0, none⟩)]).run Tryz.prog w = .ok (.enter (thF.getD j 0) #[.pointer (some ⟨q, 0, none⟩)]) w)
    (HN : ∀ w1, IAt w1 B q st → Calls Tryz.prog (thF.getD j 0) #[.pointer (some ⟨q, 0, none⟩)] w1 (Ends B q st.pv w1 r)) :
    Calls Tryz.prog 29 #[.pointer (some ⟨q, 0, none⟩)] w (Ends B q st.pv w r) := by
  have c12 : w.cell? ⟨q, 12, none⟩ = some (.int .i64 st.h.at_) := S.is.cell 12
  rw [hat] at c12
  have hlt := S.lt
  have hrow := S.row
  go_enter Tryz.func29, Tryz.ntmps29
  go_upto_region 2 with (go_at_call 75; refine (tThings q _).mono ?_; rintro e w1 ⟨rfl, T, hb⟩; replace S := S.keep hb)
  go_loopg [15] 12 (fun g y wr => ∃ i : Nat, i ≤ 12 ∧ g = 12 - i ∧ y = .int .i64 i ∧ At wr w.heap.size (thL q).toArray 94 ∧ Kq q st.pv w wr ∧ (i ≤ j → IAt wr B q st) ∧ (j < i → Ends B q st.pv w r (.returned (.tuple #[])) wr))
  case atStart => exact ⟨0, by omega, rfl, rfl, T, Kq.of_below hb, fun _ => S, fun h => absurd h (by omega)⟩
  case round =>
    obtain ⟨i, hi, rfl, rfl, T, K, SA, SE⟩ := hrel
    by_cases h12 : i = 12
    · subst h12
      go_wp2
      first | go_end0 | refine bodyPost_ret (results_none rfl _ _ _) rfl ?_
      exact SE hj
    · have hi2 : i < 12 := by omega
      have hr := th_at T i hi2
      go_upto_region 4 with (first
        | (refine wpList_load_mid rfl 94 (.tmp 17) rfl w.heap.size (i * 2) rfl (thV q i) _ hr Tryz.underlying94 rfl infoTh ?_)
        | (refine newV (vs := thV q i) infoTh (thV_one q i) rfl (.tmp 4) (.tmp 18) rfl rfl rfl rfl ?_; intro w3 X hb3 hl3))
      have T3 := T.keep hb3
      have K3 := K.trans (Kq.of_below hb3)
      obtain ⟨b, hbb⟩ : ∃ b, Hid (wr.heap.size = b) := ⟨_, rfl⟩
      rw [hbb.out] at X
      have x0 : w3.cell? ⟨b, 0, none⟩ = some (.int .i64 (21 + i)) := X.cell 0
      have x1 : w3.cell? ⟨b, 1, none⟩ = some (.func (.func (thF.getD i 0)) #[.pointer (some ⟨q, 0, none⟩)] #[]) := X.cell 1
      rw [hbb.out]
      by_cases hij : i = j
      · have hij2 : Hid (i = j) := hij
        subst hij
        have S3 := (SA (Nat.le_refl _)).keep hb3
        have hq : w.heap.size ≠ q := by omega
        have hp : st.pv.ownBlock ≠ some w.heap.size := fun e => by have := (hrow _ e).2; omega
        clear hr T SA SE
        obtain ⟨f, hf⟩ : ∃ f, Hid (thF.getD i 0 = f) := ⟨_, rfl⟩
        rw [hf.out] at HC HN x1
        clear X
        cases r with
        | none =>
          go_wp2_with ((with_reducible refine (HN _ S3).mono ?_); intro e w4 hE; obtain ⟨rfl, K4⟩ := hE)
          exact ⟨rfl, rfl, K3.trans K4⟩
        | some t =>
          go_wp2_with ((with_reducible refine (HN _ S3).mono ?_); intro e w4 hE; obtain ⟨rfl, S4, K4⟩ := hE)
          go_roundg (12 - (i + 1))
          case rel => exact ⟨i + 1, by omega, rfl, by rw [Int.natCast_add]; rfl, T3.kq K4 hq hp, K3.trans K4, fun h => absurd h (by omega), fun _ => ⟨rfl, S4, K3.trans K4⟩⟩
          case measure => omega
      · have h1 : ((21 + (i : Int)) == 21 + (j : Int)) = false := by simp; omega
        have h2 : ¬ (i : Int) = (j : Int) := by omega
        go_wp2
        go_roundg (12 - (i + 1))
        case rel => exact ⟨i + 1, by omega, rfl, by rw [Int.natCast_add]; rfl, T3, K3, fun h => (SA (by omega)).keep hb3, fun h => by
          have h3 := SE (by omega)
          cases r with
          | none => exact absurd h3.1 (by simp)
          | some t => exact ⟨rfl, h3.2.1.keep hb3, h3.2.2.trans (Kq.of_below hb3)⟩⟩
        case measure => omega
def I8.snext (st : I8) : Option I8 :=
  if st.h.at_ = 21 then st.aimO else if st.h.at_ = 22 then st.nodeO else if st.h.at_ = 23 then st.topO else if st.h.at_ = 24 then st.joinO else if st.h.at_ = 25 then st.peekO else if st.h.at_ = 26 then st.guardO else if st.h.at_ = 27 then st.againO else if st.h.at_ = 28 then st.nextO else if st.h.at_ = 29 then st.lookO else if st.h.at_ = 30 then st.keepO else if st.h.at_ = 31 then st.pickO else st.retireO
theorem tNextAll (B q : Nat) (st : I8) (w : World) (S : IAt w B q st) (hn : st.n ≤ 16777216) (hs : 0 ≤ st.h.seen ∧ st.h.seen ≤ 18446744073709551615) (ha : aOk st.p st.s st.l st.c st.k st.n = true) (bd : ∀ x ∈ st.xs, 0 ≤ x ∧ x ≤ 18446744073709551615) (hat : 21 ≤ st.h.at_ ∧ st.h.at_ ≤ 32) :
    Calls Tryz.prog 29 #[.pointer (some ⟨q, 0, none⟩)] w (Ends B q st.pv w st.snext) := by
  unfold I8.snext
  by_cases k0 : st.h.at_ = 21
  · rw [if_pos k0]; exact tLoop B q st w S 0 (by omega) (by omega) _ (fun w => goes_in (f := 116) Tryz.func116 (by kernel_rfl) (by kernel_rfl) _ w) (fun w1 S1 => tAim B q st w1 S1 hn hs ha bd)
  rw [if_neg k0]
  by_cases k1 : st.h.at_ = 22
  · rw [if_pos k1]; exact tLoop B q st w S 1 (by omega) (by omega) _ (fun w => goes_in (f := 117) Tryz.func117 (by kernel_rfl) (by kernel_rfl) _ w) (fun w1 S1 => tNode B q st w1 S1 hn hs ha bd)
  rw [if_neg k1]
  by_cases k2 : st.h.at_ = 23
  · rw [if_pos k2]; exact tLoop B q st w S 2 (by omega) (by omega) _ (fun w => goes_in (f := 118) Tryz.func118 (by kernel_rfl) (by kernel_rfl) _ w) (fun w1 S1 => tSee B q st w1 S1 hn hs ha bd)
  rw [if_neg k2]
  by_cases k3 : st.h.at_ = 24
  · rw [if_pos k3]; exact tLoop B q st w S 3 (by omega) (by omega) _ (fun w => goes_in (f := 119) Tryz.func119 (by kernel_rfl) (by kernel_rfl) _ w) (fun w1 S1 => tJoin B q st w1 S1 hn hs)
  rw [if_neg k3]
  by_cases k4 : st.h.at_ = 25
  · rw [if_pos k4]; exact tLoop B q st w S 4 (by omega) (by omega) _ (fun w => goes_in (f := 120) Tryz.func120 (by kernel_rfl) (by kernel_rfl) _ w) (fun w1 S1 => tPeek B q st w1 S1 hn hs ha bd)
  rw [if_neg k4]
  by_cases k5 : st.h.at_ = 26
  · rw [if_pos k5]; exact tLoop B q st w S 5 (by omega) (by omega) _ (fun w => goes_in (f := 121) Tryz.func121 (by kernel_rfl) (by kernel_rfl) _ w) (fun w1 S1 => tGuard B q st w1 S1 hn hs ha bd)
  rw [if_neg k5]
  by_cases k6 : st.h.at_ = 27
  · rw [if_pos k6]; exact tLoop B q st w S 6 (by omega) (by omega) _ (fun w => goes_in (f := 122) Tryz.func122 (by kernel_rfl) (by kernel_rfl) _ w) (fun w1 S1 => tAgain B q st w1 S1 hn hs ha bd)
  rw [if_neg k6]
  by_cases k7 : st.h.at_ = 28
  · rw [if_pos k7]; exact tLoop B q st w S 7 (by omega) (by omega) _ (fun w => goes_in (f := 123) Tryz.func123 (by kernel_rfl) (by kernel_rfl) _ w) (fun w1 S1 => tNext B q st w1 S1 hn hs ha bd)
  rw [if_neg k7]
  by_cases k8 : st.h.at_ = 29
  · rw [if_pos k8]; exact tLoop B q st w S 8 (by omega) (by omega) _ (fun w => goes_in (f := 124) Tryz.func124 (by kernel_rfl) (by kernel_rfl) _ w) (fun w1 S1 => tLook B q st w1 S1 hn hs ha bd)
  rw [if_neg k8]
  by_cases k9 : st.h.at_ = 30
  · rw [if_pos k9]; exact tLoop B q st w S 9 (by omega) (by omega) _ (fun w => goes_in (f := 125) Tryz.func125 (by kernel_rfl) (by kernel_rfl) _ w) (fun w1 S1 => tKeep B q st w1 S1 hn hs ha bd)
  rw [if_neg k9]
  by_cases k10 : st.h.at_ = 31
  · rw [if_pos k10]; exact tLoop B q st w S 10 (by omega) (by omega) _ (fun w => goes_in (f := 126) Tryz.func126 (by kernel_rfl) (by kernel_rfl) _ w) (fun w1 S1 => tPick B q st w1 S1 hn hs)
  rw [if_neg k10]
  exact tLoop B q st w S 11 (by omega) (by omega) _ (fun w => goes_in (f := 127) Tryz.func127 (by kernel_rfl) (by kernel_rfl) _ w) (fun w1 S1 => tRetire B q st w1 S1 hn hs ha bd)
end Go.Proofs.YtdebjfgflldpjaaGreat
namespace Go.Proofs.YtdebjfgflldpjaaGreat
open Go.RowKit
set_option maxRecDepth 100000
set_option linter.unusedVariables false
set_option linter.unusedSimpArgs false
def S8.peek10 (st : S8) : S8 := if uI (st.rd (st.root 2)) = 0 then (st.rd9 (st.root 2)).reply 3 0 else { (st.rd9 (st.root 2)) with h := { (st.rd9 (st.root 2)).h with block := uI (st.rd (st.root 2)), at_ := 26 } }
set_option maxHeartbeats 8000000 in
theorem g10_25 (b : Nat) (st : S8) (w : World) (S : SAt w b st) (hn : st.n ≤ 16777216) (hat : st.h.at_ = 25) :
    Calls Tryz.prog 28 #[.pointer (some ⟨b, 0, none⟩)] w fun e w' => e = .returned (.tuple #[]) ∧ SAt w' b st.peek10 ∧ K2 b st.g w w' := by
  obtain ⟨a, hA⟩ : ∃ a, Hid (st.root 2 = a) := ⟨_, rfl⟩
  obtain ⟨T, hT⟩ : ∃ T, Hid (st.rdS a = T) := ⟨_, rfl⟩
  have hTg : T.g = st.g := by rw [← hT.out, S8.rdS_g]
  obtain ⟨x, hx⟩ : ∃ x, Hid (st.rd a = x) := ⟨_, rfl⟩
  have hF : Hid (st.peek10 = if uI x = 0 then S8.reply { T with h := { T.h with seen := x } } 3 0 else { T with h := { T.h with seen := x, block := uI x, at_ := 26 } }) := by unfold Hid S8.peek10 S8.rd9; rw [hA.out, hT.out, hx.out]
  have c13 : w.cell? ⟨b, 13, none⟩ = some (.int .i64 st.h.at_) := S.c_h_At
  rw [hat] at c13
  have hhat : Hid (st.h.at_ = 25) := hat
  clear hat
  go_enter Tryz.func28, Tryz.ntmps28
  go_upto_region 3 with fail
  go_upto_region 4 with (first
    | (go_at_call 70; refine (sl10Root b st _ _ S).mono ?_; rintro e w2 ⟨rfl, hb⟩; rw [hA.out]; replace S := S.keep hb; have k1 : K2 b st.g _ w2 := K2.of_below hb; clear hb)
    | (go_at_call 35; refine (sl8Read b st _ _ S hn).mono ?_; rintro e w3 ⟨rfl, S3, k3, hbd⟩; replace k1 := k1.trans k3; rw [hT.out] at S3; rw [hx.out] at hbd; rw [hx.out]; clear k3; have c23 : w3.cell? ⟨b, 23, none⟩ = some (.int .u64 T.h.seen) := S3.c_h_Seen; have f23 := S3.fz 23))
  change Code.wp _ _ _ _ (w3.setCell ⟨b, 23, none⟩ (.int .u64 x))
  have S4 : SAt (w3.setCell ⟨b, 23, none⟩ (.int .u64 x)) b { T with h := { T.h with seen := x } } := S3.put (st' := { T with h := { T.h with seen := x } }) 23 _ rfl ⟨rfl, rfl, rfl, rfl, rfl, rfl⟩
  replace k1 := k1.set 23 (.int .u64 x)
  generalize w3.setCell ⟨b, 23, none⟩ (.int .u64 x) = w4 at *
  clear c13 c23 f23 S3 S
  have c23 : w4.cell? ⟨b, 23, none⟩ = some (.int .u64 x) := S4.c_h_Seen
  have hUg : (S8.g { T with h := { T.h with seen := x } }) = st.g := hTg
  by_cases h0 : uI x = 0
  · go_wp2_with (first
      | (go_at_call 38; refine (sIndex _ hbd.1 hbd.2 _).mono ?_; rintro e w5 ⟨rfl, hb⟩; rw [h0]; replace S4 := S4.keep hb; replace k1 := k1.trans (K2.of_below hb); clear hb)
      | (go_at_call 39; refine (sl8Reply b _ 3 0 _ S4).mono ?_; rintro e w6 ⟨rfl, S6, k6⟩; rw [hUg] at k6))
    first | go_end0 | refine bodyPost_ret (results_none rfl _ _ _) rfl ?_
    rw [hF.out, if_pos h0]
    exact ⟨rfl, S6, k1.trans k6⟩
  · have h0b : (uI x == 0) = false := by simp [h0]
    go_upto_region 7 with (go_at_call 38; refine (sIndex _ hbd.1 hbd.2 _).mono ?_; rintro e w5 ⟨rfl, hb⟩; replace S4 := S4.keep hb; replace k1 := k1.trans (K2.of_below hb); clear hb)
    have c28 : w5.cell? ⟨b, 28, none⟩ = some (.int .i64 T.h.block) := S4.c_h_Block
    have f28 := S4.fz 28
    have c13 : w5.cell? ⟨b, 13, none⟩ = some (.int .i64 T.h.at_) := S4.c_h_At
    have f13 := S4.fz 13
    go_wp2
    first | go_end0 | refine bodyPost_ret (results_none rfl _ _ _) rfl ?_
    rw [hF.out, if_neg h0]
    exact ⟨rfl, (S4.put (st' := { T with h := { T.h with seen := x, block := uI x } }) 28 _ rfl ⟨rfl, rfl, rfl, rfl, rfl, rfl⟩).put 13 _ rfl ⟨rfl, rfl, rfl, rfl, rfl, rfl⟩, (k1.set _ _).set _ _⟩
set_option maxHeartbeats 8000000 in
theorem g10_26 (b : Nat) (st : S8) (w : World) (S : SAt w b st) (hn : st.n ≤ 16777216) (hat : st.h.at_ = 26) :
    Calls Tryz.prog 28 #[.pointer (some ⟨b, 0, none⟩)] w fun e w' => e = .returned (.tuple #[]) ∧ SAt w' b (((st.wrd 0 0 st.h.block 0).wr (st.slot 5) (wv 0 0 st.h.block 0)).to 27) ∧ K2 b st.g w w' := by
  obtain ⟨T, hT⟩ : ∃ T, Hid (((st.wrd 0 0 st.h.block 0).wr (st.slot 5) (wv 0 0 st.h.block 0)) = T) := ⟨_, rfl⟩
  have hTh : T.h = st.h := by rw [← hT.out, S8.wr_h, S8.wrd_h]
  have hTg : T.g = st.g := by rw [← hT.out, S8.wr_g, S8.wrd_g]
  have c13 : w.cell? ⟨b, 13, none⟩ = some (.int .i64 st.h.at_) := S.c_h_At
  rw [hat] at c13
  have hhat : Hid (st.h.at_ = 26) := hat
  clear hat
  go_enter Tryz.func28, Tryz.ntmps28
  go_upto_region 10 with fail
  have S1 := S.drew
  have k1 : K2 b st.g w w.drew := (K2.refl _ _ _).drew
  have c28 : w.drew.cell? ⟨b, 28, none⟩ = some (.int .i64 st.h.block) := S1.c_h_Block
  clear c13
  go_region_held3 (fun w' => w'.cell? ⟨b, 28, none⟩ = some (.int .i64 st.h.block)) (go_keep)
    (first
    | (go_at_call 71; refine (sl8Slot b st 5 _ S1).mono ?_; rintro e w2 ⟨rfl, hb⟩; replace S1 := S1.keep hb; replace k1 := k1.trans (K2.of_below hb); clear hb; clear c28; have c28 : w2.cell? ⟨b, 28, none⟩ = some (.int .i64 st.h.block) := (by have hq := S1.c_h_Block; exact hq))
    | (go_at_call 43; refine (sl8Word b st _ _ _ _ _ S1).mono ?_; rintro e w2 ⟨rfl, S2, k2⟩; replace k1 := k1.trans k2; clear k2 S1; clear c28; have c28 : w2.cell? ⟨b, 28, none⟩ = some (.int .i64 st.h.block) := (by have hq := S2.c_h_Block; rw [S8.wrd_h] at hq; exact hq))
    | (go_at_call 44; refine (sl8Write b _ _ _ _ S2 (by rw [S8.wrd_n]; exact hn) (wv_bd _ _ _ _)).mono ?_; rintro e w3 ⟨rfl, S3, k2⟩; rw [S8.wrd_g] at k2; replace k1 := k1.trans k2; clear k2 S2; clear c28; have c28 : w3.cell? ⟨b, 28, none⟩ = some (.int .i64 st.h.block) := (by have hq := S3.c_h_Block; rw [S8.wr_h, S8.wrd_h] at hq; exact hq)))
  rw [hT.out] at S3
  have c13 : w3.cell? ⟨b, 13, none⟩ = some (.int .i64 T.h.at_) := S3.c_h_At
  have f13 := S3.fz 13
  go_wp2
  first | go_end0 | refine bodyPost_ret (results_none rfl _ _ _) rfl ?_
  rw [hT.out]
  exact ⟨rfl, S3.to _, k1.set _ _⟩
set_option maxHeartbeats 8000000 in
theorem g10_30 (b : Nat) (st : S8) (w : World) (S : SAt w b st) (hn : st.n ≤ 16777216) (hat : st.h.at_ = 30) :
    Calls Tryz.prog 28 #[.pointer (some ⟨b, 0, none⟩)] w fun e w' => e = .returned (.tuple #[]) ∧ SAt w' b (((st.wrd 0 0 st.h.value 0).wr (st.slot 3) (wv 0 0 st.h.value 0)).to 31) ∧ K2 b st.g w w' := by
  obtain ⟨T, hT⟩ : ∃ T, Hid (((st.wrd 0 0 st.h.value 0).wr (st.slot 3) (wv 0 0 st.h.value 0)) = T) := ⟨_, rfl⟩
  have hTh : T.h = st.h := by rw [← hT.out, S8.wr_h, S8.wrd_h]
  have hTg : T.g = st.g := by rw [← hT.out, S8.wr_g, S8.wrd_g]
  have c13 : w.cell? ⟨b, 13, none⟩ = some (.int .i64 st.h.at_) := S.c_h_At
  rw [hat] at c13
  have hhat : Hid (st.h.at_ = 30) := hat
  clear hat
  go_enter Tryz.func28, Tryz.ntmps28
  go_upto_region 24 with fail
  have S1 := S.drew
  have k1 : K2 b st.g w w.drew := (K2.refl _ _ _).drew
  have c31 : w.drew.cell? ⟨b, 31, none⟩ = some (.int .i64 st.h.value) := S1.c_h_Value
  clear c13
  go_region_held3 (fun w' => w'.cell? ⟨b, 31, none⟩ = some (.int .i64 st.h.value)) (go_keep)
    (first
    | (go_at_call 71; refine (sl8Slot b st 3 _ S1).mono ?_; rintro e w2 ⟨rfl, hb⟩; replace S1 := S1.keep hb; replace k1 := k1.trans (K2.of_below hb); clear hb; clear c31; have c31 : w2.cell? ⟨b, 31, none⟩ = some (.int .i64 st.h.value) := (by have hq := S1.c_h_Value; exact hq))
    | (go_at_call 43; refine (sl8Word b st _ _ _ _ _ S1).mono ?_; rintro e w2 ⟨rfl, S2, k2⟩; replace k1 := k1.trans k2; clear k2 S1; clear c31; have c31 : w2.cell? ⟨b, 31, none⟩ = some (.int .i64 st.h.value) := (by have hq := S2.c_h_Value; rw [S8.wrd_h] at hq; exact hq))
    | (go_at_call 44; refine (sl8Write b _ _ _ _ S2 (by rw [S8.wrd_n]; exact hn) (wv_bd _ _ _ _)).mono ?_; rintro e w3 ⟨rfl, S3, k2⟩; rw [S8.wrd_g] at k2; replace k1 := k1.trans k2; clear k2 S2; clear c31; have c31 : w3.cell? ⟨b, 31, none⟩ = some (.int .i64 st.h.value) := (by have hq := S3.c_h_Value; rw [S8.wr_h, S8.wrd_h] at hq; exact hq)))
  rw [hT.out] at S3
  have c13 : w3.cell? ⟨b, 13, none⟩ = some (.int .i64 T.h.at_) := S3.c_h_At
  have f13 := S3.fz 13
  go_wp2
  first | go_end0 | refine bodyPost_ret (results_none rfl _ _ _) rfl ?_
  rw [hT.out]
  exact ⟨rfl, S3.to _, k1.set _ _⟩
def S8.kept10 (T : S8) : S8 := { T with h := { T.h with kept := wrap64 (T.h.kept + 1), at_ := 2 } }
set_option maxHeartbeats 8000000 in
theorem g10_32 (b : Nat) (st : S8) (w : World) (S : SAt w b st) (hn : st.n ≤ 16777216) (hat : st.h.at_ = 32) :
    Calls Tryz.prog 28 #[.pointer (some ⟨b, 0, none⟩)] w fun e w' => e = .returned (.tuple #[]) ∧ SAt w' b ((st.wrd 3 st.h.for_ 0 0).wr (st.blk 0) (wv 3 st.h.for_ 0 0)).kept10 ∧ K2 b st.g w w' := by
  obtain ⟨T, hT⟩ : ∃ T, Hid (((st.wrd 3 st.h.for_ 0 0).wr (st.blk 0) (wv 3 st.h.for_ 0 0)) = T) := ⟨_, rfl⟩
  have hTh : T.h = st.h := by rw [← hT.out, S8.wr_h, S8.wrd_h]
  have hTg : T.g = st.g := by rw [← hT.out, S8.wr_g, S8.wrd_g]
  have c13 : w.cell? ⟨b, 13, none⟩ = some (.int .i64 st.h.at_) := S.c_h_At
  rw [hat] at c13
  have hhat : Hid (st.h.at_ = 32) := hat
  clear hat
  go_enter Tryz.func28, Tryz.ntmps28
  go_upto_region 29 with fail
  have S1 := S.drew
  have k1 : K2 b st.g w w.drew := (K2.refl _ _ _).drew
  have c19 : w.drew.cell? ⟨b, 19, none⟩ = some (.int .i64 st.h.for_) := S1.c_h_For
  clear c13
  go_region_held3 (fun w' => w'.cell? ⟨b, 19, none⟩ = some (.int .i64 st.h.for_)) (go_keep)
    (first
    | (go_at_call 40; refine (sl8Block b st 0 _ S1).mono ?_; rintro e w2 ⟨rfl, hb⟩; replace S1 := S1.keep hb; replace k1 := k1.trans (K2.of_below hb); clear hb; clear c19; have c19 : w2.cell? ⟨b, 19, none⟩ = some (.int .i64 st.h.for_) := (by have hq := S1.c_h_For; exact hq))
    | (go_at_call 43; refine (sl8Word b st _ _ _ _ _ S1).mono ?_; rintro e w2 ⟨rfl, S2, k2⟩; replace k1 := k1.trans k2; clear k2 S1; clear c19; have c19 : w2.cell? ⟨b, 19, none⟩ = some (.int .i64 st.h.for_) := (by have hq := S2.c_h_For; rw [S8.wrd_h] at hq; exact hq))
    | (go_at_call 44; refine (sl8Write b _ _ _ _ S2 (by rw [S8.wrd_n]; exact hn) (wv_bd _ _ _ _)).mono ?_; rintro e w3 ⟨rfl, S3, k2⟩; rw [S8.wrd_g] at k2; replace k1 := k1.trans k2; clear k2 S2; clear c19; have c19 : w3.cell? ⟨b, 19, none⟩ = some (.int .i64 st.h.for_) := (by have hq := S3.c_h_For; rw [S8.wr_h, S8.wrd_h] at hq; exact hq)))
  rw [hT.out] at S3
  clear hTh
  have c13 : w3.cell? ⟨b, 13, none⟩ = some (.int .i64 T.h.at_) := S3.c_h_At
  have f13 := S3.fz 13
  have c34 : w3.cell? ⟨b, 34, none⟩ = some (.int .i64 T.h.kept) := S3.c_h_Kept
  have f34 := S3.fz 34
  go_wp2
  first | go_end0 | refine bodyPost_ret (results_none rfl _ _ _) rfl ?_
  rw [hT.out]
  exact ⟨rfl, (S3.put (st' := { T with h := { T.h with kept := wrap64 (T.h.kept + 1) } }) 34 _ rfl ⟨rfl, rfl, rfl, rfl, rfl, rfl⟩).put 13 _ rfl ⟨rfl, rfl, rfl, rfl, rfl, rfl⟩, (k1.set _ _).set _ _⟩
def S8.next10 (st : S8) : S8 := { (st.rdS (st.blk 1)) with h := { (st.rdS (st.blk 1)).h with next := uI (st.rd (st.blk 1)), from_ := (st.rdS (st.blk 1)).h.block, at_ := 29 } }
set_option maxHeartbeats 8000000 in
theorem g10_28 (b : Nat) (st : S8) (w : World) (S : SAt w b st) (hn : st.n ≤ 16777216) (hat : st.h.at_ = 28) :
    Calls Tryz.prog 28 #[.pointer (some ⟨b, 0, none⟩)] w fun e w' => e = .returned (.tuple #[]) ∧ SAt w' b st.next10 ∧ K2 b st.g w w' := by
  obtain ⟨T, hT⟩ : ∃ T, Hid (st.rdS (st.blk 1) = T) := ⟨_, rfl⟩
  obtain ⟨x, hx⟩ : ∃ x, Hid (st.rd (st.blk 1) = x) := ⟨_, rfl⟩
  have hF : Hid (st.next10 = { T with h := { T.h with next := uI x, from_ := T.h.block, at_ := 29 } }) := by unfold Hid S8.next10; rw [hT.out, hx.out]
  have c13 : w.cell? ⟨b, 13, none⟩ = some (.int .i64 st.h.at_) := S.c_h_At
  rw [hat] at c13
  have hhat : Hid (st.h.at_ = 28) := hat
  clear hat
  go_enter Tryz.func28, Tryz.ntmps28
  go_upto_region 17 with fail
  go_upto_region 18 with (first
    | (go_at_call 40; refine (sl8Block b st _ _ S).mono ?_; rintro e w2 ⟨rfl, hb⟩; replace S := S.keep hb; have k1 : K2 b st.g w w2 := K2.of_below hb; clear hb)
    | (go_at_call 35; refine (sl8Read b st _ _ S hn).mono ?_; rintro e w3 ⟨rfl, S3, k3, hbd⟩; replace k1 := k1.trans k3; rw [hT.out] at S3; rw [hx.out] at hbd; rw [hx.out]; clear k3)
    | (go_at_call 38; refine (sIndex _ hbd.1 hbd.2 _).mono ?_; rintro e w4 ⟨rfl, hb⟩; replace S3 := S3.keep hb; replace k1 := k1.trans (K2.of_below hb); have c30 : w4.cell? ⟨b, 30, none⟩ = some (.int .i64 T.h.next) := S3.c_h_Next; have f30 := S3.fz 30))
  clear c13
  have c13 : w4.cell? ⟨b, 13, none⟩ = some (.int .i64 T.h.at_) := S3.c_h_At
  have f13 := S3.fz 13
  have c28 : w4.cell? ⟨b, 28, none⟩ = some (.int .i64 T.h.block) := S3.c_h_Block
  have c29 : w4.cell? ⟨b, 29, none⟩ = some (.int .i64 T.h.from_) := S3.c_h_From
  have f29 := S3.fz 29
  go_wp2
  first | go_end0 | refine bodyPost_ret (results_none rfl _ _ _) rfl ?_
  rw [hF.out]
  exact ⟨rfl, ((S3.put (st' := { T with h := { T.h with next := uI x } }) 30 _ rfl ⟨rfl, rfl, rfl, rfl, rfl, rfl⟩).put (st' := { T with h := { T.h with next := uI x, from_ := T.h.block } }) 29 _ rfl ⟨rfl, rfl, rfl, rfl, rfl, rfl⟩).put 13 _ rfl ⟨rfl, rfl, rfl, rfl, rfl, rfl⟩, ((k1.set _ _).set _ _).set _ _⟩
def S8.look10 (st : S8) : Int := vBlock st.p st.s st.l st.c st.k st.h.from_ 2
set_option maxHeartbeats 16000000 in
theorem g10_29 (b : Nat) (st : S8) (w : World) (S : SAt w b st) (hn : st.n ≤ 16777216) (hat : st.h.at_ = 29) :
    Calls Tryz.prog 28 #[.pointer (some ⟨b, 0, none⟩)] w fun e w' => e = .returned (.tuple #[]) ∧ SAt w' b ({ (st.rdS st.look10) with h := { (st.rdS st.look10).h with value := uI (st.rd st.look10), at_ := 30 } } : S8) ∧ K2 b st.g w w' := by
  obtain ⟨a, hA⟩ : ∃ a, Hid (vBlock st.p st.s st.l st.c st.k st.h.from_ 2 = a) := ⟨_, rfl⟩
  have hA2 : st.look10 = a := hA.out
  obtain ⟨T, hT⟩ : ∃ T, Hid (st.rdS a = T) := ⟨_, rfl⟩
  have hTh : T.h = st.h := by rw [← hT.out, S8.rdS_h]
  have hTp : T.p = st.p ∧ T.s = st.s ∧ T.l = st.l ∧ T.c = st.c ∧ T.k = st.k := by rw [← hT.out]; exact ⟨S8.rdS_p _ _, S8.rdS_s _ _, S8.rdS_l _ _, S8.rdS_c _ _, S8.rdS_k _ _⟩
  obtain ⟨t0, t1, t2, t3, t4⟩ := hTp
  obtain ⟨x, hx⟩ : ∃ x, Hid (st.rd a = x) := ⟨_, rfl⟩
  have hF : Hid (({ (st.rdS st.look10) with h := { (st.rdS st.look10).h with value := uI (st.rd st.look10), at_ := 30 } } : S8) = { T with h := { T.h with value := uI x, at_ := 30 } }) := by unfold Hid; rw [hA2, hT.out, hx.out]
  clear hA2
  obtain ⟨d0, d1, d2, d3, d4⟩ := (S.drew).plan
  have c29 : w.drew.cell? ⟨b, 29, none⟩ = some (.int .i64 st.h.from_) := (S.drew).c_h_From
  have c13 : w.cell? ⟨b, 13, none⟩ = some (.int .i64 st.h.at_) := S.c_h_At
  rw [hat] at c13
  have hhat : Hid (st.h.at_ = 29) := hat
  clear hat
  go_enter Tryz.func28, Tryz.ntmps28
  go_upto_region 21 with fail
  clear c13
  have S1 := S.drew
  have k1 : K2 b st.g w w.drew := (K2.refl _ _ _).drew
  clear S
  go_region_held3 (fun w' => w'.cell? ⟨b, 0, none⟩ = some (.int .i64 st.p) ∧ w'.cell? ⟨b, 1, none⟩ = some (.int .i64 st.s) ∧ w'.cell? ⟨b, 2, none⟩ = some (.int .i64 st.l) ∧ w'.cell? ⟨b, 3, none⟩ = some (.int .i64 st.c) ∧ w'.cell? ⟨b, 4, none⟩ = some (.int .i64 st.k) ∧ w'.cell? ⟨b, 29, none⟩ = some (.int .i64 st.h.from_)) (first | go_keep | (refine ⟨?_, ?_, ?_, ?_, ?_, ?_⟩ <;> (simp [go_sem]; assumption)))
    (first
    | (go_at_call 72; refine (sBlock _ _ _ _ _ _ _ _).mono ?_; rintro e w2 ⟨rfl, hb⟩; rw [hA.out]; replace S1 := S1.keep hb; replace k1 := k1.trans (K2.of_below hb); clear hb; clear d0 d1 d2 d3 d4 c29; obtain ⟨d0, d1, d2, d3, d4⟩ := S1.plan; have c29 := S1.c_h_From)
    | (go_at_call 35; refine (sl8Read b st a _ S1 hn).mono ?_; rintro e w3 ⟨rfl, S3, k3, hbd⟩; replace k1 := k1.trans k3; rw [hT.out] at S3; rw [hx.out] at hbd; rw [hx.out]; clear k3 S1; clear d0 d1 d2 d3 d4 c29; obtain ⟨d0, d1, d2, d3, d4⟩ := S3.plan; have c29 := S3.c_h_From; rw [t0] at d0; rw [t1] at d1; rw [t2] at d2; rw [t3] at d3; rw [t4] at d4; rw [hTh] at c29)
    | (go_at_call 38; refine (sIndex _ hbd.1 hbd.2 _).mono ?_; rintro e w4 ⟨rfl, hb⟩; replace S3 := S3.keep hb; replace k1 := k1.trans (K2.of_below hb); clear hb; clear d0 d1 d2 d3 d4 c29; obtain ⟨d0, d1, d2, d3, d4⟩ := S3.plan; have c29 := S3.c_h_From; rw [t0] at d0; rw [t1] at d1; rw [t2] at d2; rw [t3] at d3; rw [t4] at d4; rw [hTh] at c29; have c31 : w4.cell? ⟨b, 31, none⟩ = some (.int .i64 T.h.value) := S3.c_h_Value; have f31 := S3.fz 31))
  have c13 : w4.cell? ⟨b, 13, none⟩ = some (.int .i64 T.h.at_) := S3.c_h_At
  have f13 := S3.fz 13
  go_wp2
  first | go_end0 | refine bodyPost_ret (results_none rfl _ _ _) rfl ?_
  rw [hF.out]
  exact ⟨rfl, (S3.put (st' := { T with h := { T.h with value := uI x } }) 31 _ rfl ⟨rfl, rfl, rfl, rfl, rfl, rfl⟩).put 13 _ rfl ⟨rfl, rfl, rfl, rfl, rfl, rfl⟩, (k1.set _ _).set _ _⟩
def S8.again10 (st : S8) : S8 := if (st.to 25).rd ((st.to 25).root 2) = st.h.seen then ((st.to 25).rdS ((st.to 25).root 2)).to 28 else (st.to 25).rdS ((st.to 25).root 2)
set_option maxHeartbeats 8000000 in
theorem g10_27 (b : Nat) (st : S8) (w : World) (S : SAt w b st) (hn : st.n ≤ 16777216) (hat : st.h.at_ = 27) :
    Calls Tryz.prog 28 #[.pointer (some ⟨b, 0, none⟩)] w fun e w' => e = .returned (.tuple #[]) ∧ SAt w' b st.again10 ∧ K2 b st.g w w' := by
  obtain ⟨a, hA⟩ : ∃ a, Hid ((st.to 25).root 2 = a) := ⟨_, rfl⟩
  obtain ⟨T, hT⟩ : ∃ T, Hid ((st.to 25).rdS a = T) := ⟨_, rfl⟩
  have hTs : T.h.seen = st.h.seen := by rw [← hT.out, S8.rdS_h]; rfl
  obtain ⟨x, hx⟩ : ∃ x, Hid ((st.to 25).rd a = x) := ⟨_, rfl⟩
  have hF : Hid (st.again10 = if x = st.h.seen then T.to 28 else T) := by unfold Hid S8.again10; rw [hA.out, hT.out, hx.out]
  have S1 : SAt (w.setCell ⟨b, 13, none⟩ (.int .i64 25)) b (st.to 25) := S.to 25
  have k1 : K2 b st.g w (w.setCell ⟨b, 13, none⟩ (.int .i64 25)) := (K2.refl _ _ _).set _ _
  have f13 := S.fz 13
  by_cases hk : x = st.h.seen
  · skip
    have h1 : (x == st.h.seen) = true := by simp [hk]
    have h2 : x = st.h.seen := hk
    have c13 : w.cell? ⟨b, 13, none⟩ = some (.int .i64 st.h.at_) := S.c_h_At
    rw [hat] at c13
    have hhat : Hid (st.h.at_ = 27) := hat
    clear hat
    go_enter Tryz.func28, Tryz.ntmps28
    go_upto_region 14 with fail
    clear c13 f13
    have c23 : (w.setCell ⟨b, 13, none⟩ (.int .i64 25)).drew.cell? ⟨b, 23, none⟩ = some (.int .u64 st.h.seen) := S1.drew.c_h_Seen
    have S1d := S1.drew
    have k1d := k1.drew
    clear S1 k1 S
    go_region_held3 (fun w' => w'.cell? ⟨b, 23, none⟩ = some (.int .u64 st.h.seen)) (go_keep)
      (first
      | (go_at_call 70; refine (sl10Root b (st.to 25) _ _ S1d).mono ?_; rintro e w2 ⟨rfl, hb⟩; rw [hA.out]; replace S1d := S1d.keep hb; replace k1d := k1d.trans (K2.of_below hb); clear hb; clear c23; have c23 : w2.cell? ⟨b, 23, none⟩ = some (.int .u64 st.h.seen) := S1d.c_h_Seen)
      | (go_at_call 35; refine (sl8Read b (st.to 25) a _ S1d hn).mono ?_; rintro e w3 ⟨rfl, S3, k3, hbd⟩; replace k1d := k1d.trans k3; rw [hT.out] at S3; rw [hx.out]; clear k3 S1d c23; have c23 : w3.cell? ⟨b, 23, none⟩ = some (.int .u64 st.h.seen) := by (rw [← hTs]; exact S3.c_h_Seen)))
    have c13 : w3.cell? ⟨b, 13, none⟩ = some (.int .i64 T.h.at_) := S3.c_h_At
    have f13 := S3.fz 13
    go_wp2
    first | go_end0 | refine bodyPost_ret (results_none rfl _ _ _) rfl ?_
    rw [hF.out, if_pos hk]
    exact ⟨rfl, S3.to _, k1d.set _ _⟩
  · skip
    have h1 : (x == st.h.seen) = false := by simp [hk]
    have h2 : ¬ x = st.h.seen := hk
    have c13 : w.cell? ⟨b, 13, none⟩ = some (.int .i64 st.h.at_) := S.c_h_At
    rw [hat] at c13
    have hhat : Hid (st.h.at_ = 27) := hat
    clear hat
    go_enter Tryz.func28, Tryz.ntmps28
    go_upto_region 14 with fail
    clear c13 f13
    have c23 : (w.setCell ⟨b, 13, none⟩ (.int .i64 25)).drew.cell? ⟨b, 23, none⟩ = some (.int .u64 st.h.seen) := S1.drew.c_h_Seen
    have S1d := S1.drew
    have k1d := k1.drew
    clear S1 k1 S
    go_region_held3 (fun w' => w'.cell? ⟨b, 23, none⟩ = some (.int .u64 st.h.seen)) (go_keep)
      (first
      | (go_at_call 70; refine (sl10Root b (st.to 25) _ _ S1d).mono ?_; rintro e w2 ⟨rfl, hb⟩; rw [hA.out]; replace S1d := S1d.keep hb; replace k1d := k1d.trans (K2.of_below hb); clear hb; clear c23; have c23 : w2.cell? ⟨b, 23, none⟩ = some (.int .u64 st.h.seen) := S1d.c_h_Seen)
      | (go_at_call 35; refine (sl8Read b (st.to 25) a _ S1d hn).mono ?_; rintro e w3 ⟨rfl, S3, k3, hbd⟩; replace k1d := k1d.trans k3; rw [hT.out] at S3; rw [hx.out]; clear k3 S1d c23; have c23 : w3.cell? ⟨b, 23, none⟩ = some (.int .u64 st.h.seen) := by (rw [← hTs]; exact S3.c_h_Seen)))
    have c13 : w3.cell? ⟨b, 13, none⟩ = some (.int .i64 T.h.at_) := S3.c_h_At
    have f13 := S3.fz 13
    go_wp2
    first | go_end0 | refine bodyPost_ret (results_none rfl _ _ _) rfl ?_
    rw [hF.out, if_neg hk]
    exact ⟨rfl, S3, k1d⟩
end Go.Proofs.YtdebjfgflldpjaaGreat
namespace Go.Proofs.YtdebjfgflldpjaaGreat
open Go.RowKit
set_option maxRecDepth 100000
set_option linter.unusedVariables false
set_option linter.unusedSimpArgs false
def S8.ret10 (u : S8) (r o : Int) : S8 := { u with h := { u.h with reply := r, out := o } }
theorem ins_Value (X : S8) (a x d g b : Int) : (X.install a x d g b).h.value = X.h.value := by simp only [S8.install, S8.u_Addr, S8.u_Put, S8.u_Does, S8.u_Good, S8.u_Bad, S8.u_At, S8.uh_h]
theorem ins_g (X : S8) (a x d g b : Int) : (X.install a x d g b).g = X.g := by simp only [S8.install, S8.u_Addr, S8.u_Put, S8.u_Does, S8.u_Good, S8.u_Bad, S8.u_At, S8.uh_g]
def S8.aim10 (st : S8) : S8 := (st.intend (if st.h.code = 8 then 5 else 3) st.h.block).to 22
set_option maxHeartbeats 8000000 in
theorem g10_21 (b : Nat) (st : S8) (w : World) (S : SAt w b st) (hn : st.n ≤ 16777216) (hat : st.h.at_ = 21) :
    Calls Tryz.prog 74 #[.pointer (some ⟨b, 0, none⟩)] w fun e w' => e = .returned (.tuple #[]) ∧ SAt w' b st.aim10 ∧ K2 b st.g w w' := by
  unfold S8.aim10
  have c28 : w.cell? ⟨b, 28, none⟩ = some (.int .i64 st.h.block) := S.c_h_Block
  have c14 : w.cell? ⟨b, 14, none⟩ = some (.int .i64 st.h.code) := S.c_h_Code
  by_cases hk : st.h.code = 8
  · rw [if_pos hk]
    rw [hk] at c14
    obtain ⟨T, hT⟩ : ∃ T, Hid (st.intend 5 st.h.block = T) := ⟨_, rfl⟩
    have c13 : w.cell? ⟨b, 13, none⟩ = some (.int .i64 st.h.at_) := S.c_h_At
    rw [hat] at c13
    have hhat : Hid (st.h.at_ = 21) := hat
    clear hat
    go_enter Tryz.func74, Tryz.ntmps74
    go_upto_region 5 with fail
    clear c13 c14
    go_upto_region 6 with (go_at_call 41; refine (sl8Intend b st 5 st.h.block _ S hn).mono ?_; rintro e w3 ⟨rfl, S3, k3⟩; rw [hT.out] at S3)
    have c13 : w3.cell? ⟨b, 13, none⟩ = some (.int .i64 T.h.at_) := S3.c_h_At
    have f13 := S3.fz 13
    go_wp2
    first | go_end0 | refine bodyPost_ret (results_none rfl _ _ _) rfl ?_
    rw [hT.out]
    exact ⟨rfl, S3.to _, k3.set _ _⟩
  · rw [if_neg hk]
    have hkb : (st.h.code == 8) = false := by simp [hk]
    obtain ⟨T, hT⟩ : ∃ T, Hid (st.intend 3 st.h.block = T) := ⟨_, rfl⟩
    have c13 : w.cell? ⟨b, 13, none⟩ = some (.int .i64 st.h.at_) := S.c_h_At
    rw [hat] at c13
    have hhat : Hid (st.h.at_ = 21) := hat
    clear hat
    go_enter Tryz.func74, Tryz.ntmps74
    go_upto_region 5 with fail
    clear c13 c14
    go_upto_region 6 with (go_at_call 41; refine (sl8Intend b st 3 st.h.block _ S hn).mono ?_; rintro e w3 ⟨rfl, S3, k3⟩; rw [hT.out] at S3)
    have c13 : w3.cell? ⟨b, 13, none⟩ = some (.int .i64 T.h.at_) := S3.c_h_At
    have f13 := S3.fz 13
    go_wp2
    first | go_end0 | refine bodyPost_ret (results_none rfl _ _ _) rfl ?_
    rw [hT.out]
    exact ⟨rfl, S3.to _, k3.set _ _⟩
def S8.node10 (st : S8) : S8 := if st.h.code = 8 then ((st.wrd 2 0 0 0).wr (st.blk 0) (wv 2 0 0 0)).to 33 else ((st.wrd 2 0 0 0).wr (st.blk 0) (wv 2 0 0 0)).to 23
set_option maxHeartbeats 8000000 in
theorem g10_22 (b : Nat) (st : S8) (w : World) (S : SAt w b st) (hn : st.n ≤ 16777216) (hat : st.h.at_ = 22) :
    Calls Tryz.prog 74 #[.pointer (some ⟨b, 0, none⟩)] w fun e w' => e = .returned (.tuple #[]) ∧ SAt w' b st.node10 ∧ K2 b st.g w w' := by
  obtain ⟨T, hT⟩ : ∃ T, Hid (((st.wrd 2 0 0 0).wr (st.blk 0) (wv 2 0 0 0)) = T) := ⟨_, rfl⟩
  have hTh : T.h = st.h := by rw [← hT.out, S8.wr_h, S8.wrd_h]
  have hTg : T.g = st.g := by rw [← hT.out, S8.wr_g, S8.wrd_g]
  have hF : Hid (st.node10 = if st.h.code = 8 then T.to 33 else T.to 23) := by unfold Hid S8.node10; rw [hT.out]
  have c13 : w.cell? ⟨b, 13, none⟩ = some (.int .i64 st.h.at_) := S.c_h_At
  rw [hat] at c13
  have hhat : Hid (st.h.at_ = 22) := hat
  clear hat
  go_enter Tryz.func74, Tryz.ntmps74
  go_upto_region 8 with fail
  go_upto_region 9 with (first
    | (go_at_call 40; refine (sl8Block b st _ _ S).mono ?_; rintro e w2 ⟨rfl, hb⟩; replace S := S.keep hb; have k1 : K2 b st.g w w2 := K2.of_below hb; clear hb)
    | (go_at_call 43; refine (sl8Word b st _ _ _ _ _ S).mono ?_; rintro e w3 ⟨rfl, S2, k2⟩; replace k1 := k1.trans k2; clear k2)
    | (go_at_call 44; refine (sl8Write b _ _ _ _ S2 (by rw [S8.wrd_n]; exact hn) (wv_bd _ _ _ _)).mono ?_; rintro e w4 ⟨rfl, S3, k2⟩; rw [S8.wrd_g] at k2; replace k1 := k1.trans k2; clear k2; rw [hT.out] at S3))
  clear c13
  have c13 : w4.cell? ⟨b, 13, none⟩ = some (.int .i64 T.h.at_) := S3.c_h_At
  have f13 := S3.fz 13
  by_cases hk : st.h.code = 8
  · have c14 : w4.cell? ⟨b, 14, none⟩ = some (.int .i64 8) := by rw [← hk, ← hTh]; exact S3.c_h_Code
    go_wp2
    first | go_end0 | refine bodyPost_ret (results_none rfl _ _ _) rfl ?_
    rw [hF.out, if_pos hk]
    exact ⟨rfl, (S3.to 23).to 33, (k1.set _ _).set _ _⟩
  · have hkb : (st.h.code == 8) = false := by simp [hk]
    have c14 : w4.cell? ⟨b, 14, none⟩ = some (.int .i64 st.h.code) := by rw [← hTh]; exact S3.c_h_Code
    go_wp2
    first | go_end0 | refine bodyPost_ret (results_none rfl _ _ _) rfl ?_
    rw [hF.out, if_neg hk]
    exact ⟨rfl, S3.to 23, k1.set _ _⟩
set_option maxHeartbeats 8000000 in
theorem g10_23 (b : Nat) (st : S8) (w : World) (S : SAt w b st) (hn : st.n ≤ 16777216) (hat : st.h.at_ = 23) :
    Calls Tryz.prog 74 #[.pointer (some ⟨b, 0, none⟩)] w fun e w' => e = .returned (.tuple #[]) ∧ SAt w' b ((st.rd9 (st.root 2)).to 24) ∧ K2 b st.g w w' := by
  obtain ⟨a, hA⟩ : ∃ a, Hid (st.root 2 = a) := ⟨_, rfl⟩
  obtain ⟨T, hT⟩ : ∃ T, Hid (st.rdS a = T) := ⟨_, rfl⟩
  obtain ⟨x, hx⟩ : ∃ x, Hid (st.rd a = x) := ⟨_, rfl⟩
  have hF : Hid ((st.rd9 (st.root 2)).to 24 = S8.to { T with h := { T.h with seen := x } } 24) := by unfold Hid S8.rd9; rw [hA.out, hT.out, hx.out]
  have c13 : w.cell? ⟨b, 13, none⟩ = some (.int .i64 st.h.at_) := S.c_h_At
  rw [hat] at c13
  have hhat : Hid (st.h.at_ = 23) := hat
  clear hat
  go_enter Tryz.func74, Tryz.ntmps74
  go_upto_region 13 with fail
  clear c13
  go_wp2_with (first
    | (go_at_call 70; refine (sl10Root b st _ _ S).mono ?_; rintro e w2 ⟨rfl, hb⟩; rw [hA.out]; replace S := S.keep hb; have k1 : K2 b st.g _ w2 := K2.of_below hb; clear hb)
    | (go_at_call 35; refine (sl8Read b st _ _ S hn).mono ?_; rintro e w3 ⟨rfl, S3, k3, hbd⟩; replace k1 := k1.trans k3; rw [hT.out] at S3; rw [hx.out] at hbd; rw [hx.out]; clear k3; have c23 : w3.cell? ⟨b, 23, none⟩ = some (.int .u64 T.h.seen) := S3.c_h_Seen; have f23 := S3.fz 23; have c13 : w3.cell? ⟨b, 13, none⟩ = some (.int .i64 T.h.at_) := S3.c_h_At; have f13 := S3.fz 13))
  first | go_end0 | refine bodyPost_ret (results_none rfl _ _ _) rfl ?_
  rw [hF.out]
  exact ⟨rfl, (S3.put (st' := { T with h := { T.h with seen := x } }) 23 _ rfl ⟨rfl, rfl, rfl, rfl, rfl, rfl⟩).put 13 _ rfl ⟨rfl, rfl, rfl, rfl, rfl, rfl⟩, (k1.set _ _).set _ _⟩
def S8.joinI (T : S8) (a : Int) : S8 := ((T.wrd 0 T.h.for_ T.h.block T.h.last).install a (wv 0 T.h.for_ T.h.block T.h.last) 3 2 23)
def S8.join10 (st : S8) : S8 := (st.chainT.joinI (st.chainT.root 2)).ret10 1 0
set_option maxHeartbeats 32000000 in
theorem g10_24 (b : Nat) (st : S8) (w : World) (S : SAt w b st) (hn : st.n ≤ 16777216) (hs : 0 ≤ st.h.seen ∧ st.h.seen ≤ 18446744073709551615) (hat : st.h.at_ = 24) :
    Calls Tryz.prog 74 #[.pointer (some ⟨b, 0, none⟩)] w fun e w' => e = .returned (.tuple #[]) ∧ SAt w' b st.join10 ∧ K2 b st.g w w' := by
  obtain ⟨T, hT⟩ : ∃ T, Hid (st.chainT = T) := ⟨_, rfl⟩
  have hTh : T.h = st.h := by rw [← hT.out]; unfold S8.chainT; rw [S8.wr_h, S8.wrd_h]
  have hTg : T.g = st.g := by rw [← hT.out]; unfold S8.chainT; rw [S8.wr_g, S8.wrd_g]
  have hT2 : Hid ((st.wrd 0 0 (uI st.h.seen) 0).wr (st.blk 1) (wv 0 0 (uI st.h.seen) 0) = T) := hT
  obtain ⟨a, hA⟩ : ∃ a, Hid (T.root 2 = a) := ⟨_, rfl⟩
  obtain ⟨I, hI⟩ : ∃ I, Hid (((T.wrd 0 T.h.for_ T.h.block T.h.last).install a (wv 0 T.h.for_ T.h.block T.h.last) 3 2 23) = I) := ⟨_, rfl⟩
  have hF : Hid (st.join10 = { I with h := { I.h with reply := 1, out := 0 } }) := by unfold Hid S8.join10 S8.joinI S8.ret10; rw [hT.out, hA.out, hI.out]
  have c13 : w.cell? ⟨b, 13, none⟩ = some (.int .i64 st.h.at_) := S.c_h_At
  rw [hat] at c13
  have hhat : Hid (st.h.at_ = 24) := hat
  clear hat
  go_enter Tryz.func74, Tryz.ntmps74
  go_upto_region 16 with fail
  have S1 := S.drew
  have k1 : K2 b st.g w w.drew := (K2.refl _ _ _).drew
  have c23 : w.drew.cell? ⟨b, 23, none⟩ = some (.int .u64 st.h.seen) := S1.c_h_Seen
  clear c13
  go_region_held3 (fun w' => w'.cell? ⟨b, 23, none⟩ = some (.int .u64 st.h.seen)) (go_keep)
    (first
    | (go_at_call 40; refine (sl8Block b st 1 _ S1).mono ?_; rintro e w3 ⟨rfl, hb⟩; replace S1 := S1.keep hb; replace k1 := k1.trans (K2.of_below hb); clear hb; clear c23; have c23 : w3.cell? ⟨b, 23, none⟩ = some (.int .u64 st.h.seen) := (by have hq := S1.c_h_Seen; exact hq))
    | (go_at_call 38; refine (sIndex _ hs.1 hs.2 _).mono ?_; rintro e w3 ⟨rfl, hb⟩; replace S1 := S1.keep hb; replace k1 := k1.trans (K2.of_below hb); clear hb; clear c23; have c23 : w3.cell? ⟨b, 23, none⟩ = some (.int .u64 st.h.seen) := (by have hq := S1.c_h_Seen; exact hq))
    | (go_at_call 43; refine (sl8Word b st _ _ _ _ _ S1).mono ?_; rintro e w3 ⟨rfl, S2, k2⟩; replace k1 := k1.trans k2; clear k2 S1; clear c23; have c23 : w3.cell? ⟨b, 23, none⟩ = some (.int .u64 st.h.seen) := (by have hq := S2.c_h_Seen; rw [S8.wrd_h] at hq; exact hq))
    | (go_at_call 44; refine (sl8Write b _ _ _ _ S2 (by rw [S8.wrd_n]; exact hn) (wv_bd _ _ _ _)).mono ?_; rintro e w4 ⟨rfl, S3, k2⟩; rw [S8.wrd_g] at k2; replace k1 := k1.trans k2; clear k2 S2; clear c23; have c23 : w4.cell? ⟨b, 23, none⟩ = some (.int .u64 st.h.seen) := (by have hq := S3.c_h_Seen; rw [S8.wr_h, S8.wrd_h] at hq; exact hq)))
  rw [hT2.out] at S3
  clear c23 S
  go_upto_region 17 with fail
  refine wp_at (fun W => SAt W b T ∧ K2 b st.g w W) ⟨S3, k1⟩ ?_
  clear S3 k1 hTh
  rintro w1 ⟨S1, k1⟩
  have hUg : T.g = st.g := hTg
  have S1 := S1.drew
  replace k1 := k1.drew
  have c19 : w1.drew.cell? ⟨b, 19, none⟩ = some (.int .i64 T.h.for_) := S1.c_h_For
  have c28 : w1.drew.cell? ⟨b, 28, none⟩ = some (.int .i64 T.h.block) := S1.c_h_Block
  have c20 : w1.drew.cell? ⟨b, 20, none⟩ = some (.int .i64 T.h.last) := S1.c_h_Last
  go_region_held3 (fun w' => w'.cell? ⟨b, 19, none⟩ = some (.int .i64 T.h.for_) ∧ w'.cell? ⟨b, 28, none⟩ = some (.int .i64 T.h.block) ∧ w'.cell? ⟨b, 20, none⟩ = some (.int .i64 T.h.last)) (go_keep)
    (first
    | (go_at_call 70; refine (sl10Root b T _ _ S1).mono ?_; rintro e w2 ⟨rfl, hb⟩; rw [hA.out]; replace S1 := S1.keep hb; replace k1 := k1.trans (K2.of_below hb); clear hb; clear c19 c28 c20; have c19 : w2.cell? ⟨b, 19, none⟩ = some (.int .i64 T.h.for_) := (by have hq := S1.c_h_For; exact hq); have c28 : w2.cell? ⟨b, 28, none⟩ = some (.int .i64 T.h.block) := (by have hq := S1.c_h_Block; exact hq); have c20 : w2.cell? ⟨b, 20, none⟩ = some (.int .i64 T.h.last) := (by have hq := S1.c_h_Last; exact hq))
    | (go_at_call 43; refine (sl8Word b T _ _ _ _ _ S1).mono ?_; rintro e w2 ⟨rfl, S2, k2⟩; replace k1 := k1.trans (hUg ▸ k2); clear k2 S1; clear c19 c28 c20; have c19 : w2.cell? ⟨b, 19, none⟩ = some (.int .i64 T.h.for_) := (by have hq := S2.c_h_For; rw [S8.wrd_h] at hq; exact hq); have c28 : w2.cell? ⟨b, 28, none⟩ = some (.int .i64 T.h.block) := (by have hq := S2.c_h_Block; rw [S8.wrd_h] at hq; exact hq); have c20 : w2.cell? ⟨b, 20, none⟩ = some (.int .i64 T.h.last) := (by have hq := S2.c_h_Last; rw [S8.wrd_h] at hq; exact hq))
    | (go_at_call 42; refine (sl9Install b _ a _ 3 2 23 _ S2).mono ?_; rintro e w3 ⟨rfl, S3, k2⟩; rw [S8.wrd_g] at k2; replace k1 := k1.trans (hUg ▸ k2); clear k2 S2; clear c19 c28 c20; have c19 : w3.cell? ⟨b, 19, none⟩ = some (.int .i64 T.h.for_) := (by have hq := S3.c_h_For; rw [ins_For, S8.wrd_h] at hq; exact hq); have c28 : w3.cell? ⟨b, 28, none⟩ = some (.int .i64 T.h.block) := (by have hq := S3.c_h_Block; rw [ins_Block, S8.wrd_h] at hq; exact hq); have c20 : w3.cell? ⟨b, 20, none⟩ = some (.int .i64 T.h.last) := (by have hq := S3.c_h_Last; rw [ins_Last, S8.wrd_h] at hq; exact hq)))
  rw [hI.out] at S3
  clear c19 c28 c20
  have c40 : w3.cell? ⟨b, 40, none⟩ = some (.int .i64 I.h.reply) := S3.c_h_Reply
  have f40 := S3.fz 40
  have c41 : w3.cell? ⟨b, 41, none⟩ = some (.int .i64 I.h.out) := S3.c_h_Out
  have f41 := S3.fz 41
  go_wp2
  first | go_end0 | refine bodyPost_ret (results_none rfl _ _ _) rfl ?_
  rw [hF.out]
  exact ⟨rfl, (S3.put (st' := { I with h := { I.h with reply := 1 } }) 40 _ rfl ⟨rfl, rfl, rfl, rfl, rfl, rfl⟩).put 41 _ rfl ⟨rfl, rfl, rfl, rfl, rfl, rfl⟩, (k1.set _ _).set _ _⟩
def S8.pickI (T : S8) (a d bd : Int) : S8 := ((T.wrd 0 T.h.for_ T.h.next T.h.last).install a (wv 0 T.h.for_ T.h.next T.h.last) d 32 bd)
def S8.pickT (T : S8) (root d bd : Int) : S8 := (T.pickI (T.root root) d bd).ret10 2 (T.pickI (T.root root) d bd).h.value
def S8.pick10 (st : S8) : S8 := if st.h.code = 9 then (st.intend 6 st.h.block).pickT 3 6 41 else (st.intend 4 st.h.block).pickT 2 4 25
set_option maxHeartbeats 32000000 in
theorem sPick10 (b : Nat) (st : S8) (w : World) (S : SAt w b st) (hn : st.n ≤ 16777216) :
    Calls Tryz.prog 73 #[.pointer (some ⟨b, 0, none⟩)] w fun e w' => e = .returned (.tuple #[]) ∧ SAt w' b st.pick10 ∧ K2 b st.g w w' := by
  unfold S8.pick10
  have c14 : w.cell? ⟨b, 14, none⟩ = some (.int .i64 st.h.code) := S.c_h_Code
  have c28 : w.cell? ⟨b, 28, none⟩ = some (.int .i64 st.h.block) := S.c_h_Block
  by_cases hk : st.h.code = 9
  · rw [if_pos hk]
    rw [hk] at c14
    obtain ⟨T, hT⟩ : ∃ T, Hid (st.intend 6 st.h.block = T) := ⟨_, rfl⟩
    have hTg : T.g = st.g := by rw [← hT.out, intend_g8]
    have hTc : T.h.code = st.h.code := by rw [← hT.out]; simp only [S8.intend, S8.wr_h, S8.wrd_h, S8.u_Last, S8.uh_h]
    obtain ⟨W, hW⟩ : ∃ W, Hid (T.wrd 0 T.h.for_ T.h.next T.h.last = W) := ⟨_, rfl⟩
    have hWg : W.g = st.g := by rw [← hW.out, S8.wrd_g]; exact hTg
    have hWc : W.h.code = st.h.code := by rw [← hW.out, S8.wrd_h]; exact hTc
    obtain ⟨a, hA⟩ : ∃ a, Hid (W.root 3 = a) := ⟨_, rfl⟩
    have hA2 : Hid (T.root 3 = a) := by
      have h : T.root 3 = W.root 3 := by rw [← hW.out]; unfold S8.root; simp only [S8.wrd_p, S8.wrd_s, S8.wrd_l, S8.wrd_c, S8.wrd_k]
      rw [h]
      exact hA
    obtain ⟨x, hx⟩ : ∃ x, Hid (wv 0 T.h.for_ T.h.next T.h.last = x) := ⟨_, rfl⟩
    obtain ⟨I, hI⟩ : ∃ I, Hid (W.install a x 6 32 41 = I) := ⟨_, rfl⟩
    have hF : Hid ((st.intend 6 st.h.block).pickT 3 6 41 = { I with h := { I.h with reply := 2, out := I.h.value } }) := by unfold Hid S8.pickT S8.pickI S8.ret10; rw [hT.out, hA2.out, hW.out, hx.out, hI.out]
    go_enter Tryz.func73, Tryz.ntmps73
    go_upto_region 4 with (go_at_call 41; refine (sl8Intend b st 6 st.h.block _ S hn).mono ?_; rintro e w1 ⟨rfl, S1, k1⟩; rw [hT.out] at S1)
    clear c14 c28 S
    replace S1 := S1.drew
    replace k1 := k1.drew
    have c19 : w1.drew.cell? ⟨b, 19, none⟩ = some (.int .i64 T.h.for_) := S1.c_h_For
    have c30 : w1.drew.cell? ⟨b, 30, none⟩ = some (.int .i64 T.h.next) := S1.c_h_Next
    have c20 : w1.drew.cell? ⟨b, 20, none⟩ = some (.int .i64 T.h.last) := S1.c_h_Last
    go_region_held3 (fun w' => w'.cell? ⟨b, 19, none⟩ = some (.int .i64 T.h.for_) ∧ w'.cell? ⟨b, 30, none⟩ = some (.int .i64 T.h.next) ∧ w'.cell? ⟨b, 20, none⟩ = some (.int .i64 T.h.last)) (go_keep)
      (first | (go_at_call 43; refine (sl8Word b T _ _ _ _ _ S1).mono ?_; rintro e w2 ⟨rfl, S2, k2⟩; rw [hW.out] at S2; rw [hx.out]; replace k1 := k1.trans (hTg ▸ k2); clear k2 S1; clear c19 c30 c20; have c19 : w2.cell? ⟨b, 19, none⟩ = some (.int .i64 T.h.for_) := (by have hq := S2.c_h_For; rw [← hW.out, S8.wrd_h] at hq; exact hq); have c30 : w2.cell? ⟨b, 30, none⟩ = some (.int .i64 T.h.next) := (by have hq := S2.c_h_Next; rw [← hW.out, S8.wrd_h] at hq; exact hq); have c20 : w2.cell? ⟨b, 20, none⟩ = some (.int .i64 T.h.last) := (by have hq := S2.c_h_Last; rw [← hW.out, S8.wrd_h] at hq; exact hq)))
    clear c19 c30 c20
    have c14 : w2.cell? ⟨b, 14, none⟩ = some (.int .i64 9) := by rw [← hk, ← hWc]; exact S2.c_h_Code
    go_upto_region 8 with (first
      | (go_at_call 70; refine (sl10Root b W _ _ S2).mono ?_; rintro e w3 ⟨rfl, hb⟩; rw [hA.out]; replace S2 := S2.keep hb; replace k1 := k1.trans (K2.of_below hb); clear hb)
      | (go_at_call 42; refine (sl9Install b W a x 6 32 41 _ S2).mono ?_; rintro e w4 ⟨rfl, S3, k2⟩; rw [hWg] at k2; replace k1 := k1.trans k2; clear k2 S2; rw [hI.out] at S3))
    have c40 : w4.cell? ⟨b, 40, none⟩ = some (.int .i64 I.h.reply) := S3.c_h_Reply
    have f40 := S3.fz 40
    have c41 : w4.cell? ⟨b, 41, none⟩ = some (.int .i64 I.h.out) := S3.c_h_Out
    have f41 := S3.fz 41
    have c31 : w4.cell? ⟨b, 31, none⟩ = some (.int .i64 I.h.value) := S3.c_h_Value
    go_wp2
    first | go_end0 | refine bodyPost_ret (results_none rfl _ _ _) rfl ?_
    rw [hF.out]
    exact ⟨rfl, (S3.put (st' := { I with h := { I.h with reply := 2 } }) 40 _ rfl ⟨rfl, rfl, rfl, rfl, rfl, rfl⟩).put 41 _ rfl ⟨rfl, rfl, rfl, rfl, rfl, rfl⟩, (k1.set _ _).set _ _⟩
  · rw [if_neg hk]
    have hkb : (st.h.code == 9) = false := by simp [hk]
    obtain ⟨T, hT⟩ : ∃ T, Hid (st.intend 4 st.h.block = T) := ⟨_, rfl⟩
    have hTg : T.g = st.g := by rw [← hT.out, intend_g8]
    have hTc : T.h.code = st.h.code := by rw [← hT.out]; simp only [S8.intend, S8.wr_h, S8.wrd_h, S8.u_Last, S8.uh_h]
    obtain ⟨W, hW⟩ : ∃ W, Hid (T.wrd 0 T.h.for_ T.h.next T.h.last = W) := ⟨_, rfl⟩
    have hWg : W.g = st.g := by rw [← hW.out, S8.wrd_g]; exact hTg
    have hWc : W.h.code = st.h.code := by rw [← hW.out, S8.wrd_h]; exact hTc
    obtain ⟨a, hA⟩ : ∃ a, Hid (W.root 2 = a) := ⟨_, rfl⟩
    have hA2 : Hid (T.root 2 = a) := by
      have h : T.root 2 = W.root 2 := by rw [← hW.out]; unfold S8.root; simp only [S8.wrd_p, S8.wrd_s, S8.wrd_l, S8.wrd_c, S8.wrd_k]
      rw [h]
      exact hA
    obtain ⟨x, hx⟩ : ∃ x, Hid (wv 0 T.h.for_ T.h.next T.h.last = x) := ⟨_, rfl⟩
    obtain ⟨I, hI⟩ : ∃ I, Hid (W.install a x 4 32 25 = I) := ⟨_, rfl⟩
    have hF : Hid ((st.intend 4 st.h.block).pickT 2 4 25 = { I with h := { I.h with reply := 2, out := I.h.value } }) := by unfold Hid S8.pickT S8.pickI S8.ret10; rw [hT.out, hA2.out, hW.out, hx.out, hI.out]
    go_enter Tryz.func73, Tryz.ntmps73
    go_upto_region 4 with (go_at_call 41; refine (sl8Intend b st 4 st.h.block _ S hn).mono ?_; rintro e w1 ⟨rfl, S1, k1⟩; rw [hT.out] at S1)
    clear c14 c28 S
    replace S1 := S1.drew
    replace k1 := k1.drew
    have c19 : w1.drew.cell? ⟨b, 19, none⟩ = some (.int .i64 T.h.for_) := S1.c_h_For
    have c30 : w1.drew.cell? ⟨b, 30, none⟩ = some (.int .i64 T.h.next) := S1.c_h_Next
    have c20 : w1.drew.cell? ⟨b, 20, none⟩ = some (.int .i64 T.h.last) := S1.c_h_Last
    go_region_held3 (fun w' => w'.cell? ⟨b, 19, none⟩ = some (.int .i64 T.h.for_) ∧ w'.cell? ⟨b, 30, none⟩ = some (.int .i64 T.h.next) ∧ w'.cell? ⟨b, 20, none⟩ = some (.int .i64 T.h.last)) (go_keep)
      (first | (go_at_call 43; refine (sl8Word b T _ _ _ _ _ S1).mono ?_; rintro e w2 ⟨rfl, S2, k2⟩; rw [hW.out] at S2; rw [hx.out]; replace k1 := k1.trans (hTg ▸ k2); clear k2 S1; clear c19 c30 c20; have c19 : w2.cell? ⟨b, 19, none⟩ = some (.int .i64 T.h.for_) := (by have hq := S2.c_h_For; rw [← hW.out, S8.wrd_h] at hq; exact hq); have c30 : w2.cell? ⟨b, 30, none⟩ = some (.int .i64 T.h.next) := (by have hq := S2.c_h_Next; rw [← hW.out, S8.wrd_h] at hq; exact hq); have c20 : w2.cell? ⟨b, 20, none⟩ = some (.int .i64 T.h.last) := (by have hq := S2.c_h_Last; rw [← hW.out, S8.wrd_h] at hq; exact hq)))
    clear c19 c30 c20
    have c14 : w2.cell? ⟨b, 14, none⟩ = some (.int .i64 st.h.code) := by rw [← hWc]; exact S2.c_h_Code
    go_upto_region 8 with (first
      | (go_at_call 70; refine (sl10Root b W _ _ S2).mono ?_; rintro e w3 ⟨rfl, hb⟩; rw [hA.out]; replace S2 := S2.keep hb; replace k1 := k1.trans (K2.of_below hb); clear hb)
      | (go_at_call 42; refine (sl9Install b W a x 4 32 25 _ S2).mono ?_; rintro e w4 ⟨rfl, S3, k2⟩; rw [hWg] at k2; replace k1 := k1.trans k2; clear k2 S2; rw [hI.out] at S3))
    have c40 : w4.cell? ⟨b, 40, none⟩ = some (.int .i64 I.h.reply) := S3.c_h_Reply
    have f40 := S3.fz 40
    have c41 : w4.cell? ⟨b, 41, none⟩ = some (.int .i64 I.h.out) := S3.c_h_Out
    have f41 := S3.fz 41
    have c31 : w4.cell? ⟨b, 31, none⟩ = some (.int .i64 I.h.value) := S3.c_h_Value
    go_wp2
    first | go_end0 | refine bodyPost_ret (results_none rfl _ _ _) rfl ?_
    rw [hF.out]
    exact ⟨rfl, (S3.put (st' := { I with h := { I.h with reply := 2 } }) 40 _ rfl ⟨rfl, rfl, rfl, rfl, rfl, rfl⟩).put 41 _ rfl ⟨rfl, rfl, rfl, rfl, rfl, rfl⟩, (k1.set _ _).set _ _⟩
set_option maxHeartbeats 8000000 in
theorem g10_31 (b : Nat) (st : S8) (w : World) (S : SAt w b st) (hn : st.n ≤ 16777216) (hat : st.h.at_ = 31) :
    Calls Tryz.prog 28 #[.pointer (some ⟨b, 0, none⟩)] w fun e w' => e = .returned (.tuple #[]) ∧ SAt w' b st.pick10 ∧ K2 b st.g w w' := by
  have c13 : w.cell? ⟨b, 13, none⟩ = some (.int .i64 st.h.at_) := S.c_h_At
  rw [hat] at c13
  have hhat : Hid (st.h.at_ = 31) := hat
  clear hat
  go_enter Tryz.func28, Tryz.ntmps28
  go_wp2_with (go_at_call 73; refine (sPick10 b st _ S hn).mono ?_; rintro e w4 ⟨rfl, S4, k4⟩)
  first | go_end0 | refine bodyPost_ret (results_none rfl _ _ _) rfl ?_
  exact ⟨rfl, S4, k4⟩
set_option maxHeartbeats 8000000 in
theorem g10p (b : Nat) (st : S8) (w : World) (S : SAt w b st) (n : Int) (hn : 21 ≤ n ∧ n ≤ 24) (hat : st.h.at_ = n) (T : S8)
    (HP : Calls Tryz.prog 74 #[.pointer (some ⟨b, 0, none⟩)] w fun e w' => e = .returned (.tuple #[]) ∧ SAt w' b T ∧ K2 b st.g w w') :
    Calls Tryz.prog 28 #[.pointer (some ⟨b, 0, none⟩)] w fun e w' => e = .returned (.tuple #[]) ∧ SAt w' b T ∧ K2 b st.g w w' := by
  have c13 : w.cell? ⟨b, 13, none⟩ = some (.int .i64 st.h.at_) := S.c_h_At
  rw [hat] at c13
  clear hat
  obtain rfl | rfl | rfl | rfl : n = 21 ∨ n = 22 ∨ n = 23 ∨ n = 24 := by omega
  all_goals
    go_enter Tryz.func28, Tryz.ntmps28
    go_wp2_with (go_at_call 74; refine HP.mono ?_; rintro e w4 ⟨rfl, S4, k4⟩)
    first | go_end0 | refine bodyPost_ret (results_none rfl _ _ _) rfl ?_
    exact ⟨rfl, S4, k4⟩
/-- What the specification's step of the stack comes to. -/
def S8.go10 (st : S8) : S8 :=
  if st.h.at_ = 21 then st.aim10 else
  if st.h.at_ = 22 then st.node10 else
  if st.h.at_ = 23 then (st.rd9 (st.root 2)).to 24 else
  if st.h.at_ = 24 then st.join10 else
  if st.h.at_ = 25 then st.peek10 else
  if st.h.at_ = 26 then ((st.wrd 0 0 st.h.block 0).wr (st.slot 5) (wv 0 0 st.h.block 0)).to 27 else
  if st.h.at_ = 27 then st.again10 else
  if st.h.at_ = 28 then st.next10 else
  if st.h.at_ = 29 then { (st.rdS st.look10) with h := { (st.rdS st.look10).h with value := uI (st.rd st.look10), at_ := 30 } } else
  if st.h.at_ = 30 then ((st.wrd 0 0 st.h.value 0).wr (st.slot 3) (wv 0 0 st.h.value 0)).to 31 else
  if st.h.at_ = 31 then st.pick10 else
  ((st.wrd 3 st.h.for_ 0 0).wr (st.blk 0) (wv 3 st.h.for_ 0 0)).kept10
theorem sGo10 (b : Nat) (st : S8) (w : World) (S : SAt w b st) (hn : st.n ≤ 16777216) (hs : 0 ≤ st.h.seen ∧ st.h.seen ≤ 18446744073709551615) (hat : 21 ≤ st.h.at_ ∧ st.h.at_ ≤ 32) :
    Calls Tryz.prog 28 #[.pointer (some ⟨b, 0, none⟩)] w fun e w' => e = .returned (.tuple #[]) ∧ SAt w' b st.go10 ∧ K2 b st.g w w' := by
  unfold S8.go10
  by_cases k21 : st.h.at_ = 21
  · rw [if_pos k21]; exact (g10p b st w S 21 (by omega) k21 _ (g10_21 b st w S hn k21))
  rw [if_neg k21]
  by_cases k22 : st.h.at_ = 22
  · rw [if_pos k22]; exact (g10p b st w S 22 (by omega) k22 _ (g10_22 b st w S hn k22))
  rw [if_neg k22]
  by_cases k23 : st.h.at_ = 23
  · rw [if_pos k23]; exact (g10p b st w S 23 (by omega) k23 _ (g10_23 b st w S hn k23))
  rw [if_neg k23]
  by_cases k24 : st.h.at_ = 24
  · rw [if_pos k24]; exact (g10p b st w S 24 (by omega) k24 _ (g10_24 b st w S hn hs k24))
  rw [if_neg k24]
  by_cases k25 : st.h.at_ = 25
  · rw [if_pos k25]; exact g10_25 b st w S hn k25
  rw [if_neg k25]
  by_cases k26 : st.h.at_ = 26
  · rw [if_pos k26]; exact g10_26 b st w S hn k26
  rw [if_neg k26]
  by_cases k27 : st.h.at_ = 27
  · rw [if_pos k27]; exact g10_27 b st w S hn k27
  rw [if_neg k27]
  by_cases k28 : st.h.at_ = 28
  · rw [if_pos k28]; exact g10_28 b st w S hn k28
  rw [if_neg k28]
  by_cases k29 : st.h.at_ = 29
  · rw [if_pos k29]; exact g10_29 b st w S hn k29
  rw [if_neg k29]
  by_cases k30 : st.h.at_ = 30
  · rw [if_pos k30]; exact g10_30 b st w S hn k30
  rw [if_neg k30]
  by_cases k31 : st.h.at_ = 31
  · rw [if_pos k31]; exact g10_31 b st w S hn k31
  rw [if_neg k31]
  exact g10_32 b st w S hn (by omega)
end Go.Proofs.YtdebjfgflldpjaaGreat
namespace Go.Proofs.YtdebjfgflldpjaaGreat
open Go.RowKit
set_option maxRecDepth 100000
set_option linter.unusedVariables false
set_option linter.unusedSimpArgs false
theorem Sm.root {s : S8} {t : I8} (M : Sm s t) (r : Int) : s.root r = t.root r := by unfold S8.root I8.root; rw [M.p, M.ss, M.l, M.c, M.k]
theorem agr_link {s : S8} {t : I8} (M : Sm s t) (ok : s.ok = true) : Agr s.chainT (t.wrO (t.blk 1) 0 0 (uI t.h.seen) 0) := by
  unfold S8.chainT
  rw [M.blk, M.h]
  exact agr_put M ok _ _ _ _ _
theorem agr_aim {s : S8} {t : I8} (M : Sm s t) (ok : s.ok = true) : Agr s.aim10 t.aimO := by
  unfold S8.aim10 I8.aimO
  rw [M.h]
  exact (agr_intend M ok _ _).to 22
theorem agr_node {s : S8} {t : I8} (M : Sm s t) (ok : s.ok = true) : Agr s.node10 t.nodeO := by
  unfold S8.node10 I8.nodeO
  have H := agr_put M ok (t.blk 0) 2 0 0 0
  rw [M.blk, M.h]
  by_cases hk : t.h.code = 8
  · simp only [if_pos hk]
    exact H.to 33
  · simp only [if_neg hk]
    exact H.to 23
theorem agr_top {s : S8} {t : I8} (M : Sm s t) (ok : s.ok = true) (ha : aOk t.p t.s t.l t.c t.k t.n = true) : Agr ((s.rd9 (s.root 2)).to 24) t.topO := by
  have ht : thr (t.root 2) t.n = true := root_thr ha (by omega) (by omega)
  unfold I8.topO S8.rd9
  rw [M.root, M.rdY ht, M.rd]
  exact ⟨M.hand (fun h => { h with seen := red t.xs (t.root 2), at_ := 24 }), ok⟩
theorem agr_peek {s : S8} {t : I8} (M : Sm s t) (ok : s.ok = true) (ha : aOk t.p t.s t.l t.c t.k t.n = true) : Agr s.peek10 t.peekO := by
  have ht : thr (t.root 2) t.n = true := root_thr ha (by omega) (by omega)
  unfold S8.peek10 I8.peekO I8.peekT S8.rd9
  rw [M.root, M.rdY ht, M.rd]
  by_cases h0 : uI (red t.xs (t.root 2)) = 0
  · rw [if_pos h0, if_pos h0, reply_e]
    exact ⟨M.hand (fun h => { h with seen := red t.xs (t.root 2), reply := 3, out := 0, at_ := 2 }), ok⟩
  · rw [if_neg h0, if_neg h0]
    exact ⟨M.hand (fun h => { h with seen := red t.xs (t.root 2), block := uI (red t.xs (t.root 2)), at_ := 26 }), ok⟩
theorem agr_again {s : S8} {t : I8} (M : Sm s t) (ok : s.ok = true) (ha : aOk t.p t.s t.l t.c t.k t.n = true) : Agr s.again10 t.againO := by
  have ht : thr (t.root 2) t.n = true := root_thr ha (by omega) (by omega)
  have N : Sm (s.to 25) (t.to 25) := M.hand (fun h => { h with at_ := 25 })
  unfold S8.again10 I8.againO
  have e1 : (s.to 25).root 2 = t.root 2 := N.root 2
  have e2 : (s.to 25).rd (t.root 2) = red t.xs (t.root 2) := N.rd _
  have e3 : (s.to 25).rdS (t.root 2) = s.to 25 := N.rdY ht
  have e4 : s.h.seen = t.h.seen := by rw [M.h]
  rw [e1, e2, e3, e4]
  by_cases hk : red t.xs (t.root 2) = t.h.seen
  · rw [if_pos hk, if_pos hk]
    exact ⟨M.hand (fun h => { h with at_ := 28 }), ok⟩
  · rw [if_neg hk, if_neg hk]
    exact ⟨N, ok⟩
theorem agr_next {s : S8} {t : I8} (M : Sm s t) (ok : s.ok = true) : Agr s.next10 t.nextO := by
  unfold S8.next10 I8.nextO
  rw [M.blk]
  cases ht : thr (t.blk 1) t.n
  · rw [if_neg (by decide)]
    exact M.rdN ht
  · rw [if_pos rfl, M.rdY ht, M.rd]
    exact ⟨M.hand (fun h => { h with next := uI (red t.xs (t.blk 1)), from_ := h.block, at_ := 29 }), ok⟩
theorem agr_look {s : S8} {t : I8} (M : Sm s t) (ok : s.ok = true) : Agr { (s.rdS s.look10) with h := { (s.rdS s.look10).h with value := uI (s.rd s.look10), at_ := 30 } } t.lookO := by
  have e : s.look10 = t.lookAt := by unfold S8.look10 I8.lookAt; rw [M.p, M.ss, M.l, M.c, M.k, M.h]
  unfold I8.lookO
  rw [e]
  cases ht : thr t.lookAt t.n
  · rw [if_neg (by decide)]
    exact M.rdN ht
  · rw [if_pos rfl, M.rdY ht, M.rd]
    exact ⟨M.hand (fun h => { h with value := uI (red t.xs t.lookAt), at_ := 30 }), ok⟩
theorem agr_none {s : S8} (h : s.ok = false) : Agr s none := h
theorem ret10_ok {I : S8} (h : I.ok = false) (r o : Int) : (I.ret10 r o).ok = false := h
theorem joinI_ok {T : S8} (h : T.ok = false) (a : Int) : (T.joinI a).ok = false := by unfold S8.joinI; exact inst_ok (wrd_ok h _ _ _ _) _ _ _ _ _
theorem pickT_ok {T : S8} (h : T.ok = false) (r d b : Int) : (T.pickT r d b).ok = false := by
  unfold S8.pickT
  refine ret10_ok ?_ _ _
  unfold S8.pickI
  exact inst_ok (wrd_ok h _ _ _ _) _ _ _ _ _
theorem agr_join {s : S8} {t : I8} (M : Sm s t) (ok : s.ok = true) : Agr s.join10 t.joinO := by
  unfold S8.join10 I8.joinO
  have H := agr_link M ok
  cases hr : t.wrO (t.blk 1) 0 0 (uI t.h.seen) 0 with
  | none =>
    rw [hr] at H
    have hb : s.chainT.ok = false := H
    exact agr_none (ret10_ok (joinI_ok hb _) _ _)
  | some u =>
    rw [hr] at H
    obtain ⟨N, ok2⟩ := H
    generalize s.chainT = s1 at *
    show Agr _ ((u.prepO (u.root 2) u.h.block 3 2 23).map fun u => u.ret 1 0)
    have e : s1.h.block = u.h.block := by rw [N.h]
    unfold S8.joinI
    rw [N.root, e]
    exact (agr_prep N ok2 (u.root 2) u.h.block 3 2 23).map (fun h => { h with reply := 1, out := 0 })
theorem agr_pickT {s : S8} {t : I8} (M : Sm s t) (ok : s.ok = true) (r d b : Int) : Agr (s.pickT r d b) (t.pickT r d b) := by
  unfold S8.pickT I8.pickT S8.pickI
  have e : s.h.next = t.h.next := by rw [M.h]
  rw [M.root, e]
  exact (agr_prep M ok (t.root r) t.h.next d 32 b).map (fun h => { h with reply := 2, out := h.value })
theorem agr_pick1 {s : S8} {t : I8} (M : Sm s t) (ok : s.ok = true) (k r d b : Int) : Agr ((s.intend k t.h.block).pickT r d b) ((t.intO k t.h.block).bind fun t => t.pickT r d b) := by
  have H := agr_intend M ok k t.h.block
  cases hr : t.intO k t.h.block with
  | none =>
    rw [hr] at H
    have hb : (s.intend k t.h.block).ok = false := H
    exact agr_none (pickT_ok hb _ _ _)
  | some u =>
    rw [hr] at H
    exact agr_pickT H.1 H.2 r d b
theorem agr_pick {s : S8} {t : I8} (M : Sm s t) (ok : s.ok = true) : Agr s.pick10 t.pickO := by
  unfold S8.pick10 I8.pickO
  rw [M.h]
  split
  · exact agr_pick1 M ok _ _ _ _
  · exact agr_pick1 M ok _ _ _ _
theorem join10 {s : S8} {t : I8} (M : Sm s t) (ok : s.ok = true) (ha : aOk t.p t.s t.l t.c t.k t.n = true) (hu : t.h.up = true) : Fin s.go10 t.snext := by
  refine Agr.fin ?_
  have hc : s.h.at_ = t.h.at_ := by rw [M.h]
  unfold S8.go10 I8.snext
  rw [hc]
  by_cases k21 : t.h.at_ = 21
  · rw [if_pos k21, if_pos k21]
    exact agr_aim M ok
  rw [if_neg k21, if_neg k21]
  by_cases k22 : t.h.at_ = 22
  · rw [if_pos k22, if_pos k22]
    exact agr_node M ok
  rw [if_neg k22, if_neg k22]
  by_cases k23 : t.h.at_ = 23
  · rw [if_pos k23, if_pos k23]
    exact agr_top M ok ha
  rw [if_neg k23, if_neg k23]
  by_cases k24 : t.h.at_ = 24
  · rw [if_pos k24, if_pos k24]
    exact agr_join M ok
  rw [if_neg k24, if_neg k24]
  by_cases k25 : t.h.at_ = 25
  · rw [if_pos k25, if_pos k25]
    exact agr_peek M ok ha
  rw [if_neg k25, if_neg k25]
  by_cases k26 : t.h.at_ = 26
  · rw [if_pos k26, if_pos k26]
    unfold I8.guardO
    rw [M.slot, M.h]
    exact (agr_put M ok _ _ _ _ _).to 27
  rw [if_neg k26, if_neg k26]
  by_cases k27 : t.h.at_ = 27
  · rw [if_pos k27, if_pos k27]
    exact agr_again M ok ha
  rw [if_neg k27, if_neg k27]
  by_cases k28 : t.h.at_ = 28
  · rw [if_pos k28, if_pos k28]
    exact agr_next M ok
  rw [if_neg k28, if_neg k28]
  by_cases k29 : t.h.at_ = 29
  · rw [if_pos k29, if_pos k29]
    exact agr_look M ok
  rw [if_neg k29, if_neg k29]
  by_cases k30 : t.h.at_ = 30
  · rw [if_pos k30, if_pos k30]
    unfold I8.keepO
    rw [M.slot, M.h]
    exact (agr_put M ok _ _ _ _ _).to 31
  rw [if_neg k30, if_neg k30]
  by_cases k31 : t.h.at_ = 31
  · rw [if_pos k31, if_pos k31]
    exact agr_pick M ok
  rw [if_neg k31, if_neg k31]
  unfold I8.retireO
  rw [M.blk, M.h]
  exact (agr_put M ok _ _ _ _ _).map (fun h => { h with kept := wrap64 (h.kept + 1), at_ := 2 })
theorem Nc.pick {a b : S8} (h : Nc a b) (r d c : Int) : Nc a (b.pickT r d c) := by
  unfold S8.pickT S8.pickI
  exact (Nc.install (h.wrd _ _ _ _) _ _ _ _ _).hand _
theorem nc10 {s : S8} (h : Nc s s) : Nc s s.go10 := by
  unfold S8.go10
  by_cases k21 : s.h.at_ = 21
  · rw [if_pos k21]
    exact (h.intend _ _).hand _
  rw [if_neg k21]
  by_cases k22 : s.h.at_ = 22
  · rw [if_pos k22]
    unfold S8.node10
    split
    · exact (h.put _ _ _ _ _).hand _
    · exact (h.put _ _ _ _ _).hand _
  rw [if_neg k22]
  by_cases k23 : s.h.at_ = 23
  · rw [if_pos k23]
    exact ((h.rdS _).hand _).hand _
  rw [if_neg k23]
  by_cases k24 : s.h.at_ = 24
  · rw [if_pos k24]
    unfold S8.join10 S8.joinI
    have k : Nc s s.chainT := h.put _ _ _ _ _
    exact (Nc.install (k.wrd _ _ _ _) _ _ _ _ _).hand _
  rw [if_neg k24]
  by_cases k25 : s.h.at_ = 25
  · rw [if_pos k25]
    unfold S8.peek10 S8.rd9
    split
    · exact (Nc.hand (h.rdS _) _).reply _ _
    · exact (Nc.hand (h.rdS _) _)
  rw [if_neg k25]
  by_cases k26 : s.h.at_ = 26
  · rw [if_pos k26]
    exact (h.put _ _ _ _ _).hand _
  rw [if_neg k26]
  by_cases k27 : s.h.at_ = 27
  · rw [if_pos k27]
    unfold S8.again10
    have k : Nc s (s.to 25) := h.hand _
    split
    · exact (k.rdS _).hand _
    · exact k.rdS _
  rw [if_neg k27]
  by_cases k28 : s.h.at_ = 28
  · rw [if_pos k28]
    exact (h.rdS _).hand _
  rw [if_neg k28]
  by_cases k29 : s.h.at_ = 29
  · rw [if_pos k29]
    exact (h.rdS _).hand _
  rw [if_neg k29]
  by_cases k30 : s.h.at_ = 30
  · rw [if_pos k30]
    exact (h.put _ _ _ _ _).hand _
  rw [if_neg k30]
  by_cases k31 : s.h.at_ = 31
  · rw [if_pos k31]
    unfold S8.pick10
    split
    · exact (h.intend _ _).pick _ _ _
    · exact (h.intend _ _).pick _ _ _
  rw [if_neg k31]
  exact (h.put _ _ _ _ _).hand _
theorem Meas.map {st t : I8} {o : Option I8} (f : Hd → Hd) (H : ∀ u, o = some u → Meas st u) (h : (o.map fun u => { u with h := f u.h }) = some t) : Meas st t := by
  cases o with
  | none => cases h
  | some u =>
    cases h
    exact (H u rfl).trans (Meas.hand u _)
theorem Meas.pickT {st t : I8} {r d b : Int} (h : st.pickT r d b = some t) : Meas st t := by
  unfold I8.pickT at h
  exact Meas.map (fun h => { h with reply := 2, out := h.value }) (fun u e => Meas.prepO e) h
theorem Meas.pick1 {st t : I8} {k x r d b : Int} (h : ((st.intO k x).bind fun t => t.pickT r d b) = some t) : Meas st t := by
  cases hr : st.intO k x with
  | none => rw [hr] at h; cases h
  | some u =>
    rw [hr] at h
    exact (Meas.intO hr).trans (Meas.pickT h)
theorem Meas.snext {st t : I8} (h : st.snext = some t) : Meas st t := by
  unfold I8.snext at h
  split at h
  · exact Meas.map (fun h => { h with at_ := 22 }) (fun u e => Meas.intO e) h
  split at h
  · unfold I8.nodeO at h
    by_cases hk : st.h.code = 8
    · simp only [if_pos hk] at h
      exact Meas.map (fun h => { h with at_ := 33 }) (fun u e => Meas.wrO e) h
    · simp only [if_neg hk] at h
      exact Meas.map (fun h => { h with at_ := 23 }) (fun u e => Meas.wrO e) h
  split at h
  · cases h; exact Meas.hand st _
  split at h
  · unfold I8.joinO at h
    cases hr : st.wrO (st.blk 1) 0 0 (uI st.h.seen) 0 with
    | none => rw [hr] at h; cases h
    | some u =>
      rw [hr] at h
      exact (Meas.wrO hr).trans (Meas.map (fun h => { h with reply := 1, out := 0 }) (fun u e => Meas.prepO e) h)
  split at h
  · cases h; unfold I8.peekT; split <;> exact Meas.hand st _
  split at h
  · exact Meas.map (fun h => { h with at_ := 27 }) (fun u e => Meas.wrO e) h
  split at h
  · cases h; exact Meas.hand st _
  split at h
  · unfold I8.nextO at h
    split at h
    · cases h; exact Meas.hand st _
    · cases h
  split at h
  · unfold I8.lookO at h
    split at h
    · cases h; exact Meas.hand st _
    · cases h
  split at h
  · exact Meas.map (fun h => { h with at_ := 31 }) (fun u e => Meas.wrO e) h
  split at h
  · unfold I8.pickO at h
    split at h
    · exact Meas.pick1 h
    · exact Meas.pick1 h
  · exact Meas.map (fun h => { h with kept := wrap64 (h.kept + 1), at_ := 2 }) (fun u e => Meas.wrO e) h
end Go.Proofs.YtdebjfgflldpjaaGreat
namespace Go.Proofs.YtdebjfgflldpjaaGreat
open Go.RowKit
set_option maxRecDepth 100000
set_option linter.unusedVariables false
set_option linter.unusedSimpArgs false
theorem lay10 {a : Int} (h : layer a = 10) : 21 ≤ a ∧ a ≤ 32 := by
  unfold layer at h
  repeat' (split at h)
  all_goals omega
/-- What StackStep answers. -/
noncomputable def ans10 (p s l c k : Int) (n : Nat) (xs : List Int) (me : Int) (h : Hd) : Ans := if mayB p s l c k n me h 10 = true then Ans.of (fin8 (st0 p s l c k (.slice none 0 0) n xs h 63).snext) else Ans.zero
set_option maxHeartbeats 8000000 in
theorem sStkS (p s l c k : Int) (g n cc : Nat) (xs : List Int) (me : Int) (h : Hd) (w : World) (G : Ws w g n cc xs) (hn : n ≤ 16777216) (hs : 0 ≤ h.seen ∧ h.seen ≤ 18446744073709551615) (hp : 0 ≤ h.put ∧ h.put ≤ 18446744073709551615) :
    Calls Tryz.prog 15 #[.agg #[.int .i64 p, .int .i64 s, .int .i64 l, .int .i64 c, .int .i64 k], .slice (some ⟨g, 0, none⟩) n cc, .int .i64 me, .agg h.ar] w (OutR w (ans10 p s l c k n xs me h)) := by
  unfold ans10
  cases hm : mayB p s l c k n me h 10
  · rw [if_neg (by decide)]
    go_enter Tryz.func15, Tryz.ntmps15
    go_upto_region 1 with fail
    refine wp_at (fun W => At W w.heap.size #[.int .i64 p, .int .i64 s, .int .i64 l, .int .i64 c, .int .i64 k] 35 ∧ At W (w.heap.size + 1) h.ar 28 ∧ At W (w.heap.size + 2) doneZ.toArray 32 ∧ Below w.heap.size w W) (three_box w _ _ _ _ _ _) ?_
    rintro w1 ⟨P, A, R, z⟩
    obtain ⟨d0, d1, d2, d3, d4⟩ := P.five
    go_wp2_with (first
      | (refine loadHg (by rfl) (.tmp 7) rfl (w.heap.size + 1) h rfl A ?_)
      | (go_at_call 17; refine (sMay p s l c k _ n cc me h 10 _ hn).mono ?_; rintro e w2 ⟨rfl, hb⟩; rw [hm]; replace R := R.keep hb; replace z := z.trans (hb.mono z.size); clear hb)
      | (refine wpList_built rfl 32 #[] rfl [] rfl _ bDone0 ?_)
      | (refine storeDn rfl (.tmp 8) (.tmp 17) rfl (w.heap.size + 2) (.slice none 0 0) Hd.zero Dd.zero rfl rfl rfl R rfl ?_; intro w3 R3 kk))
    refine bodyPost_ret (resDn2 (v := .slice none 0 0) (h := Hd.zero) (d := Dd.zero) 8 9 rfl rfl rfl R3) rfl ?_
    exact OutR.zero (z.trans (kk.below (by omega) z.size))
  · rw [if_pos rfl]
    have hao := (may_y hm).1
    have hup := (may_y hm).2.2.1
    have hat := lay10 (may_y hm).2.2.2
    have hl := G.len
    have hpk : Hid (∀ w3 b g' c' ra, SAt w3 b (s0 p s l c k g' n c' xs ra 0 [] me h) → ∃ st : S8, SAt w3 b st ∧ Fin st.go10 (st0 p s l c k (.slice none 0 0) n xs h 63).snext ∧ Nc st st.go10 ∧ st.h = h ∧ st.n = n ∧ st.g = g') := fun w3 b g' c' ra S =>
      ⟨_, S, join10 (sm0 p s l c k g' n c' xs ra 0 [] me h (.slice none 0 0) 63 hl) rfl hao hup, nc10 (nc0 p s l c k g' n c' xs ra 0 [] me h G.bd), rfl, rfl, rfl⟩
    obtain ⟨o, ho⟩ : ∃ o, Hid ((st0 p s l c k (.slice none 0 0) n xs h 63).snext = o) := ⟨_, rfl⟩
    rw [ho.out] at hpk
    rw [ho.out]
    clear ho hl
    go_enter Tryz.func15, Tryz.ntmps15
    go_upto_region 1 with fail
    refine wp_at (fun W => At W w.heap.size #[.int .i64 p, .int .i64 s, .int .i64 l, .int .i64 c, .int .i64 k] 35 ∧ At W (w.heap.size + 1) h.ar 28 ∧ At W (w.heap.size + 2) doneZ.toArray 32 ∧ Below w.heap.size w W) (three_box w _ _ _ _ _ _) ?_
    rintro w1 ⟨P, A, R, z⟩
    obtain ⟨d0, d1, d2, d3, d4⟩ := P.five
    go_upto_region 3 with (first
      | (refine loadHg (by rfl) (.tmp 7) rfl (w.heap.size + 1) h rfl A ?_)
      | (go_at_call 17; refine (sMay p s l c k _ n cc me h 10 _ hn).mono ?_; rintro e w2 ⟨rfl, hb⟩; rw [hm]; replace R := R.keep hb; replace P := P.keep hb; replace A := A.keep hb; replace G := (G.keep z).keep hb; replace z := z.trans (hb.mono z.size); clear hb d0 d1 d2 d3 d4; obtain ⟨d0, d1, d2, d3, d4⟩ := P.five))
    go_upto_region 4 with (first
      | (refine loadHg (by rfl) (.tmp 7) rfl (w.heap.size + 1) h rfl (A.keep ((Below.refl _ _).alloc (Nat.le_refl _) _)) ?_)
      | (go_at_call 18; refine (sNew8 p s l c k g n cc xs _ 0 [] me h _ (G.keep ((Below.refl _ _).alloc (Nat.le_refl _) _)) hn (.inl rfl)).mono ?_; rintro e w3 ⟨b, g', c', rfl, hbb, hgg, S, hb⟩))
    obtain ⟨st, S, J, N, sh, sn, sg⟩ := hpk.out _ _ _ _ _ S
    have za := (Below.refl w2.heap.size w2).alloc (Nat.le_refl _) (.cells #[] 2)
    have hwb : w2.heap.size < b := by have := hbb; simp at this; omega
    have hwg : w2.heap.size < g' := by have := hgg; simp at this; omega
    have Rl := R.lt
    replace R := (R.keep za).keep hb
    replace z := (z.trans (za.mono z.size)).trans (hb.mono (by have := z.size; simp; omega))
    clear hbb hgg hb za P A G d0 d1 d2 d3 d4 hpk
    have hn' : st.n ≤ 16777216 := by rw [sn]; exact hn
    have CG := sGo10 b st w3 S hn' (by rw [sh]; exact hs) (by rw [sh]; exact hat)
    have z0 := z.size
    go_upto_region 5 with (go_at_call 28; refine CG.mono ?_; rintro e w4 ⟨rfl, S4, k4⟩)
    have Ng := N.g
    rw [sg] at Ng k4
    replace R : At w4 (w.heap.size + 2) doneZ.toArray 32 := ⟨(k4.block _ R.lt (by omega) (by omega)).trans R.is⟩
    have z4 : Below w.heap.size w w4 := z.trans (below_of_K2 k4 (by omega) (by omega) z0)
    obtain ⟨F, hF⟩ : ∃ F, Hid (st.go10 = F) := ⟨_, rfl⟩
    rw [hF.out] at S4 J N Ng
    clear CG hF k4 S
    have zs4 := z4.size
    rcases J.old with ⟨hgood, t, ht, tx, th, td, tn⟩ | ⟨hbad, ht⟩
    · have hA : Hid (Ans.of (fin8 o) = ⟨F.ar, F.h, F.d, true⟩) := by unfold Hid; rw [ht]; show (⟨t.xs, t.h, t.d, true⟩ : Ans) = _; rw [tx, th, td]
      clear ht tx th td tn J
      go_wp2_with (first
        | (go_at_call 20; refine (sDoneY b F _ S4 hgood).mono ?_; rintro e w5 ⟨rfl, GF, hb5⟩; rw [Ng] at GF; replace R := R.keep hb5; replace z4 := z4.trans (hb5.mono zs4))
        | (refine storeDn rfl (.tmp 8) (.tmp 28) rfl (w.heap.size + 2) (.slice (some ⟨g', 0, none⟩) F.n F.cc) F.h F.d rfl rfl rfl R rfl ?_; intro w6 R6 kk))
      refine bodyPost_ret (resDn2 (v := .slice (some ⟨g', 0, none⟩) F.n F.cc) (h := F.h) (d := F.d) 8 9 rfl rfl rfl R6) rfl ?_
      rw [hA.out]
      exact ⟨some ⟨g', 0, none⟩, F.n, F.cc, rfl, .inr ⟨g', rfl, by omega, GF.kept kk (by omega)⟩, z4.trans (kk.below (by omega) z4.size)⟩
    · have hA : Hid (Ans.of (fin8 o) = Ans.zero) := by unfold Hid; rw [ht]; rfl
      clear ht J
      go_wp2_with (first
        | (go_at_call 20; refine (sDoneN b F _ S4 hbad N.tn N.was).mono ?_; rintro e w5 ⟨rfl, k5⟩; replace R : At w5 (w.heap.size + 2) doneZ.toArray 32 := ⟨(k5.block _ R.lt (by omega) (by omega)).trans R.is⟩; replace z4 := z4.trans (below_of_K2 k5 (by omega) (by omega) zs4))
        | (refine storeDn rfl (.tmp 8) (.tmp 28) rfl (w.heap.size + 2) (.slice none 0 0) Hd.zero Dd.zero rfl rfl rfl R rfl ?_; intro w6 R6 kk))
      refine bodyPost_ret (resDn2 (v := .slice none 0 0) (h := Hd.zero) (d := Dd.zero) 8 9 rfl rfl rfl R6) rfl ?_
      rw [hA.out]
      exact OutR.zero (z4.trans (kk.below (by omega) z4.size))
end Go.Proofs.YtdebjfgflldpjaaGreat
namespace Go.Proofs.YtdebjfgflldpjaaGreat
open Go.RowKit
set_option maxRecDepth 100000
set_option linter.unusedVariables false
set_option linter.unusedSimpArgs false
theorem infoSk (st : I8) : (Tryz.prog.info? 63).map (·.size) = some st.vs.length := by kernel_rfl
theorem bPoolS (st : I8) : Tryz.prog.built 57 [(0, .agg st.ar)] = some st.ar := by kernel_rfl
theorem bStack (st : I8) : Tryz.prog.built 63 [(0, .agg st.ar)] = some st.ar := by kernel_rfl
theorem storeSk {ops : Array Oper} {rest : List Oper} {op : Oper} {a : Act} {w : World} {Q : Exit → Act → World → Prop} (hgd : op.guard = none) (x y : Operand) (ho : op.op = .store 63 x y) (st : I8) (hp : st.pv.oneCell' = true) (hx : a.eval x = .pointer (some ⟨w.heap.size, 0, none⟩)) (hy : a.eval y = .agg st.ar) {cs : Array Value} {t : TypeId} (hs : cs.size = 49)
    (hh : ∀ w', At w' w.heap.size st.ar t → Below w.heap.size w w' → wpList Tryz.prog ops Q rest (a.put op.dst undef) w') : wpList Tryz.prog ops Q (op :: rest) a (w.alloc (.cells cs t)) :=
  newV (vs := st.vs) (infoSk st) (st.one hp) hgd x y ho hx hy (by rw [hs]; rfl) fun w' Z hb _ => hh w' Z hb
set_option maxHeartbeats 8000000 in
theorem iStkSN (p s l c k : Int) (g n cc : Nat) (xs : List Int) (me : Int) (h : Hd) (w : World) (G : Ws w g n cc xs) (hn : n ≤ 16777216) (hm : mayB p s l c k n me h 10 = false) :
    Calls Tryz.prog 16 #[.agg #[.int .i64 p, .int .i64 s, .int .i64 l, .int .i64 c, .int .i64 k], .slice (some ⟨g, 0, none⟩) n cc, .int .i64 me, .agg h.ar] w fun e w' => e = .returned (.tuple #[.agg doneZ.toArray, .bool false]) ∧ Below w.heap.size w w' := by
  go_enter Tryz.func16, Tryz.ntmps16
  go_upto_region 1 with fail
  refine wp_at (fun W => At W w.heap.size #[.int .i64 p, .int .i64 s, .int .i64 l, .int .i64 c, .int .i64 k] 35 ∧ At W (w.heap.size + 1) h.ar 28 ∧ At W (w.heap.size + 2) doneZ.toArray 32 ∧ Below w.heap.size w W) (three_box w _ _ _ _ _ _) ?_
  rintro w1 ⟨P, A, R, z⟩
  obtain ⟨d0, d1, d2, d3, d4⟩ := P.five
  go_wp2_with (first
    | (refine loadHg (by rfl) (.tmp 7) rfl (w.heap.size + 1) h rfl A ?_)
    | (go_at_call 21; refine (iMay p s l c k _ n cc me h 10 _ hn).mono ?_; rintro e w2 ⟨rfl, hb⟩; rw [hm]; replace R := R.keep hb; replace z := z.trans (hb.mono z.size); clear hb)
    | (refine wpList_built rfl 32 #[] rfl [] rfl _ bDone0 ?_)
    | (refine storeDn rfl (.tmp 8) (.tmp 17) rfl (w.heap.size + 2) (.slice none 0 0) Hd.zero Dd.zero rfl rfl rfl R rfl ?_; intro w3 R3 kk))
  refine bodyPost_ret (resDn2 (v := .slice none 0 0) (h := Hd.zero) (d := Dd.zero) 8 9 rfl rfl rfl R3) rfl ?_
  exact ⟨rfl, z.trans (kk.below (by omega) z.size)⟩
set_option maxHeartbeats 8000000 in
theorem iStkSY (p s l c k : Int) (g n cc : Nat) (xs : List Int) (me : Int) (h : Hd) (w : World) (G : Ws w g n cc xs) (hn : n ≤ 16777216) (hm : mayB p s l c k n me h 10 = true) (r : Value → Option I8)
    (HN : ∀ pv q B w1, IAt w1 B q (st0 p s l c k pv n xs h 63) → Calls Tryz.prog 29 #[.pointer (some ⟨q, 0, none⟩)] w1 (Ends B q pv w1 (r pv))) (HM : ∀ pv t, r pv = some t → Meas (st0 p s l c k pv n xs h 63) t) :
    Calls Tryz.prog 16 #[.agg #[.int .i64 p, .int .i64 s, .int .i64 l, .int .i64 c, .int .i64 k], .slice (some ⟨g, 0, none⟩) n cc, .int .i64 me, .agg h.ar] w fun e w' => ∃ pv, Told8 w w.heap.size (fin8 (r pv)) e w' := by
  go_enter Tryz.func16, Tryz.ntmps16
  go_upto_region 1 with fail
  refine wp_at (fun W => At W w.heap.size #[.int .i64 p, .int .i64 s, .int .i64 l, .int .i64 c, .int .i64 k] 35 ∧ At W (w.heap.size + 1) h.ar 28 ∧ At W (w.heap.size + 2) doneZ.toArray 32 ∧ Below w.heap.size w W) (three_box w _ _ _ _ _ _) ?_
  rintro w1 ⟨P, A, R, z⟩
  obtain ⟨d0, d1, d2, d3, d4⟩ := P.five
  have hmf : ∀ (fn : Fn) (first cap : Array Value) (w : World), (Instr.makeFunc fn first cap).run Tryz.prog w = .ok (.func fn first cap) w := fun _ _ _ _ => rfl
  go_upto_region 4 with (first
    | (refine loadHg (by rfl) (.tmp 7) rfl (w.heap.size + 1) h rfl A ?_)
    | (go_at_call 21; refine (iMay p s l c k _ n cc me h 10 _ hn).mono ?_; rintro e w2 ⟨rfl, hb⟩; rw [hm]; replace R := R.keep hb; have hrq := R.lt; replace P := P.keep hb; replace A := A.keep hb; replace G := (G.keep z).keep hb; replace z := z.trans (hb.mono z.size); clear hb d0 d1 d2 d3 d4; obtain ⟨d0, d1, d2, d3, d4⟩ := P.five)
    | (go_at_call 22; refine (iInstOf p s l c k g n cc xs h _ G hn).mono ?_; rintro e w3 ⟨pv, rfl, hpv, ⟨ps, PG⟩, hb⟩; have hzz := z.size; replace R := R.keep hb; replace z := z.trans (hb.mono z.size))
    | (refine wpList_built rfl 57 #[(0, .tmp 21)] rfl [(0, .agg (st0 p s l c k pv n xs h 63).ar)] rfl _ (bPoolS _) ?_)
    | (refine wpList_built rfl 63 #[(0, .tmp 22)] rfl [(0, .agg (st0 p s l c k pv n xs h 63).ar)] rfl _ (bStack _) ?_)
    | (refine storeSk rfl (.tmp 10) (.tmp 23) rfl (st0 p s l c k pv n xs h 63) hpv rfl rfl rfl ?_; intro w4 Q hb4; have hpn := pv_ne PG; replace PG := PG.keep hb4; have hz3 := z.size; replace z := z.trans (hb4.mono z.size); have Rl := R.lt; replace R := R.keep hb4))
  obtain ⟨q, hq⟩ : ∃ q, Hid (w3.heap.size = q) := ⟨_, rfl⟩
  rw [hq.out] at Q hpn
  rw [hq.out]
  have hw2 : w2.heap.size ≤ q := by have := hb.size; have := hq.out; omega
  have S : IAt w4 w2.heap.size q (st0 p s l c k pv n xs h 63) := Wso.fresh (n := n) (st := st0 p s l c k pv n xs h 63) G.len PG Q hw2 hpn.1 hpn.2
  have CC := iCaught 29 w2.heap.size q (goes_in Tryz.func29 (by kernel_rfl) (by kernel_rfl) _) (st0 p s l c k pv n xs h 63) w4 S hn G.bd (r pv) (fun w1 S1 => HN pv q _ w1 S1) (HM pv)
  have hw4 : w.heap.size ≤ w4.heap.size := z.size
  cases hf : fin8 (r pv) with
  | none =>
    rw [hf] at CC
    go_wp2_with (first
      | (go_at_call 23; refine CC.mono ?_; rintro e w5 ⟨rfl, hb5⟩; replace R := R.under hb5 hrq; replace z := z.trans (hb5.mono hzz))
      | (refine storeDn rfl (.tmp 8) (.tmp 28) rfl (w.heap.size + 2) (.slice none 0 0) Hd.zero Dd.zero rfl rfl rfl R rfl ?_; intro w6 R6 kk))
    refine bodyPost_ret (resDn2 (v := .slice none 0 0) (h := Hd.zero) (d := Dd.zero) 8 9 rfl rfl rfl R6) rfl ?_
    refine ⟨pv, ?_⟩
    rw [hf]
    exact ⟨rfl, z.trans (kk.below (by omega) z.size)⟩
  | some t =>
    rw [hf] at CC
    go_wp2_with (first
      | (go_at_call 23; refine CC.mono ?_; rintro e w5 ⟨⟨g5, rfl, hg5, G5⟩, hb5⟩; replace R := R.under hb5 hrq; replace z := z.trans (hb5.mono hzz))
      | (refine storeDn rfl (.tmp 8) (.tmp 28) rfl (w.heap.size + 2) (.slice (some ⟨g5, 0, none⟩) t.n t.n) t.h t.d rfl rfl rfl R rfl ?_; intro w6 R6 kk))
    refine bodyPost_ret (resDn2 (v := .slice (some ⟨g5, 0, none⟩) t.n t.n) (h := t.h) (d := t.d) 8 9 rfl rfl rfl R6) rfl ?_
    refine ⟨pv, ?_⟩
    rw [hf]
    exact ⟨⟨g5, rfl, by omega, G5.kept kk (by have := S.lt; omega)⟩, z.trans (kk.below (by omega) z.size)⟩
theorem iStkS (p s l c k : Int) (g n cc : Nat) (xs : List Int) (me : Int) (h : Hd) (w : World) (G : Ws w g n cc xs) (hn : n ≤ 16777216) (hs : 0 ≤ h.seen ∧ h.seen ≤ 18446744073709551615) (hp : 0 ≤ h.put ∧ h.put ≤ 18446744073709551615) :
    Calls Tryz.prog 16 #[.agg #[.int .i64 p, .int .i64 s, .int .i64 l, .int .i64 c, .int .i64 k], .slice (some ⟨g, 0, none⟩) n cc, .int .i64 me, .agg h.ar] w (OutR w (ans10 p s l c k n xs me h)) := by
  unfold ans10
  cases hm : mayB p s l c k n me h 10
  · rw [if_neg (by decide)]
    refine (iStkSN p s l c k g n cc xs me h w G hn hm).mono ?_
    rintro e w' ⟨rfl, hb⟩
    exact OutR.zero hb
  · rw [if_pos rfl]
    have hao := (may_y hm).1
    have hup := (may_y hm).2.2.1
    have hat := lay10 (may_y hm).2.2.2
    refine (iStkSY p s l c k g n cc xs me h w G hn hm (fun pv => (st0 p s l c k pv n xs h 63).snext) (fun pv q B w1 S => tNextAll B q _ w1 S hn hs hao G.bd hat) (fun pv t e => Meas.snext e)).mono ?_
    rintro e w' ⟨pv, T⟩
    exact told_ans ((join10 (sm0 p s l c k 0 n 0 xs none 0 [] me h pv 63 G.len) rfl hao hup).old) ((join10 (sm0 p s l c k 0 n 0 xs none 0 [] me h (.slice none 0 0) 63 G.len) rfl hao hup).old) T
theorem ans10_len (p s l c k : Int) (n : Nat) (xs : List Int) (me : Int) (h : Hd) (hl : xs.length = n) (hs : 0 ≤ h.seen) (hp : 0 ≤ h.put ∧ h.put ≤ 18446744073709551615) (bd : Bdx xs) : (ans10 p s l c k n xs me h).xs.length ≤ n := by
  unfold ans10
  split
  · rename_i hm
    have J := join10 (sm0 p s l c k 0 n 0 xs none 0 [] me h (.slice none 0 0) 63 hl) rfl (may_y hm).1 (may_y hm).2.2.1
    have N := nc10 (nc0 p s l c k 0 n 0 xs none 0 [] me h bd)
    have := J.len
    rw [N.n] at this
    exact this
  · exact Nat.zero_le _
end Go.Proofs.YtdebjfgflldpjaaGreat
