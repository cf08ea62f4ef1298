/-
  What wordsOf answers.
-/
import Derived.Test.YtjimmfnloeecjaaPag
import Derived.Deep.Cut
namespace Go.Proofs.Ytjimmfnloeecjaa
open Go.RowKit
set_option linter.unusedVariables false
/-- What stands while the pages are gathered: the struct q, the result r, the list itself, the pages. -/
structure PSt (w0 w : World) (r q g n c : Nat) (xs : List Int) (pv : Value) (ps : List (Nat × Nat)) (m : Nat) : Prop where
  atR : At w r #[.slice none 0 0, .int .i64 0] 55
  atQ : At w q #[pv, .int .i64 n] 55
  ws : Ws w g n c xs
  pgs : Pgs w w0.heap.size pv ps m xs
  low : Below w0.heap.size w0 w
  rge : w0.heap.size ≤ r
  qge : w0.heap.size ≤ q
  rq : r ≠ q
  gl : g < w0.heap.size
  ro : pv.ownBlock ≠ some r
  qo : pv.ownBlock ≠ some q
  pp : ∀ p ∈ ps, p.1 ≠ r ∧ p.1 ≠ q
theorem PSt.keep {w0 w w' : World} {r q g n c : Nat} {xs : List Int} {pv : Value} {ps : List (Nat × Nat)} {m : Nat} (h : PSt w0 w r q g n c xs pv ps m) (hb : Below w.heap.size w w') : PSt w0 w' r q g n c xs pv ps m :=
  ⟨h.atR.keep hb, h.atQ.keep hb, h.ws.keep hb, h.pgs.keep hb, h.low.trans (hb.mono h.low.size), h.rge, h.qge, h.rq, h.gl, h.ro, h.qo, h.pp⟩
theorem PSt.app {w0 w w' : World} {r q g n c : Nat} {xs : List Int} {pv : Value} {ps : List (Nat × Nat)} {m : Nat} (h : PSt w0 w r q g n c xs pv ps m) {b o t cap : Nat}
    (hb : b < w.heap.size) (hbr : pv.ownBlock ≠ some b) (br : b ≠ r) (bq : b ≠ q) (hc : w.rangeAt b o (chunk xs m))
    (ho : w'.ownsRow w0.heap.size 63 1 (.slice (some ⟨t, 0, none⟩) (m + 1) cap) (m + 1) (ps.map ptr ++ [ptr (b, o)])) (hg : w.grownBy w' pv.ownBlock) (hat : pv.ownBlock = some t ∨ t = w.heap.size) :
    PSt w0 (w'.setCell ⟨q, 0, none⟩ (.slice (some ⟨t, 0, none⟩) (m + 1) cap)) r q g n c xs (.slice (some ⟨t, 0, none⟩) (m + 1) cap) (ps ++ [(b, o)]) (m + 1) := by
  have P := h.pgs.app ho hg hat hb hbr hc
  have key : ∀ d, d < w.heap.size → pv.ownBlock ≠ some d → t ≠ d := by
    rintro d hd hn rfl
    rcases hat with hat | hat
    · exact hn hat
    · omega
  have tr := key r h.atR.lt h.ro
  have tq := key q h.atQ.lt h.qo
  have og : pv.ownBlock ≠ some g := fun e => by have := (World.ownsRow.lt h.pgs.own g e).1; have := h.gl; omega
  have pp : ∀ p ∈ ps ++ [(b, o)], p.1 ≠ r ∧ p.1 ≠ q := by
    intro p hp
    rcases List.mem_append.1 hp with hp | hp
    · exact h.pp p hp
    · obtain rfl : p = (b, o) := by simpa using hp
      exact ⟨br, bq⟩
  have aq : At w' q #[pv, .int .i64 n] 55 := ⟨(hg.block q h.atQ.lt (fun e => h.qo e.symm)).trans h.atQ.is⟩
  have ar : At w' r #[.slice none 0 0, .int .i64 0] 55 := ⟨(hg.block r h.atR.lt (fun e => h.ro e.symm)).trans h.atR.is⟩
  have lo := h.low.grown hg h.low.size (fun k hk => (World.ownsRow.lt h.pgs.own k hk).1)
  refine ⟨ar.other (a := ⟨q, 0, none⟩) h.rq _, aq.set 0 _, (h.ws.of_block (hg.block g h.ws.lt (fun e => og e.symm))).other (a := ⟨q, 0, none⟩) (by have := h.gl; have := h.qge; show g ≠ q; omega) _,
    P.other (a := ⟨q, 0, none⟩) (by simp [Value.ownBlock]; exact tq) (fun p hp => (pp p hp).2) _, lo.setCell (p := ⟨q, 0, none⟩) h.qge _, h.rge, h.qge, h.rq, h.gl, by simp [Value.ownBlock]; exact tr, by simp [Value.ownBlock]; exact tq, pp⟩
theorem PSt.q0 {w0 w w' : World} {r q g n c : Nat} {xs : List Int} {pv : Value} {ps : List (Nat × Nat)} {m : Nat} (h : PSt w0 w r q g n c xs pv ps m) (hg : w.grownBy w' pv.ownBlock) : w'.cell? ⟨q, 0, none⟩ = some pv ∧ w'.frozen? ⟨q, 0, none⟩ = false := by
  have aq : At w' q #[pv, .int .i64 n] 55 := ⟨(hg.block q h.atQ.lt (fun e => h.qo e.symm)).trans h.atQ.is⟩
  exact ⟨aq.cell 0, aq.frozen 0⟩
theorem Pgs.sl {w : World} {B : Nat} {pv : Value} {ps : List (Nat × Nat)} {m : Nat} {xs : List Int} (h : Pgs w B pv ps m xs) : ∃ a b c, pv = .slice a b c := by
  rcases h.own.2 with ⟨rfl, _⟩ | ⟨g, cap, cur, rfl, _⟩
  · exact ⟨_, _, _, rfl⟩
  · exact ⟨_, _, _, rfl⟩
theorem zeros_at (w : World) : At (w.alloc (.cells (List.replicate 64 (Value.int .u64 0)).toArray 65)) w.heap.size (List.replicate 64 (Value.int .u64 0)).toArray 65 := At.new _ _ _
/-- The rest of a list behind its whole pages. -/
def tail64 (xs : List Int) (k : Nat) : List Value := (xs.drop (64 * k)).map (Value.int .u64)
theorem tail64_splice {xs : List Int} {n k m : Nat} (hl : xs.length = n) (hn : n = 64 * k + m) (hm : m < 64) : splice (List.replicate 64 (Value.int .u64 0)) 0 (tail64 xs k) = chunk xs k := by
  have e : (tail64 xs k).length = m := by simp [tail64]; omega
  refine List.ext_getElem? fun j => ?_
  unfold splice
  simp only [List.take_zero, List.nil_append, Nat.zero_add, e]
  by_cases hj : j < m
  · rw [List.getElem?_append_left (by omega), chunk_at _ _ _ (by omega)]
    have h2 : 64 * k + j < xs.length := by omega
    simp [tail64, h2]
  · rw [List.getElem?_append_right (by omega), e]
    by_cases h64 : j < 64
    · rw [chunk_at _ _ _ h64]
      have h2 : ¬ 64 * k + j < xs.length := by omega
      rw [List.getElem?_drop, List.getElem?_replicate, if_pos (by omega)]
      simp [List.getElem?_eq_none (Nat.not_lt.1 h2)]
    · rw [List.getElem?_eq_none (l := chunk xs k) (by rw [chunk_len]; omega), List.getElem?_drop, List.getElem?_replicate, if_neg (by omega)]
theorem tail64_src {w : World} {g n c k m : Nat} {xs : List Int} (h : Ws w g n c xs) (hn : n = 64 * k + m) : ∀ (j : Nat) (v : Value), (tail64 xs k)[j]? = some v → w.cell? ((⟨g, 64 * k, none⟩ : Addr).add j) = some v := by
  intro j v hv
  have e : (tail64 xs k).length = m := by have := h.len; simp [tail64]; omega
  have hj : j < m := by have := (List.getElem?_eq_some_iff.1 hv).1; omega
  rw [Addr.add_mid, h.cell _ (by omega), ← hv]
  have h2 : 64 * k + j < xs.length := by have := h.len; omega
  simp [tail64, h2]
theorem wordsFin {w0 w1 : World} {r q g n c : Nat} {xs : List Int} {pv : Value} {ps : List (Nat × Nat)} {m : Nat} {T : Array Value} (st : PSt w0 w1 r q g n c xs pv ps m) (hT : T[2]?.getD undef = .pointer (some ⟨r, 0, none⟩)) :
    bodyPost Try.prog Try.f38 (fun e w' => ∃ pv, e = .returned (.agg #[pv, .int .i64 n]) ∧ (∃ ps, Pgs w' w0.heap.size pv ps m xs) ∧ Below w0.heap.size w0 w') .ret ⟨T, []⟩ ((w1.setCell ⟨r, 0, none⟩ pv).setCell ⟨r, 1, none⟩ (.int .i64 n)) := by
  have R := (st.atR.set 0 pv).set 1 (.int .i64 n)
  have r0 := R.cell 0
  have r1 := R.cell 1
  simp at r0 r1
  exact bodyPost_ret (v := .agg #[pv, .int .i64 n]) (by simp [results, Try.results38, go_sem, hT, r0, r1]) rfl
    ⟨pv, rfl, ⟨ps, (st.pgs.other (a := ⟨r, 0, none⟩) st.ro (fun p hp => (st.pp p hp).1) _).other (a := ⟨r, 1, none⟩) st.ro (fun p hp => (st.pp p hp).1) _⟩,
      (st.low.setCell (p := ⟨r, 0, none⟩) st.rge _).setCell (p := ⟨r, 1, none⟩) st.rge _⟩
theorem run_arrayAt (b o m cc : Nat) (h : 64 ≤ m) (w : World) : (Instr.arrayAt 65 (.slice (some ⟨b, o, none⟩) m cc)).run Try.prog w = .ok (.pointer (some ⟨b, o, none⟩)) w := by
  have hm : ¬ m < 64 := by omega
  simp [Instr.arrayAt, go_sem, hm]
theorem infoU1 : (Try.prog.info? 34).map (·.size) = some 1 := by kernel_rfl
set_option maxHeartbeats 4000000 in
theorem iWords (g n c : Nat) (xs : List Int) (w : World) (h : Ws w g n c xs) (hn : n ≤ 16777216) :
    Calls Try.prog 38 #[.slice (some ⟨g, 0, none⟩) n c] w fun e w' => ∃ pv, e = .returned (.agg #[pv, .int .i64 n]) ∧ (∃ ps, Pgs w' w.heap.size pv ps ((n + 63) / 64) xs) ∧ Below w.heap.size w w' := by
  obtain ⟨i0, hi, hz0, hz1, hz2⟩ := info_parts infoP
  have st0 : PSt w ((w.alloc (Obj.cells #[.slice none 0 0, .int .i64 0] 55)).alloc (Obj.cells #[.slice none 0 0, .int .i64 n] 55)) w.heap.size (w.heap.size + 1) g n c xs (.slice none 0 0) [] 0 := by
    have b1 : Below w.heap.size w (w.alloc (Obj.cells #[.slice none 0 0, .int .i64 0] 55)) := (Below.refl _ _).alloc (Nat.le_refl _) _
    have e1 : (w.alloc (Obj.cells #[.slice none 0 0, .int .i64 0] 55)).heap.size = w.heap.size + 1 := by simp
    refine ⟨(At.new w _ _).keep ((Below.refl _ _).alloc (Nat.le_refl _) _), ?_, (h.alloc _).alloc _, Pgs.nil _ _ _, b1.alloc (by omega) _, Nat.le_refl _, by omega, by omega, h.lt, by simp [Value.ownBlock], by simp [Value.ownBlock], by simp⟩
    rw [← e1]
    exact At.new _ _ _
  have hcn : n ≤ c ∧ c ≤ 9223372036854775807 := by
    rcases h.own.2 with ⟨hv, _⟩ | ⟨g', cap, cur, hv, h1, h2, h3, h4, _⟩
    · cases hv
    · obtain ⟨-, -, rfl⟩ : (some (⟨g, 0, none⟩ : Addr) = some ⟨g', 0, none⟩) ∧ n = n ∧ c = cap := by simpa using hv
      exact ⟨h3, by unfold maxLen at h4; omega⟩
  obtain ⟨M, hM⟩ : ∃ M : Nat, Hid ((n + 63) / 64 = M) := ⟨_, rfl⟩
  rw [hM.out]
  go_enter Try.func38, Try.ntmps38
  go_wp2
  generalize hr : w.heap.size = r at *
  generalize hq : r + 1 = q at *
  go_loopg [0] n (fun g' y wr => ∃ (k m cc : Nat) (ad : Addr) (pv : Value) (ps : List (Nat × Nat)), n = 64 * k + m ∧ c = 64 * k + cc ∧ g' = m ∧ y = .slice (some ad) m cc ∧ (0 < m → ad = ⟨g, 64 * k, none⟩) ∧ PSt w wr r q g n c xs pv ps k)
  case atStart => exact ⟨0, n, c, ⟨g, 0, none⟩, .slice none 0 0, [], by omega, by omega, rfl, rfl, fun _ => rfl, st0⟩
  case round =>
    clear st0
    obtain ⟨k, m, cc, ad, pv, ps, hnk0, hck0, hg, rfl, had, st⟩ := hrel
    have hge := st.low.size
    have hnk : Hid (n = 64 * k + m ∧ c = 64 * k + cc) := ⟨hnk0, hck0⟩
    have hmc : (m : Int) ≤ (cc : Int) ∧ m ≤ 16777216 ∧ k ≤ 16777216 ∧ (cc : Int) ≤ 9223372036854775807 := by omega
    clear hnk0 hck0
    have q0 := st.atQ.cell 0
    have q1 := st.atQ.cell 1
    have qf := st.atQ.frozen 0
    simp at q0 q1
    by_cases hm : 64 ≤ m
    · obtain rfl := had (by omega)
      have hm' : (64 : Int) ≤ (m : Int) := by omega
      have hql := st.atQ.lt
      have hfz : ∀ o, (wr.alloc o).frozen? ⟨q, 0, none⟩ = false := fun o => ((st.atQ.keep ((Below.refl _ _).alloc (Nat.le_refl _) o)).frozen 0)
      have hne := World.new_ne wr ⟨q, 0, none⟩ q0
      have ha := run_arrayAt g (64 * k) m cc hm
      have st1 := st.keep ((Below.refl _ _).alloc (Nat.le_refl _) (Obj.cells #[ptr (g, 64 * k)] 63))
      go_wp2_with fail
      go_region_law
        ((refine step_append_lies _ (by rfl) _ _ _ (by rfl) w.heap.size 63 i0 _ 1 8 Try.underlying53 hi hz0 hz1 hz2 rfl (by decide) pv k (ps.map ptr) (by rfl) (st1.pgs.own.drew) ⟨wr.heap.size, 0, none⟩ 1 1 [ptr (g, 64 * k)] (by rfl) (by rfl) (World.news_of_block (cs := #[ptr (g, 64 * k)]) (t := 63) (fr := (0, 0)) (heap_alloc_new wr _)) (one_ptr _) (by decide) (by unfold maxLen; omega) (by omega) (by simp; have := st.low.size; omega) (wr.heap.size + 1) (by simp) ?_; intro t cap w1 hown hgrow hat hlt; obtain ⟨k0, k1⟩ := (st1.keep (Below.refl _ _).drew).q0 hgrow))
      all_goals
        have st2 := (st1.keep (Below.refl _ _).drew).app (b := g) (o := 64 * k) (by have := st1.ws.lt; simpa using this) (fun e => by have := (World.ownsRow.lt st.pgs.own g e).1; have := st.gl; omega) (by have := st.gl; have := st.rge; omega) (by have := st.gl; have := st.qge; omega) (((st1.keep (Below.refl _ _).drew).ws).chunk k (by have := hnk.out; omega)) hown hgrow (by simpa using hat)
        clear hown hgrow hat hlt k0 k1 st1 st ha hne hfz hql q0 q1 qf had
        generalize w1.setCell ⟨q, 0, none⟩ (.slice (some ⟨t, 0, none⟩) (k + 1) cap) = w2 at *
        go_wp2
      all_goals
        have hnk' := hnk.out
        go_roundg (m - 64)
        case measure => omega
        case rel =>
          first
          | exact ⟨k + 1, m - 64, 0, _, _, _, by omega, by omega, rfl, rfl, fun hpos => by omega, st2⟩
          | exact ⟨k + 1, m - 64, cc - 64, _, _, _, by omega, by omega, rfl, rfl, fun hpos => rfl, st2⟩
    · have hm' : (m : Int) < 64 := by omega
      by_cases h0 : m = 0
      · subst h0
        have r0 := st.atR.cell 0
        have r1 := st.atR.cell 1
        have rf0 := st.atR.frozen 0
        have rf1 := st.atR.frozen 1
        have rq := st.rq
        simp at r0 r1
        obtain ⟨pa, pb, pc, rfl⟩ := st.pgs.sl
        go_wp2
        obtain rfl : M = k := by have := hnk.out; have := hM.out; omega
        subst hr
        exact wordsFin st (by rfl)
      · obtain rfl := had (by omega)
        have h1 : (0 : Int) < (m : Int) := by omega
        clear q0 q1 qf
        go_upto_region 7 with fail
        change Code.wp _ _ _ _ (wr.alloc (Obj.cells (List.replicate 64 (Value.int .u64 0)).toArray 65))
        have hb1 : Below wr.heap.size wr (wr.alloc (Obj.cells (List.replicate 64 (Value.int .u64 0)).toArray 65)) := (Below.refl _ _).alloc (Nat.le_refl _) _
        have z1 := zeros_at wr
        have st1 := st.keep hb1
        generalize wr.alloc (Obj.cells (List.replicate 64 (Value.int .u64 0)).toArray 65) = w1 at *
        have hsrc := tail64_src st1.ws hnk.out.1
        have hlen : (tail64 xs k).length = m := by have := st1.ws.len; have := hnk.out; simp [tail64]; omega
        have hsp := tail64_splice st1.ws.len hnk.out.1 (by omega)
        have h64 : Hid (Nat.min m 64 = m) := Nat.min_eq_left (by omega)
        have hfit : 0 + (tail64 xs k).length ≤ (List.replicate 64 (Value.int .u64 0)).length := by rw [hlen, List.length_replicate]; omega
        have h1c : ∀ v ∈ tail64 xs k, v.oneCell' = true := u64_one (xs.drop (64 * k))
        go_upto_region 9 with (first
          | (refine wpList_copy_splice (by rfl) (.tmp 26) (.tmp 27) 24 24 (by rfl) 34 Try.underlying24 infoU1 _ _ 64 64 m cc (by rfl) (by rfl) wr.heap.size 0 (List.replicate 64 (Value.int .u64 0)) 65 z1.is (tail64 xs k) (hlen.trans h64.out.symm) (fun _ => ⟨rfl, _, rfl, hsrc⟩) hfit h1c wr.heap.size w1 (Below.refl _ _) (Nat.le_refl _) ?_; intro w2 HG2 hB2; have st2 := st.keep (hb1.trans hB2); have st3 := st2.keep ((Below.refl _ _).alloc (Nat.le_refl _) (Obj.cells #[ptr (wr.heap.size, 0)] 63)); have q0 := st2.atQ.cell 0; have q1 := st2.atQ.cell 1; simp at q0 q1; have qf := st2.atQ.frozen 0; have hql := st2.atQ.lt)
          | (at_builtin; refine wpList_append_lies _ rfl (.tmp 30) (.tmp 32) 53 rfl w.heap.size 63 i0 (.pointer none) 1 8 Try.underlying53 hi hz0 hz1 hz2 rfl (by decide) pv k (ps.map ptr) rfl st3.pgs.own ⟨w2.heap.size, 0, none⟩ 1 1 [ptr (wr.heap.size, 0)] rfl rfl (World.news_of_block (cs := #[ptr (wr.heap.size, 0)]) (t := 63) (fr := (0, 0)) (heap_alloc_new w2 _)) (one_ptr _) (by decide) (by unfold maxLen; omega) (by omega) (by simp; have := st2.low.size; omega) (w2.heap.size + 1) (by simp) ?_; intro t cap w3 hown hgrow hat hlt; obtain ⟨k0, k1⟩ := st3.q0 hgrow))
        have hA : At w2 wr.heap.size (chunk xs k).toArray 65 := ⟨by rw [← hsp]; exact HG2.out⟩
        have hc : w2.rangeAt wr.heap.size 0 (chunk xs k) := fun j v hv => by rw [Nat.zero_add, hA.cell]; simpa using hv
        have st4 := st3.app (b := wr.heap.size) (o := 0) (by have := hA.lt; simp; omega) (fun e => by have := (World.ownsRow.lt st.pgs.own _ e).2; omega) (by have := st.atR.lt; omega) (by have := st.atQ.lt; omega) (World.rangeAt_alloc hc _) hown hgrow (by simpa using hat)
        clear hown hgrow hat hlt k0 k1 st3 st2 st1 st q0 q1 qf hsrc hsp hfit h1c HG2 hA hc hB2 hb1 z1
        generalize w3.setCell ⟨q, 0, none⟩ (.slice (some ⟨t, 0, none⟩) (k + 1) cap) = w4 at *
        have q0 := st4.atQ.cell 0
        have q1 := st4.atQ.cell 1
        have r0 := st4.atR.cell 0
        have r1 := st4.atR.cell 1
        have rf0 := st4.atR.frozen 0
        have rf1 := st4.atR.frozen 1
        have rq := st4.rq
        simp at q0 q1 r0 r1
        go_wp2
        obtain rfl : M = k + 1 := by have := hnk.out; have := hM.out; omega
        subst hr
        exact wordsFin st4 (by rfl)
end Go.Proofs.Ytjimmfnloeecjaa
