/-
  At a code: a note is written where it is less than what was seen, and is what was seen then; else the swap comes at once; nothing that was there is changed. No condition.
-/
import Derived.Test.YtljpkgloegafnaaMk
import Derived.Test.YtljpkgloegafnaaRows
import Derived.Deep.Cut
import Derived.Deep.RegionHeld3
import Derived.WalkKit
import Derived.ProofKit
import Derived.OpenShut
import Derived.ChangeOld
import Derived.Below
import Derived.Lib.SmallJoins
namespace Go.Proofs.Ytljpkgloegafnaa.fnNoteUp
open Go.ChangeShapes Go.WideShapes Go.ChangeAt Go.RowKit
set_option linter.unusedVariables false
set_option maxRecDepth 100000
theorem blankA {p s l c k : Int} (ho : ok p s l c k = true) : (blank p s l c k).length = (zF p s l c).toNat := by
  have e : blank p s l c k = blank2 p s l c k := by unfold blank; rw [if_pos ho]
  rw [e]
  unfold blank2 blank1
  rw [hung_len, hung_len]
  simp [blank0]
theorem blankOk {p s l c k : Int} (ho : ok p s l c k = true) : aOk p s l c k (blank p s l c k).length = true := by
  have h' := ok_iff.1 ho
  have hq := sq_bd h'.1 h'.2.1
  have hz : 1 ≤ zF p s l c := by unfold zF; (try unfold sF); (try unfold rF); (try unfold nF); omega
  unfold aOk vSize
  rw [ho, blankA ho]
  exact decide_eq_true (by simp; omega)
theorem note_in {p s l c k i j : Int} (ho : ok p s l c k = true) (hi : 0 ≤ i ∧ i < p) (hj : 0 ≤ j ∧ j < p) : ∃ m : Nat, vNote p s l c k i j = (m : Int) ∧ (m : Int) < zF p s l c := by
  have h' := ok_iff.1 ho
  have hq := sq_bd h'.1 h'.2.1
  have h1 : i * p ≤ (p - 1) * p := Int.mul_le_mul_of_nonneg_right (by omega) (by omega)
  have h2 : 0 ≤ i * p := Int.mul_nonneg hi.1 (by omega)
  have h3 : (p - 1) * p = p * p - p := by rw [Int.sub_mul]; omega
  have hv : vNote p s l c k i j = nF p + i * p + j := by unfold vNote; rw [if_pos ⟨ho, ⟨hi.1, by omega⟩, hj.1, by omega⟩]
  refine ⟨(nF p + i * p + j).toNat, ?_, ?_⟩
  · rw [hv]
    have : 0 ≤ nF p := by unfold nF; omega
    omega
  · have : nF p + i * p + j < zF p s l c := by
      unfold zF; (try unfold sF); (try unfold rF); (try unfold nF); omega
    have h0 : 0 ≤ nF p := by unfold nF; omega
    omega
theorem bHand (me x : Int) : Try.prog.built 39 [(0, .bool true), (4, .int .i64 1), (5, .int .i64 6), (11, .int .i64 me), (6, .int .i64 7), (15, .int .u64 x)] = some (nh me 6 x).ar := by kernel_rfl
theorem lowK {B c : Nat} {w0 w w' : World} (h : Below B w0 w) (k : Kept c w w') (hB : B ≤ c) (hw : B ≤ w.heap.size) : Below B w0 w' := h.trans (k.below hB hw)
def nu0 : Oper := { dst := some 56, op := Op.load 28 (Operand.tmp 4), type := 28, pos := "laws.go:573", after := #[], guard := none }
def nu1 : Oper := { dst := some 57, op := Op.move (Operand.tmp 5), type := 30, pos := "laws.go:573", after := #[], guard := none }
def nu2 : Oper := { dst := some 58, op := Op.call { callee := Callee.value (Operand.func 13), args := #[Operand.tmp 57], argTypes := #[30] }, type := 30, pos := "laws.go:573", after := #[{ on := 1, ground := Ground.data }], guard := none }
def nu3 : Oper := { dst := some 59, op := Op.move (Operand.tmp 7), type := 2, pos := "laws.go:573", after := #[], guard := none }
def nu4 : Oper := { dst := some 60, op := Op.load 39 (Operand.tmp 13), type := 39, pos := "laws.go:573", after := #[], guard := none }
def nu5 : Oper := { dst := some 61, op := Op.call { callee := Callee.value (Operand.func 12), args := #[Operand.tmp 56, Operand.tmp 58, Operand.tmp 59, Operand.tmp 60], argTypes := #[28, 30, 2, 39] }, type := 44, pos := "laws.go:573", after := #[{ on := 0, ground := Ground.data }, { on := 2, ground := Ground.data }, { on := 3, ground := Ground.data }, { on := 4, ground := Ground.data }, { on := 2, ground := Ground.chain }], guard := none }
def nu6 : Oper := { dst := some 55, op := Op.move (Operand.tmp 61), type := 44, pos := "laws.go:573", after := #[{ on := 5, ground := Ground.data }], guard := none }
def nu7 : Oper := { dst := some 62, op := Op.extract (Operand.tmp 55) 0, type := 43, pos := "laws.go:573", after := #[{ on := 6, ground := Ground.data }], guard := none }
def nu8 : Oper := { dst := some 63, op := Op.extract (Operand.tmp 55) 1, type := 4, pos := "laws.go:573", after := #[{ on := 6, ground := Ground.data }, { on := 10, ground := Ground.gcOnly Departure.lateStores }], guard := none }
def nu9 : Oper := { dst := some 14, op := Op.alloc 43, type := 0, pos := "laws.go:573", after := #[], guard := none }
def nu10 : Oper := { dst := none, op := Op.store 43 (Operand.tmp 14) (Operand.tmp 62), type := 0, pos := "laws.go:573", after := #[{ on := 9, ground := Ground.data }, { on := 7, ground := Ground.data }, { on := 5, ground := Ground.chain }, { on := 0, ground := Ground.phase }, { on := 1, ground := Ground.phase }, { on := 2, ground := Ground.phase }, { on := 3, ground := Ground.phase }, { on := 4, ground := Ground.phase }, { on := 5, ground := Ground.phase }, { on := 6, ground := Ground.phase }, { on := 7, ground := Ground.phase }, { on := 8, ground := Ground.textOnly Departure.lateStores }, { on := 9, ground := Ground.phase }], guard := none }
def nu11 : Oper := { dst := some 15, op := Op.assign (Operand.tmp 63), type := 4, pos := "laws.go:573", after := #[{ on := 8, ground := Ground.data }, { on := 10, ground := Ground.chain }, { on := 0, ground := Ground.phase }, { on := 1, ground := Ground.phase }, { on := 2, ground := Ground.phase }, { on := 3, ground := Ground.phase }, { on := 4, ground := Ground.phase }, { on := 5, ground := Ground.phase }, { on := 6, ground := Ground.phase }, { on := 7, ground := Ground.phase }, { on := 8, ground := Ground.phase }, { on := 9, ground := Ground.phase }, { on := 10, ground := Ground.phase }], guard := none }
theorem any_at {P : Program} {md : Region.Mode} {ops : Array Oper} {Q : Exit → Act → World → Prop} {S : World → Prop} {fuel : Nat} {listed : Array Bool} {a : Act} {W : World} (R : World → Prop) (r : R W) (h : ∀ w, R w → wpAnyH P md ops Q S fuel listed a w) : wpAnyH P md ops Q S fuel listed a W := h W r
set_option maxHeartbeats 16000000 in
theorem walk (a : Option Addr) (len cap : Nat) (zs : List Int) (w : World) (hr : IsRow .u8 w a len cap zs) :
    Calls Try.prog 3 #[.slice a len cap] w fun e w' => e = .returned (.bool true) ∧ Below w.heap.size w w' := by
  go_enter Try.func3, Try.ntmps3
  go_wp2_with fail
  refine (big_any a len cap _ hr.small).mono ?_
  rintro e w0 ⟨rfl, rfl⟩
  by_cases hl : (4096 : Int) < len
  · rw [decide_eq_true hl]
    go_wp2
    go_ret
    exact ⟨rfl, Below.refl _ _⟩
  · rw [decide_eq_false hl]
    go_wp2_with fail
    refine (roll_any a len cap _ _ (by omega) hr.row).mono ?_
    rintro e w1 ⟨dc, rfl, hd, z⟩
    clear hl hr
    go_wp2_with fail
    have hdc := hd.ge
    refine (plan_dice _ dc _ hd).mono ?_
    rintro e w2 ⟨p, s, l, c, k, rfl, hS, hd2, k2⟩
    have hz1 := z.size
    replace z := lowK z k2 hdc hz1
    clear hd k2
    have ho := hS.ok
    have h' := ok_iff.1 ho
    go_wp2_with fail
    have P := At.new w2 #[.int .i64 p, .int .i64 s, .int .i64 l, .int .i64 c, .int .i64 k] 28
    have hq := z.size
    have hdl := hd2.lt
    have hb0 : Below w2.heap.size w2 (w2.alloc (Obj.cells #[.int .i64 p, .int .i64 s, .int .i64 l, .int .i64 c, .int .i64 k] 28)) := (Below.refl _ _).alloc (Nat.le_refl _) _
    replace hd2 := hd2.keep hb0
    replace z := z.trans (hb0.mono hq)
    clear hb0
    refine (sBlank p s l c k _).mono ?_
    rintro e w3 ⟨g, n, cc, rfl, hg, G, hn, hb⟩
    have hs0 : w2.heap.size < g := by simp at hg; omega
    replace P := P.keep hb
    replace hd2 := hd2.keep hb
    replace z := z.trans (hb.mono (by simp; omega))
    clear hb hg
    obtain ⟨q, hqq⟩ : ∃ q, Hid (w2.heap.size = q) := ⟨_, rfl⟩
    rw [hqq.out] at P hs0 hdl hq
    rw [hqq.out]
    have hqc : q ≠ dc := by omega
    have hgc : g ≠ dc := by omega
    clear hdl hS
    have hgz : w0.heap.size ≤ g := by omega
    have hzq : w0.heap.size ≤ q := by omega
    obtain ⟨d0, -⟩ := P.five
    go_wp2_with fail
    refine (throw_any _ dc _ _ hd2 (by omega) (by omega)).mono ?_
    rintro e w4 ⟨o, rfl, bo, hd3, k3⟩
    replace P := P.kept k3 hqc
    replace G := G.kept k3 hgc
    have hzs := z.size
    replace z := lowK z k3 hdc hzs
    clear hd2 k3 d0 hzs
    obtain ⟨d0, -⟩ := P.five
    go_wp2_with fail
    refine (throw_any _ dc _ _ hd3 (by omega) (by omega)).mono ?_
    rintro e w5 ⟨me, rfl, bm, hd2, k3⟩
    replace P := P.kept k3 hqc
    replace G := G.kept k3 hgc
    have hzs := z.size
    replace z := lowK z k3 hdc hzs
    clear hd3 k3 d0 hzs
    go_wp2_with fail
    refine (throw_any _ dc _ _ hd2 (by omega) (by omega)).mono ?_
    rintro e w6 ⟨was, rfl, bw, hd3, k3⟩
    replace P := P.kept k3 hqc
    replace G := G.kept k3 hgc
    have hzs := z.size
    replace z := lowK z k3 hdc hzs
    clear hd2 k3 hzs
    go_wp2_with fail
    refine (throw_any _ dc _ _ hd3 (by omega) (by omega)).mono ?_
    rintro e w7 ⟨sq, rfl, bs, hd2, k3⟩
    replace P := P.kept k3 hqc
    replace G := G.kept k3 hgc
    have hzs := z.size
    replace z := lowK z k3 hdc hzs
    clear hd3 hd2 k3 hzs
    obtain ⟨m, hm, hmz⟩ := note_in ho bo bm
    have hnl : (n : Int) = zF p s l c := by
      have h1 := G.len
      have h2 := blankA ho
      have hq := sq_bd h'.1 h'.2.1
      have hz : 1 ≤ zF p s l c := by unfold zF; (try unfold sF); (try unfold rF); (try unfold nF); omega
      omega
    have haok : aOk p s l c k n = true := by rw [← G.len]; exact blankOk ho
    have hmn : m < n := by omega
    have HM : Hid (vNote p s l c k o me = (m : Int)) := hm
    clear hm hmz hnl
    generalize blank p s l c k = xs at *
    obtain ⟨d0, d1, d2, d3, d4⟩ := P.five
    have hw0 : IntKind.u64.wrap was = was := by rw [IntKind.wrap_u64]; omega
    have hmi : (m : Int) < (n : Int) := by omega
    go_upto_region 11 with (go_at_call 10; refine (sNote p s l c k _ _ _).mono ?_; rintro e w8 ⟨rfl, hb⟩; rw [HM.out]; replace P := P.keep hb; replace G := G.keep hb; replace z := z.trans (hb.mono z.size); clear hb)
    have c1 := G.cell m hmn
    have f1 := G.frozen m
    go_upto_region 12 with fail
    refine wp_at (fun W => At W q #[.int .i64 p, .int .i64 s, .int .i64 l, .int .i64 c, .int .i64 k] 28 ∧ Ws W g n cc (xs.set m was) ∧ Below w0.heap.size w0 W) ⟨P.other (a := ⟨g, m, none⟩) (by show q ≠ g; omega) _, G.set m was (by omega), z.setCell (p := ⟨g, m, none⟩) hgz _⟩ ?_
    have hxm : (xs.set m was).getD m 0 = was := by
      have := G.len
      simp [show m < xs.length by omega]
    clear c1 f1 d0 d1 d2 d3 d4 P G z hw0
    rintro w9 ⟨P, G, z⟩
    generalize xs.set m was = ys at *
    have hwk : wOk 0 o 1 sq = true := wOk_iff.2 (by omega)
    have hpb := pk_bd hwk
    have hpP : uP (pk 0 o 1 sq) = o := by unfold uP pk; omega
    have hpS : uS (pk 0 o 1 sq) = sq := by unfold uS pk; omega
    have HX : Hid (uP (pk 0 o 1 sq) = o ∧ uS (pk 0 o 1 sq) = sq ∧ ∃ x, x = pk 0 o 1 sq) := ⟨hpP, hpS, _, rfl⟩
    clear hpP hpS
    obtain ⟨x, hx⟩ : ∃ x, Hid (pk 0 o 1 sq = x) := ⟨_, rfl⟩
    rw [hx.out] at hpb
    have HX1 : uP x = o := by rw [← hx.out]; exact HX.out.1
    have HX2 : uS x = sq := by rw [← hx.out]; exact HX.out.2.1
    have HX0 : Hid (uP x = o ∧ uS x = sq) := ⟨HX1, HX2⟩
    clear HX HX1 HX2
    go_upto_region 14 with (first
      | (go_at_call 11; refine (sPackY _ _ _ _ _ hwk).mono ?_; rintro e w10 ⟨rfl, hb⟩; rw [hx.out]; replace P := P.keep hb; replace G := G.keep hb; replace z := z.trans (hb.mono z.size); clear hb)
      | (refine wpList_built rfl 39 #[(0, .const (.bool true)), (4, .const (.int .i64 1)), (5, .const (.int .i64 6)), (11, .tmp 52), (6, .const (.int .i64 7)), (15, .tmp 53)] rfl [(0, .bool true), (4, .int .i64 1), (5, .int .i64 6), (11, .int .i64 me), (6, .int .i64 7), (15, .int .u64 x)] rfl _ (bHand _ _) ?_)
      | (refine newV (vs := (nh me 6 x).vs) infoH (Hd.one _) rfl (.tmp 13) (.tmp 54) rfl rfl rfl rfl ?_; intro w11 H hb lt11; replace P := P.keep hb; replace G := G.keep hb; have hzh := z.size; replace z := z.trans (hb.mono hzh); clear hb))
    obtain ⟨hb, hhb⟩ : ∃ hb, Hid (w10.heap.size = hb) := ⟨_, rfl⟩
    rw [hhb.out] at H hzh
    rw [hhb.out]
    clear lt11 hhb hzh
    obtain ⟨W, rfl⟩ : ∃ W, W = w11 := ⟨_, rfl⟩
    have hmin : inB me 0 (p - 1) = true := decide_eq_true (by omega)
    have hMX : vNote p s l c k (uP x) me = (m : Int) := by rw [HX0.out.1]; exact HM.out
    obtain ⟨a1, ha1⟩ : ∃ a1 : Int, Hid ((if ys.getD m 0 < uS x then (7 : Int) else 8) = a1) := ⟨_, rfl⟩
    have hgW := G.lt
    have hzW := z.size
    simp only [Act.put]
    go_cut [14, 15] from 55 (fun u v wc => ∃ bd gb : Nat, u = .pointer (some ⟨bd, 0, none⟩) ∧ v = .bool true ∧ At wc bd (doneVs (.slice (some ⟨gb, 0, none⟩) n n) (nh me a1 x) Dd.zero).toArray 43 ∧ Ws wc gb n n ys ∧ At wc q #[.int .i64 p, .int .i64 s, .int .i64 l, .int .i64 c, .int .i64 k] 28 ∧ Ws wc g n cc ys ∧ Below w0.heap.size w0 wc ∧ W.heap.size ≤ bd)
    case first =>
      have lp : ∀ w', Cls W w' → (loadVar 28 ⟨q, 0, none⟩).run Try.prog w' = .ok (.agg #[.int .i64 p, .int .i64 s, .int .i64 l, .int .i64 c, .int .i64 k]) w' := ld_agg (vs := [.int .i64 p, .int .i64 s, .int .i64 l, .int .i64 c, .int .i64 k]) P Try.underlying28 rfl (by kernel_rfl)
      have lh : ∀ w', Cls W w' → (loadVar 39 ⟨hb, 0, none⟩).run Try.prog w' = .ok (.agg (nh me 6 x).ar) w' := ld_agg (vs := (nh me 6 x).vs) H Try.underlying39 rfl infoH
      refine wp_region_held_drew (S := Cls W) (by kernel_rfl) ⟨⟨rfl, rfl, rfl, Nat.le_refl _, fun _ _ => rfl⟩⟩ (fun hS => ?_)
      generalize W.drew = v0 at *
      refine tk_load (i := 0) (oi := nu0) rfl (by kernel_rfl) (by kernel_rfl) (by kernel_rfl) (fun _ _ _ h => h) (by rfl) _ _ _ rfl rfl (by assumption) hS ?_
      simp only [nu0, Act.put, List.setIfInBounds_toArray, List.set_cons_zero, List.set_cons_succ]
      refine tk_pure (i := 1) (oi := nu1) rfl (by kernel_rfl) (by kernel_rfl) (by kernel_rfl) (fun _ _ _ h => h) (by rfl) hS (fun w9 => by simp only [nu1]; go_simp; (try with_reducible rfl)) ?_
      simp only [nu1, Act.put, List.setIfInBounds_toArray, List.set_cons_zero, List.set_cons_succ]
      refine tk_pure (i := 3) (oi := nu3) rfl (by kernel_rfl) (by kernel_rfl) (by kernel_rfl) (fun _ _ _ h => h) (by rfl) hS (fun w9 => by simp only [nu3]; go_simp; (try with_reducible rfl)) ?_
      simp only [nu3, Act.put, List.setIfInBounds_toArray, List.set_cons_zero, List.set_cons_succ]
      refine tk_load (i := 4) (oi := nu4) rfl (by kernel_rfl) (by kernel_rfl) (by kernel_rfl) (fun _ _ _ h => h) (by rfl) _ _ _ rfl rfl (by assumption) hS ?_
      simp only [nu4, Act.put, List.setIfInBounds_toArray, List.set_cons_zero, List.set_cons_succ]
      refine wpAnyH_ready (rs := [2, 9]) (by kernel_rfl) (by simp) ?_
      refine AllReadyH.cons (o := nu2) rfl (fun K hK => ?_) ?_
      · rw [if_pos (by rfl)]
        simp only [nu2]
        go_simp
        go_at_call 13
        refine (lCopied g n cc ys _ (G.keep hS.below) (by omega)).mono ?_
        rintro e v1 ⟨g1, c1, rfl, hg1, G1, hb⟩
        (go_wp2_with fail)
        have hS2 : Cls W v1 := ⟨hS.below.trans (hb.mono hS.below.size)⟩
        clear hb hg1
        refine hK.out _ _ hS2 (fun hS => ?_)
        clear hK K
        (try simp only [nu2, Act.put, List.setIfInBounds_toArray, List.set_cons_zero, List.set_cons_succ])
        refine wpAnyH_ready (rs := [5, 9]) (by kernel_rfl) (by simp) ?_
        refine AllReadyH.cons (o := nu5) rfl (fun K hK => ?_) ?_
        · rw [if_pos (by rfl)]
          simp only [nu5]
          go_simp
          go_at_call 12
          refine (iNoteStep p s l c k me x g1 n c1 ys _ G1 (by omega) ho haok hmin hpb m hmn hMX).mono ?_
          rintro e v2 ⟨gb, rfl, hgb, Gb, hb⟩
          rw [ha1.out]
          (go_wp2_with fail)
          have hS2 : Cls W v2 := ⟨hS.below.trans (hb.mono hS.below.size)⟩
          clear hb
          refine hK.out _ _ hS2 (fun hS => ?_)
          clear hK K
          (try simp only [nu5, Act.put, List.setIfInBounds_toArray, List.set_cons_zero, List.set_cons_succ])
          refine tk_pure (i := 6) (oi := nu6) rfl (by kernel_rfl) (by kernel_rfl) (by kernel_rfl) (fun _ _ _ h => h) (by rfl) hS (fun w9 => by simp only [nu6]; go_simp; (try with_reducible rfl)) ?_
          simp only [nu6, Act.put, List.setIfInBounds_toArray, List.set_cons_zero, List.set_cons_succ]
          refine tk_pure (i := 7) (oi := nu7) rfl (by kernel_rfl) (by kernel_rfl) (by kernel_rfl) (fun _ _ _ h => h) (by rfl) hS (fun w9 => by simp only [nu7]; go_simp; (try with_reducible rfl)) ?_
          simp only [nu7, Act.put, List.setIfInBounds_toArray, List.set_cons_zero, List.set_cons_succ]
          refine tk_pure (i := 8) (oi := nu8) rfl (by kernel_rfl) (by kernel_rfl) (by kernel_rfl) (fun _ _ _ h => h) (by rfl) hS (fun w9 => by simp only [nu8]; go_simp; (try with_reducible rfl)) ?_
          simp only [nu8, Act.put, List.setIfInBounds_toArray, List.set_cons_zero, List.set_cons_succ]
          refine wpAnyH_ready (rs := [9]) (by kernel_rfl) (by simp) ?_
          refine AllReadyH.cons (o := nu9) rfl (fun K hK => ?_) ?_
          · rw [if_pos (by rfl)]
            simp only [nu9]
            go_simp
            have hzz : W.heap.size ≤ v2.heap.size := hS.below.size
            refine hK.out _ _ ⟨hS.below.trans (((Below.refl _ _).alloc (Nat.le_refl _) _).mono hS.below.size)⟩ (fun hS => ?_)
            clear hK K
            (try simp only [nu9, Act.put, List.setIfInBounds_toArray, List.set_cons_zero, List.set_cons_succ])
            refine any_at (fun x => At x v2.heap.size doneZ.toArray 43 ∧ Below v2.heap.size v2 x ∧ Cls W x ∧ v2.heap.size < x.heap.size) ⟨At.new _ _ _, (Below.refl _ _).alloc (Nat.le_refl _) _, hS, by simp⟩ ?_
            have hz0 : W.heap.size ≤ v2.heap.size := hzz
            clear hS hzz
            have hgb0 := Gb.lt
            rintro v3 ⟨al, hb, hS, al0⟩
            replace Gb := Gb.keep hb
            obtain ⟨bd, hbd⟩ : ∃ bd, Hid (v2.heap.size = bd) := ⟨_, rfl⟩
            rw [hbd.out] at al hz0 al0
            rw [hbd.out]
            have hge : W.heap.size ≤ bd := hz0
            have hlb : gb < bd := by have := hbd.out; omega
            clear hb
            refine wpAnyH_ready (rs := [10]) (by kernel_rfl) (by simp) ?_
            refine AllReadyH.cons (o := nu10) rfl (fun K hK => ?_) ?_
            · rw [if_pos (by rfl)]
              refine wp_storeDn (.tmp 14) (.tmp 62) rfl bd (.slice (some ⟨gb, 0, none⟩) n n) (nh me a1 x) Dd.zero rfl rfl rfl al rfl ?_
              intro v4 al2 kk
              have Gb2 := Gb.kept kk (by omega)
              have hS2 : Cls W v4 := ⟨hS.below.trans (kk.below hge hS.below.size)⟩
              refine hK.out _ _ hS2 (fun hS => ?_)
              clear hK K
              simp only [nu10, Act.put]
              refine tk_pure (i := 11) (oi := nu11) rfl (by kernel_rfl) (by kernel_rfl) (by kernel_rfl) (fun _ _ _ h => h) (by rfl) hS (fun w9 => by simp only [nu11]; go_simp; (try with_reducible rfl)) ?_
              simp only [nu11, Act.put, List.setIfInBounds_toArray, List.set_cons_zero, List.set_cons_succ]
              refine wpAnyH_done (by kernel_rfl) ?_ _
              (go_wp2_with fail)
              go_meet
              case rel => exact ⟨bd, gb, rfl, rfl, al2, Gb2, P.keep hS.below, G.keep hS.below, z.trans (hS.below.mono z.size), hge⟩
            exact AllReadyH.nil
          exact AllReadyH.nil
        refine AllReadyH.cons (o := nu9) rfl (fun K hK => ?_) ?_
        · rw [if_pos (by rfl)]
          simp only [nu9]
          go_simp
          have hzz : W.heap.size ≤ v1.heap.size := hS.below.size
          refine hK.out _ _ ⟨hS.below.trans (((Below.refl _ _).alloc (Nat.le_refl _) _).mono hS.below.size)⟩ (fun hS => ?_)
          clear hK K
          (try simp only [nu9, Act.put, List.setIfInBounds_toArray, List.set_cons_zero, List.set_cons_succ])
          refine any_at (fun x => At x v1.heap.size doneZ.toArray 43 ∧ Below v1.heap.size v1 x ∧ Cls W x ∧ v1.heap.size < x.heap.size) ⟨At.new _ _ _, (Below.refl _ _).alloc (Nat.le_refl _) _, hS, by simp⟩ ?_
          have hz0 : W.heap.size ≤ v1.heap.size := hzz
          clear hS hzz
          rintro v2 ⟨al, hb, hS, al0⟩
          replace G1 := G1.keep hb
          obtain ⟨bd, hbd⟩ : ∃ bd, Hid (v1.heap.size = bd) := ⟨_, rfl⟩
          rw [hbd.out] at al hz0 al0
          rw [hbd.out]
          have hge : W.heap.size ≤ bd := hz0
          clear hb
          refine wpAnyH_ready (rs := [5]) (by kernel_rfl) (by simp) ?_
          refine AllReadyH.cons (o := nu5) rfl (fun K hK => ?_) ?_
          · rw [if_pos (by rfl)]
            simp only [nu5]
            go_simp
            go_at_call 12
            refine (iNoteStep p s l c k me x g1 n c1 ys _ G1 (by omega) ho haok hmin hpb m hmn hMX).mono ?_
            rintro e v3 ⟨gb, rfl, hgb, Gb, hb⟩
            rw [ha1.out]
            (go_wp2_with fail)
            have hgl := al.lt
            have hlb : bd < gb := by omega
            replace al := al.keep hb
            have hS2 : Cls W v3 := ⟨hS.below.trans (hb.mono hS.below.size)⟩
            clear hb
            refine hK.out _ _ hS2 (fun hS => ?_)
            clear hK K
            (try simp only [nu5, Act.put, List.setIfInBounds_toArray, List.set_cons_zero, List.set_cons_succ])
            refine tk_pure (i := 6) (oi := nu6) rfl (by kernel_rfl) (by kernel_rfl) (by kernel_rfl) (fun _ _ _ h => h) (by rfl) hS (fun w9 => by simp only [nu6]; go_simp; (try with_reducible rfl)) ?_
            simp only [nu6, Act.put, List.setIfInBounds_toArray, List.set_cons_zero, List.set_cons_succ]
            refine tk_pure (i := 7) (oi := nu7) rfl (by kernel_rfl) (by kernel_rfl) (by kernel_rfl) (fun _ _ _ h => h) (by rfl) hS (fun w9 => by simp only [nu7]; go_simp; (try with_reducible rfl)) ?_
            simp only [nu7, Act.put, List.setIfInBounds_toArray, List.set_cons_zero, List.set_cons_succ]
            refine tk_pure (i := 8) (oi := nu8) rfl (by kernel_rfl) (by kernel_rfl) (by kernel_rfl) (fun _ _ _ h => h) (by rfl) hS (fun w9 => by simp only [nu8]; go_simp; (try with_reducible rfl)) ?_
            simp only [nu8, Act.put, List.setIfInBounds_toArray, List.set_cons_zero, List.set_cons_succ]
            refine wpAnyH_ready (rs := [10]) (by kernel_rfl) (by simp) ?_
            refine AllReadyH.cons (o := nu10) rfl (fun K hK => ?_) ?_
            · rw [if_pos (by rfl)]
              refine wp_storeDn (.tmp 14) (.tmp 62) rfl bd (.slice (some ⟨gb, 0, none⟩) n n) (nh me a1 x) Dd.zero rfl rfl rfl al rfl ?_
              intro v4 al2 kk
              have Gb2 := Gb.kept kk (by omega)
              have hS2 : Cls W v4 := ⟨hS.below.trans (kk.below hge hS.below.size)⟩
              refine hK.out _ _ hS2 (fun hS => ?_)
              clear hK K
              simp only [nu10, Act.put]
              refine tk_pure (i := 11) (oi := nu11) rfl (by kernel_rfl) (by kernel_rfl) (by kernel_rfl) (fun _ _ _ h => h) (by rfl) hS (fun w9 => by simp only [nu11]; go_simp; (try with_reducible rfl)) ?_
              simp only [nu11, Act.put, List.setIfInBounds_toArray, List.set_cons_zero, List.set_cons_succ]
              refine wpAnyH_done (by kernel_rfl) ?_ _
              (go_wp2_with fail)
              go_meet
              case rel => exact ⟨bd, gb, rfl, rfl, al2, Gb2, P.keep hS.below, G.keep hS.below, z.trans (hS.below.mono z.size), hge⟩
            exact AllReadyH.nil
          exact AllReadyH.nil
        exact AllReadyH.nil
      refine AllReadyH.cons (o := nu9) rfl (fun K hK => ?_) ?_
      · rw [if_pos (by rfl)]
        simp only [nu9]
        go_simp
        have hzz : W.heap.size ≤ v0.heap.size := hS.below.size
        refine hK.out _ _ ⟨hS.below.trans (((Below.refl _ _).alloc (Nat.le_refl _) _).mono hS.below.size)⟩ (fun hS => ?_)
        clear hK K
        (try simp only [nu9, Act.put, List.setIfInBounds_toArray, List.set_cons_zero, List.set_cons_succ])
        refine any_at (fun x => At x v0.heap.size doneZ.toArray 43 ∧ Below v0.heap.size v0 x ∧ Cls W x ∧ v0.heap.size < x.heap.size) ⟨At.new _ _ _, (Below.refl _ _).alloc (Nat.le_refl _) _, hS, by simp⟩ ?_
        have hz0 : W.heap.size ≤ v0.heap.size := hzz
        clear hS hzz
        rintro v1 ⟨al, hb, hS, al0⟩
        obtain ⟨bd, hbd⟩ : ∃ bd, Hid (v0.heap.size = bd) := ⟨_, rfl⟩
        rw [hbd.out] at al hz0 al0
        rw [hbd.out]
        have hge : W.heap.size ≤ bd := hz0
        clear hb
        refine wpAnyH_ready (rs := [2]) (by kernel_rfl) (by simp) ?_
        refine AllReadyH.cons (o := nu2) rfl (fun K hK => ?_) ?_
        · rw [if_pos (by rfl)]
          simp only [nu2]
          go_simp
          go_at_call 13
          refine (lCopied g n cc ys _ (G.keep hS.below) (by omega)).mono ?_
          rintro e v2 ⟨g1, c1, rfl, hg1, G1, hb⟩
          (go_wp2_with fail)
          replace al := al.keep hb
          have hS2 : Cls W v2 := ⟨hS.below.trans (hb.mono hS.below.size)⟩
          clear hb hg1
          refine hK.out _ _ hS2 (fun hS => ?_)
          clear hK K
          (try simp only [nu2, Act.put, List.setIfInBounds_toArray, List.set_cons_zero, List.set_cons_succ])
          refine wpAnyH_ready (rs := [5]) (by kernel_rfl) (by simp) ?_
          refine AllReadyH.cons (o := nu5) rfl (fun K hK => ?_) ?_
          · rw [if_pos (by rfl)]
            simp only [nu5]
            go_simp
            go_at_call 12
            refine (iNoteStep p s l c k me x g1 n c1 ys _ G1 (by omega) ho haok hmin hpb m hmn hMX).mono ?_
            rintro e v3 ⟨gb, rfl, hgb, Gb, hb⟩
            rw [ha1.out]
            (go_wp2_with fail)
            have hgl := al.lt
            have hlb : bd < gb := by omega
            replace al := al.keep hb
            have hS2 : Cls W v3 := ⟨hS.below.trans (hb.mono hS.below.size)⟩
            clear hb
            refine hK.out _ _ hS2 (fun hS => ?_)
            clear hK K
            (try simp only [nu5, Act.put, List.setIfInBounds_toArray, List.set_cons_zero, List.set_cons_succ])
            refine tk_pure (i := 6) (oi := nu6) rfl (by kernel_rfl) (by kernel_rfl) (by kernel_rfl) (fun _ _ _ h => h) (by rfl) hS (fun w9 => by simp only [nu6]; go_simp; (try with_reducible rfl)) ?_
            simp only [nu6, Act.put, List.setIfInBounds_toArray, List.set_cons_zero, List.set_cons_succ]
            refine tk_pure (i := 7) (oi := nu7) rfl (by kernel_rfl) (by kernel_rfl) (by kernel_rfl) (fun _ _ _ h => h) (by rfl) hS (fun w9 => by simp only [nu7]; go_simp; (try with_reducible rfl)) ?_
            simp only [nu7, Act.put, List.setIfInBounds_toArray, List.set_cons_zero, List.set_cons_succ]
            refine tk_pure (i := 8) (oi := nu8) rfl (by kernel_rfl) (by kernel_rfl) (by kernel_rfl) (fun _ _ _ h => h) (by rfl) hS (fun w9 => by simp only [nu8]; go_simp; (try with_reducible rfl)) ?_
            simp only [nu8, Act.put, List.setIfInBounds_toArray, List.set_cons_zero, List.set_cons_succ]
            refine wpAnyH_ready (rs := [10]) (by kernel_rfl) (by simp) ?_
            refine AllReadyH.cons (o := nu10) rfl (fun K hK => ?_) ?_
            · rw [if_pos (by rfl)]
              refine wp_storeDn (.tmp 14) (.tmp 62) rfl bd (.slice (some ⟨gb, 0, none⟩) n n) (nh me a1 x) Dd.zero rfl rfl rfl al rfl ?_
              intro v4 al2 kk
              have Gb2 := Gb.kept kk (by omega)
              have hS2 : Cls W v4 := ⟨hS.below.trans (kk.below hge hS.below.size)⟩
              refine hK.out _ _ hS2 (fun hS => ?_)
              clear hK K
              simp only [nu10, Act.put]
              refine tk_pure (i := 11) (oi := nu11) rfl (by kernel_rfl) (by kernel_rfl) (by kernel_rfl) (fun _ _ _ h => h) (by rfl) hS (fun w9 => by simp only [nu11]; go_simp; (try with_reducible rfl)) ?_
              simp only [nu11, Act.put, List.setIfInBounds_toArray, List.set_cons_zero, List.set_cons_succ]
              refine wpAnyH_done (by kernel_rfl) ?_ _
              (go_wp2_with fail)
              go_meet
              case rel => exact ⟨bd, gb, rfl, rfl, al2, Gb2, P.keep hS.below, G.keep hS.below, z.trans (hS.below.mono z.size), hge⟩
            exact AllReadyH.nil
          exact AllReadyH.nil
        exact AllReadyH.nil
      exact AllReadyH.nil
    case rest =>
      clear P G z H
      obtain ⟨bd, gb, rfl, rfl, D, Gb, P, G, z, hWb⟩ := hcut
      have hdl := D.lt
      have c0 : wc.cell? ⟨bd, 0, none⟩ = some (.slice (some ⟨gb, 0, none⟩) n n) := D.cell 0
      have c6 : wc.cell? ⟨bd, 6, none⟩ = some (.int .i64 a1) := D.cell 6
      go_upto_region 17 with (go_at_call 14; refine (likeA g gb n n cc n ys ys _ G Gb (by omega) (by omega)).mono ?_; rintro e w12 ⟨rfl, hb⟩; rw [decide_eq_true rfl]; replace D := D.keep hb; replace P := P.keep hb; replace G := G.keep hb; replace Gb := Gb.keep hb; replace z := z.trans (hb.mono z.size); clear hb c0 c6; have c0 : w12.cell? ⟨bd, 0, none⟩ = some (.slice (some ⟨gb, 0, none⟩) n n) := D.cell 0; have c6 : w12.cell? ⟨bd, 6, none⟩ = some (.int .i64 a1) := D.cell 6)
      by_cases hws : was < sq
      · have e7 : a1 = 7 := by rw [← ha1.out, hxm, HX0.out.2, if_pos hws]
        rw [e7] at c6 D
        have hge : ¬ sq ≤ was := by omega
        obtain ⟨d0, d1, d2, d3, d4⟩ := P.five
        have hcn : Hid (cntd ys (ys.set m sq) n = 1) := by
          have h1 := G.len
          unfold Hid
          rw [cntd_set (by omega) (by rw [hxm]; omega), if_pos (by omega)]
        have hgm : Hid ((ys.set m sq).getD m 0 = sq) := by
          have h1 := G.len
          unfold Hid
          simp [show m < ys.length by omega]
        have hw2 : IntKind.u64.wrap sq = sq := by rw [IntKind.wrap_u64]; omega
        go_upto_region 22 with (first
          | (refine loadV (nh me 7 x).vs Try.underlying39 rfl infoH rfl (.tmp 89) rfl bd 1 rfl D (fun j v hj => sub_at [.slice (some ⟨gb, 0, none⟩) n n] (nh me 7 x).vs (Dd.zero).vs j v hj) ?_)
          | (go_at_call 12; refine (iMarkStep p s l c k me x gb n n ys _ Gb (by omega) ho haok hmin hpb m hmn hMX).mono ?_; rintro e w13 ⟨g3, rfl, hg3, G3, hb⟩; rw [HX0.out.2] at G3; have hdl3 := D.lt; replace D := D.keep hb; replace G := G.keep hb; replace z := z.trans (hb.mono z.size); clear hb)
          | (refine storeDn rfl (.tmp 14) (.tmp 92) rfl bd (.slice (some ⟨g3, 0, none⟩) n n) (nh me 8 x) Dd.zero rfl rfl rfl D rfl ?_; intro w14 D2 kk))
        have hbw : w0.heap.size ≤ bd := by omega
        have z2 := z.trans (kk.below hbw z.size)
        have G4 := G3.kept kk (by omega)
        have G5 := G.kept kk (by omega)
        clear z G3 G c0 c6 d0 d1 d2 d3 d4 D
        have c0 : w14.cell? ⟨bd, 0, none⟩ = some (.slice (some ⟨g3, 0, none⟩) n n) := D2.cell 0
        have c6 : w14.cell? ⟨bd, 6, none⟩ = some (.int .i64 8) := D2.cell 6
        go_wp2_with (go_at_call 15; refine (lDiffer g g3 n cc n ys (ys.set m sq) _ G5 G4 (by omega)).mono ?_; rintro e w15 ⟨rfl, hb⟩; rw [hcn.out]; replace D2 := D2.keep hb; replace G4 := G4.keep hb; replace z2 := z2.trans (hb.mono z2.size); clear hb c0 c6; have c0 : w15.cell? ⟨bd, 0, none⟩ = some (.slice (some ⟨g3, 0, none⟩) n n) := D2.cell 0; have cm : w15.cell? ⟨g3, m, none⟩ = some (.int .u64 ((ys.set m sq).getD m 0)) := G4.cell m hmn; rw [hgm.out] at cm)
        go_ret
        exact ⟨rfl, z2⟩
      · have e8 : a1 = 8 := by rw [← ha1.out, hxm, HX0.out.2, if_neg hws]
        rw [e8] at c6
        have hge : sq ≤ was := by omega
        go_wp2
        go_ret
        exact ⟨rfl, z⟩
theorem own : ownKnob Try.prog.godebug = none := by kernel_rfl
theorem laidOut : laidOutB Try.prog = true := by kernel_rfl
set_option maxRecDepth 100000 in
theorem lifted (os : Os) (started : os.Started) (H : Type) (enc : TypeId × Value → H) :
    ReturnsInHanded {} Try.checked os 3 .any (Rows.fnNoteUpSpec.pre6 enc Try.prog Try.f3 Rows.fnNoteUpRow.domain false) (Rows.fnNoteUpSpec.post enc Try.prog Try.f3 false true false false) := by
  refine returnsInHanded_of_change (C := Try.checked) own started (by kernel_rfl) Try.func3
    (ChangeSpec.witness6 (enc := enc) (C := Try.checked) false ⟨#[], #[.slice none 0 0], []⟩ 8 (by kernel_rfl) (by kernel_rfl) (by kernel_rfl) (by kernel_rfl)) ?_
  intro W base args ds gs before hval0 hW hcnd _
  have hval : ∀ (j : Nat) t v, Try.f3.params[j]? = some t → args[j]? = some v → Value.okWide Try.prog W .any base t v := hval0
  have hW' := hW
  obtain ⟨p, q, hA0, hV, rfl, hfz, hnd⟩ := hW
  have hA : DataW.TrodAll enc Try.prog W 0 (fun _ => true) true Try.f3.params.toList args.toList ds p := hA0
  rw [Try.params3] at hA hval
  obtain ⟨v0, vs0, d0, ds0, p0, q0, hargs, rfl, rfl, h0, r0⟩ := trodAll_cons hA
  obtain ⟨rfl, rfl, rfl⟩ := trodAll_nil r0
  obtain rfl : args = #[v0] := by cases args; simp_all
  obtain ⟨rfl, rfl⟩ := trodVars_none hV
  have k0 := h0
  have lt0 : ∀ x ∈ p0, x.block < W.heap.size := by obtain ⟨m, hm⟩ := k0; exact DataW.trod_lt m _ _ _ hm
  obtain ⟨a0, len0, cap0, rfl⟩ := okWide_slice Try.underlying22 (hval 0 22 v0 rfl rfl)
  obtain ⟨z0, w0⟩ : ∃ zs, IsRow .u8 W a0 len0 cap0 zs := by
    obtain ⟨fuel, hf⟩ := h0
    rcases open_ints Try.underlying22 Try.underlying5 (by kernel_rfl) hf with ⟨hcs, _⟩ | ⟨x, l, c, zs, hcs, _, hl, hm, hz, _, hcell, hwz⟩
    · simp [Value.cells] at hcs
      obtain ⟨rfl, rfl, rfl⟩ := hcs
      exact ⟨[], .inl ⟨rfl, rfl, rfl, rfl⟩⟩
    · simp [Value.cells] at hcs
      obtain ⟨rfl, rfl, rfl⟩ := hcs
      exact ⟨zs, .inr ⟨_, rfl, hl, hm, by simpa using hz, hcell, hwz⟩⟩
  clear hA0 hval0
  refine (walk a0 len0 cap0 z0 W w0).mono fun e W' ⟨he, bel⟩ => ?_
  subst he
  exact ⟨_, rfl, _, _, _, [], _, [], hW', trodAll_mk1 (shut_bool Try.underlying4 _), (trodAll_cons_mk (Below.trod laidOut (by kernel_rfl) (of_decide_eq_true (by kernel_rfl)) k0 bel lt0) trodAll_mk0), rfl, bel.frame _, fun h => by cases h⟩

theorem over : Rows.fnNoteUpRow.holds Try.pinned (OpenSpec.ofChange Rows.fnNoteUpSpec) :=
  OpenClaim.holds_of_wide 3 Try.f3 rfl rfl rfl rfl rfl rfl rfl ⟨rfl, rfl, rfl, rfl, rfl⟩ rfl rfl rfl rfl rfl (by kernel_rfl) Try.func3 (by kernel_rfl)
    (of_decide_eq_true (by kernel_rfl)) (by unfold Func.isWrapper; first | (rw [if_pos (by decide +kernel)]; kernel_rfl) | (rw [if_neg (by decide +kernel)]; exact ⟨rfl, rfl⟩))
    (fun os started H enc _ => lifted os started H enc)
end Go.Proofs.Ytljpkgloegafnaa.fnNoteUp
namespace Go.Proofs.Ytljpkgloegafnaa
theorem fnNoteUp_holds : Rows.FnNoteUpSaid := fnNoteUp.over
#print axioms fnNoteUp_holds
end Go.Proofs.Ytljpkgloegafnaa
