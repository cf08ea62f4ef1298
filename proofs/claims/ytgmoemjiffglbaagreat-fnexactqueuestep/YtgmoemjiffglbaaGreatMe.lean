/-
  Hands as records: what is read out of one, and what is laid.
  Records of any type: loaded, stored, laid new.
  A hand handed in by value.
  A hand handed in by value, and the measure of its words.
  Hands: copied field by field, compared field by field.
  A region that draws its order, reads and calls: one walk in the order of the text serves every order, in the class of the worlds that are as they were below.
-/
import Derived.Test.YtgmoemjiffglbaaGreatMd
import Derived.Deep.MidRow
import Derived.Deep.Cut
import Derived.Laws.Tables
import Derived.Deep.RegionHeld3
import Derived.Deep.QuietTactic
import Derived.WalkKit
import Derived.BigFrame
import Derived.BigQuiet
namespace Go.Proofs.YtgmoemjiffglbaaGreat
open Go.RowKit
set_option linter.unusedVariables false
structure Hd where
  up : Bool
  inn : Bool
  sure : Bool
  known : Bool
  life : Int
  at_ : Int
  code : Int
  a : Int
  b : Int
  c : Int
  number : Int
  for_ : Int
  last : Int
  mine : Int
  addr : Int
  seen : Int
  put : Int
  good : Int
  bad : Int
  does : Int
  block : Int
  from_ : Int
  next : Int
  value : Int
  index : Int
  which : Int
  kept : Int
  wasCode : Int
  wasItem : Int
  wasNumber : Int
  wasKind : Int
  wasTag : Int
  reply : Int
  out : Int
  mark : Int
  begin_ : Int
def Hd.vs (h : Hd) : List Value := [.bool h.up, .bool h.inn, .bool h.sure, .bool h.known, .int .i64 h.life, .int .i64 h.at_, .int .i64 h.code, .int .i64 h.a, .int .i64 h.b, .int .i64 h.c, .int .i64 h.number, .int .i64 h.for_, .int .i64 h.last, .int .i64 h.mine, .int .i64 h.addr, .int .u64 h.seen, .int .u64 h.put, .int .i64 h.good, .int .i64 h.bad, .int .i64 h.does, .int .i64 h.block, .int .i64 h.from_, .int .i64 h.next, .int .i64 h.value, .int .i64 h.index, .int .i64 h.which, .int .i64 h.kept, .int .i64 h.wasCode, .int .i64 h.wasItem, .int .i64 h.wasNumber, .int .i64 h.wasKind, .int .i64 h.wasTag, .int .i64 h.reply, .int .i64 h.out, .int .i64 h.mark, .int .i64 h.begin_]
def Hd.ar (h : Hd) : Array Value := h.vs.toArray
def Hd.zero : Hd := ⟨false, false, false, false, 0, 0, 0, 0, 0, 0, 0, 0, 0, 0, 0, 0, 0, 0, 0, 0, 0, 0, 0, 0, 0, 0, 0, 0, 0, 0, 0, 0, 0, 0, 0, 0⟩
theorem Hd.len (h : Hd) : h.vs.length = 36 := rfl
theorem Hd.sz (h : Hd) : h.ar.size = 36 := rfl
theorem Hd.one (h : Hd) : ∀ v ∈ h.vs, v.oneCell' = true := by
  simp [Hd.vs, Value.oneCell']
def fill (cs : Array Value) : Nat → List Value → Array Value
  | _, [] => cs
  | o, v :: r => fill (cs.setIfInBounds o v) (o + 1) r
theorem fill_size : ∀ (vs : List Value) (cs : Array Value) (o : Nat), (fill cs o vs).size = cs.size
  | [], _, _ => rfl
  | v :: r, cs, o => by rw [fill, fill_size r]; simp
theorem fill_get : ∀ (vs : List Value) (cs : Array Value) (o i : Nat), o + vs.length ≤ cs.size → (fill cs o vs)[i]? = if o ≤ i ∧ i < o + vs.length then vs[i - o]? else cs[i]?
  | [], cs, o, i, h => by simp [fill]; intro h1 h2; omega
  | v :: r, cs, o, i, h => by
    simp only [List.length_cons] at h
    rw [fill, fill_get r _ (o + 1) i (by simp; omega)]
    by_cases h1 : i = o
    · subst h1
      rw [if_neg (by omega), if_pos (by simp)]
      have hs : i < cs.size := by omega
      simp [hs]
    · by_cases h2 : o ≤ i ∧ i < o + (v :: r).length
      · simp only [List.length_cons] at h2
        rw [if_pos (by omega), if_pos (by simp; omega)]
        obtain ⟨k, rfl⟩ : ∃ k, i = o + 1 + k := ⟨i - (o + 1), by omega⟩
        rw [show o + 1 + k - (o + 1) = k by omega, show o + 1 + k - o = k + 1 by omega]
        simp
      · simp only [List.length_cons] at h2
        rw [if_neg (by omega), if_neg (by simp; omega)]
        rw [Array.getElem?_setIfInBounds, if_neg (by omega)]
theorem fill_all {cs : Array Value} {vs : List Value} (h : vs.length = cs.size) : fill cs 0 vs = vs.toArray := by
  apply Array.ext_getElem?
  intro i
  rw [fill_get _ _ _ _ (by omega)]
  by_cases hi : i < vs.length
  · rw [if_pos (by omega)]; simp
  · rw [if_neg (by omega)]
    simp [show cs.size ≤ i by omega, show vs.length ≤ i by omega]
theorem At.fills {b : Nat} {t : TypeId} : ∀ (vs : List Value) (w : World) (cs : Array Value) (o : Nat), At w b cs t → At (w.setCells b o vs) b (fill cs o vs) t
  | [], _, _, _, h => h
  | v :: r, w, cs, o, h => by
    rw [World.setCells, fill]
    exact At.fills r _ _ _ (h.set o v)
theorem At.fillAll {w : World} {b : Nat} {cs : Array Value} {t : TypeId} (h : At w b cs t) {vs : List Value} (hl : vs.length = cs.size) : At (w.setCells b 0 vs) b vs.toArray t := by
  rw [← fill_all hl]; exact h.fills vs w cs 0
theorem At.there {w : World} {b : Nat} {cs : Array Value} {t : TypeId} (h : At w b cs t) (o n : Nat) (hn : o + n ≤ cs.size) : w.there b o n := fun j hj => by
  rw [h.cell, h.frozen]
  simp; omega
theorem At.range {w : World} {b : Nat} {vs : List Value} {t : TypeId} (h : At w b vs.toArray t) : w.rangeAt b 0 vs := fun j v hj => by
  rw [h.cell]; simpa using hj
theorem heap_setCells (b : Nat) : ∀ (vs : List Value) (o : Nat) (w : World) (k : Nat), k ≠ b → (w.setCells b o vs).heap[k]? = w.heap[k]?
  | [], _, _, _, _ => rfl
  | v :: r, o, w, k, h => by
    rw [World.setCells, heap_setCells b r (o + 1) _ k h]
    exact Below.heap_setCell _ _ _ _ h
theorem below_setCells {B : Nat} {a : World} (b : Nat) (hb : B ≤ b) : ∀ (vs : List Value) (o : Nat) (w : World), Below B a w → Below B a (w.setCells b o vs)
  | [], _, _, h => h
  | v :: r, o, w, h => by
    rw [World.setCells]
    exact below_setCells b hb r (o + 1) _ (h.setCell (p := ⟨b, o, none⟩) hb _)
theorem infoH : (Tryz.prog.info? 28).map (·.size) = some 36 := by kernel_rfl
theorem loadH {w : World} {b : Nat} {h : Hd} {t : TypeId} (H : At w b h.ar t) : (loadVar 28 ⟨b, 0, none⟩).run Tryz.prog w = .ok (.agg h.ar) w :=
  run_loadVar_mid w b 0 28 h.vs _ H.range Tryz.underlying28 rfl infoH
theorem resH {fn : Func} {T : Array Value} {w : World} {b : Nat} {k : Hd} {t : TypeId} (i : Nat) (hr : fn.results = #[.cell i 28]) (hT : T.getD i undef = .pointer (some ⟨b, 0, none⟩)) (Z : At w b k.ar t) :
    (results fn T).run Tryz.prog w = .ok (.agg k.ar) w := by
  have e : (asAddr (T.getD i undef)).run Tryz.prog w = .ok ⟨b, 0, none⟩ w := by rw [hT]; rfl
  simp only [results, hr, List.mapM_toArray, List.mapM_cons, List.mapM_nil, Sem.run_bind, Sem.run_map, Sem.run_pure, e, Result.andThen_ok, loadH Z]
  rfl
theorem resH2 {fn : Func} {T : Array Value} {w : World} {b : Nat} {k : Hd} {t : TypeId} {v : Value} (i j : Nat) (hr : fn.results = #[.cell i 28, .tmp j]) (hT : T.getD i undef = .pointer (some ⟨b, 0, none⟩)) (hj : T.getD j undef = v) (Z : At w b k.ar t) :
    (results fn T).run Tryz.prog w = .ok (.tuple #[.agg k.ar, v]) w := by
  have e : (asAddr (T.getD i undef)).run Tryz.prog w = .ok ⟨b, 0, none⟩ w := by rw [hT]; rfl
  simp only [results, hr, List.mapM_toArray, List.mapM_cons, List.mapM_nil, Sem.run_bind, Sem.run_map, Sem.run_pure, e, Result.andThen_ok, loadH Z, hj]
  rfl
theorem wp_at {P : Program} {co : Code} {Q : Exit → Act → World → Prop} {a : Act} {W : World} (R : World → Prop) (r : R W) (h : ∀ w, R w → Code.wp P co Q a w) : Code.wp P co Q a W := h W r

theorem two_new (w : World) (cs : Array Value) (t t' : TypeId) : At ((w.alloc (.cells cs t)).alloc (.cells Hd.zero.ar t')) w.heap.size cs t ∧ At ((w.alloc (.cells cs t)).alloc (.cells Hd.zero.ar t')) (w.heap.size + 1) Hd.zero.ar t' ∧ Below w.heap.size w ((w.alloc (.cells cs t)).alloc (.cells Hd.zero.ar t')) := by
  have e : (w.alloc (.cells cs t)).heap.size = w.heap.size + 1 := by simp
  refine ⟨(At.new w cs t).keep ((Below.refl _ _).alloc (Nat.le_refl _) _), ?_, ((Below.refl _ _).alloc (Nat.le_refl _) _).alloc (by omega) _⟩
  have := At.new (w.alloc (.cells cs t)) Hd.zero.ar t'
  rwa [e] at this
theorem wpList_built {P : Program} {ops : Array Oper} {rest : List Oper} {o : Oper} {a : Act} {w : World} {Q : Exit → Act → World → Prop} (hg : o.guard = none) (t : TypeId) (parts : Array (Nat × Operand)) (ho : o.op = .build t parts) (ps : List (Nat × Value)) (hp : parts.toList.map (fun x => (x.1, a.eval x.2)) = ps) (cells : Array Value) (hb : P.built t ps = some cells) (h : wpList P ops Q rest (a.put o.dst (.agg cells)) w) : wpList P ops Q (o :: rest) a w :=
  have e : (parts.map fun (i, x) => (i, a.eval x)).toList = ps := by rw [Array.toList_map]; exact hp
  wpList_build hg t parts ho (by rw [e, hb]; rfl) (by rw [e, hb]; exact h)
theorem kept_setCells (b : Nat) (vs : List Value) (o : Nat) (w : World) : Kept b w (w.setCells b o vs) := by
  have h := below_setCells (B := 0) (a := w) b (Nat.zero_le _) vs o w (Below.refl _ _)
  exact ⟨h.os, h.tape, h.output, h.size, fun k hk hc => heap_setCells b vs o w k hc⟩
theorem storeH {ops : Array Oper} {rest : List Oper} {op : Oper} {a : Act} {w : World} {Q : Exit → Act → World → Prop} (hgd : op.guard = none) (x y : Operand) (ho : op.op = .store 28 x y)
    (b : Nat) (k : Hd) (hx : a.eval x = .pointer (some ⟨b, 0, none⟩)) (hy : a.eval y = .agg k.ar) {cs : Array Value} {t : TypeId} (Z : At w b cs t) (hs : cs.size = 36)
    (h : ∀ w', At w' b k.ar t → Kept b w w' → wpList Tryz.prog ops Q rest (a.put op.dst undef) w') : wpList Tryz.prog ops Q (op :: rest) a w :=
  wpList_store_mid hgd 28 x y ho b 0 k.ar hx hy (by rw [k.sz]; exact Z.there 0 36 (by omega)) (by rw [k.sz]; exact infoH) (all_oneCell_toArray k.one) (h _ (Z.fillAll (by rw [hs]; rfl)) (kept_setCells b _ 0 w))
def Hd.downed (h : Hd) : Hd := { Hd.zero with life := h.life }
def Hd.resting (h : Hd) : Hd := { Hd.zero with up := h.up, inn := h.inn, life := h.life, last := h.last, kept := h.kept }
theorem bDowned (h : Hd) : Tryz.prog.built 28 [(4, .int .i64 h.life)] = some h.downed.ar := by kernel_rfl
theorem bResting (h : Hd) : Tryz.prog.built 28 [(0, .bool h.up), (1, .bool h.inn), (4, .int .i64 h.life), (12, .int .i64 h.last), (26, .int .i64 h.kept)] = some h.resting.ar := by kernel_rfl
set_option maxHeartbeats 4000000 in
theorem iDowned (h : Hd) (w : World) : Calls Tryz.prog 76 #[.agg h.ar] w fun e w' => e = .returned (.agg h.downed.ar) ∧ Below w.heap.size w w' := by
  go_enter Tryz.func76, Tryz.ntmps76
  go_upto_region 1 with fail
  refine wp_at (fun W => At W w.heap.size h.ar 28 ∧ At W (w.heap.size + 1) Hd.zero.ar 28 ∧ Below w.heap.size w W) (two_new w h.ar _ _) ?_
  rintro W ⟨A, Z, B⟩
  have c4 : W.cell? ⟨w.heap.size, 4, none⟩ = some (.int .i64 h.life) := A.cell 4
  go_wp2_with (first
    | (refine wpList_built rfl 28 #[(4, .tmp 4)] rfl [(4, .int .i64 h.life)] rfl _ (bDowned h) ?_)
    | (refine storeH rfl (.tmp 2) (.tmp 5) rfl (w.heap.size + 1) h.downed rfl rfl Z rfl ?_; intro W2 Z2 kk; replace B := B.trans (kk.below (Nat.le_succ _) B.size)))
  exact bodyPost_ret (v := .agg h.downed.ar) (resH 2 Tryz.results76 rfl Z2) rfl ⟨rfl, B⟩
end Go.Proofs.YtgmoemjiffglbaaGreat
namespace Go.Proofs.YtgmoemjiffglbaaGreat
open Go.RowKit
set_option linter.unusedVariables false
theorem storeV {ops : Array Oper} {rest : List Oper} {op : Oper} {a : Act} {w : World} {Q : Exit → Act → World → Prop} {ty : TypeId} {vs : List Value} (hi : (Tryz.prog.info? ty).map (·.size) = some vs.length) (h1 : ∀ v ∈ vs, v.oneCell' = true) (hgd : op.guard = none) (x y : Operand) (ho : op.op = .store ty x y)
    (b : Nat) (hx : a.eval x = .pointer (some ⟨b, 0, none⟩)) (hy : a.eval y = .agg vs.toArray) {cs : Array Value} {t : TypeId} (Z : At w b cs t) (hs : cs.size = vs.length)
    (h : ∀ w', At w' b vs.toArray t → Kept b w w' → wpList Tryz.prog ops Q rest (a.put op.dst undef) w') : wpList Tryz.prog ops Q (op :: rest) a w :=
  wpList_store_mid hgd ty x y ho b 0 vs.toArray hx hy (by simp only [List.size_toArray]; exact Z.there 0 _ (by omega)) (by simpa using hi) (all_oneCell_toArray h1) (h _ (Z.fillAll hs.symm) (kept_setCells b _ 0 w))
theorem loadV {ops : Array Oper} {rest : List Oper} {op : Oper} {a : Act} {w : World} {Q : Exit → Act → World → Prop} {ty : TypeId} {d : TypeDesc} (vs : List Value) (hu : Tryz.prog.underlying ty = some d) (hd : d.isRow = true) (hi : (Tryz.prog.info? ty).map (·.size) = some vs.length) (hgd : Region.wanted op (yielded ops a.tmps) = true) (x : Operand) (ho : op.op = .load ty x)
    (b o : Nat) (hx : a.eval x = .pointer (some ⟨b, o, none⟩)) {cs : Array Value} {t : TypeId} (Z : At w b cs t) (hr : ∀ j v, vs[j]? = some v → cs[o + j]? = some v)
    (h : wpList Tryz.prog ops Q rest (a.put op.dst (.agg vs.toArray)) w) : wpList Tryz.prog ops Q (op :: rest) a w :=
  BigFrame.wpList_want hgd fun K hK => wp_load_mid ty x ho b o hx vs d (fun j v hj => by rw [Z.cell]; exact hr j v hj) hu hd hi (hK _ _ h)
theorem newV {ops : Array Oper} {rest : List Oper} {op : Oper} {a : Act} {w : World} {Q : Exit → Act → World → Prop} {ty t : TypeId} {cs : Array Value} {vs : List Value} (hi : (Tryz.prog.info? ty).map (·.size) = some vs.length) (h1 : ∀ v ∈ vs, v.oneCell' = true) (hgd : op.guard = none) (x y : Operand) (ho : op.op = .store ty x y)
    (hx : a.eval x = .pointer (some ⟨w.heap.size, 0, none⟩)) (hy : a.eval y = .agg vs.toArray) (hs : cs.size = vs.length)
    (h : ∀ w', At w' w.heap.size vs.toArray t → Below w.heap.size w w' → w.heap.size < w'.heap.size → wpList Tryz.prog ops Q rest (a.put op.dst undef) w') : wpList Tryz.prog ops Q (op :: rest) a (w.alloc (.cells cs t)) :=
  storeV hi h1 hgd x y ho w.heap.size hx hy (At.new w cs t) hs fun w' Z kk => h w' Z (((Below.refl _ _).alloc (Nat.le_refl _) _).trans (kk.below (Nat.le_refl _) (by simp))) Z.lt
theorem sub_at (pre l post : List Value) (j : Nat) (v : Value) (hv : l[j]? = some v) : (pre ++ l ++ post).toArray[pre.length + j]? = some v := by
  have hj : j < l.length := (List.getElem?_eq_some_iff.1 hv).1
  simp only [List.getElem?_toArray, List.append_assoc]
  rw [List.getElem?_append_right (by omega), Nat.add_sub_cancel_left, List.getElem?_append_left hj, hv]
end Go.Proofs.YtgmoemjiffglbaaGreat
namespace Go.Proofs.YtgmoemjiffglbaaGreat
open Go.ChangeShapes Go.WideShapes Go.ChangeAt Go.RowKit Go.Joins Go.Deep
set_option linter.unusedVariables false
/-- The kind of the i-th field of a hand: none a flag. -/
def hk (i : Nat) : Option IntKind := if i < 4 then none else if i = 15 ∨ i = 16 then some .u64 else some .i64
def fieldsAre (P : Program) (fs : Array Field) : Bool := (List.range fs.size).all fun i => match fs[i]? with
  | some f => (match hk i, P.underlying f.type with | none, some .bool => true | some .u64, some (.int .u64) => true | some .i64, some (.int .i64) => true | _, _ => false)
  | none => false
theorem fieldsAre_bool {P : Program} {fs : Array Field} (h : fieldsAre P fs = true) (i : Nat) (f : Field) (hi : fs[i]? = some f) (hk0 : hk i = none) : P.underlying f.type = some .bool := by
  have hlt : i < fs.size := (Array.getElem?_eq_some_iff.1 hi).1
  have := List.all_eq_true.1 h i (List.mem_range.2 hlt)
  simp only [hi, hk0] at this
  split at this
  · assumption
  · rename_i h1 h2; cases h1
  · rename_i h1 h2; cases h1
  · cases this
theorem fieldsAre_u {P : Program} {fs : Array Field} (h : fieldsAre P fs = true) (i : Nat) (f : Field) (hi : fs[i]? = some f) (hk0 : hk i = some .u64) : P.underlying f.type = some (.int .u64) := by
  have hlt : i < fs.size := (Array.getElem?_eq_some_iff.1 hi).1
  have := List.all_eq_true.1 h i (List.mem_range.2 hlt)
  simp only [hi, hk0] at this
  split at this
  · rename_i h1 h2; cases h1
  · assumption
  · rename_i h1 h2; cases h1
  · cases this
theorem fieldsAre_i {P : Program} {fs : Array Field} (h : fieldsAre P fs = true) (i : Nat) (f : Field) (hi : fs[i]? = some f) (hk0 : hk i = some .i64) : P.underlying f.type = some (.int .i64) := by
  have hlt : i < fs.size := (Array.getElem?_eq_some_iff.1 hi).1
  have := List.all_eq_true.1 h i (List.mem_range.2 hlt)
  simp only [hi, hk0] at this
  split at this
  · rename_i h1 h2; cases h1
  · rename_i h1 h2; cases h1
  · assumption
  · cases this
theorem one_at {cs : Array Value} {i : Nat} {v : Value} (e : ((Value.cells (.agg cs)).toList.drop i).take 1 = [v]) : cs[i]? = some v := by
  have : (Value.cells (.agg cs)).toList[i]? = some v := by
    have := congrArg (·[0]?) e
    simpa [List.getElem?_take, List.getElem?_drop] using this
  simpa [Value.cells] using this
theorem open_mixed {H : Type} {enc : TypeId × Value → H} {P : Program} {w : World} {base : Nat} {spare : Nat → Bool} {held : Bool} {r : Reach} {b0 : Nat} {t : TypeId} {fs : Array Field} {v : Value} {d : DataW H} {p : List MemPlace}
    (hs : P.underlying t = some (.struct fs)) (hone : oneCellFields P fs = true) (hC : P.cellsOf t = fs.size) (hall : fieldsAre P fs = true)
    (hv : Value.okWide P w r b0 t v) (h : DataW.Trod enc P w base spare held t v d p) :
    ∃ cs : Array Value, cs.size = fs.size ∧ v = .agg cs ∧ (∀ i, i < cs.size → hk i = none → ∃ b, cs[i]? = some (.bool b)) ∧ (∀ i, i < cs.size → hk i = some .u64 → ∃ z : Int, cs[i]? = some (.int .u64 z)) ∧ (∀ i, i < cs.size → hk i = some .i64 → ∃ z : Int, cs[i]? = some (.int .i64 z)) := by
  obtain ⟨cs, rfl, hsz⟩ := okWide_struct hs hv
  obtain ⟨fuel, hf⟩ := h
  obtain ⟨xs, n, -, -, hl, hlen, hf⟩ := DataW.trod_struct hs hf
  have key : ∀ i, (hi : i < cs.size) → ∃ hi' : i < fs.size, ∃ y, DataW.trod enc P w base spare held n fs[i].type (((Value.cells (.agg cs)).toList.drop i).take 1) = some y := by
    intro i hi
    have hi' : i < fs.size := by omega
    obtain ⟨o, k⟩ := hone_of hone i fs[i] (by simp [hi'])
    have := hf i fs[i] (by simp [hi'])
    rw [o, k, List.getElem?_eq_getElem (by omega)] at this
    exact ⟨hi', _, this⟩
  refine ⟨cs, by omega, rfl, ?_, ?_, ?_⟩
  · intro i hi hk0
    obtain ⟨hi', y, hy⟩ := key i hi
    obtain ⟨b, hb, -⟩ := DataW.trod_bool (fieldsAre_bool hall i fs[i] (by simp [hi']) hk0) hy
    exact ⟨b, one_at hb⟩
  · intro i hi hk0
    obtain ⟨hi', y, hy⟩ := key i hi
    obtain ⟨z, hz, -, -⟩ := DataW.trod_int (fieldsAre_u hall i fs[i] (by simp [hi']) hk0) hy
    exact ⟨z, one_at hz⟩
  · intro i hi hk0
    obtain ⟨hi', y, hy⟩ := key i hi
    obtain ⟨z, hz, -, -⟩ := DataW.trod_int (fieldsAre_i hall i fs[i] (by simp [hi']) hk0) hy
    exact ⟨z, one_at hz⟩
theorem hand_of {v : Value} {cs : Array Value} (hz : cs.size = 36) (hv : v = .agg cs) (hb : ∀ i, i < cs.size → hk i = none → ∃ b, cs[i]? = some (.bool b)) (hu : ∀ i, i < cs.size → hk i = some .u64 → ∃ z : Int, cs[i]? = some (.int .u64 z)) (hi : ∀ i, i < cs.size → hk i = some .i64 → ∃ z : Int, cs[i]? = some (.int .i64 z)) : ∃ h : Hd, v = .agg h.ar := by
  subst hv
  obtain ⟨x0, e0⟩ := hb 0 (by omega) rfl
  obtain ⟨x1, e1⟩ := hb 1 (by omega) rfl
  obtain ⟨x2, e2⟩ := hb 2 (by omega) rfl
  obtain ⟨x3, e3⟩ := hb 3 (by omega) rfl
  obtain ⟨x4, e4⟩ := hi 4 (by omega) rfl
  obtain ⟨x5, e5⟩ := hi 5 (by omega) rfl
  obtain ⟨x6, e6⟩ := hi 6 (by omega) rfl
  obtain ⟨x7, e7⟩ := hi 7 (by omega) rfl
  obtain ⟨x8, e8⟩ := hi 8 (by omega) rfl
  obtain ⟨x9, e9⟩ := hi 9 (by omega) rfl
  obtain ⟨x10, e10⟩ := hi 10 (by omega) rfl
  obtain ⟨x11, e11⟩ := hi 11 (by omega) rfl
  obtain ⟨x12, e12⟩ := hi 12 (by omega) rfl
  obtain ⟨x13, e13⟩ := hi 13 (by omega) rfl
  obtain ⟨x14, e14⟩ := hi 14 (by omega) rfl
  obtain ⟨x15, e15⟩ := hu 15 (by omega) rfl
  obtain ⟨x16, e16⟩ := hu 16 (by omega) rfl
  obtain ⟨x17, e17⟩ := hi 17 (by omega) rfl
  obtain ⟨x18, e18⟩ := hi 18 (by omega) rfl
  obtain ⟨x19, e19⟩ := hi 19 (by omega) rfl
  obtain ⟨x20, e20⟩ := hi 20 (by omega) rfl
  obtain ⟨x21, e21⟩ := hi 21 (by omega) rfl
  obtain ⟨x22, e22⟩ := hi 22 (by omega) rfl
  obtain ⟨x23, e23⟩ := hi 23 (by omega) rfl
  obtain ⟨x24, e24⟩ := hi 24 (by omega) rfl
  obtain ⟨x25, e25⟩ := hi 25 (by omega) rfl
  obtain ⟨x26, e26⟩ := hi 26 (by omega) rfl
  obtain ⟨x27, e27⟩ := hi 27 (by omega) rfl
  obtain ⟨x28, e28⟩ := hi 28 (by omega) rfl
  obtain ⟨x29, e29⟩ := hi 29 (by omega) rfl
  obtain ⟨x30, e30⟩ := hi 30 (by omega) rfl
  obtain ⟨x31, e31⟩ := hi 31 (by omega) rfl
  obtain ⟨x32, e32⟩ := hi 32 (by omega) rfl
  obtain ⟨x33, e33⟩ := hi 33 (by omega) rfl
  obtain ⟨x34, e34⟩ := hi 34 (by omega) rfl
  obtain ⟨x35, e35⟩ := hi 35 (by omega) rfl
  refine ⟨⟨x0, x1, x2, x3, x4, x5, x6, x7, x8, x9, x10, x11, x12, x13, x14, x15, x16, x17, x18, x19, x20, x21, x22, x23, x24, x25, x26, x27, x28, x29, x30, x31, x32, x33, x34, x35⟩, ?_⟩
  congr 1
  apply Array.ext_getElem?
  intro i
  by_cases hlt : i < 36
  · match i, hlt with
    | 0, _ => exact e0
    | 1, _ => exact e1
    | 2, _ => exact e2
    | 3, _ => exact e3
    | 4, _ => exact e4
    | 5, _ => exact e5
    | 6, _ => exact e6
    | 7, _ => exact e7
    | 8, _ => exact e8
    | 9, _ => exact e9
    | 10, _ => exact e10
    | 11, _ => exact e11
    | 12, _ => exact e12
    | 13, _ => exact e13
    | 14, _ => exact e14
    | 15, _ => exact e15
    | 16, _ => exact e16
    | 17, _ => exact e17
    | 18, _ => exact e18
    | 19, _ => exact e19
    | 20, _ => exact e20
    | 21, _ => exact e21
    | 22, _ => exact e22
    | 23, _ => exact e23
    | 24, _ => exact e24
    | 25, _ => exact e25
    | 26, _ => exact e26
    | 27, _ => exact e27
    | 28, _ => exact e28
    | 29, _ => exact e29
    | 30, _ => exact e30
    | 31, _ => exact e31
    | 32, _ => exact e32
    | 33, _ => exact e33
    | 34, _ => exact e34
    | 35, _ => exact e35
    | n + 36, h => omega
  · rw [Array.getElem?_eq_none (by omega), Array.getElem?_eq_none (by rw [Hd.sz]; omega)]
end Go.Proofs.YtgmoemjiffglbaaGreat
namespace Go.Proofs.YtgmoemjiffglbaaGreat
open Go.ChangeShapes Go.WideShapes Go.ChangeAt Go.RowKit Go.Joins Go.Deep
set_option maxRecDepth 100000
set_option linter.unusedVariables false
theorem open_mixed2 {H : Type} {enc : TypeId × Value → H} {P : Program} {w : World} {base : Nat} {spare : Nat → Bool} {held : Bool} {r : Reach} {b0 : Nat} {t : TypeId} {fs : Array Field} {v : Value} {d : DataW H} {p : List MemPlace}
    (hs : P.underlying t = some (.struct fs)) (hone : oneCellFields P fs = true) (hC : P.cellsOf t = fs.size) (hall : fieldsAre P fs = true)
    (hv : Value.okWide P w r b0 t v) (h : DataW.Trod enc P w base spare held t v d p) :
    ∃ cs : Array Value, cs.size = fs.size ∧ v = .agg cs ∧ (∀ i, i < cs.size → hk i = none → ∃ b, cs[i]? = some (.bool b)) ∧ (∀ i, i < cs.size → hk i = some .u64 → ∃ z : Int, cs[i]? = some (.int .u64 z) ∧ 0 ≤ z ∧ z ≤ 18446744073709551615) ∧ (∀ i, i < cs.size → hk i = some .i64 → ∃ z : Int, cs[i]? = some (.int .i64 z)) := by
  obtain ⟨cs, rfl, hsz⟩ := okWide_struct hs hv
  obtain ⟨fuel, hf⟩ := h
  obtain ⟨xs, n, -, -, hl, hlen, hf⟩ := DataW.trod_struct hs hf
  have key : ∀ i, (hi : i < cs.size) → ∃ hi' : i < fs.size, ∃ y, DataW.trod enc P w base spare held n fs[i].type (((Value.cells (.agg cs)).toList.drop i).take 1) = some y := by
    intro i hi
    have hi' : i < fs.size := by omega
    obtain ⟨o, k⟩ := hone_of hone i fs[i] (by simp [hi'])
    have := hf i fs[i] (by simp [hi'])
    rw [o, k, List.getElem?_eq_getElem (by omega)] at this
    exact ⟨hi', _, this⟩
  refine ⟨cs, by omega, rfl, ?_, ?_, ?_⟩
  · intro i hi hk0
    obtain ⟨hi', y, hy⟩ := key i hi
    obtain ⟨b, hb, -⟩ := DataW.trod_bool (fieldsAre_bool hall i fs[i] (by simp [hi']) hk0) hy
    exact ⟨b, one_at hb⟩
  · intro i hi hk0
    obtain ⟨hi', y, hy⟩ := key i hi
    obtain ⟨z, hz, -, hw⟩ := DataW.trod_int (fieldsAre_u hall i fs[i] (by simp [hi']) hk0) hy
    exact ⟨z, one_at hz, bounds_u64 hw⟩
  · intro i hi hk0
    obtain ⟨hi', y, hy⟩ := key i hi
    obtain ⟨z, hz, -, -⟩ := DataW.trod_int (fieldsAre_i hall i fs[i] (by simp [hi']) hk0) hy
    exact ⟨z, one_at hz⟩
theorem hand_of2 {v : Value} {cs : Array Value} (hz : cs.size = 36) (hv : v = .agg cs) (hb : ∀ i, i < cs.size → hk i = none → ∃ b, cs[i]? = some (.bool b)) (hu : ∀ i, i < cs.size → hk i = some .u64 → ∃ z : Int, cs[i]? = some (.int .u64 z) ∧ 0 ≤ z ∧ z ≤ 18446744073709551615) (hi : ∀ i, i < cs.size → hk i = some .i64 → ∃ z : Int, cs[i]? = some (.int .i64 z)) : ∃ h : Hd, v = .agg h.ar ∧ (0 ≤ h.seen ∧ h.seen ≤ 18446744073709551615) ∧ (0 ≤ h.put ∧ h.put ≤ 18446744073709551615) := by
  obtain ⟨h, e⟩ := hand_of hz hv hb (fun i h1 h2 => by obtain ⟨z, h3, -⟩ := hu i h1 h2; exact ⟨z, h3⟩) hi
  have e2 : cs = h.ar := by rw [hv] at e; injection e
  refine ⟨h, e, ?_, ?_⟩
  · obtain ⟨z, h3, h4⟩ := hu 15 (by omega) rfl
    rw [e2] at h3
    have : h.ar[15]? = some (.int .u64 h.seen) := rfl
    rw [this] at h3
    cases h3
    exact h4
  · obtain ⟨z, h3, h4⟩ := hu 16 (by omega) rfl
    rw [e2] at h3
    have : h.ar[16]? = some (.int .u64 h.put) := rfl
    rw [this] at h3
    cases h3
    exact h4
end Go.Proofs.YtgmoemjiffglbaaGreat
namespace Go.Proofs.YtgmoemjiffglbaaGreat
open Go.RowKit
set_option linter.unusedVariables false
def Hd.mix (h : Hd) (i : Nat) : Array Value := (h.vs.take i ++ Hd.zero.vs.drop i).toArray
theorem Hd.mix_size {h : Hd} {i : Nat} (hi : i ≤ 36) : (h.mix i).size = 36 := by
  have := h.len
  have := Hd.zero.len
  simp [Hd.mix]; omega
theorem Hd.mix_set {h : Hd} {i : Nat} {v : Value} (hv : h.vs[i]? = some v) : (h.mix i).setIfInBounds i v = h.mix (i + 1) := by
  have hl := h.len
  have zl := Hd.zero.len
  have hi : i < 36 := by
    have := (List.getElem?_eq_some_iff.1 hv).1
    omega
  apply Array.ext_getElem?
  intro j
  rw [Array.getElem?_setIfInBounds]
  unfold Hd.mix
  by_cases e : i = j
  · subst e
    rw [if_pos rfl, if_pos (by simp; omega)]
    simp only [List.getElem?_toArray]
    rw [List.getElem?_append_left (by simp; omega), List.getElem?_take, if_pos (by omega), hv]
  · rw [if_neg e]
    simp only [List.getElem?_toArray]
    by_cases hj : j < i
    · rw [List.getElem?_append_left (by simp; omega), List.getElem?_append_left (by simp; omega), List.getElem?_take, List.getElem?_take, if_pos hj, if_pos (by omega)]
    · rw [List.getElem?_append_right (by simp; omega), List.getElem?_append_right (by simp; omega), List.getElem?_drop, List.getElem?_drop]
      congr 1
      simp [hl]
      omega
theorem At.put {w : World} {b : Nat} {h : Hd} {i : Nat} {t : TypeId} (Z : At w b (h.mix i) t) {v : Value} (hv : h.vs[i]? = some v) : At (w.setCell ⟨b, i, none⟩ v) b (h.mix (i + 1)) t := by
  rw [← Hd.mix_set hv]; exact Z.set i v
theorem three_new (w : World) (h : Hd) (t t' : TypeId) : At (((w.alloc (.cells h.ar t)).alloc (.cells Hd.zero.ar t')).alloc (.cells Hd.zero.ar t')) w.heap.size h.ar t ∧ At (((w.alloc (.cells h.ar t)).alloc (.cells Hd.zero.ar t')).alloc (.cells Hd.zero.ar t')) (w.heap.size + 1) Hd.zero.ar t' ∧ At (((w.alloc (.cells h.ar t)).alloc (.cells Hd.zero.ar t')).alloc (.cells Hd.zero.ar t')) (w.heap.size + 2) (h.mix 0) t' ∧ Below w.heap.size w (((w.alloc (.cells h.ar t)).alloc (.cells Hd.zero.ar t')).alloc (.cells Hd.zero.ar t')) := by
  obtain ⟨x, y, z⟩ := two_new w h.ar t t'
  have e : ((w.alloc (.cells h.ar t)).alloc (.cells Hd.zero.ar t')).heap.size = w.heap.size + 2 := by simp
  refine ⟨x.keep ((Below.refl _ _).alloc (Nat.le_refl _) _), y.keep ((Below.refl _ _).alloc (Nat.le_refl _) _), ?_, z.alloc (by omega) _⟩
  have := At.new ((w.alloc (.cells h.ar t)).alloc (.cells Hd.zero.ar t')) Hd.zero.ar t'
  rw [e] at this
  exact this
theorem loadHl {ops : Array Oper} {rest : List Oper} {op : Oper} {a : Act} {w : World} {Q : Exit → Act → World → Prop} (hgd : op.guard = none) (x : Operand) (ho : op.op = .load 28 x)
    (b : Nat) (k : Hd) (hx : a.eval x = .pointer (some ⟨b, 0, none⟩)) {t : TypeId} (Z : At w b k.ar t)
    (h : wpList Tryz.prog ops Q rest (a.put op.dst (.agg k.ar)) w) : wpList Tryz.prog ops Q (op :: rest) a w :=
  wpList_load_mid hgd 28 x ho b 0 hx k.vs _ Z.range Tryz.underlying28 rfl infoH h
set_option maxHeartbeats 16000000 in
theorem toH (h : Hd) (w : World) : Calls Tryz.prog 7 #[.agg h.ar] w fun e w' => e = .returned (.agg h.ar) ∧ Below w.heap.size w w' := by
  go_enter Tryz.func7, Tryz.ntmps7
  go_upto_region 2 with fail
  refine wp_at (fun W => At W w.heap.size h.ar 27 ∧ At W (w.heap.size + 1) Hd.zero.ar 28 ∧ At W (w.heap.size + 2) (h.mix 0) 28 ∧ Below w.heap.size w W) (three_new w h _ _) ?_
  rintro W0 ⟨A0, Y0, Z0, B0⟩
  have c : W0.cell? ⟨w.heap.size, 0, none⟩ = some (.bool h.up) := A0.cell 0
  have d : W0.cell? ⟨w.heap.size + 2, 0, none⟩ = some _ := (Z0.cell 0).trans rfl
  have f : W0.frozen? ⟨w.heap.size + 2, 0, none⟩ = false := Z0.frozen 0
  go_upto_region 3 with fail
  refine wp_at (fun W => At W w.heap.size h.ar 27 ∧ At W (w.heap.size + 1) Hd.zero.ar 28 ∧ At W (w.heap.size + 2) (h.mix 1) 28 ∧ Below w.heap.size w W) ⟨A0.other (show w.heap.size ≠ w.heap.size + 2 by omega) _, Y0.other (show w.heap.size + 1 ≠ w.heap.size + 2 by omega) _, Z0.put rfl, B0.setCell (show w.heap.size ≤ w.heap.size + 2 by omega) _⟩ ?_
  clear c d f A0 Y0 Z0 B0
  rintro W1 ⟨A1, Y1, Z1, B1⟩
  have c : W1.cell? ⟨w.heap.size, 1, none⟩ = some (.bool h.inn) := A1.cell 1
  have d : W1.cell? ⟨w.heap.size + 2, 1, none⟩ = some _ := (Z1.cell 1).trans rfl
  have f : W1.frozen? ⟨w.heap.size + 2, 1, none⟩ = false := Z1.frozen 1
  go_upto_region 4 with fail
  refine wp_at (fun W => At W w.heap.size h.ar 27 ∧ At W (w.heap.size + 1) Hd.zero.ar 28 ∧ At W (w.heap.size + 2) (h.mix 2) 28 ∧ Below w.heap.size w W) ⟨A1.other (show w.heap.size ≠ w.heap.size + 2 by omega) _, Y1.other (show w.heap.size + 1 ≠ w.heap.size + 2 by omega) _, Z1.put rfl, B1.setCell (show w.heap.size ≤ w.heap.size + 2 by omega) _⟩ ?_
  clear c d f A1 Y1 Z1 B1
  rintro W2 ⟨A2, Y2, Z2, B2⟩
  have c : W2.cell? ⟨w.heap.size, 2, none⟩ = some (.bool h.sure) := A2.cell 2
  have d : W2.cell? ⟨w.heap.size + 2, 2, none⟩ = some _ := (Z2.cell 2).trans rfl
  have f : W2.frozen? ⟨w.heap.size + 2, 2, none⟩ = false := Z2.frozen 2
  go_upto_region 5 with fail
  refine wp_at (fun W => At W w.heap.size h.ar 27 ∧ At W (w.heap.size + 1) Hd.zero.ar 28 ∧ At W (w.heap.size + 2) (h.mix 3) 28 ∧ Below w.heap.size w W) ⟨A2.other (show w.heap.size ≠ w.heap.size + 2 by omega) _, Y2.other (show w.heap.size + 1 ≠ w.heap.size + 2 by omega) _, Z2.put rfl, B2.setCell (show w.heap.size ≤ w.heap.size + 2 by omega) _⟩ ?_
  clear c d f A2 Y2 Z2 B2
  rintro W3 ⟨A3, Y3, Z3, B3⟩
  have c : W3.cell? ⟨w.heap.size, 3, none⟩ = some (.bool h.known) := A3.cell 3
  have d : W3.cell? ⟨w.heap.size + 2, 3, none⟩ = some _ := (Z3.cell 3).trans rfl
  have f : W3.frozen? ⟨w.heap.size + 2, 3, none⟩ = false := Z3.frozen 3
  go_upto_region 6 with fail
  refine wp_at (fun W => At W w.heap.size h.ar 27 ∧ At W (w.heap.size + 1) Hd.zero.ar 28 ∧ At W (w.heap.size + 2) (h.mix 4) 28 ∧ Below w.heap.size w W) ⟨A3.other (show w.heap.size ≠ w.heap.size + 2 by omega) _, Y3.other (show w.heap.size + 1 ≠ w.heap.size + 2 by omega) _, Z3.put rfl, B3.setCell (show w.heap.size ≤ w.heap.size + 2 by omega) _⟩ ?_
  clear c d f A3 Y3 Z3 B3
  rintro W4 ⟨A4, Y4, Z4, B4⟩
  have c : W4.cell? ⟨w.heap.size, 4, none⟩ = some (.int .i64 h.life) := A4.cell 4
  have d : W4.cell? ⟨w.heap.size + 2, 4, none⟩ = some _ := (Z4.cell 4).trans rfl
  have f : W4.frozen? ⟨w.heap.size + 2, 4, none⟩ = false := Z4.frozen 4
  go_upto_region 7 with fail
  refine wp_at (fun W => At W w.heap.size h.ar 27 ∧ At W (w.heap.size + 1) Hd.zero.ar 28 ∧ At W (w.heap.size + 2) (h.mix 5) 28 ∧ Below w.heap.size w W) ⟨A4.other (show w.heap.size ≠ w.heap.size + 2 by omega) _, Y4.other (show w.heap.size + 1 ≠ w.heap.size + 2 by omega) _, Z4.put rfl, B4.setCell (show w.heap.size ≤ w.heap.size + 2 by omega) _⟩ ?_
  clear c d f A4 Y4 Z4 B4
  rintro W5 ⟨A5, Y5, Z5, B5⟩
  have c : W5.cell? ⟨w.heap.size, 5, none⟩ = some (.int .i64 h.at_) := A5.cell 5
  have d : W5.cell? ⟨w.heap.size + 2, 5, none⟩ = some _ := (Z5.cell 5).trans rfl
  have f : W5.frozen? ⟨w.heap.size + 2, 5, none⟩ = false := Z5.frozen 5
  go_upto_region 8 with fail
  refine wp_at (fun W => At W w.heap.size h.ar 27 ∧ At W (w.heap.size + 1) Hd.zero.ar 28 ∧ At W (w.heap.size + 2) (h.mix 6) 28 ∧ Below w.heap.size w W) ⟨A5.other (show w.heap.size ≠ w.heap.size + 2 by omega) _, Y5.other (show w.heap.size + 1 ≠ w.heap.size + 2 by omega) _, Z5.put rfl, B5.setCell (show w.heap.size ≤ w.heap.size + 2 by omega) _⟩ ?_
  clear c d f A5 Y5 Z5 B5
  rintro W6 ⟨A6, Y6, Z6, B6⟩
  have c : W6.cell? ⟨w.heap.size, 6, none⟩ = some (.int .i64 h.code) := A6.cell 6
  have d : W6.cell? ⟨w.heap.size + 2, 6, none⟩ = some _ := (Z6.cell 6).trans rfl
  have f : W6.frozen? ⟨w.heap.size + 2, 6, none⟩ = false := Z6.frozen 6
  go_upto_region 9 with fail
  refine wp_at (fun W => At W w.heap.size h.ar 27 ∧ At W (w.heap.size + 1) Hd.zero.ar 28 ∧ At W (w.heap.size + 2) (h.mix 7) 28 ∧ Below w.heap.size w W) ⟨A6.other (show w.heap.size ≠ w.heap.size + 2 by omega) _, Y6.other (show w.heap.size + 1 ≠ w.heap.size + 2 by omega) _, Z6.put rfl, B6.setCell (show w.heap.size ≤ w.heap.size + 2 by omega) _⟩ ?_
  clear c d f A6 Y6 Z6 B6
  rintro W7 ⟨A7, Y7, Z7, B7⟩
  have c : W7.cell? ⟨w.heap.size, 7, none⟩ = some (.int .i64 h.a) := A7.cell 7
  have d : W7.cell? ⟨w.heap.size + 2, 7, none⟩ = some _ := (Z7.cell 7).trans rfl
  have f : W7.frozen? ⟨w.heap.size + 2, 7, none⟩ = false := Z7.frozen 7
  go_upto_region 10 with fail
  refine wp_at (fun W => At W w.heap.size h.ar 27 ∧ At W (w.heap.size + 1) Hd.zero.ar 28 ∧ At W (w.heap.size + 2) (h.mix 8) 28 ∧ Below w.heap.size w W) ⟨A7.other (show w.heap.size ≠ w.heap.size + 2 by omega) _, Y7.other (show w.heap.size + 1 ≠ w.heap.size + 2 by omega) _, Z7.put rfl, B7.setCell (show w.heap.size ≤ w.heap.size + 2 by omega) _⟩ ?_
  clear c d f A7 Y7 Z7 B7
  rintro W8 ⟨A8, Y8, Z8, B8⟩
  have c : W8.cell? ⟨w.heap.size, 8, none⟩ = some (.int .i64 h.b) := A8.cell 8
  have d : W8.cell? ⟨w.heap.size + 2, 8, none⟩ = some _ := (Z8.cell 8).trans rfl
  have f : W8.frozen? ⟨w.heap.size + 2, 8, none⟩ = false := Z8.frozen 8
  go_upto_region 11 with fail
  refine wp_at (fun W => At W w.heap.size h.ar 27 ∧ At W (w.heap.size + 1) Hd.zero.ar 28 ∧ At W (w.heap.size + 2) (h.mix 9) 28 ∧ Below w.heap.size w W) ⟨A8.other (show w.heap.size ≠ w.heap.size + 2 by omega) _, Y8.other (show w.heap.size + 1 ≠ w.heap.size + 2 by omega) _, Z8.put rfl, B8.setCell (show w.heap.size ≤ w.heap.size + 2 by omega) _⟩ ?_
  clear c d f A8 Y8 Z8 B8
  rintro W9 ⟨A9, Y9, Z9, B9⟩
  have c : W9.cell? ⟨w.heap.size, 9, none⟩ = some (.int .i64 h.c) := A9.cell 9
  have d : W9.cell? ⟨w.heap.size + 2, 9, none⟩ = some _ := (Z9.cell 9).trans rfl
  have f : W9.frozen? ⟨w.heap.size + 2, 9, none⟩ = false := Z9.frozen 9
  go_upto_region 12 with fail
  refine wp_at (fun W => At W w.heap.size h.ar 27 ∧ At W (w.heap.size + 1) Hd.zero.ar 28 ∧ At W (w.heap.size + 2) (h.mix 10) 28 ∧ Below w.heap.size w W) ⟨A9.other (show w.heap.size ≠ w.heap.size + 2 by omega) _, Y9.other (show w.heap.size + 1 ≠ w.heap.size + 2 by omega) _, Z9.put rfl, B9.setCell (show w.heap.size ≤ w.heap.size + 2 by omega) _⟩ ?_
  clear c d f A9 Y9 Z9 B9
  rintro W10 ⟨A10, Y10, Z10, B10⟩
  have c : W10.cell? ⟨w.heap.size, 10, none⟩ = some (.int .i64 h.number) := A10.cell 10
  have d : W10.cell? ⟨w.heap.size + 2, 10, none⟩ = some _ := (Z10.cell 10).trans rfl
  have f : W10.frozen? ⟨w.heap.size + 2, 10, none⟩ = false := Z10.frozen 10
  go_upto_region 13 with fail
  refine wp_at (fun W => At W w.heap.size h.ar 27 ∧ At W (w.heap.size + 1) Hd.zero.ar 28 ∧ At W (w.heap.size + 2) (h.mix 11) 28 ∧ Below w.heap.size w W) ⟨A10.other (show w.heap.size ≠ w.heap.size + 2 by omega) _, Y10.other (show w.heap.size + 1 ≠ w.heap.size + 2 by omega) _, Z10.put rfl, B10.setCell (show w.heap.size ≤ w.heap.size + 2 by omega) _⟩ ?_
  clear c d f A10 Y10 Z10 B10
  rintro W11 ⟨A11, Y11, Z11, B11⟩
  have c : W11.cell? ⟨w.heap.size, 11, none⟩ = some (.int .i64 h.for_) := A11.cell 11
  have d : W11.cell? ⟨w.heap.size + 2, 11, none⟩ = some _ := (Z11.cell 11).trans rfl
  have f : W11.frozen? ⟨w.heap.size + 2, 11, none⟩ = false := Z11.frozen 11
  go_upto_region 14 with fail
  refine wp_at (fun W => At W w.heap.size h.ar 27 ∧ At W (w.heap.size + 1) Hd.zero.ar 28 ∧ At W (w.heap.size + 2) (h.mix 12) 28 ∧ Below w.heap.size w W) ⟨A11.other (show w.heap.size ≠ w.heap.size + 2 by omega) _, Y11.other (show w.heap.size + 1 ≠ w.heap.size + 2 by omega) _, Z11.put rfl, B11.setCell (show w.heap.size ≤ w.heap.size + 2 by omega) _⟩ ?_
  clear c d f A11 Y11 Z11 B11
  rintro W12 ⟨A12, Y12, Z12, B12⟩
  have c : W12.cell? ⟨w.heap.size, 12, none⟩ = some (.int .i64 h.last) := A12.cell 12
  have d : W12.cell? ⟨w.heap.size + 2, 12, none⟩ = some _ := (Z12.cell 12).trans rfl
  have f : W12.frozen? ⟨w.heap.size + 2, 12, none⟩ = false := Z12.frozen 12
  go_upto_region 15 with fail
  refine wp_at (fun W => At W w.heap.size h.ar 27 ∧ At W (w.heap.size + 1) Hd.zero.ar 28 ∧ At W (w.heap.size + 2) (h.mix 13) 28 ∧ Below w.heap.size w W) ⟨A12.other (show w.heap.size ≠ w.heap.size + 2 by omega) _, Y12.other (show w.heap.size + 1 ≠ w.heap.size + 2 by omega) _, Z12.put rfl, B12.setCell (show w.heap.size ≤ w.heap.size + 2 by omega) _⟩ ?_
  clear c d f A12 Y12 Z12 B12
  rintro W13 ⟨A13, Y13, Z13, B13⟩
  have c : W13.cell? ⟨w.heap.size, 13, none⟩ = some (.int .i64 h.mine) := A13.cell 13
  have d : W13.cell? ⟨w.heap.size + 2, 13, none⟩ = some _ := (Z13.cell 13).trans rfl
  have f : W13.frozen? ⟨w.heap.size + 2, 13, none⟩ = false := Z13.frozen 13
  go_upto_region 16 with fail
  refine wp_at (fun W => At W w.heap.size h.ar 27 ∧ At W (w.heap.size + 1) Hd.zero.ar 28 ∧ At W (w.heap.size + 2) (h.mix 14) 28 ∧ Below w.heap.size w W) ⟨A13.other (show w.heap.size ≠ w.heap.size + 2 by omega) _, Y13.other (show w.heap.size + 1 ≠ w.heap.size + 2 by omega) _, Z13.put rfl, B13.setCell (show w.heap.size ≤ w.heap.size + 2 by omega) _⟩ ?_
  clear c d f A13 Y13 Z13 B13
  rintro W14 ⟨A14, Y14, Z14, B14⟩
  have c : W14.cell? ⟨w.heap.size, 14, none⟩ = some (.int .i64 h.addr) := A14.cell 14
  have d : W14.cell? ⟨w.heap.size + 2, 14, none⟩ = some _ := (Z14.cell 14).trans rfl
  have f : W14.frozen? ⟨w.heap.size + 2, 14, none⟩ = false := Z14.frozen 14
  go_upto_region 17 with fail
  refine wp_at (fun W => At W w.heap.size h.ar 27 ∧ At W (w.heap.size + 1) Hd.zero.ar 28 ∧ At W (w.heap.size + 2) (h.mix 15) 28 ∧ Below w.heap.size w W) ⟨A14.other (show w.heap.size ≠ w.heap.size + 2 by omega) _, Y14.other (show w.heap.size + 1 ≠ w.heap.size + 2 by omega) _, Z14.put rfl, B14.setCell (show w.heap.size ≤ w.heap.size + 2 by omega) _⟩ ?_
  clear c d f A14 Y14 Z14 B14
  rintro W15 ⟨A15, Y15, Z15, B15⟩
  have c : W15.cell? ⟨w.heap.size, 15, none⟩ = some (.int .u64 h.seen) := A15.cell 15
  have d : W15.cell? ⟨w.heap.size + 2, 15, none⟩ = some _ := (Z15.cell 15).trans rfl
  have f : W15.frozen? ⟨w.heap.size + 2, 15, none⟩ = false := Z15.frozen 15
  go_upto_region 18 with fail
  refine wp_at (fun W => At W w.heap.size h.ar 27 ∧ At W (w.heap.size + 1) Hd.zero.ar 28 ∧ At W (w.heap.size + 2) (h.mix 16) 28 ∧ Below w.heap.size w W) ⟨A15.other (show w.heap.size ≠ w.heap.size + 2 by omega) _, Y15.other (show w.heap.size + 1 ≠ w.heap.size + 2 by omega) _, Z15.put rfl, B15.setCell (show w.heap.size ≤ w.heap.size + 2 by omega) _⟩ ?_
  clear c d f A15 Y15 Z15 B15
  rintro W16 ⟨A16, Y16, Z16, B16⟩
  have c : W16.cell? ⟨w.heap.size, 16, none⟩ = some (.int .u64 h.put) := A16.cell 16
  have d : W16.cell? ⟨w.heap.size + 2, 16, none⟩ = some _ := (Z16.cell 16).trans rfl
  have f : W16.frozen? ⟨w.heap.size + 2, 16, none⟩ = false := Z16.frozen 16
  go_upto_region 19 with fail
  refine wp_at (fun W => At W w.heap.size h.ar 27 ∧ At W (w.heap.size + 1) Hd.zero.ar 28 ∧ At W (w.heap.size + 2) (h.mix 17) 28 ∧ Below w.heap.size w W) ⟨A16.other (show w.heap.size ≠ w.heap.size + 2 by omega) _, Y16.other (show w.heap.size + 1 ≠ w.heap.size + 2 by omega) _, Z16.put rfl, B16.setCell (show w.heap.size ≤ w.heap.size + 2 by omega) _⟩ ?_
  clear c d f A16 Y16 Z16 B16
  rintro W17 ⟨A17, Y17, Z17, B17⟩
  have c : W17.cell? ⟨w.heap.size, 17, none⟩ = some (.int .i64 h.good) := A17.cell 17
  have d : W17.cell? ⟨w.heap.size + 2, 17, none⟩ = some _ := (Z17.cell 17).trans rfl
  have f : W17.frozen? ⟨w.heap.size + 2, 17, none⟩ = false := Z17.frozen 17
  go_upto_region 20 with fail
  refine wp_at (fun W => At W w.heap.size h.ar 27 ∧ At W (w.heap.size + 1) Hd.zero.ar 28 ∧ At W (w.heap.size + 2) (h.mix 18) 28 ∧ Below w.heap.size w W) ⟨A17.other (show w.heap.size ≠ w.heap.size + 2 by omega) _, Y17.other (show w.heap.size + 1 ≠ w.heap.size + 2 by omega) _, Z17.put rfl, B17.setCell (show w.heap.size ≤ w.heap.size + 2 by omega) _⟩ ?_
  clear c d f A17 Y17 Z17 B17
  rintro W18 ⟨A18, Y18, Z18, B18⟩
  have c : W18.cell? ⟨w.heap.size, 18, none⟩ = some (.int .i64 h.bad) := A18.cell 18
  have d : W18.cell? ⟨w.heap.size + 2, 18, none⟩ = some _ := (Z18.cell 18).trans rfl
  have f : W18.frozen? ⟨w.heap.size + 2, 18, none⟩ = false := Z18.frozen 18
  go_upto_region 21 with fail
  refine wp_at (fun W => At W w.heap.size h.ar 27 ∧ At W (w.heap.size + 1) Hd.zero.ar 28 ∧ At W (w.heap.size + 2) (h.mix 19) 28 ∧ Below w.heap.size w W) ⟨A18.other (show w.heap.size ≠ w.heap.size + 2 by omega) _, Y18.other (show w.heap.size + 1 ≠ w.heap.size + 2 by omega) _, Z18.put rfl, B18.setCell (show w.heap.size ≤ w.heap.size + 2 by omega) _⟩ ?_
  clear c d f A18 Y18 Z18 B18
  rintro W19 ⟨A19, Y19, Z19, B19⟩
  have c : W19.cell? ⟨w.heap.size, 19, none⟩ = some (.int .i64 h.does) := A19.cell 19
  have d : W19.cell? ⟨w.heap.size + 2, 19, none⟩ = some _ := (Z19.cell 19).trans rfl
  have f : W19.frozen? ⟨w.heap.size + 2, 19, none⟩ = false := Z19.frozen 19
  go_upto_region 22 with fail
  refine wp_at (fun W => At W w.heap.size h.ar 27 ∧ At W (w.heap.size + 1) Hd.zero.ar 28 ∧ At W (w.heap.size + 2) (h.mix 20) 28 ∧ Below w.heap.size w W) ⟨A19.other (show w.heap.size ≠ w.heap.size + 2 by omega) _, Y19.other (show w.heap.size + 1 ≠ w.heap.size + 2 by omega) _, Z19.put rfl, B19.setCell (show w.heap.size ≤ w.heap.size + 2 by omega) _⟩ ?_
  clear c d f A19 Y19 Z19 B19
  rintro W20 ⟨A20, Y20, Z20, B20⟩
  have c : W20.cell? ⟨w.heap.size, 20, none⟩ = some (.int .i64 h.block) := A20.cell 20
  have d : W20.cell? ⟨w.heap.size + 2, 20, none⟩ = some _ := (Z20.cell 20).trans rfl
  have f : W20.frozen? ⟨w.heap.size + 2, 20, none⟩ = false := Z20.frozen 20
  go_upto_region 23 with fail
  refine wp_at (fun W => At W w.heap.size h.ar 27 ∧ At W (w.heap.size + 1) Hd.zero.ar 28 ∧ At W (w.heap.size + 2) (h.mix 21) 28 ∧ Below w.heap.size w W) ⟨A20.other (show w.heap.size ≠ w.heap.size + 2 by omega) _, Y20.other (show w.heap.size + 1 ≠ w.heap.size + 2 by omega) _, Z20.put rfl, B20.setCell (show w.heap.size ≤ w.heap.size + 2 by omega) _⟩ ?_
  clear c d f A20 Y20 Z20 B20
  rintro W21 ⟨A21, Y21, Z21, B21⟩
  have c : W21.cell? ⟨w.heap.size, 21, none⟩ = some (.int .i64 h.from_) := A21.cell 21
  have d : W21.cell? ⟨w.heap.size + 2, 21, none⟩ = some _ := (Z21.cell 21).trans rfl
  have f : W21.frozen? ⟨w.heap.size + 2, 21, none⟩ = false := Z21.frozen 21
  go_upto_region 24 with fail
  refine wp_at (fun W => At W w.heap.size h.ar 27 ∧ At W (w.heap.size + 1) Hd.zero.ar 28 ∧ At W (w.heap.size + 2) (h.mix 22) 28 ∧ Below w.heap.size w W) ⟨A21.other (show w.heap.size ≠ w.heap.size + 2 by omega) _, Y21.other (show w.heap.size + 1 ≠ w.heap.size + 2 by omega) _, Z21.put rfl, B21.setCell (show w.heap.size ≤ w.heap.size + 2 by omega) _⟩ ?_
  clear c d f A21 Y21 Z21 B21
  rintro W22 ⟨A22, Y22, Z22, B22⟩
  have c : W22.cell? ⟨w.heap.size, 22, none⟩ = some (.int .i64 h.next) := A22.cell 22
  have d : W22.cell? ⟨w.heap.size + 2, 22, none⟩ = some _ := (Z22.cell 22).trans rfl
  have f : W22.frozen? ⟨w.heap.size + 2, 22, none⟩ = false := Z22.frozen 22
  go_upto_region 25 with fail
  refine wp_at (fun W => At W w.heap.size h.ar 27 ∧ At W (w.heap.size + 1) Hd.zero.ar 28 ∧ At W (w.heap.size + 2) (h.mix 23) 28 ∧ Below w.heap.size w W) ⟨A22.other (show w.heap.size ≠ w.heap.size + 2 by omega) _, Y22.other (show w.heap.size + 1 ≠ w.heap.size + 2 by omega) _, Z22.put rfl, B22.setCell (show w.heap.size ≤ w.heap.size + 2 by omega) _⟩ ?_
  clear c d f A22 Y22 Z22 B22
  rintro W23 ⟨A23, Y23, Z23, B23⟩
  have c : W23.cell? ⟨w.heap.size, 23, none⟩ = some (.int .i64 h.value) := A23.cell 23
  have d : W23.cell? ⟨w.heap.size + 2, 23, none⟩ = some _ := (Z23.cell 23).trans rfl
  have f : W23.frozen? ⟨w.heap.size + 2, 23, none⟩ = false := Z23.frozen 23
  go_upto_region 26 with fail
  refine wp_at (fun W => At W w.heap.size h.ar 27 ∧ At W (w.heap.size + 1) Hd.zero.ar 28 ∧ At W (w.heap.size + 2) (h.mix 24) 28 ∧ Below w.heap.size w W) ⟨A23.other (show w.heap.size ≠ w.heap.size + 2 by omega) _, Y23.other (show w.heap.size + 1 ≠ w.heap.size + 2 by omega) _, Z23.put rfl, B23.setCell (show w.heap.size ≤ w.heap.size + 2 by omega) _⟩ ?_
  clear c d f A23 Y23 Z23 B23
  rintro W24 ⟨A24, Y24, Z24, B24⟩
  have c : W24.cell? ⟨w.heap.size, 24, none⟩ = some (.int .i64 h.index) := A24.cell 24
  have d : W24.cell? ⟨w.heap.size + 2, 24, none⟩ = some _ := (Z24.cell 24).trans rfl
  have f : W24.frozen? ⟨w.heap.size + 2, 24, none⟩ = false := Z24.frozen 24
  go_upto_region 27 with fail
  refine wp_at (fun W => At W w.heap.size h.ar 27 ∧ At W (w.heap.size + 1) Hd.zero.ar 28 ∧ At W (w.heap.size + 2) (h.mix 25) 28 ∧ Below w.heap.size w W) ⟨A24.other (show w.heap.size ≠ w.heap.size + 2 by omega) _, Y24.other (show w.heap.size + 1 ≠ w.heap.size + 2 by omega) _, Z24.put rfl, B24.setCell (show w.heap.size ≤ w.heap.size + 2 by omega) _⟩ ?_
  clear c d f A24 Y24 Z24 B24
  rintro W25 ⟨A25, Y25, Z25, B25⟩
  have c : W25.cell? ⟨w.heap.size, 25, none⟩ = some (.int .i64 h.which) := A25.cell 25
  have d : W25.cell? ⟨w.heap.size + 2, 25, none⟩ = some _ := (Z25.cell 25).trans rfl
  have f : W25.frozen? ⟨w.heap.size + 2, 25, none⟩ = false := Z25.frozen 25
  go_upto_region 28 with fail
  refine wp_at (fun W => At W w.heap.size h.ar 27 ∧ At W (w.heap.size + 1) Hd.zero.ar 28 ∧ At W (w.heap.size + 2) (h.mix 26) 28 ∧ Below w.heap.size w W) ⟨A25.other (show w.heap.size ≠ w.heap.size + 2 by omega) _, Y25.other (show w.heap.size + 1 ≠ w.heap.size + 2 by omega) _, Z25.put rfl, B25.setCell (show w.heap.size ≤ w.heap.size + 2 by omega) _⟩ ?_
  clear c d f A25 Y25 Z25 B25
  rintro W26 ⟨A26, Y26, Z26, B26⟩
  have c : W26.cell? ⟨w.heap.size, 26, none⟩ = some (.int .i64 h.kept) := A26.cell 26
  have d : W26.cell? ⟨w.heap.size + 2, 26, none⟩ = some _ := (Z26.cell 26).trans rfl
  have f : W26.frozen? ⟨w.heap.size + 2, 26, none⟩ = false := Z26.frozen 26
  go_upto_region 29 with fail
  refine wp_at (fun W => At W w.heap.size h.ar 27 ∧ At W (w.heap.size + 1) Hd.zero.ar 28 ∧ At W (w.heap.size + 2) (h.mix 27) 28 ∧ Below w.heap.size w W) ⟨A26.other (show w.heap.size ≠ w.heap.size + 2 by omega) _, Y26.other (show w.heap.size + 1 ≠ w.heap.size + 2 by omega) _, Z26.put rfl, B26.setCell (show w.heap.size ≤ w.heap.size + 2 by omega) _⟩ ?_
  clear c d f A26 Y26 Z26 B26
  rintro W27 ⟨A27, Y27, Z27, B27⟩
  have c : W27.cell? ⟨w.heap.size, 27, none⟩ = some (.int .i64 h.wasCode) := A27.cell 27
  have d : W27.cell? ⟨w.heap.size + 2, 27, none⟩ = some _ := (Z27.cell 27).trans rfl
  have f : W27.frozen? ⟨w.heap.size + 2, 27, none⟩ = false := Z27.frozen 27
  go_upto_region 30 with fail
  refine wp_at (fun W => At W w.heap.size h.ar 27 ∧ At W (w.heap.size + 1) Hd.zero.ar 28 ∧ At W (w.heap.size + 2) (h.mix 28) 28 ∧ Below w.heap.size w W) ⟨A27.other (show w.heap.size ≠ w.heap.size + 2 by omega) _, Y27.other (show w.heap.size + 1 ≠ w.heap.size + 2 by omega) _, Z27.put rfl, B27.setCell (show w.heap.size ≤ w.heap.size + 2 by omega) _⟩ ?_
  clear c d f A27 Y27 Z27 B27
  rintro W28 ⟨A28, Y28, Z28, B28⟩
  have c : W28.cell? ⟨w.heap.size, 28, none⟩ = some (.int .i64 h.wasItem) := A28.cell 28
  have d : W28.cell? ⟨w.heap.size + 2, 28, none⟩ = some _ := (Z28.cell 28).trans rfl
  have f : W28.frozen? ⟨w.heap.size + 2, 28, none⟩ = false := Z28.frozen 28
  go_upto_region 31 with fail
  refine wp_at (fun W => At W w.heap.size h.ar 27 ∧ At W (w.heap.size + 1) Hd.zero.ar 28 ∧ At W (w.heap.size + 2) (h.mix 29) 28 ∧ Below w.heap.size w W) ⟨A28.other (show w.heap.size ≠ w.heap.size + 2 by omega) _, Y28.other (show w.heap.size + 1 ≠ w.heap.size + 2 by omega) _, Z28.put rfl, B28.setCell (show w.heap.size ≤ w.heap.size + 2 by omega) _⟩ ?_
  clear c d f A28 Y28 Z28 B28
  rintro W29 ⟨A29, Y29, Z29, B29⟩
  have c : W29.cell? ⟨w.heap.size, 29, none⟩ = some (.int .i64 h.wasNumber) := A29.cell 29
  have d : W29.cell? ⟨w.heap.size + 2, 29, none⟩ = some _ := (Z29.cell 29).trans rfl
  have f : W29.frozen? ⟨w.heap.size + 2, 29, none⟩ = false := Z29.frozen 29
  go_upto_region 32 with fail
  refine wp_at (fun W => At W w.heap.size h.ar 27 ∧ At W (w.heap.size + 1) Hd.zero.ar 28 ∧ At W (w.heap.size + 2) (h.mix 30) 28 ∧ Below w.heap.size w W) ⟨A29.other (show w.heap.size ≠ w.heap.size + 2 by omega) _, Y29.other (show w.heap.size + 1 ≠ w.heap.size + 2 by omega) _, Z29.put rfl, B29.setCell (show w.heap.size ≤ w.heap.size + 2 by omega) _⟩ ?_
  clear c d f A29 Y29 Z29 B29
  rintro W30 ⟨A30, Y30, Z30, B30⟩
  have c : W30.cell? ⟨w.heap.size, 30, none⟩ = some (.int .i64 h.wasKind) := A30.cell 30
  have d : W30.cell? ⟨w.heap.size + 2, 30, none⟩ = some _ := (Z30.cell 30).trans rfl
  have f : W30.frozen? ⟨w.heap.size + 2, 30, none⟩ = false := Z30.frozen 30
  go_upto_region 33 with fail
  refine wp_at (fun W => At W w.heap.size h.ar 27 ∧ At W (w.heap.size + 1) Hd.zero.ar 28 ∧ At W (w.heap.size + 2) (h.mix 31) 28 ∧ Below w.heap.size w W) ⟨A30.other (show w.heap.size ≠ w.heap.size + 2 by omega) _, Y30.other (show w.heap.size + 1 ≠ w.heap.size + 2 by omega) _, Z30.put rfl, B30.setCell (show w.heap.size ≤ w.heap.size + 2 by omega) _⟩ ?_
  clear c d f A30 Y30 Z30 B30
  rintro W31 ⟨A31, Y31, Z31, B31⟩
  have c : W31.cell? ⟨w.heap.size, 31, none⟩ = some (.int .i64 h.wasTag) := A31.cell 31
  have d : W31.cell? ⟨w.heap.size + 2, 31, none⟩ = some _ := (Z31.cell 31).trans rfl
  have f : W31.frozen? ⟨w.heap.size + 2, 31, none⟩ = false := Z31.frozen 31
  go_upto_region 34 with fail
  refine wp_at (fun W => At W w.heap.size h.ar 27 ∧ At W (w.heap.size + 1) Hd.zero.ar 28 ∧ At W (w.heap.size + 2) (h.mix 32) 28 ∧ Below w.heap.size w W) ⟨A31.other (show w.heap.size ≠ w.heap.size + 2 by omega) _, Y31.other (show w.heap.size + 1 ≠ w.heap.size + 2 by omega) _, Z31.put rfl, B31.setCell (show w.heap.size ≤ w.heap.size + 2 by omega) _⟩ ?_
  clear c d f A31 Y31 Z31 B31
  rintro W32 ⟨A32, Y32, Z32, B32⟩
  have c : W32.cell? ⟨w.heap.size, 32, none⟩ = some (.int .i64 h.reply) := A32.cell 32
  have d : W32.cell? ⟨w.heap.size + 2, 32, none⟩ = some _ := (Z32.cell 32).trans rfl
  have f : W32.frozen? ⟨w.heap.size + 2, 32, none⟩ = false := Z32.frozen 32
  go_upto_region 35 with fail
  refine wp_at (fun W => At W w.heap.size h.ar 27 ∧ At W (w.heap.size + 1) Hd.zero.ar 28 ∧ At W (w.heap.size + 2) (h.mix 33) 28 ∧ Below w.heap.size w W) ⟨A32.other (show w.heap.size ≠ w.heap.size + 2 by omega) _, Y32.other (show w.heap.size + 1 ≠ w.heap.size + 2 by omega) _, Z32.put rfl, B32.setCell (show w.heap.size ≤ w.heap.size + 2 by omega) _⟩ ?_
  clear c d f A32 Y32 Z32 B32
  rintro W33 ⟨A33, Y33, Z33, B33⟩
  have c : W33.cell? ⟨w.heap.size, 33, none⟩ = some (.int .i64 h.out) := A33.cell 33
  have d : W33.cell? ⟨w.heap.size + 2, 33, none⟩ = some _ := (Z33.cell 33).trans rfl
  have f : W33.frozen? ⟨w.heap.size + 2, 33, none⟩ = false := Z33.frozen 33
  go_upto_region 36 with fail
  refine wp_at (fun W => At W w.heap.size h.ar 27 ∧ At W (w.heap.size + 1) Hd.zero.ar 28 ∧ At W (w.heap.size + 2) (h.mix 34) 28 ∧ Below w.heap.size w W) ⟨A33.other (show w.heap.size ≠ w.heap.size + 2 by omega) _, Y33.other (show w.heap.size + 1 ≠ w.heap.size + 2 by omega) _, Z33.put rfl, B33.setCell (show w.heap.size ≤ w.heap.size + 2 by omega) _⟩ ?_
  clear c d f A33 Y33 Z33 B33
  rintro W34 ⟨A34, Y34, Z34, B34⟩
  have c : W34.cell? ⟨w.heap.size, 34, none⟩ = some (.int .i64 h.mark) := A34.cell 34
  have d : W34.cell? ⟨w.heap.size + 2, 34, none⟩ = some _ := (Z34.cell 34).trans rfl
  have f : W34.frozen? ⟨w.heap.size + 2, 34, none⟩ = false := Z34.frozen 34
  go_upto_region 37 with fail
  refine wp_at (fun W => At W w.heap.size h.ar 27 ∧ At W (w.heap.size + 1) Hd.zero.ar 28 ∧ At W (w.heap.size + 2) (h.mix 35) 28 ∧ Below w.heap.size w W) ⟨A34.other (show w.heap.size ≠ w.heap.size + 2 by omega) _, Y34.other (show w.heap.size + 1 ≠ w.heap.size + 2 by omega) _, Z34.put rfl, B34.setCell (show w.heap.size ≤ w.heap.size + 2 by omega) _⟩ ?_
  clear c d f A34 Y34 Z34 B34
  rintro W35 ⟨A35, Y35, Z35, B35⟩
  have c : W35.cell? ⟨w.heap.size, 35, none⟩ = some (.int .i64 h.begin_) := A35.cell 35
  have d : W35.cell? ⟨w.heap.size + 2, 35, none⟩ = some _ := (Z35.cell 35).trans rfl
  have f : W35.frozen? ⟨w.heap.size + 2, 35, none⟩ = false := Z35.frozen 35
  go_upto_region 38 with fail
  refine wp_at (fun W => At W w.heap.size h.ar 27 ∧ At W (w.heap.size + 1) Hd.zero.ar 28 ∧ At W (w.heap.size + 2) (h.mix 36) 28 ∧ Below w.heap.size w W) ⟨A35.other (show w.heap.size ≠ w.heap.size + 2 by omega) _, Y35.other (show w.heap.size + 1 ≠ w.heap.size + 2 by omega) _, Z35.put rfl, B35.setCell (show w.heap.size ≤ w.heap.size + 2 by omega) _⟩ ?_
  clear c d f A35 Y35 Z35 B35
  rintro W36 ⟨A36, Y36, Z36, B36⟩
  replace Z36 : At W36 (w.heap.size + 2) h.ar 28 := Z36
  go_wp2_with (first
    | (refine loadHl rfl (.tmp 3) rfl (w.heap.size + 2) h rfl Z36 ?_)
    | (refine storeH rfl (.tmp 2) (.tmp 112) rfl (w.heap.size + 1) h rfl rfl Y36 rfl ?_; intro W2 Z2 kk; replace B36 := B36.trans (kk.below (Nat.le_succ _) B36.size)))
  exact bodyPost_ret (v := .agg h.ar) (resH 2 Tryz.results7 rfl Z2) rfl ⟨rfl, B36⟩
theorem two_same (w : World) (h : Hd) (t : TypeId) : At ((w.alloc (.cells h.ar t)).alloc (.cells h.ar t)) w.heap.size h.ar t ∧ At ((w.alloc (.cells h.ar t)).alloc (.cells h.ar t)) (w.heap.size + 1) h.ar t ∧ Below w.heap.size w ((w.alloc (.cells h.ar t)).alloc (.cells h.ar t)) := by
  have e : (w.alloc (.cells h.ar t)).heap.size = w.heap.size + 1 := by simp
  refine ⟨(At.new w h.ar t).keep ((Below.refl _ _).alloc (Nat.le_refl _) _), ?_, ((Below.refl _ _).alloc (Nat.le_refl _) _).alloc (by omega) _⟩
  have := At.new (w.alloc (.cells h.ar t)) h.ar t
  rwa [e] at this
set_option maxRecDepth 20000 in
set_option maxHeartbeats 16000000 in
theorem eqH (h : Hd) (w : World) : Calls Tryz.prog 22 #[.agg h.ar, .agg h.ar] w fun e w' => e = .returned (.bool true) ∧ Below w.heap.size w w' := by
  go_enter Tryz.func22, Tryz.ntmps22
  go_upto_region 1 with fail
  refine wp_at (fun W => At W w.heap.size h.ar 28 ∧ At W (w.heap.size + 1) h.ar 28 ∧ Below w.heap.size w W) (two_same w h _) ?_
  rintro W ⟨A, Z, B⟩
  have c : W.cell? ⟨w.heap.size, 0, none⟩ = some (.bool h.up) := A.cell 0
  have d : W.cell? ⟨w.heap.size + 1, 0, none⟩ = some (.bool h.up) := Z.cell 0
  go_upto_region 3 with fail
  clear c d
  have c : W.cell? ⟨w.heap.size, 1, none⟩ = some (.bool h.inn) := A.cell 1
  have d : W.cell? ⟨w.heap.size + 1, 1, none⟩ = some (.bool h.inn) := Z.cell 1
  go_upto_region 5 with fail
  clear c d
  have c : W.cell? ⟨w.heap.size, 2, none⟩ = some (.bool h.sure) := A.cell 2
  have d : W.cell? ⟨w.heap.size + 1, 2, none⟩ = some (.bool h.sure) := Z.cell 2
  go_upto_region 7 with fail
  clear c d
  have c : W.cell? ⟨w.heap.size, 3, none⟩ = some (.bool h.known) := A.cell 3
  have d : W.cell? ⟨w.heap.size + 1, 3, none⟩ = some (.bool h.known) := Z.cell 3
  go_upto_region 9 with fail
  clear c d
  have c : W.cell? ⟨w.heap.size, 4, none⟩ = some (.int .i64 h.life) := A.cell 4
  have d : W.cell? ⟨w.heap.size + 1, 4, none⟩ = some (.int .i64 h.life) := Z.cell 4
  go_upto_region 11 with fail
  clear c d
  have c : W.cell? ⟨w.heap.size, 5, none⟩ = some (.int .i64 h.at_) := A.cell 5
  have d : W.cell? ⟨w.heap.size + 1, 5, none⟩ = some (.int .i64 h.at_) := Z.cell 5
  go_upto_region 13 with fail
  clear c d
  have c : W.cell? ⟨w.heap.size, 6, none⟩ = some (.int .i64 h.code) := A.cell 6
  have d : W.cell? ⟨w.heap.size + 1, 6, none⟩ = some (.int .i64 h.code) := Z.cell 6
  go_upto_region 15 with fail
  clear c d
  have c : W.cell? ⟨w.heap.size, 7, none⟩ = some (.int .i64 h.a) := A.cell 7
  have d : W.cell? ⟨w.heap.size + 1, 7, none⟩ = some (.int .i64 h.a) := Z.cell 7
  go_upto_region 17 with fail
  clear c d
  have c : W.cell? ⟨w.heap.size, 8, none⟩ = some (.int .i64 h.b) := A.cell 8
  have d : W.cell? ⟨w.heap.size + 1, 8, none⟩ = some (.int .i64 h.b) := Z.cell 8
  go_upto_region 19 with fail
  clear c d
  have c : W.cell? ⟨w.heap.size, 9, none⟩ = some (.int .i64 h.c) := A.cell 9
  have d : W.cell? ⟨w.heap.size + 1, 9, none⟩ = some (.int .i64 h.c) := Z.cell 9
  go_upto_region 21 with fail
  clear c d
  have c : W.cell? ⟨w.heap.size, 10, none⟩ = some (.int .i64 h.number) := A.cell 10
  have d : W.cell? ⟨w.heap.size + 1, 10, none⟩ = some (.int .i64 h.number) := Z.cell 10
  go_upto_region 23 with fail
  clear c d
  have c : W.cell? ⟨w.heap.size, 11, none⟩ = some (.int .i64 h.for_) := A.cell 11
  have d : W.cell? ⟨w.heap.size + 1, 11, none⟩ = some (.int .i64 h.for_) := Z.cell 11
  go_upto_region 25 with fail
  clear c d
  have c : W.cell? ⟨w.heap.size, 12, none⟩ = some (.int .i64 h.last) := A.cell 12
  have d : W.cell? ⟨w.heap.size + 1, 12, none⟩ = some (.int .i64 h.last) := Z.cell 12
  go_upto_region 27 with fail
  clear c d
  have c : W.cell? ⟨w.heap.size, 13, none⟩ = some (.int .i64 h.mine) := A.cell 13
  have d : W.cell? ⟨w.heap.size + 1, 13, none⟩ = some (.int .i64 h.mine) := Z.cell 13
  go_upto_region 29 with fail
  clear c d
  have c : W.cell? ⟨w.heap.size, 14, none⟩ = some (.int .i64 h.addr) := A.cell 14
  have d : W.cell? ⟨w.heap.size + 1, 14, none⟩ = some (.int .i64 h.addr) := Z.cell 14
  go_upto_region 31 with fail
  clear c d
  have c : W.cell? ⟨w.heap.size, 15, none⟩ = some (.int .u64 h.seen) := A.cell 15
  have d : W.cell? ⟨w.heap.size + 1, 15, none⟩ = some (.int .u64 h.seen) := Z.cell 15
  go_upto_region 33 with fail
  clear c d
  have c : W.cell? ⟨w.heap.size, 16, none⟩ = some (.int .u64 h.put) := A.cell 16
  have d : W.cell? ⟨w.heap.size + 1, 16, none⟩ = some (.int .u64 h.put) := Z.cell 16
  go_upto_region 35 with fail
  clear c d
  have c : W.cell? ⟨w.heap.size, 17, none⟩ = some (.int .i64 h.good) := A.cell 17
  have d : W.cell? ⟨w.heap.size + 1, 17, none⟩ = some (.int .i64 h.good) := Z.cell 17
  go_upto_region 37 with fail
  clear c d
  have c : W.cell? ⟨w.heap.size, 18, none⟩ = some (.int .i64 h.bad) := A.cell 18
  have d : W.cell? ⟨w.heap.size + 1, 18, none⟩ = some (.int .i64 h.bad) := Z.cell 18
  go_upto_region 39 with fail
  clear c d
  have c : W.cell? ⟨w.heap.size, 19, none⟩ = some (.int .i64 h.does) := A.cell 19
  have d : W.cell? ⟨w.heap.size + 1, 19, none⟩ = some (.int .i64 h.does) := Z.cell 19
  go_upto_region 41 with fail
  clear c d
  have c : W.cell? ⟨w.heap.size, 20, none⟩ = some (.int .i64 h.block) := A.cell 20
  have d : W.cell? ⟨w.heap.size + 1, 20, none⟩ = some (.int .i64 h.block) := Z.cell 20
  go_upto_region 43 with fail
  clear c d
  have c : W.cell? ⟨w.heap.size, 21, none⟩ = some (.int .i64 h.from_) := A.cell 21
  have d : W.cell? ⟨w.heap.size + 1, 21, none⟩ = some (.int .i64 h.from_) := Z.cell 21
  go_upto_region 45 with fail
  clear c d
  have c : W.cell? ⟨w.heap.size, 22, none⟩ = some (.int .i64 h.next) := A.cell 22
  have d : W.cell? ⟨w.heap.size + 1, 22, none⟩ = some (.int .i64 h.next) := Z.cell 22
  go_upto_region 47 with fail
  clear c d
  have c : W.cell? ⟨w.heap.size, 23, none⟩ = some (.int .i64 h.value) := A.cell 23
  have d : W.cell? ⟨w.heap.size + 1, 23, none⟩ = some (.int .i64 h.value) := Z.cell 23
  go_upto_region 49 with fail
  clear c d
  have c : W.cell? ⟨w.heap.size, 24, none⟩ = some (.int .i64 h.index) := A.cell 24
  have d : W.cell? ⟨w.heap.size + 1, 24, none⟩ = some (.int .i64 h.index) := Z.cell 24
  go_upto_region 51 with fail
  clear c d
  have c : W.cell? ⟨w.heap.size, 25, none⟩ = some (.int .i64 h.which) := A.cell 25
  have d : W.cell? ⟨w.heap.size + 1, 25, none⟩ = some (.int .i64 h.which) := Z.cell 25
  go_upto_region 53 with fail
  clear c d
  have c : W.cell? ⟨w.heap.size, 26, none⟩ = some (.int .i64 h.kept) := A.cell 26
  have d : W.cell? ⟨w.heap.size + 1, 26, none⟩ = some (.int .i64 h.kept) := Z.cell 26
  go_upto_region 55 with fail
  clear c d
  have c : W.cell? ⟨w.heap.size, 27, none⟩ = some (.int .i64 h.wasCode) := A.cell 27
  have d : W.cell? ⟨w.heap.size + 1, 27, none⟩ = some (.int .i64 h.wasCode) := Z.cell 27
  go_upto_region 57 with fail
  clear c d
  have c : W.cell? ⟨w.heap.size, 28, none⟩ = some (.int .i64 h.wasItem) := A.cell 28
  have d : W.cell? ⟨w.heap.size + 1, 28, none⟩ = some (.int .i64 h.wasItem) := Z.cell 28
  go_upto_region 59 with fail
  clear c d
  have c : W.cell? ⟨w.heap.size, 29, none⟩ = some (.int .i64 h.wasNumber) := A.cell 29
  have d : W.cell? ⟨w.heap.size + 1, 29, none⟩ = some (.int .i64 h.wasNumber) := Z.cell 29
  go_upto_region 61 with fail
  clear c d
  have c : W.cell? ⟨w.heap.size, 30, none⟩ = some (.int .i64 h.wasKind) := A.cell 30
  have d : W.cell? ⟨w.heap.size + 1, 30, none⟩ = some (.int .i64 h.wasKind) := Z.cell 30
  go_upto_region 63 with fail
  clear c d
  have c : W.cell? ⟨w.heap.size, 31, none⟩ = some (.int .i64 h.wasTag) := A.cell 31
  have d : W.cell? ⟨w.heap.size + 1, 31, none⟩ = some (.int .i64 h.wasTag) := Z.cell 31
  go_upto_region 65 with fail
  clear c d
  have c : W.cell? ⟨w.heap.size, 32, none⟩ = some (.int .i64 h.reply) := A.cell 32
  have d : W.cell? ⟨w.heap.size + 1, 32, none⟩ = some (.int .i64 h.reply) := Z.cell 32
  go_upto_region 67 with fail
  clear c d
  have c : W.cell? ⟨w.heap.size, 33, none⟩ = some (.int .i64 h.out) := A.cell 33
  have d : W.cell? ⟨w.heap.size + 1, 33, none⟩ = some (.int .i64 h.out) := Z.cell 33
  go_upto_region 69 with fail
  clear c d
  have c : W.cell? ⟨w.heap.size, 34, none⟩ = some (.int .i64 h.mark) := A.cell 34
  have d : W.cell? ⟨w.heap.size + 1, 34, none⟩ = some (.int .i64 h.mark) := Z.cell 34
  go_upto_region 71 with fail
  clear c d
  have c : W.cell? ⟨w.heap.size, 35, none⟩ = some (.int .i64 h.begin_) := A.cell 35
  have d : W.cell? ⟨w.heap.size + 1, 35, none⟩ = some (.int .i64 h.begin_) := Z.cell 35
  go_upto_region 73 with fail
  clear c d
  go_wp2
  go_ret
  exact ⟨rfl, B⟩
end Go.Proofs.YtgmoemjiffglbaaGreat
namespace Go.Proofs.YtgmoemjiffglbaaGreat
open Go.RowKit
set_option linter.unusedVariables false
/-- The worlds that are as W below W's end. -/
structure Cls (W w : World) : Prop where
  below : Below W.heap.size W w
theorem wp_region_cls {id : Nat} {Q : Exit → Act → World → Prop} {a : Act} {w : World} {l : List Oper} (hm : Tryz.prog.follows .mixedOrders = true) (hB : Region.lexB .any l.toArray = true)
    (h : wpQuiet Tryz.prog l.toArray (Cls w) (fun a' => ∀ w', Cls w w' → Q .normal a' w') l a) : (Code.region id l.toArray true).wp Tryz.prog Q a w :=
  wp_region_quiet (C := Cls w) hm hB ⟨⟨rfl, rfl, rfl, Nat.le_refl _, fun _ _ => rfl⟩⟩ (by simpa using h)
theorem q_load {P : Program} {o : Oper} {a : Act} {C : World → Prop} {K : Act → Prop} (t : TypeId) (x : Operand) (p : Addr) (v : Value) (ho : o.op = .load t x) (hx : a.eval x = .pointer (some p))
    (h : ∀ w, C w → (loadVar t p).run P w = .ok v w) (hk : K (a.put o.dst v)) : o.quiet P a C K :=
  ⟨v, fun w hw => by
    unfold Oper.quietAt execOp
    simp only [ho, hx, Instr.loadAt, Instr.sureAddr, Sem.run_bind, Sem.run_pure, Result.andThen_ok, h w hw]
    exact ⟨rfl, rfl⟩, hk⟩
theorem exB {b : Bool} {T K' : Value → Prop} (hT : T (.bool b)) (ht : b = true → K' (.bool true)) (hf : b = false → K' (.bool false)) : ∃ v, T v ∧ K' v :=
  ⟨.bool b, hT, by cases b with | true => exact ht rfl | false => exact hf rfl⟩
theorem cls_same {P : Program} {f : FuncId} {args : Array Value} {W w : World} {v : Value} (hw : Cls W w) (h : Calls P f args w fun e w' => e = .returned v ∧ w' = w) : Calls P f args w fun e w' => e = .returned v ∧ Cls W w' :=
  h.mono fun _ _ ⟨he, hm⟩ => ⟨he, by rw [hm]; exact hw⟩
theorem cls_below {P : Program} {f : FuncId} {args : Array Value} {W w : World} {v : Value} (hw : Cls W w) (h : Calls P f args w fun e w' => e = .returned v ∧ Below w.heap.size w w') : Calls P f args w fun e w' => e = .returned v ∧ Cls W w' :=
  h.mono fun _ _ ⟨he, hm⟩ => ⟨he, ⟨hw.below.trans (hm.mono hw.below.size)⟩⟩
theorem ld_i {W : World} {b i : Nat} {cs : Array Value} {t ty : TypeId} {k : IntKind} {x : Int} (A : At W b cs t) (hu : Tryz.prog.underlying ty = some (.int k)) (hv : cs[i]? = some (.int k x)) (w : World) (hw : Cls W w) : (loadVar ty ⟨b, i, none⟩).run Tryz.prog w = .ok (.int k x) w := by
  have c : w.cell? ⟨b, i, none⟩ = some (.int k x) := ((A.keep hw.below).cell i).trans hv
  have ha : (isAgg ty).run Tryz.prog w = .ok false w := by
    unfold isAgg
    rw [Sem.run_bind, run_underlying hu w]
    simp
  simp [go_sem, c, ha]
theorem ld_agg {W : World} {b : Nat} {vs : List Value} {t ty : TypeId} {d : TypeDesc} (A : At W b vs.toArray t) (hu : Tryz.prog.underlying ty = some d) (hd : d.isRow = true) (hi : (Tryz.prog.info? ty).map (·.size) = some vs.length) (w : World) (hw : Cls W w) : (loadVar ty ⟨b, 0, none⟩).run Tryz.prog w = .ok (.agg vs.toArray) w :=
  run_loadVar_mid w b 0 ty vs d (fun j v hj => by have := (A.keep hw.below).cell j; simp at *; rw [this]; exact hj) hu hd hi
end Go.Proofs.YtgmoemjiffglbaaGreat
