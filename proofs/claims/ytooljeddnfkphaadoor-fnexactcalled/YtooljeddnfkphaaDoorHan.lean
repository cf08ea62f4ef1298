/-
  Hands as records: what is read out of one, and what is laid.
-/
import Derived.Test.YtooljeddnfkphaaDoorAt
import Derived.Deep.MidRow
import Derived.Deep.Cut
import Derived.Laws.Tables
import Derived.Deep.RegionHeld3
import Derived.Deep.QuietTactic
import Derived.WalkKit
namespace Go.Proofs.YtooljeddnfkphaaDoor
open Go.RowKit
set_option linter.unusedVariables false
structure Hd where
  up : Bool
  inn : Bool
  sure : Bool
  known : Bool
  life : Int
  at_ : Int
  code : Int
  a : Int
  b : Int
  c : Int
  number : Int
  for_ : Int
  last : Int
  mine : Int
  addr : Int
  seen : Int
  put : Int
  good : Int
  bad : Int
  does : Int
  block : Int
  from_ : Int
  next : Int
  value : Int
  index : Int
  which : Int
  kept : Int
  wasCode : Int
  wasItem : Int
  wasNumber : Int
  wasKind : Int
  wasTag : Int
  reply : Int
  out : Int
  mark : Int
  begin_ : Int
def Hd.vs (h : Hd) : List Value := [.bool h.up, .bool h.inn, .bool h.sure, .bool h.known, .int .i64 h.life, .int .i64 h.at_, .int .i64 h.code, .int .i64 h.a, .int .i64 h.b, .int .i64 h.c, .int .i64 h.number, .int .i64 h.for_, .int .i64 h.last, .int .i64 h.mine, .int .i64 h.addr, .int .u64 h.seen, .int .u64 h.put, .int .i64 h.good, .int .i64 h.bad, .int .i64 h.does, .int .i64 h.block, .int .i64 h.from_, .int .i64 h.next, .int .i64 h.value, .int .i64 h.index, .int .i64 h.which, .int .i64 h.kept, .int .i64 h.wasCode, .int .i64 h.wasItem, .int .i64 h.wasNumber, .int .i64 h.wasKind, .int .i64 h.wasTag, .int .i64 h.reply, .int .i64 h.out, .int .i64 h.mark, .int .i64 h.begin_]
def Hd.ar (h : Hd) : Array Value := h.vs.toArray
def Hd.zero : Hd := ⟨false, false, false, false, 0, 0, 0, 0, 0, 0, 0, 0, 0, 0, 0, 0, 0, 0, 0, 0, 0, 0, 0, 0, 0, 0, 0, 0, 0, 0, 0, 0, 0, 0, 0, 0⟩
theorem Hd.len (h : Hd) : h.vs.length = 36 := rfl
theorem Hd.sz (h : Hd) : h.ar.size = 36 := rfl
theorem Hd.one (h : Hd) : ∀ v ∈ h.vs, v.oneCell' = true := by
  simp [Hd.vs, Value.oneCell']
def fill (cs : Array Value) : Nat → List Value → Array Value
  | _, [] => cs
  | o, v :: r => fill (cs.setIfInBounds o v) (o + 1) r
theorem fill_size : ∀ (vs : List Value) (cs : Array Value) (o : Nat), (fill cs o vs).size = cs.size
  | [], _, _ => rfl
  | v :: r, cs, o => by rw [fill, fill_size r]; simp
theorem fill_get : ∀ (vs : List Value) (cs : Array Value) (o i : Nat), o + vs.length ≤ cs.size → (fill cs o vs)[i]? = if o ≤ i ∧ i < o + vs.length then vs[i - o]? else cs[i]?
  | [], cs, o, i, h => by simp [fill]; intro h1 h2; omega
  | v :: r, cs, o, i, h => by
    simp only [List.length_cons] at h
    rw [fill, fill_get r _ (o + 1) i (by simp; omega)]
    by_cases h1 : i = o
    · subst h1
      rw [if_neg (by omega), if_pos (by simp)]
      have hs : i < cs.size := by omega
      simp [hs]
    · by_cases h2 : o ≤ i ∧ i < o + (v :: r).length
      · simp only [List.length_cons] at h2
        rw [if_pos (by omega), if_pos (by simp; omega)]
        obtain ⟨k, rfl⟩ : ∃ k, i = o + 1 + k := ⟨i - (o + 1), by omega⟩
        rw [show o + 1 + k - (o + 1) = k by omega, show o + 1 + k - o = k + 1 by omega]
        simp
      · simp only [List.length_cons] at h2
        rw [if_neg (by omega), if_neg (by simp; omega)]
        rw [Array.getElem?_setIfInBounds, if_neg (by omega)]
theorem fill_all {cs : Array Value} {vs : List Value} (h : vs.length = cs.size) : fill cs 0 vs = vs.toArray := by
  apply Array.ext_getElem?
  intro i
  rw [fill_get _ _ _ _ (by omega)]
  by_cases hi : i < vs.length
  · rw [if_pos (by omega)]; simp
  · rw [if_neg (by omega)]
    simp [show cs.size ≤ i by omega, show vs.length ≤ i by omega]
theorem At.fills {b : Nat} {t : TypeId} : ∀ (vs : List Value) (w : World) (cs : Array Value) (o : Nat), At w b cs t → At (w.setCells b o vs) b (fill cs o vs) t
  | [], _, _, _, h => h
  | v :: r, w, cs, o, h => by
    rw [World.setCells, fill]
    exact At.fills r _ _ _ (h.set o v)
theorem At.fillAll {w : World} {b : Nat} {cs : Array Value} {t : TypeId} (h : At w b cs t) {vs : List Value} (hl : vs.length = cs.size) : At (w.setCells b 0 vs) b vs.toArray t := by
  rw [← fill_all hl]; exact h.fills vs w cs 0
theorem At.there {w : World} {b : Nat} {cs : Array Value} {t : TypeId} (h : At w b cs t) (o n : Nat) (hn : o + n ≤ cs.size) : w.there b o n := fun j hj => by
  rw [h.cell, h.frozen]
  simp; omega
theorem At.range {w : World} {b : Nat} {vs : List Value} {t : TypeId} (h : At w b vs.toArray t) : w.rangeAt b 0 vs := fun j v hj => by
  rw [h.cell]; simpa using hj
theorem heap_setCells (b : Nat) : ∀ (vs : List Value) (o : Nat) (w : World) (k : Nat), k ≠ b → (w.setCells b o vs).heap[k]? = w.heap[k]?
  | [], _, _, _, _ => rfl
  | v :: r, o, w, k, h => by
    rw [World.setCells, heap_setCells b r (o + 1) _ k h]
    exact Below.heap_setCell _ _ _ _ h
theorem below_setCells {B : Nat} {a : World} (b : Nat) (hb : B ≤ b) : ∀ (vs : List Value) (o : Nat) (w : World), Below B a w → Below B a (w.setCells b o vs)
  | [], _, _, h => h
  | v :: r, o, w, h => by
    rw [World.setCells]
    exact below_setCells b hb r (o + 1) _ (h.setCell (p := ⟨b, o, none⟩) hb _)
theorem infoH : (Tryd.prog.info? 31).map (·.size) = some 36 := by kernel_rfl
theorem loadH {w : World} {b : Nat} {h : Hd} {t : TypeId} (H : At w b h.ar t) : (loadVar 31 ⟨b, 0, none⟩).run Tryd.prog w = .ok (.agg h.ar) w :=
  run_loadVar_mid w b 0 31 h.vs _ H.range Tryd.underlying31 rfl infoH
theorem resH {fn : Func} {T : Array Value} {w : World} {b : Nat} {k : Hd} {t : TypeId} (i : Nat) (hr : fn.results = #[.cell i 31]) (hT : T.getD i undef = .pointer (some ⟨b, 0, none⟩)) (Z : At w b k.ar t) :
    (results fn T).run Tryd.prog w = .ok (.agg k.ar) w := by
  have e : (asAddr (T.getD i undef)).run Tryd.prog w = .ok ⟨b, 0, none⟩ w := by rw [hT]; rfl
  simp only [results, hr, List.mapM_toArray, List.mapM_cons, List.mapM_nil, Sem.run_bind, Sem.run_map, Sem.run_pure, e, Result.andThen_ok, loadH Z]
  rfl
theorem resH2 {fn : Func} {T : Array Value} {w : World} {b : Nat} {k : Hd} {t : TypeId} {v : Value} (i j : Nat) (hr : fn.results = #[.cell i 31, .tmp j]) (hT : T.getD i undef = .pointer (some ⟨b, 0, none⟩)) (hj : T.getD j undef = v) (Z : At w b k.ar t) :
    (results fn T).run Tryd.prog w = .ok (.tuple #[.agg k.ar, v]) w := by
  have e : (asAddr (T.getD i undef)).run Tryd.prog w = .ok ⟨b, 0, none⟩ w := by rw [hT]; rfl
  simp only [results, hr, List.mapM_toArray, List.mapM_cons, List.mapM_nil, Sem.run_bind, Sem.run_map, Sem.run_pure, e, Result.andThen_ok, loadH Z, hj]
  rfl
theorem wp_at {P : Program} {co : Code} {Q : Exit → Act → World → Prop} {a : Act} {W : World} (R : World → Prop) (r : R W) (h : ∀ w, R w → Code.wp P co Q a w) : Code.wp P co Q a W := h W r

theorem two_new (w : World) (cs : Array Value) (t t' : TypeId) : At ((w.alloc (.cells cs t)).alloc (.cells Hd.zero.ar t')) w.heap.size cs t ∧ At ((w.alloc (.cells cs t)).alloc (.cells Hd.zero.ar t')) (w.heap.size + 1) Hd.zero.ar t' ∧ Below w.heap.size w ((w.alloc (.cells cs t)).alloc (.cells Hd.zero.ar t')) := by
  have e : (w.alloc (.cells cs t)).heap.size = w.heap.size + 1 := by simp
  refine ⟨(At.new w cs t).keep ((Below.refl _ _).alloc (Nat.le_refl _) _), ?_, ((Below.refl _ _).alloc (Nat.le_refl _) _).alloc (by omega) _⟩
  have := At.new (w.alloc (.cells cs t)) Hd.zero.ar t'
  rwa [e] at this
theorem wpList_built {P : Program} {ops : Array Oper} {rest : List Oper} {o : Oper} {a : Act} {w : World} {Q : Exit → Act → World → Prop} (hg : o.guard = none) (t : TypeId) (parts : Array (Nat × Operand)) (ho : o.op = .build t parts) (ps : List (Nat × Value)) (hp : parts.toList.map (fun x => (x.1, a.eval x.2)) = ps) (cells : Array Value) (hb : P.built t ps = some cells) (h : wpList P ops Q rest (a.put o.dst (.agg cells)) w) : wpList P ops Q (o :: rest) a w :=
  have e : (parts.map fun (i, x) => (i, a.eval x)).toList = ps := by rw [Array.toList_map]; exact hp
  wpList_build hg t parts ho (by rw [e, hb]; rfl) (by rw [e, hb]; exact h)
theorem kept_setCells (b : Nat) (vs : List Value) (o : Nat) (w : World) : Kept b w (w.setCells b o vs) := by
  have h := below_setCells (B := 0) (a := w) b (Nat.zero_le _) vs o w (Below.refl _ _)
  exact ⟨h.os, h.tape, h.output, h.size, fun k hk hc => heap_setCells b vs o w k hc⟩
theorem storeH {ops : Array Oper} {rest : List Oper} {op : Oper} {a : Act} {w : World} {Q : Exit → Act → World → Prop} (hgd : op.guard = none) (x y : Operand) (ho : op.op = .store 31 x y)
    (b : Nat) (k : Hd) (hx : a.eval x = .pointer (some ⟨b, 0, none⟩)) (hy : a.eval y = .agg k.ar) {cs : Array Value} {t : TypeId} (Z : At w b cs t) (hs : cs.size = 36)
    (h : ∀ w', At w' b k.ar t → Kept b w w' → wpList Tryd.prog ops Q rest (a.put op.dst undef) w') : wpList Tryd.prog ops Q (op :: rest) a w :=
  wpList_store_mid hgd 31 x y ho b 0 k.ar hx hy (by rw [k.sz]; exact Z.there 0 36 (by omega)) (by rw [k.sz]; exact infoH) (all_oneCell_toArray k.one) (h _ (Z.fillAll (by rw [hs]; rfl)) (kept_setCells b _ 0 w))
def Hd.downed (h : Hd) : Hd := { Hd.zero with life := h.life }
def Hd.resting (h : Hd) : Hd := { Hd.zero with up := h.up, inn := h.inn, life := h.life, last := h.last, kept := h.kept }
theorem bDowned (h : Hd) : Tryd.prog.built 31 [(4, .int .i64 h.life)] = some h.downed.ar := by kernel_rfl
theorem bResting (h : Hd) : Tryd.prog.built 31 [(0, .bool h.up), (1, .bool h.inn), (4, .int .i64 h.life), (12, .int .i64 h.last), (26, .int .i64 h.kept)] = some h.resting.ar := by kernel_rfl
set_option maxHeartbeats 4000000 in
theorem iDowned (h : Hd) (w : World) : Calls Tryd.prog 39 #[.agg h.ar] w fun e w' => e = .returned (.agg h.downed.ar) ∧ Below w.heap.size w w' := by
  go_enter Tryd.func39, Tryd.ntmps39
  go_upto_region 1 with fail
  refine wp_at (fun W => At W w.heap.size h.ar 31 ∧ At W (w.heap.size + 1) Hd.zero.ar 31 ∧ Below w.heap.size w W) (two_new w h.ar _ _) ?_
  rintro W ⟨A, Z, B⟩
  have c4 : W.cell? ⟨w.heap.size, 4, none⟩ = some (.int .i64 h.life) := A.cell 4
  go_wp2_with (first
    | (refine wpList_built rfl 31 #[(4, .tmp 4)] rfl [(4, .int .i64 h.life)] rfl _ (bDowned h) ?_)
    | (refine storeH rfl (.tmp 2) (.tmp 5) rfl (w.heap.size + 1) h.downed rfl rfl Z rfl ?_; intro W2 Z2 kk; replace B := B.trans (kk.below (Nat.le_succ _) B.size)))
  exact bodyPost_ret (v := .agg h.downed.ar) (resH 2 Tryd.results39 rfl Z2) rfl ⟨rfl, B⟩
set_option maxHeartbeats 4000000 in
theorem sResting (h : Hd) (w : World) : Calls Tryd.prog 28 #[.agg h.ar] w fun e w' => e = .returned (.agg h.resting.ar) ∧ Below w.heap.size w w' := by
  go_enter Tryd.func28, Tryd.ntmps28
  go_upto_region 1 with fail
  refine wp_at (fun W => At W w.heap.size h.ar 31 ∧ At W (w.heap.size + 1) Hd.zero.ar 31 ∧ Below w.heap.size w W) (two_new w h.ar _ _) ?_
  rintro W ⟨A, Z, B⟩
  have c0 : W.cell? ⟨w.heap.size, 0, none⟩ = some (.bool h.up) := A.cell 0
  have c1 : W.cell? ⟨w.heap.size, 1, none⟩ = some (.bool h.inn) := A.cell 1
  have c4 : W.cell? ⟨w.heap.size, 4, none⟩ = some (.int .i64 h.life) := A.cell 4
  have c12 : W.cell? ⟨w.heap.size, 12, none⟩ = some (.int .i64 h.last) := A.cell 12
  have c26 : W.cell? ⟨w.heap.size, 26, none⟩ = some (.int .i64 h.kept) := A.cell 26
  go_wp2_with (first
    | (refine wpList_built rfl 31 #[(0, .tmp 4), (1, .tmp 6), (4, .tmp 8), (12, .tmp 10), (26, .tmp 12)] rfl [(0, .bool h.up), (1, .bool h.inn), (4, .int .i64 h.life), (12, .int .i64 h.last), (26, .int .i64 h.kept)] rfl _ (bResting h) ?_)
    | (refine storeH rfl (.tmp 2) (.tmp 13) rfl (w.heap.size + 1) h.resting rfl rfl Z rfl ?_; intro W2 Z2 kk; replace B := B.trans (kk.below (Nat.le_succ _) B.size)))
  exact bodyPost_ret (v := .agg h.resting.ar) (resH 2 Tryd.results28 rfl Z2) rfl ⟨rfl, B⟩
set_option maxHeartbeats 4000000 in
theorem iResting (h : Hd) (w : World) : Calls Tryd.prog 46 #[.agg h.ar] w fun e w' => e = .returned (.agg h.resting.ar) ∧ Below w.heap.size w w' := by
  go_enter Tryd.func46, Tryd.ntmps46
  go_upto_region 1 with fail
  refine wp_at (fun W => At W w.heap.size h.ar 31 ∧ At W (w.heap.size + 1) Hd.zero.ar 31 ∧ Below w.heap.size w W) (two_new w h.ar _ _) ?_
  rintro W ⟨A, Z, B⟩
  have c0 : W.cell? ⟨w.heap.size, 0, none⟩ = some (.bool h.up) := A.cell 0
  have c1 : W.cell? ⟨w.heap.size, 1, none⟩ = some (.bool h.inn) := A.cell 1
  have c4 : W.cell? ⟨w.heap.size, 4, none⟩ = some (.int .i64 h.life) := A.cell 4
  have c12 : W.cell? ⟨w.heap.size, 12, none⟩ = some (.int .i64 h.last) := A.cell 12
  have c26 : W.cell? ⟨w.heap.size, 26, none⟩ = some (.int .i64 h.kept) := A.cell 26
  go_wp2_with (first
    | (refine wpList_built rfl 31 #[(0, .tmp 4), (1, .tmp 6), (4, .tmp 8), (12, .tmp 10), (26, .tmp 12)] rfl [(0, .bool h.up), (1, .bool h.inn), (4, .int .i64 h.life), (12, .int .i64 h.last), (26, .int .i64 h.kept)] rfl _ (bResting h) ?_)
    | (refine storeH rfl (.tmp 2) (.tmp 13) rfl (w.heap.size + 1) h.resting rfl rfl Z rfl ?_; intro W2 Z2 kk; replace B := B.trans (kk.below (Nat.le_succ _) B.size)))
  exact bodyPost_ret (v := .agg h.resting.ar) (resH 2 Tryd.results46 rfl Z2) rfl ⟨rfl, B⟩
end Go.Proofs.YtooljeddnfkphaaDoor
