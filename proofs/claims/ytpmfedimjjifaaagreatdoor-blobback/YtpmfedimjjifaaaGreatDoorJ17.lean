/- A region's world as a letter; heads in memory; no statement of the seat is proved here. -/
import Derived.Test.YtpmfedimjjifaaaGreatDoorJ01
import Derived.Test.YtpmfedimjjifaaaGreatDoorJ14
import Derived.Test.YtpmfedimjjifaaaGreatDoorJ16
import Derived.Test.YtpmfedimjjifaaaGreatDoorJ11
namespace Go.Proofs.YtpmfedimjjifaaaGreatDoor
open Go.RowKit Go.Maps
open Bxs (Rect noR eqR box_eqlIn eqR_iff)

section
variable {P : Program} {ops : Array Oper} {Q : Exit → Act → World → Prop} {md : Region.Mode} {S : World → Prop} {E : Nat → Bool}
set_option maxRecDepth 100000 in
theorem any_more {S' : World → Prop} {fuel : Nat} {listed : Array Bool} {a : Act} {w : World} (h : S' w) (hSS : ∀ W, S' W → S W)
    (k : ∀ W, S' W → wpAnyK P md ops Q S' E fuel listed a W) : wpAnyK P md ops Q S E fuel listed a w := wpAnyK_more hSS (k w h)
end

/-- A blob's head. -/
structure Hd where
  srs : Int
  l : Bool
  b : Bool
  e : Bool
  x : Rect
/-- Nothing's head. -/
def noH : Hd := ⟨0, false, false, false, ⟨false, 0, 0, 0, 0⟩⟩
/-- A head in a block of its own, and what is read of it. -/
def B9 (W : World) (b : Nat) (h : Hd) : Prop := W.heap[b]? = some (.cells #[.int .i64 (h).srs, .bool (h).l, .bool (h).b, .bool (h).e, .bool (h).x.n, .int .i64 (h).x.lx, .int .i64 (h).x.ly, .int .i64 (h).x.hx, .int .i64 (h).x.hy] 29)
def C9 (W : World) (b : Nat) (h : Hd) : Prop := W.cell? ⟨b, 0, none⟩ = some (.int .i64 h.srs) ∧ W.cell? ⟨b, 1, none⟩ = some (.bool h.l) ∧ W.cell? ⟨b, 2, none⟩ = some (.bool h.b) ∧ W.cell? ⟨b, 3, none⟩ = some (.bool h.e) ∧
  W.cell? ⟨b, 4, none⟩ = some (.bool h.x.n) ∧ W.cell? ⟨b, 5, none⟩ = some (.int .i64 h.x.lx) ∧ W.cell? ⟨b, 6, none⟩ = some (.int .i64 h.x.ly) ∧ W.cell? ⟨b, 7, none⟩ = some (.int .i64 h.x.hx) ∧ W.cell? ⟨b, 8, none⟩ = some (.int .i64 h.x.hy)
set_option maxRecDepth 100000 in
theorem B9.c {W : World} {b : Nat} {h : Hd} (k : B9 W b h) : C9 W b h := by
  unfold B9 at k
  refine ⟨?_, ?_, ?_, ?_, ?_, ?_, ?_, ?_, ?_⟩ <;> simp [World.cell?, k]
set_option maxRecDepth 100000 in
theorem B9.fz {W : World} {b : Nat} {h : Hd} (k : B9 W b h) (i : Nat) : W.frozen? ⟨b, i, none⟩ = false := by
  unfold B9 at k
  simp [World.frozen?, k]
theorem B9.lt {W : World} {b : Nat} {h : Hd} (k : B9 W b h) : b < W.heap.size := (Array.getElem?_eq_some_iff.1 k).1
theorem B9.keep {w w' : World} {b : Nat} {h : Hd} (k : B9 w b h) (g : Below w.heap.size w w') : B9 w' b h := (g.block b k.lt).trans k
theorem C9.keep {w w' : World} {b : Nat} {h : Hd} (k : C9 w b h) (g : Below w.heap.size w w') : C9 w' b h := by
  obtain ⟨a0, a1, a2, a3, a4, a5, a6, a7, a8⟩ := k
  exact ⟨keep_old g a0, keep_old g a1, keep_old g a2, keep_old g a3, keep_old g a4, keep_old g a5, keep_old g a6, keep_old g a7, keep_old g a8⟩
theorem B9.new (w : World) (h : Hd) : B9 (w.alloc (.cells #[.int .i64 (h).srs, .bool (h).l, .bool (h).b, .bool (h).e, .bool (h).x.n, .int .i64 (h).x.lx, .int .i64 (h).x.ly, .int .i64 (h).x.hx, .int .i64 (h).x.hy] 29)) w.heap.size h := heap_alloc_new w _
theorem put9 {W : World} {b : Nat} {t : TypeId} {v0 v1 v2 v3 v4 v5 v6 v7 v8 q0 q1 q2 q3 q4 q5 q6 q7 q8 : Value} (k0 : W.heap[b]? = some (.cells #[v0, v1, v2, v3, v4, v5, v6, v7, v8] t)) : ((((((((((W).setCell ⟨b, 0, none⟩ q0).setCell ⟨b, 1, none⟩ q1).setCell ⟨b, 2, none⟩ q2).setCell ⟨b, 3, none⟩ q3).setCell ⟨b, 4, none⟩ q4).setCell ⟨b, 5, none⟩ q5).setCell ⟨b, 6, none⟩ q6).setCell ⟨b, 7, none⟩ q7).setCell ⟨b, 8, none⟩ q8).heap[b]? = some (.cells #[q0, q1, q2, q3, q4, q5, q6, q7, q8] t) := by
  have k1 : ((W).setCell ⟨b, 0, none⟩ q0).heap[b]? = some (.cells #[q0, v1, v2, v3, v4, v5, v6, v7, v8] t) := (heap_setCell_same _ b 0 _ t q0 k0).trans (by simp)
  have k2 : (((W).setCell ⟨b, 0, none⟩ q0).setCell ⟨b, 1, none⟩ q1).heap[b]? = some (.cells #[q0, q1, v2, v3, v4, v5, v6, v7, v8] t) := (heap_setCell_same _ b 1 _ t q1 k1).trans (by simp)
  have k3 : ((((W).setCell ⟨b, 0, none⟩ q0).setCell ⟨b, 1, none⟩ q1).setCell ⟨b, 2, none⟩ q2).heap[b]? = some (.cells #[q0, q1, q2, v3, v4, v5, v6, v7, v8] t) := (heap_setCell_same _ b 2 _ t q2 k2).trans (by simp)
  have k4 : (((((W).setCell ⟨b, 0, none⟩ q0).setCell ⟨b, 1, none⟩ q1).setCell ⟨b, 2, none⟩ q2).setCell ⟨b, 3, none⟩ q3).heap[b]? = some (.cells #[q0, q1, q2, q3, v4, v5, v6, v7, v8] t) := (heap_setCell_same _ b 3 _ t q3 k3).trans (by simp)
  have k5 : ((((((W).setCell ⟨b, 0, none⟩ q0).setCell ⟨b, 1, none⟩ q1).setCell ⟨b, 2, none⟩ q2).setCell ⟨b, 3, none⟩ q3).setCell ⟨b, 4, none⟩ q4).heap[b]? = some (.cells #[q0, q1, q2, q3, q4, v5, v6, v7, v8] t) := (heap_setCell_same _ b 4 _ t q4 k4).trans (by simp)
  have k6 : (((((((W).setCell ⟨b, 0, none⟩ q0).setCell ⟨b, 1, none⟩ q1).setCell ⟨b, 2, none⟩ q2).setCell ⟨b, 3, none⟩ q3).setCell ⟨b, 4, none⟩ q4).setCell ⟨b, 5, none⟩ q5).heap[b]? = some (.cells #[q0, q1, q2, q3, q4, q5, v6, v7, v8] t) := (heap_setCell_same _ b 5 _ t q5 k5).trans (by simp)
  have k7 : ((((((((W).setCell ⟨b, 0, none⟩ q0).setCell ⟨b, 1, none⟩ q1).setCell ⟨b, 2, none⟩ q2).setCell ⟨b, 3, none⟩ q3).setCell ⟨b, 4, none⟩ q4).setCell ⟨b, 5, none⟩ q5).setCell ⟨b, 6, none⟩ q6).heap[b]? = some (.cells #[q0, q1, q2, q3, q4, q5, q6, v7, v8] t) := (heap_setCell_same _ b 6 _ t q6 k6).trans (by simp)
  have k8 : (((((((((W).setCell ⟨b, 0, none⟩ q0).setCell ⟨b, 1, none⟩ q1).setCell ⟨b, 2, none⟩ q2).setCell ⟨b, 3, none⟩ q3).setCell ⟨b, 4, none⟩ q4).setCell ⟨b, 5, none⟩ q5).setCell ⟨b, 6, none⟩ q6).setCell ⟨b, 7, none⟩ q7).heap[b]? = some (.cells #[q0, q1, q2, q3, q4, q5, q6, q7, v8] t) := (heap_setCell_same _ b 7 _ t q7 k7).trans (by simp)
  have k9 : ((((((((((W).setCell ⟨b, 0, none⟩ q0).setCell ⟨b, 1, none⟩ q1).setCell ⟨b, 2, none⟩ q2).setCell ⟨b, 3, none⟩ q3).setCell ⟨b, 4, none⟩ q4).setCell ⟨b, 5, none⟩ q5).setCell ⟨b, 6, none⟩ q6).setCell ⟨b, 7, none⟩ q7).setCell ⟨b, 8, none⟩ q8).heap[b]? = some (.cells #[q0, q1, q2, q3, q4, q5, q6, q7, q8] t) := (heap_setCell_same _ b 8 _ t q8 k8).trans (by simp)
  exact k9
set_option maxRecDepth 100000 in
theorem B9.put {W : World} {b : Nat} {h : Hd} (k : B9 W b h) (q : Hd) : B9 (((((((((W.setCell ⟨b, 0, none⟩ (.int .i64 q.srs)).setCell ⟨b, 1, none⟩ (.bool q.l)).setCell ⟨b, 2, none⟩ (.bool q.b)).setCell ⟨b, 3, none⟩ (.bool q.e)).setCell ⟨b, 4, none⟩ (.bool q.x.n)).setCell ⟨b, 5, none⟩ (.int .i64 q.x.lx)).setCell ⟨b, 6, none⟩ (.int .i64 q.x.ly)).setCell ⟨b, 7, none⟩ (.int .i64 q.x.hx)).setCell ⟨b, 8, none⟩ (.int .i64 q.x.hy)) b q := put9 k
/-- A store of a whole head elsewhere. -/
theorem fr9 {N : Nat} {w W : World} {b : Nat} (h : Below N w W) (hb : N ≤ b) (q : Hd) : Below N w (((((((((W.setCell ⟨b, 0, none⟩ (.int .i64 q.srs)).setCell ⟨b, 1, none⟩ (.bool q.l)).setCell ⟨b, 2, none⟩ (.bool q.b)).setCell ⟨b, 3, none⟩ (.bool q.e)).setCell ⟨b, 4, none⟩ (.bool q.x.n)).setCell ⟨b, 5, none⟩ (.int .i64 q.x.lx)).setCell ⟨b, 6, none⟩ (.int .i64 q.x.ly)).setCell ⟨b, 7, none⟩ (.int .i64 q.x.hx)).setCell ⟨b, 8, none⟩ (.int .i64 q.x.hy)) :=
  ((((((((h.setCell hb _).setCell hb _).setCell hb _).setCell hb _).setCell hb _).setCell hb _).setCell hb _).setCell hb _).setCell hb _

set_option maxRecDepth 100000 in
theorem load9 {t t' : TypeId} (ha : ∀ W, (isAgg t).run Tryz.prog W = .ok true W) (hs : ∀ W, (Go.sizeOf t).run Tryz.prog W = .ok 9 W) {W : World} {q : Nat} {c0 c1 c2 c3 c4 c5 c6 c7 c8 : Value} (h : W.heap[q]? = some (.cells #[c0, c1, c2, c3, c4, c5, c6, c7, c8] t')) :
    (loadVar t ⟨q, 0, none⟩).run Tryz.prog W = .ok (.agg #[c0, c1, c2, c3, c4, c5, c6, c7, c8]) W := by
  have hl := run_loadCells_list (P := Tryz.prog) W ⟨q, 0, none⟩ [c0, c1, c2, c3, c4, c5, c6, c7, c8] (by
    intro j v hj
    have e : W.cell? ((⟨q, 0, none⟩ : Addr).add j) = [c0, c1, c2, c3, c4, c5, c6, c7, c8][j]? := by rw [Addr.add_lit]; simp [World.cell?, h]
    rw [e]; exact hj)
  simp at hl
  simp [loadVar, ha, hs, hl]
set_option maxRecDepth 100000 in
theorem ret_h1 {fn : Func} {p : Tmp} (h : fn.results = #[.cell p 29]) {tmps : Array Value} {W : World} {q : Nat} {x : Hd}
    (hp : tmps.getD p undef = .pointer (some ⟨q, 0, none⟩)) (hb : B9 W q x) : (results fn tmps).run Tryz.prog W = .ok (.agg #[.int .i64 (x).srs, .bool (x).l, .bool (x).b, .bool (x).e, .bool (x).x.n, .int .i64 (x).x.lx, .int .i64 (x).x.ly, .int .i64 (x).x.hx, .int .i64 (x).x.hy]) W := by
  rw [results_cell1 h, hp]
  simp [asAddr, load9 Tryz.isAgg29 Tryz.sizeOf29 hb]
set_option maxRecDepth 100000 in
theorem ret_h2 {fn : Func} {p u : Tmp} (h : fn.results = #[.cell p 29, .tmp u]) {tmps : Array Value} {W : World} {q : Nat} {x : Hd}
    (hp : tmps.getD p undef = .pointer (some ⟨q, 0, none⟩)) (hb : B9 W q x) : (results fn tmps).run Tryz.prog W = .ok (.tuple #[.agg #[.int .i64 (x).srs, .bool (x).l, .bool (x).b, .bool (x).e, .bool (x).x.n, .int .i64 (x).x.lx, .int .i64 (x).x.ly, .int .i64 (x).x.hx, .int .i64 (x).x.hy], tmps.getD u undef]) W := by
  rw [results_cell_tmp h, hp]
  simp [asAddr, load9 Tryz.isAgg29 Tryz.sizeOf29 hb]

theorem put6 {W : World} {b : Nat} {t : TypeId} {v0 v1 v2 v3 v4 v5 v6 v7 v8 q2 q4 q5 q6 q7 q8 : Value} (k0 : W.heap[b]? = some (.cells #[v0, v1, v2, v3, v4, v5, v6, v7, v8] t)) : ((((((W.setCell ⟨b, 2, none⟩ q2).setCell ⟨b, 4, none⟩ q4).setCell ⟨b, 5, none⟩ q5).setCell ⟨b, 6, none⟩ q6).setCell ⟨b, 7, none⟩ q7).setCell ⟨b, 8, none⟩ q8).heap[b]? = some (.cells #[v0, v1, q2, v3, q4, q5, q6, q7, q8] t) := by
  have k1 : (W.setCell ⟨b, 2, none⟩ q2).heap[b]? = some (.cells #[v0, v1, q2, v3, v4, v5, v6, v7, v8] t) := (heap_setCell_same _ b 2 _ t q2 k0).trans (by simp)
  have k2 : ((W.setCell ⟨b, 2, none⟩ q2).setCell ⟨b, 4, none⟩ q4).heap[b]? = some (.cells #[v0, v1, q2, v3, q4, v5, v6, v7, v8] t) := (heap_setCell_same _ b 4 _ t q4 k1).trans (by simp)
  have k3 : (((W.setCell ⟨b, 2, none⟩ q2).setCell ⟨b, 4, none⟩ q4).setCell ⟨b, 5, none⟩ q5).heap[b]? = some (.cells #[v0, v1, q2, v3, q4, q5, v6, v7, v8] t) := (heap_setCell_same _ b 5 _ t q5 k2).trans (by simp)
  have k4 : ((((W.setCell ⟨b, 2, none⟩ q2).setCell ⟨b, 4, none⟩ q4).setCell ⟨b, 5, none⟩ q5).setCell ⟨b, 6, none⟩ q6).heap[b]? = some (.cells #[v0, v1, q2, v3, q4, q5, q6, v7, v8] t) := (heap_setCell_same _ b 6 _ t q6 k3).trans (by simp)
  have k5 : (((((W.setCell ⟨b, 2, none⟩ q2).setCell ⟨b, 4, none⟩ q4).setCell ⟨b, 5, none⟩ q5).setCell ⟨b, 6, none⟩ q6).setCell ⟨b, 7, none⟩ q7).heap[b]? = some (.cells #[v0, v1, q2, v3, q4, q5, q6, q7, v8] t) := (heap_setCell_same _ b 7 _ t q7 k4).trans (by simp)
  have k6 : ((((((W.setCell ⟨b, 2, none⟩ q2).setCell ⟨b, 4, none⟩ q4).setCell ⟨b, 5, none⟩ q5).setCell ⟨b, 6, none⟩ q6).setCell ⟨b, 7, none⟩ q7).setCell ⟨b, 8, none⟩ q8).heap[b]? = some (.cells #[v0, v1, q2, v3, q4, q5, q6, q7, q8] t) := (heap_setCell_same _ b 8 _ t q8 k5).trans (by simp)
  exact k6
theorem B9.boxed {W : World} {b : Nat} {h : Hd} (k : B9 W b h) (q : Bool) (r : Rect) : B9 ((((((W.setCell ⟨b, 2, none⟩ (.bool q)).setCell ⟨b, 4, none⟩ (.bool r.n)).setCell ⟨b, 5, none⟩ (.int .i64 r.lx)).setCell ⟨b, 6, none⟩ (.int .i64 r.ly)).setCell ⟨b, 7, none⟩ (.int .i64 r.hx)).setCell ⟨b, 8, none⟩ (.int .i64 r.hy)) b ⟨h.srs, h.l, q, h.e, r⟩ := put6 k
theorem B9.others {W : World} {b c : Nat} {h : Hd} (k : B9 W c h) (hne : c ≠ b) (q : Bool) (r : Rect) : B9 ((((((W.setCell ⟨b, 2, none⟩ (.bool q)).setCell ⟨b, 4, none⟩ (.bool r.n)).setCell ⟨b, 5, none⟩ (.int .i64 r.lx)).setCell ⟨b, 6, none⟩ (.int .i64 r.ly)).setCell ⟨b, 7, none⟩ (.int .i64 r.hx)).setCell ⟨b, 8, none⟩ (.int .i64 r.hy)) c h := by
  unfold B9 at *
  rw [heap_setCell_other _ _ _ _ hne, heap_setCell_other _ _ _ _ hne, heap_setCell_other _ _ _ _ hne, heap_setCell_other _ _ _ _ hne, heap_setCell_other _ _ _ _ hne, heap_setCell_other _ _ _ _ hne]
  exact k
theorem fr6 {N : Nat} {w W : World} {b : Nat} (h : Below N w W) (hb : N ≤ b) (q : Bool) (r : Rect) : Below N w ((((((W.setCell ⟨b, 2, none⟩ (.bool q)).setCell ⟨b, 4, none⟩ (.bool r.n)).setCell ⟨b, 5, none⟩ (.int .i64 r.lx)).setCell ⟨b, 6, none⟩ (.int .i64 r.ly)).setCell ⟨b, 7, none⟩ (.int .i64 r.hx)).setCell ⟨b, 8, none⟩ (.int .i64 r.hy)) := (((((h.setCell hb _).setCell hb _).setCell hb _).setCell hb _).setCell hb _).setCell hb _
theorem wp_any {P : Program} {ops : Array Oper} {Q : Exit → Act → World → Prop} {rest : List Oper} {a : Act} {w : World} (S : World → Prop) (h : S w) (k : ∀ W, S W → wpList P ops Q rest a W) : wpList P ops Q rest a w := k w h

/-- Heads that are alike in all. -/
def eqH (a b : Hd) : Bool := (a.srs == b.srs) && (a.l == b.l) && (a.b == b.b) && (a.e == b.e) && eqR a.x b.x
theorem eqH_iff {a b : Hd} : eqH a b = true ↔ a = b := by
  obtain ⟨a0, a1, a2, a3, a4⟩ := a
  obtain ⟨b0, b1, b2, b3, b4⟩ := b
  simp [eqH, eqR_iff, and_assoc]
set_option maxRecDepth 100000 in
theorem part38 (W : World) (a b c d e f g h i : Value) : (part 3 #[a, b, c, d, e, f, g, h, i] 0).run Tryz.prog W = .ok a W ∧ (part 4 #[a, b, c, d, e, f, g, h, i] 1).run Tryz.prog W = .ok b W ∧ (part 4 #[a, b, c, d, e, f, g, h, i] 2).run Tryz.prog W = .ok c W ∧ (part 4 #[a, b, c, d, e, f, g, h, i] 3).run Tryz.prog W = .ok d W ∧
    (part 27 #[a, b, c, d, e, f, g, h, i] 4).run Tryz.prog W = .ok (.agg #[e, f, g, h, i]) W := ⟨by kernel_rfl, by kernel_rfl, by kernel_rfl, by kernel_rfl, by kernel_rfl⟩
set_option maxRecDepth 100000 in
theorem box_eqlF (a b : Rect) (W : World) : (Op.equalIn 9999 27 (.agg #[.bool (a).n, .int .i64 (a).lx, .int .i64 (a).ly, .int .i64 (a).hx, .int .i64 (a).hy]) (.agg #[.bool (b).n, .int .i64 (b).lx, .int .i64 (b).ly, .int .i64 (b).hx, .int .i64 (b).hy])).run Tryz.prog W = .ok (eqR a b) W := by
  have e2 : ∀ (x y : Bool), (Op.equalIn 9998 4 (.bool x) (.bool y)).run Tryz.prog W = .ok (x == y) W := fun x y => by cases x <;> cases y <;> kernel_rfl
  have e3 : ∀ (x y : Int), (Op.equalIn 9997 3 (.int .i64 x) (.int .i64 y)).run Tryz.prog W = .ok (x == y) W := fun x y => run_equalIn_int W 9996 3 .i64 .i64 x y Tryz.underlying3
  have e4 : ∀ (x y z t : Int), (Op.equalIn 9998 25 (.agg #[.int .i64 x, .int .i64 y]) (.agg #[.int .i64 z, .int .i64 t])).run Tryz.prog W = .ok ((x, y) == (z, t)) W := by
    intro x y z t
    rw [show (9998 : Nat) = 9997 + 1 from rfl, run_equalIn_struct W 9997 25 _ _ (by simp [Program.fieldsOf, Tryz.underlying25]) (by kernel_rfl)]
    simp only [Program.fieldsOf, Tryz.underlying25, Op.eqFields]
    simp [part41, e3, Sem.run_bind, Result.andThen]
    by_cases h1 : x = z <;> by_cases h2 : y = t <;> simp [h1, h2]
  rw [show (9999 : Nat) = 9998 + 1 from rfl, run_equalIn_struct W 9998 27 _ _ (by simp [Program.fieldsOf, Tryz.underlying27]) (by kernel_rfl)]
  simp only [Program.fieldsOf, Tryz.underlying27, Op.eqFields]
  simp [Bxs.part25, e2, e4, Sem.run_bind, Result.andThen]
  unfold eqR
  by_cases h1 : a.n = b.n <;> by_cases h2 : a.lx = b.lx <;> by_cases h3 : a.ly = b.ly <;> by_cases h4 : a.hx = b.hx <;> by_cases h5 : a.hy = b.hy <;> simp [h1, h2, h3, h4, h5]
set_option maxRecDepth 100000 in
theorem head_eqlIn (a b : Hd) (W : World) : (Op.equalIn 10000 29 (.agg #[.int .i64 (a).srs, .bool (a).l, .bool (a).b, .bool (a).e, .bool (a).x.n, .int .i64 (a).x.lx, .int .i64 (a).x.ly, .int .i64 (a).x.hx, .int .i64 (a).x.hy]) (.agg #[.int .i64 (b).srs, .bool (b).l, .bool (b).b, .bool (b).e, .bool (b).x.n, .int .i64 (b).x.lx, .int .i64 (b).x.ly, .int .i64 (b).x.hx, .int .i64 (b).x.hy])).run Tryz.prog W = .ok (eqH a b) W := by
  have e2 : ∀ (x y : Bool), (Op.equalIn 9999 4 (.bool x) (.bool y)).run Tryz.prog W = .ok (x == y) W := fun x y => by cases x <;> cases y <;> kernel_rfl
  have e3 : ∀ (x y : Int), (Op.equalIn 9999 3 (.int .i64 x) (.int .i64 y)).run Tryz.prog W = .ok (x == y) W := fun x y => run_equalIn_int W 9998 3 .i64 .i64 x y Tryz.underlying3
  have e4 := box_eqlF a.x b.x W
  rw [show (10000 : Nat) = 9999 + 1 from rfl, run_equalIn_struct W 9999 29 _ _ (by simp [Program.fieldsOf, Tryz.underlying29]) (by kernel_rfl)]
  simp only [Program.fieldsOf, Tryz.underlying29, Op.eqFields]
  simp [part38, e2, e3, e4, Sem.run_bind, Result.andThen]
  unfold eqH
  by_cases h1 : a.srs = b.srs <;> by_cases h2 : a.l = b.l <;> by_cases h3 : a.b = b.b <;> by_cases h4 : a.e = b.e <;> cases eqR a.x b.x <;> simp [h1, h2, h3, h4]
set_option maxRecDepth 100000 in
theorem head_neq (a b : Hd) (W : World) : (binOp .neq 29 (.agg #[.int .i64 (a).srs, .bool (a).l, .bool (a).b, .bool (a).e, .bool (a).x.n, .int .i64 (a).x.lx, .int .i64 (a).x.ly, .int .i64 (a).x.hx, .int .i64 (a).x.hy]) (.agg #[.int .i64 (b).srs, .bool (b).l, .bool (b).b, .bool (b).e, .bool (b).x.n, .int .i64 (b).x.lx, .int .i64 (b).x.ly, .int .i64 (b).x.hx, .int .i64 (b).x.hy])).run Tryz.prog W = .ok (.bool (!eqH a b)) W := by
  rw [run_neq_struct, head_eqlIn]; rfl
end Go.Proofs.YtpmfedimjjifaaaGreatDoor
