/- Boxes: what they are in memory, how they are compared, low, high and None; no statement of the seat is proved here. -/
import Derived.Test.YtjlahomjhadnkaaAh
namespace Go.Proofs.Ytjlahomjhadnkaa
open Go.RowKit Go.Maps

/-- A box. -/
structure Rect where
  n : Bool
  lx : Int
  ly : Int
  hx : Int
  hy : Int
/-- The box of nothing. -/
def noR : Rect := ⟨true, 0, 0, 0, 0⟩
/-- Alike in all. -/
def eqR (a b : Rect) : Bool := (a.n == b.n) && ((a.lx, a.ly) == (b.lx, b.ly)) && ((a.hx, a.hy) == (b.hx, b.hy))
theorem eqR_iff {a b : Rect} : eqR a b = true ↔ a = b := by
  obtain ⟨a0, a1, a2, a3, a4⟩ := a
  obtain ⟨b0, b1, b2, b3, b4⟩ := b
  simp [eqR, and_assoc]
theorem eqR_false {a b : Rect} : eqR a b = false ↔ ¬ a = b := by rw [← eqR_iff]; simp

theorem part25 (W : World) (a b c d e : Value) : (part 4 #[a, b, c, d, e] 0).run Try.prog W = .ok a W ∧ (part 23 #[a, b, c, d, e] 1).run Try.prog W = .ok (.agg #[b, c]) W ∧ (part 23 #[a, b, c, d, e] 3).run Try.prog W = .ok (.agg #[d, e]) W := ⟨by kernel_rfl, by kernel_rfl, by kernel_rfl⟩
theorem box_eqlIn (a b : Rect) (W : World) : (Op.equalIn 10000 25 (.agg #[.bool (a).n, .int .i64 (a).lx, .int .i64 (a).ly, .int .i64 (a).hx, .int .i64 (a).hy]) (.agg #[.bool (b).n, .int .i64 (b).lx, .int .i64 (b).ly, .int .i64 (b).hx, .int .i64 (b).hy])).run Try.prog W = .ok (eqR a b) W := by
  have e2 : ∀ (x y : Bool), (Op.equalIn 9999 4 (.bool x) (.bool y)).run Try.prog W = .ok (x == y) W := fun x y => by cases x <;> cases y <;> kernel_rfl
  have e3 : ∀ (x y : Int), (Op.equalIn 9998 3 (.int .i64 x) (.int .i64 y)).run Try.prog W = .ok (x == y) W := fun x y => run_equalIn_int W 9997 3 .i64 .i64 x y Try.underlying3
  have e4 : ∀ (x y z t : Int), (Op.equalIn 9999 23 (.agg #[.int .i64 x, .int .i64 y]) (.agg #[.int .i64 z, .int .i64 t])).run Try.prog W = .ok ((x, y) == (z, t)) W := by
    intro x y z t
    rw [show (9999 : Nat) = 9998 + 1 from rfl, run_equalIn_struct W 9998 23 _ _ (by simp [Program.fieldsOf, Try.underlying23]) (by kernel_rfl)]
    simp only [Program.fieldsOf, Try.underlying23, Op.eqFields]
    simp [part41, e3, Sem.run_bind, Result.andThen]
    by_cases h1 : x = z <;> by_cases h2 : y = t <;> simp [h1, h2]
  rw [show (10000 : Nat) = 9999 + 1 from rfl, run_equalIn_struct W 9999 25 _ _ (by simp [Program.fieldsOf, Try.underlying25]) (by kernel_rfl)]
  simp only [Program.fieldsOf, Try.underlying25, Op.eqFields]
  simp [part25, e2, e4, Sem.run_bind, Result.andThen]
  unfold eqR
  by_cases h1 : a.n = b.n <;> by_cases h2 : a.lx = b.lx <;> by_cases h3 : a.ly = b.ly <;> by_cases h4 : a.hx = b.hx <;> by_cases h5 : a.hy = b.hy <;> simp [h1, h2, h3, h4, h5]
theorem box_eql (a b : Rect) (W : World) : (binOp .eql 25 (.agg #[.bool (a).n, .int .i64 (a).lx, .int .i64 (a).ly, .int .i64 (a).hx, .int .i64 (a).hy]) (.agg #[.bool (b).n, .int .i64 (b).lx, .int .i64 (b).ly, .int .i64 (b).hx, .int .i64 (b).hy])).run Try.prog W = .ok (.bool (eqR a b)) W := by
  rw [run_eql_struct, box_eqlIn]; rfl

/-- A box in a block of its own. -/
def B5 (W : World) (b : Nat) (r : Rect) : Prop := W.heap[b]? = some (.cells #[.bool (r).n, .int .i64 (r).lx, .int .i64 (r).ly, .int .i64 (r).hx, .int .i64 (r).hy] 25)
/-- What is read of it. -/
def C5 (W : World) (b : Nat) (r : Rect) : Prop := W.cell? ⟨b, 0, none⟩ = some (.bool r.n) ∧ W.cell? ⟨b, 1, none⟩ = some (.int .i64 r.lx) ∧ W.cell? ⟨b, 2, none⟩ = some (.int .i64 r.ly) ∧ W.cell? ⟨b, 3, none⟩ = some (.int .i64 r.hx) ∧ W.cell? ⟨b, 4, none⟩ = some (.int .i64 r.hy)
theorem B5.c {W : World} {b : Nat} {r : Rect} (h : B5 W b r) : C5 W b r := by
  unfold B5 at h
  refine ⟨?_, ?_, ?_, ?_, ?_⟩ <;> simp [World.cell?, h]
theorem B5.fz {W : World} {b : Nat} {r : Rect} (h : B5 W b r) (i : Nat) : W.frozen? ⟨b, i, none⟩ = false := by
  unfold B5 at h
  simp [World.frozen?, h]
theorem B5.lt {W : World} {b : Nat} {r : Rect} (h : B5 W b r) : b < W.heap.size := (Array.getElem?_eq_some_iff.1 h).1
theorem B5.keep {w w' : World} {b : Nat} {r : Rect} (h : B5 w b r) (k : Below w.heap.size w w') : B5 w' b r := (k.block b h.lt).trans h
theorem C5.keep {w w' : World} {b : Nat} {r : Rect} (h : C5 w b r) (k : Below w.heap.size w w') : C5 w' b r := ⟨keep_old k h.1, keep_old k h.2.1, keep_old k h.2.2.1, keep_old k h.2.2.2.1, keep_old k h.2.2.2.2⟩
theorem B5.new (w : World) (r : Rect) : B5 (w.alloc (.cells #[.bool (r).n, .int .i64 (r).lx, .int .i64 (r).ly, .int .i64 (r).hx, .int .i64 (r).hy] 25)) w.heap.size r := heap_alloc_new w _
theorem B5.set {W : World} {b : Nat} {r : Rect} (h : B5 W b r) (q : Rect) : B5 (((((W.setCell ⟨b, 0, none⟩ (.bool q.n)).setCell ⟨b, 1, none⟩ (.int .i64 q.lx)).setCell ⟨b, 2, none⟩ (.int .i64 q.ly)).setCell ⟨b, 3, none⟩ (.int .i64 q.hx)).setCell ⟨b, 4, none⟩ (.int .i64 q.hy)) b q := by
  have h0 := heap_setCell_same W b 0 _ 25 (.bool q.n) h
  have h1 := heap_setCell_same _ b 1 _ 25 (.int .i64 q.lx) h0
  have h2 := heap_setCell_same _ b 2 _ 25 (.int .i64 q.ly) h1
  have h3 := heap_setCell_same _ b 3 _ 25 (.int .i64 q.hx) h2
  have h4 := heap_setCell_same _ b 4 _ 25 (.int .i64 q.hy) h3
  unfold B5
  simpa using h4
theorem B5.far {W : World} {b c : Nat} {r : Rect} (h : B5 W c r) (hc : c ≠ b) (i : Nat) (v : Value) : B5 (W.setCell ⟨b, i, none⟩ v) c r := by
  unfold B5 at *
  rw [← h]
  exact heap_setCell_other _ _ _ _ hc
theorem B5.far5 {W : World} {b c : Nat} {r : Rect} (h : B5 W c r) (hc : c ≠ b) (v0 v1 v2 v3 v4 : Value) : B5 (((((W.setCell ⟨b, 0, none⟩ v0).setCell ⟨b, 1, none⟩ v1).setCell ⟨b, 2, none⟩ v2).setCell ⟨b, 3, none⟩ v3).setCell ⟨b, 4, none⟩ v4) c r := ((((h.far hc _ _).far hc _ _).far hc _ _).far hc _ _).far hc _ _
/-- A point in a block of its own, as it is read. -/
def C2 (W : World) (b : Nat) (x y : Int) : Prop := W.cell? ⟨b, 0, none⟩ = some (.int .i64 x) ∧ W.cell? ⟨b, 1, none⟩ = some (.int .i64 y)
theorem C2.keep {w w' : World} {b : Nat} {x y : Int} (h : C2 w b x y) (k : Below w.heap.size w w') : C2 w' b x y := ⟨keep_old k h.1, keep_old k h.2⟩
theorem C2.of {W : World} {b : Nat} {x y : Int} (h : W.heap[b]? = some (.cells #[.int .i64 x, .int .i64 y] 23)) : C2 W b x y := by constructor <;> simp [World.cell?, h]
theorem C5.of {W : World} {b : Nat} {r : Rect} (h : W.heap[b]? = some (.cells #[.bool (r).n, .int .i64 (r).lx, .int .i64 (r).ly, .int .i64 (r).hx, .int .i64 (r).hy] 25)) : C5 W b r := B5.c h
/-- What may be stored into. -/
structure F5 (W : World) (b : Nat) : Prop where
  has : ∃ r : Rect, B5 W b r
theorem B5.drew {w : World} {b : Nat} {r : Rect} (h : B5 w b r) : B5 w.drew b r := h

set_option maxRecDepth 100000 in
set_option maxHeartbeats 400000 in
theorem low_call (a b c d : Int) (w : World) : Calls Try.prog 44 #[.agg #[.int .i64 a, .int .i64 b], .agg #[.int .i64 c, .int .i64 d]] w fun e w' => e = .returned (.agg #[.int .i64 (min a c), .int .i64 (min b d)]) ∧ Below w.heap.size w w' := by
  go_enter Try.func44, Try.ntmps44
  go_wp2
  all_goals exact bodyPost_ret (v := .agg #[.int .i64 (min a c), .int .i64 (min b d)]) (by simp [results, Try.results44, go_sem] <;> omega) rfl ⟨rfl, (by repeat (first | with_reducible exact Below.refl _ _ | with_reducible assumption | with_reducible refine Below.drew ?_ | with_reducible refine below_drewN ?_ _ | with_reducible refine Below.alloc ?_ (by simp <;> omega) _ | with_reducible refine Below.setCell ?_ (by simp <;> omega) _))⟩
set_option maxRecDepth 100000 in
set_option maxHeartbeats 400000 in
theorem high_call (a b c d : Int) (w : World) : Calls Try.prog 45 #[.agg #[.int .i64 a, .int .i64 b], .agg #[.int .i64 c, .int .i64 d]] w fun e w' => e = .returned (.agg #[.int .i64 (max a c), .int .i64 (max b d)]) ∧ Below w.heap.size w w' := by
  go_enter Try.func45, Try.ntmps45
  go_wp2
  all_goals exact bodyPost_ret (v := .agg #[.int .i64 (max a c), .int .i64 (max b d)]) (by simp [results, Try.results45, go_sem] <;> omega) rfl ⟨rfl, (by repeat (first | with_reducible exact Below.refl _ _ | with_reducible assumption | with_reducible refine Below.drew ?_ | with_reducible refine below_drewN ?_ _ | with_reducible refine Below.alloc ?_ (by simp <;> omega) _ | with_reducible refine Below.setCell ?_ (by simp <;> omega) _))⟩
set_option maxRecDepth 100000 in
set_option maxHeartbeats 400000 in
theorem none_call (w : World) : Calls Try.prog 36 #[] w fun e w' => e = .returned (.agg #[.bool true, .int .i64 0, .int .i64 0, .int .i64 0, .int .i64 0]) ∧ Below w.heap.size w w' := by
  go_enter Try.func36, Try.ntmps36
  go_wp2
  exact bodyPost_ret (v := .agg #[.bool true, .int .i64 0, .int .i64 0, .int .i64 0, .int .i64 0]) (by simp [results, Try.results36, go_sem]) rfl ⟨rfl, (by repeat (first | with_reducible exact Below.refl _ _ | with_reducible assumption | with_reducible refine Below.drew ?_ | with_reducible refine below_drewN ?_ _ | with_reducible refine Below.alloc ?_ (by simp <;> omega) _ | with_reducible refine Below.setCell ?_ (by simp <;> omega) _))⟩
end Go.Proofs.Ytjlahomjhadnkaa
