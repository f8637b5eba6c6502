/- Pages as values: how they are made, loaded, stored and returned; no statement of the seat is proved here. -/
import Derived.Test.YtbpcekhfjkodcaaAi
import Derived.ChangeKeysEq
namespace Go.Proofs.Ytbpcekhfjkodcaa
open Go.RowKit

section
variable {P : Program} {ops : Array Oper} {rest : List Oper} {o : Oper} {a : Act} {w : World} {Q : Exit → Act → World → Prop}

theorem wpList_load_run (hgd : o.guard = none) (ty : TypeId) (x : Operand) (ho : o.op = .load ty x) (ad : Addr) (hx : a.eval x = .pointer (some ad)) (v : Value)
    (hrun : (loadVar ty ad).run P w = .ok v w) (h : wpList P ops Q rest (a.put o.dst v) w) : wpList P ops Q (o :: rest) a w := by
  refine wpList_plain hgd fun K hK => ?_
  unfold Oper.wp
  simp [execOp, ho, hx, Instr.loadAt, Instr.sureAddr, hrun, Result.andThen]
  exact hK _ _ h

theorem wpList_store_run (hgd : o.guard = none) (ty : TypeId) (x y : Operand) (ho : o.op = .store ty x y) (ad : Addr) (hx : a.eval x = .pointer (some ad)) (v : Value) (hy : a.eval y = v) (w' : World)
    (hrun : (storeVar ty ad v).run P w = .ok () w') (h : wpList P ops Q rest (a.put o.dst undef) w') : wpList P ops Q (o :: rest) a w := by
  refine wpList_plain hgd fun K hK => ?_
  unfold Oper.wp
  simp [execOp, ho, hx, hy, Instr.storeAt, Instr.sureAddr, hrun, Result.andThen]
  exact hK _ _ h

theorem wpList_build_run (hgd : o.guard = none) (ty : TypeId) (ho : o.op = .build ty #[]) (v : Value)
    (hrun : (Instr.build ty #[]).run P w = .ok v w) (h : wpList P ops Q rest (a.put o.dst v) w) : wpList P ops Q (o :: rest) a w := by
  refine wpList_plain hgd fun K hK => ?_
  unfold Oper.wp
  simp [execOp, ho, hrun, Result.andThen]
  exact hK _ _ h

theorem wpList_alloc_run (hgd : o.guard = none) (ty : TypeId) (ho : o.op = .alloc ty) (v : Value) (w' : World)
    (hrun : (Instr.alloc ty true (.tuple #[])).run P w = .ok v w') (h : wpList P ops Q rest (a.put o.dst v) w') : wpList P ops Q (o :: rest) a w := by
  refine wpList_plain hgd fun K hK => ?_
  unfold Oper.wp
  simp [execOp, ho, hrun, Result.andThen]
  exact hK _ _ h

theorem wpList_box_run (hgd : o.guard = none) (ty : TypeId) (x : Operand) (ho : o.op = .box ty x) (u v : Value) (hx : a.eval x = u) (w' : World)
    (hrun : (Instr.box ty u).run P w = .ok v w') (h : wpList P ops Q rest (a.put o.dst v) w') : wpList P ops Q (o :: rest) a w := by
  refine wpList_plain hgd fun K hK => ?_
  unfold Oper.wp
  simp [execOp, ho, hx, hrun, Result.andThen]
  exact hK _ _ h
end

theorem here_store {P : Program} {ops : Array Oper} {Q : Exit → Act → World → Prop} {a : Act} {w : World} {rest : List Oper} (ty : TypeId) {x y : Operand} {t : TypeId} {pos : String} {after : Array Edge} {gd : Option (Nat × Bool)}
    (h : wpList P ops Q (⟨none, .store ty x y, t, pos, after, gd⟩ :: rest) a w) : wpList P ops Q (⟨none, .store ty x y, t, pos, after, gd⟩ :: rest) a w := h

/-- A page as a value. -/
def pgV (x : List Nat) : Value := .agg (bs x).toArray
def wrV (x : List Nat) : Value := .agg (wrow x x.length).toArray

theorem build60 (W : World) : (Instr.build 60 #[]).run Try.prog W = .ok (pgV (zs 512)) W := by kernel_rfl
theorem agg60 (W : World) : (isAgg 60).run Try.prog W = .ok true W := by kernel_rfl
theorem size60 (W : World) : (Go.sizeOf 60).run Try.prog W = .ok 512 W := by kernel_rfl
theorem alloc60 (W : World) : (Instr.alloc 60 true (.tuple #[])).run Try.prog W = .ok (.pointer (some ⟨W.heap.size, 0, none⟩)) (W.alloc (.cells (bs (zs 512)).toArray 60)) := by kernel_rfl
theorem build89 (W : World) : (Instr.build 89 #[]).run Try.prog W = .ok (wrV []) W := by kernel_rfl
theorem box89 (W : World) : (Instr.box 89 (wrV [])).run Try.prog W = .ok (.pointer (some ⟨W.heap.size, 0, none⟩)) (W.alloc (.cells (wrow [] 0).toArray 89)) := by kernel_rfl
theorem wb_new (W : World) : WB (W.alloc (.cells (wrow [] 0).toArray 89)) W.heap.size [] := ⟨by simp, heap_alloc_new W _⟩

theorem load60 {W : World} {ad : Addr} {x : List Nat} (hx : x.length = 512) (h : ∀ j v, (bs x)[j]? = some v → W.cell? (ad.add j) = some v) : (loadVar 60 ad).run Try.prog W = .ok (pgV x) W := by
  have hl := run_loadCells_list (P := Try.prog) W ad (bs x) h
  rw [bs_length, hx] at hl
  simp [loadVar, hl, pgV]

/-- A box with a page in it. -/
def PB (W : World) (q : Nat) (x : List Nat) : Prop := x.length = 512 ∧ W.heap[q]? = some (.cells (bs x).toArray 60 (0, 0))
theorem PB.keep {W W' : World} {q : Nat} {x : List Nat} (h : PB W q x) (hb : Below W.heap.size W W') : PB W' q x := ⟨h.1, by rw [hb.block q (lt_of_block h.2)]; exact h.2⟩
theorem PB.under {W W' : World} {q B : Nat} {x : List Nat} (h : PB W q x) (hb : Below B W W') (hq : q < B) : PB W' q x := ⟨h.1, by rw [hb.block q hq]; exact h.2⟩
theorem PB.new (W : World) : PB (W.alloc (.cells (bs (zs 512)).toArray 60)) W.heap.size (zs 512) := ⟨zs_length _, heap_alloc_new W _⟩
theorem PB.load {W : World} {q : Nat} {x : List Nat} (h : PB W q x) : (loadVar 60 ⟨q, 0, none⟩).run Try.prog W = .ok (pgV x) W := by
  refine load60 h.1 fun j v hj => ?_
  rw [Addr.add_lit]
  simpa [World.cell?, h.2] using hj
theorem PB.store {W : World} {q : Nat} {x y : List Nat} (h : PB W q x) (hy : y.length = 512) : (storeVar 60 ⟨q, 0, none⟩ (pgV y)).run Try.prog W = .ok () (W.setRow q (bs y).toArray) ∧ PB (W.setRow q (bs y).toArray) q y := by
  refine ⟨run_storeVar_row W q 60 60 (bs x).toArray (bs y).toArray h.2 ?_ (by simp [bs_length, h.1, hy]) ?_, hy, setRow_heap W q _ _ 60 _ h.2⟩
  · have : (Try.prog.info? 60).map (·.size) = some 512 := by kernel_rfl
    rw [this]; simp [bs_length, hy]
  · rw [Array.all_eq_true_iff_forall_mem]
    intro v hv
    exact bs_one y v (by simpa using hv)
theorem PB.rd {W : World} {q : Nat} {x : List Nat} (h : PB W q x) : Rd W (some ⟨q, 0, none⟩) 512 512 x := by
  refine ⟨h.1, Nat.le_refl _, fun e => (by cases e), fun _ => ⟨q, 0, rfl, fun t ht => ?_⟩⟩
  have := bs_get x t (by rw [h.1]; exact ht)
  rw [Nat.zero_add]
  simpa [World.cell?, h.2] using this
theorem WB.load {W : World} {q : Nat} {ys : List Nat} (h : WB W q ys) : (loadVar 60 ⟨q, 0, none⟩).run Try.prog W = .ok (pgV (padN ys)) W := by
  refine load60 (padN_length ys h.1) fun j v hj => ?_
  rw [Addr.add_lit]
  have hlt : j < (bs (padN ys)).length := (List.getElem?_eq_some_iff.1 hj).1
  simp only [World.cell?, h.2, Nat.zero_add, List.getElem?_toArray, wrow]
  rw [List.getElem?_append_left hlt]; exact hj

theorem ret_page {fn : Func} {a u : Tmp} (h : fn.results = #[.cell a 60, .tmp u]) {tmps : Array Value} {W : World} {q : Nat} {x : List Nat}
    (hp : tmps.getD a undef = .pointer (some ⟨q, 0, none⟩)) (hb : PB W q x) : (results fn tmps).run Try.prog W = .ok (.tuple #[pgV x, tmps.getD u undef]) W := by
  rw [results_cell_tmp h, hp]
  simp [asAddr, hb.load]

theorem below_grown {B q : Nat} {w W W' : World} (h : Below B w W) (hg : W.grownBy W' (some q)) (hq : B ≤ q) (hB : B ≤ w.heap.size) : Below B w W' :=
  h.trans ⟨hg.os, hg.tape, hg.output, hg.size, fun k hk => hg.block k (by have := h.size; omega) (by intro e; cases e; omega)⟩
theorem below_row {B q : Nat} {w W : World} (h : Below B w W) (hq : B ≤ q) (c : Array Value) : Below B w (W.setRow q c) := below_setRow h hq c

end Go.Proofs.Ytbpcekhfjkodcaa
