/- Laws at an operation, for sectors: a sector is loaded, stored, built, appended; no statement of the seat is proved here. -/
import Derived.Test.YtkgenmooepfhjaaAb
namespace Go.Proofs.Ytkgenmooepfhjaa
open Go.RowKit Go.Maps

section
variable {P : Program} {ops : Array Oper} {rest : List Oper} {o : Oper} {a : Act} {w : World} {Q : Exit → Act → World → Prop}

theorem wpList_load_run (hgd : o.guard = none) (ty : TypeId) (x : Operand) (ho : o.op = .load ty x) (ad : Addr) (hx : a.eval x = .pointer (some ad)) (v : Value)
    (hrun : (loadVar ty ad).run P w = .ok v w) (h : wpList P ops Q rest (a.put o.dst v) w) : wpList P ops Q (o :: rest) a w := by
  refine wpList_plain hgd fun K hK => ?_
  unfold Oper.wp
  simp [execOp, ho, hx, Instr.loadAt, Instr.sureAddr, hrun, Result.andThen]
  exact hK _ _ h

theorem wpList_store_run (hgd : o.guard = none) (ty : TypeId) (x y : Operand) (ho : o.op = .store ty x y) (ad : Addr) (hx : a.eval x = .pointer (some ad)) (v : Value) (hy : a.eval y = v) (w' : World)
    (hrun : (storeVar ty ad v).run P w = .ok () w') (h : wpList P ops Q rest (a.put o.dst undef) w') : wpList P ops Q (o :: rest) a w := by
  refine wpList_plain hgd fun K hK => ?_
  unfold Oper.wp
  simp [execOp, ho, hx, hy, Instr.storeAt, Instr.sureAddr, hrun, Result.andThen]
  exact hK _ _ h

theorem wpList_build_run (hgd : o.guard = none) (ty : TypeId) (ho : o.op = .build ty #[]) (v : Value)
    (hrun : (Instr.build ty #[]).run P w = .ok v w) (h : wpList P ops Q rest (a.put o.dst v) w) : wpList P ops Q (o :: rest) a w := by
  refine wpList_plain hgd fun K hK => ?_
  unfold Oper.wp
  simp [execOp, ho, hrun, Result.andThen]
  exact hK _ _ h

theorem wpList_buildSlice_run (hgd : o.guard = none) (ty : TypeId) (x : Operand) (ho : o.op = .buildSlice ty 1 #[(0, x)]) (v u : Value) (hx : a.eval x = v) (w' : World)
    (hrun : (Instr.buildSlice ty 1 #[(0, v)]).run P w = .ok u w') (h : wpList P ops Q rest (a.put o.dst u) w') : wpList P ops Q (o :: rest) a w := by
  refine wpList_plain hgd fun K hK => ?_
  unfold Oper.wp
  simp [execOp, ho, hx, hrun, Result.andThen]
  exact hK _ _ h

theorem wpList_alloc_run (hgd : o.guard = none) (ty : TypeId) (ho : o.op = .alloc ty) (v : Value) (w' : World)
    (hrun : (Instr.alloc ty true (.tuple #[])).run P w = .ok v w') (h : wpList P ops Q rest (a.put o.dst v) w') : wpList P ops Q (o :: rest) a w := by
  refine wpList_plain hgd fun K hK => ?_
  unfold Oper.wp
  simp [execOp, ho, hrun, Result.andThen]
  exact hK _ _ h

theorem wpList_box_run (hgd : o.guard = none) (ty : TypeId) (x : Operand) (ho : o.op = .box ty x) (u v : Value) (hx : a.eval x = u) (w' : World)
    (hrun : (Instr.box ty u).run P w = .ok v w') (h : wpList P ops Q rest (a.put o.dst v) w') : wpList P ops Q (o :: rest) a w := by
  refine wpList_plain hgd fun K hK => ?_
  unfold Oper.wp
  simp [execOp, ho, hx, hrun, Result.andThen]
  exact hK _ _ h
end

theorem here_store {P : Program} {ops : Array Oper} {Q : Exit → Act → World → Prop} {a : Act} {w : World} {rest : List Oper} (ty : TypeId) {x y : Operand} {t : TypeId} {pos : String} {after : Array Edge} {gd : Option (Nat × Bool)}
    (h : wpList P ops Q (⟨none, .store ty x y, t, pos, after, gd⟩ :: rest) a w) : wpList P ops Q (⟨none, .store ty x y, t, pos, after, gd⟩ :: rest) a w := h

theorem build80 (W : World) : (Instr.build 80 #[]).run Try.prog W = .ok (secV noughts) W := by kernel_rfl
theorem zero80 (W : World) : (zeroValue 80).run Try.prog W = .ok (secV noughts) W := by kernel_rfl
theorem agg80 (W : World) : (isAgg 80).run Try.prog W = .ok true W := by kernel_rfl
theorem size80 (W : World) : (Go.sizeOf 80).run Try.prog W = .ok 128 W := by kernel_rfl
theorem info80 : (Try.prog.info? 80).map (fun i => (i.zero, i.size, i.bytes)) = some (some (secV noughts), 128, 128) := by kernel_rfl
theorem alloc80 (W : World) : (Instr.alloc 80 true (.tuple #[])).run Try.prog W = .ok (.pointer (some ⟨W.heap.size, 0, none⟩)) (W.alloc (.cells (bs noughts).toArray 80)) := by kernel_rfl

theorem slice80 (W : World) : (Instr.buildSlice 57 1 #[(0, secV noughts)]).run Try.prog W = .ok (.slice (some ⟨W.heap.size, 0, none⟩) 1 1) (W.alloc (.cells (bs noughts).toArray 80)) := by kernel_rfl

theorem load80 {W : World} {ad : Addr} {x : Sec} (hx : x.length = 128) (h : ∀ j v, (bs x)[j]? = some v → W.cell? (ad.add j) = some v) : (loadVar 80 ad).run Try.prog W = .ok (secV x) W := by
  have hl := run_loadCells_list (P := Try.prog) W ad (bs x) h
  rw [bs_length, hx] at hl
  simp [loadVar, hl, secV]

theorem store80 {W : World} {g : Nat} {x : Sec} {cur : List Value} {t : TypeId} (hx : x.length = 128) (hc : cur.length = 128) (hg : W.heap[g]? = some (.cells cur.toArray t (0, 0))) :
    (storeVar 80 ⟨g, 0, none⟩ (secV x)).run Try.prog W = .ok () (W.setRow g (bs x).toArray) := by
  have hs := run_storeCells_at Try.prog g 0 t (bs x) 0 cur.toArray W hg (by simp [bs_length, hx, hc]) (bs_one x)
  have hl : (bs x).length = 128 := by rw [bs_length, hx]
  simp [storeVar, secV, Value.cells, hl, hs]
  rw [show List.drop 128 cur = [] from List.drop_eq_nil_of_le (by omega)]
  simp

end Go.Proofs.Ytkgenmooepfhjaa
