/- How a box that came in as an argument is read; no statement of the seat is proved here. -/
import Derived.Test.YtjlahomjhadnkaaOa
import Derived.Test.YtjlahomjhadnkaaCd
import Derived.ChangeArms
namespace Go.Proofs.Ytjlahomjhadnkaa
open Go.ChangeShapes Go.WideShapes Go.ChangeAt Go.RowKit

set_option maxRecDepth 100000 in
theorem box_shape : (Try.prog.underlying 25).bind shapeOf = some [(4, 0), (23, 1), (23, 3)] := by kernel_rfl
set_option maxRecDepth 100000 in
theorem coBool : Try.prog.cellsOf 4 = 1 := by kernel_rfl
set_option maxRecDepth 100000 in
theorem coBox : Try.prog.cellsOf 25 = 5 := by kernel_rfl

section
variable {H : Type} {enc : TypeId × Value → H} {w : World} {base : Nat} {held : Bool}
set_option maxRecDepth 100000 in
theorem one_ptB {n : Nat} {cs : List Value} {y : DataW H × List MemPlace} (h : DataW.trod enc Try.prog w base (fun _ => true) held n 23 cs = some y) :
    ∃ a : Int × Int, cs[0]? = some (.int .i64 a.1) ∧ cs[1]? = some (.int .i64 a.2) ∧ (-9223372036854775808 ≤ a.1 ∧ a.1 ≤ 9223372036854775807) ∧ (-9223372036854775808 ≤ a.2 ∧ a.2 ≤ 9223372036854775807) := by
  obtain ⟨_, hx⟩ := field_ofW point_shape h
  obtain ⟨y0, n0, _, h0, _⟩ := hx 0 3 0 rfl
  obtain ⟨y1, n1, _, h1, _⟩ := hx 1 3 1 rfl
  obtain ⟨k, hk, kw⟩ := int_at Try.underlying3 co3 h0
  obtain ⟨c, hc, cw⟩ := int_at Try.underlying3 co3 h1
  exact ⟨(k, c), hk, hc, bounds_i64' kw, bounds_i64' cw⟩
set_option maxRecDepth 100000 in
theorem box_cs {n : Nat} {cs : List Value} {y : DataW H × List MemPlace} (h : DataW.trod enc Try.prog w base (fun _ => true) held n 25 cs = some y) : ∃ r : Rect, cs = [.bool (r).n, .int .i64 (r).lx, .int .i64 (r).ly, .int .i64 (r).hx, .int .i64 (r).hy] ∧ Bd r := by
  obtain ⟨hl, hx⟩ := field_ofW box_shape h
  rw [coBox] at hl
  obtain ⟨y0, n0, _, h0, _⟩ := hx 0 4 0 rfl
  obtain ⟨y1, n1, _, h1, _⟩ := hx 1 23 1 rfl
  obtain ⟨y2, n2, _, h2, _⟩ := hx 2 23 3 rfl
  rw [coBool] at h0
  rw [co41] at h1 h2
  obtain ⟨b, hb, _⟩ := DataW.trod_bool Try.underlying4 h0
  obtain ⟨p, p0, p1, pb, pc⟩ := one_ptB h1
  obtain ⟨q, q0, q1, qb, qc⟩ := one_ptB h2
  match cs, hl with
  | [c0, c1, c2, c3, c4], _ =>
    simp at hb p0 p1 q0 q1
    exact ⟨⟨b, p.1, p.2, q.1, q.2⟩, by rw [hb, p0, p1, q0, q1], pb, pc, qb, qc⟩
set_option maxRecDepth 100000 in
theorem open_box {r : Reach} {b0 : Nat} {v : Value} {d : DataW H} {p : List MemPlace} (hv : Value.okWide Try.prog w r b0 25 v) (h : DataW.Trod enc Try.prog w base (fun _ => true) held 25 v d p) :
    ∃ r : Rect, v = .agg #[.bool (r).n, .int .i64 (r).lx, .int .i64 (r).ly, .int .i64 (r).hx, .int .i64 (r).hy] ∧ Bd r := by
  obtain ⟨fs, hu, _⟩ := struct_of box_shape
  simp only [Value.okWide, hu] at hv
  obtain ⟨cs', rfl, _⟩ := hv
  obtain ⟨cs, rfl⟩ : ∃ cs : List Value, cs' = cs.toArray := ⟨cs'.toList, by simp⟩
  obtain ⟨fuel, hf⟩ := h
  have hf' : DataW.trod enc Try.prog w base (fun _ => true) held fuel 25 cs = some (d, p) := by simpa [Value.cells] using hf
  obtain ⟨q, rfl, hq⟩ := box_cs hf'
  exact ⟨q, rfl, hq⟩
end
end Go.Proofs.Ytjlahomjhadnkaa
