/- What the table that the program's text lays gives the walks; no statement of the seat is proved here. -/
import Derived.Test.YtpmfedimjjifaaaGreatDoorProg
import Derived.Test.YtpmfedimjjifaaaGreatDoorRows
import Derived.Test.YtpmfedimjjifaaaGreatDoorJ32
import Derived.Test.YtpmfedimjjifaaaGreatDoorJ04
import Derived.LaidMore
import Derived.Lib.LaidTab
import Derived.Test.YtpmfedimjjifaaaGreatDoorJ33
namespace Go.Proofs.YtpmfedimjjifaaaGreatDoor
open Go.ChangeShapes Go.WideShapes Go.ChangeAt Go.RowKit

def laid1 : List (String × DataW Unit) := [("hachure/shape.rules", Rows.laid_hachure_shape_rules)]
set_option maxRecDepth 100000 in
theorem gTab : Tryz.prog.globalNamed "hachure/shape.rules" = some 0 := by kernel_rfl
set_option maxRecDepth 100000 in
theorem tTab : (Tryz.prog.globals[0]?).map (·.type) = some 181 := by kernel_rfl
set_option maxRecDepth 100000 in
theorem uTab : Tryz.prog.underlying 181 = some (.array 8 150) := by kernel_rfl
set_option maxRecDepth 100000 in
theorem co57 : Tryz.prog.cellsOf 150 = 3 := by kernel_rfl
set_option maxRecDepth 100000 in
theorem co58 : Tryz.prog.cellsOf 181 = 24 := by kernel_rfl
set_option maxRecDepth 100000 in
theorem co9 : Tryz.prog.cellsOf 9 = 1 := by kernel_rfl
set_option maxRecDepth 100000 in
theorem rule_shape : (Tryz.prog.underlying 150).bind shapeOf = some [(9, 0), (3, 1), (3, 2)] := by kernel_rfl

/-- A rule as the row lists it. -/
def ruleD (n : List UInt8) (l h : Int) : DataW Unit := .agg [.lit (.string n), .lit (.int .i64 l), .lit (.int .i64 h)]
def rulesD : List (DataW Unit) := (List.range 8).map fun k => ruleD (nmT.getD k []) (loT.getD k 0) (hiT.getD k 0)
set_option maxRecDepth 100000 in
theorem laid1_eq : laid1 = [("hachure/shape.rules", .agg rulesD)] := rfl

set_option maxRecDepth 100000 in
theorem rule_cells {enc : TypeId × Value → Unit} {w : World} {base : Nat} {sp : Nat → Bool} {held : Bool} {fuel : Nat} {cs : List Value} {y : DataW Unit × List MemPlace} {n : List UInt8} {l h : Int}
    (hy : DataW.trod enc Tryz.prog w base sp held fuel 150 cs = some y) (e : y.1 = ruleD n l h) : cs[0]? = some (.string ⟨n.toArray⟩) ∧ cs[1]? = some (.int .i64 l) ∧ cs[2]? = some (.int .i64 h) := by
  obtain ⟨fs, hu, hf⟩ := struct_of rule_shape
  obtain ⟨xs, m, _, rfl, _, hxl, hi⟩ := DataW.trod_struct hu hy
  have hxe : xs.map (·.1) = [.lit (.string n), .lit (.int .i64 l), .lit (.int .i64 h)] := by simpa [ruleD] using e
  have part : ∀ (i : Nat) (ty : TypeId) (off : Nat) (d : DataW Unit), [(9, 0), (3, 1), (3, 2)][i]? = some ((ty, off) : TypeId × Nat) → [(.lit (.string n) : DataW Unit), .lit (.int .i64 l), .lit (.int .i64 h)][i]? = some d → ∃ z, z.1 = d ∧ DataW.trod enc Tryz.prog w base sp held m ty ((cs.drop off).take (Tryz.prog.cellsOf ty)) = some z := by
    intro i ty off d hL hd
    obtain ⟨f, h1, rfl, rfl⟩ := hf i ty off hL
    have h2 := hi i f h1
    rw [← hxe, List.getElem?_map] at hd
    obtain ⟨z, hz, rfl⟩ := Option.map_eq_some_iff.1 hd
    exact ⟨z, rfl, by rw [h2, hz]⟩
  obtain ⟨z0, e0, t0⟩ := part 0 9 0 _ rfl rfl
  obtain ⟨z1, e1, t1⟩ := part 1 3 1 _ rfl rfl
  obtain ⟨z2, e2, t2⟩ := part 2 3 2 _ rfl rfl
  obtain ⟨s, hs, rfl, _⟩ := DataW.trod_string Tryz.underlying9 t0
  obtain ⟨a, ha, rfl, _⟩ := DataW.trod_int Tryz.underlying3 t1
  obtain ⟨b, hb, rfl, _⟩ := DataW.trod_int Tryz.underlying3 t2
  simp only [DataW.lit.injEq, Lit.string.injEq, Lit.int.injEq, true_and] at e0 e1 e2
  subst e1; subst e2
  refine ⟨?_, at_off co3 ha, at_off co3 hb⟩
  rw [at_off co9 hs, ← e0]

set_option maxRecDepth 100000 in
/-- What the condition gives the walks. -/
theorem tab_of_laid {W : World} (h : laidMetH Tryz.prog laid1 W) : Tab W := by
  rw [MakeChecks.laidMetH_plain _ _ _ (by kernel_rfl), laid1_eq] at h
  obtain ⟨ps, ⟨g', t', cs, fuel, p, q, hg', ht', hvar, hd, _, _⟩, _⟩ := h
  obtain rfl := Option.some.inj (gTab.symm.trans hg')
  obtain rfl := Option.some.inj (tTab.symm.trans ht')
  intro k hk
  have cell : ∀ i, W.cell? ⟨0, i, none⟩ = cs.toList[i]? := fun i => by rw [World.var?_cell gTab hvar i]; simp
  cases fuel with
  | zero => simp [DataW.trod] at hd
  | succ fuel =>
    simp only [DataW.trod, uTab, co57, co58] at hd
    split at hd
    · rename_i hl
      obtain ⟨xs, hm, hx⟩ := Option.map_eq_some_iff.1 hd
      have hxs : xs.map (·.1) = rulesD := by
        have := congrArg Prod.fst hx
        simpa using this
      obtain ⟨b, hb, hf⟩ := Lib.mapM_at hm k k (by simp [hk])
      have h2 : (xs.map (·.1))[k]? = some b.1 := by simp [hb]
      rw [hxs] at h2
      have h3 : b.1 = ruleD (nmT.getD k []) (loT.getD k 0) (hiT.getD k 0) := by
        simpa [rulesD, hk] using h2.symm
      obtain ⟨c0, c1, c2⟩ := rule_cells hf h3
      have tk : ∀ j, j < 3 → ((cs.toList.drop (k * 3)).take 3)[j]? = cs.toList[k * 3 + j]? := fun j hj => by rw [List.getElem?_take, if_pos hj, List.getElem?_drop]
      rw [cell, cell, cell]
      rw [tk 0 (by omega)] at c0
      rw [tk 1 (by omega)] at c1
      rw [tk 2 (by omega)] at c2
      exact ⟨c0, c1, c2⟩
    · cases hd

set_option maxRecDepth 100000 in
/-- The door's own heap meets the condition. -/
theorem door_met (os : Os) (args : Array Value) : laidMetH Tryz.prog laid1 ((World.doorLaid Tryz.prog 38 os).forCall (fun _ _ => 0) ⟨#[], args, []⟩).memory :=
  laidMetH_of_parts3 (fuel := 8) (laidMet_of_run' 8 (by kernel_rfl) (by kernel_rfl)) (by kernel_rfl) (by kernel_rfl)
end Go.Proofs.YtpmfedimjjifaaaGreatDoor

/- How what a blob is made with, and a slice of bytes, come in; no statement of the seat is proved here. -/
namespace Go.Proofs.YtpmfedimjjifaaaGreatDoor
open Go.ChangeShapes Go.WideShapes Go.ChangeAt Go.RowKit

section
variable {H : Type} {enc : TypeId × Value → H} {P : Program} {w : World} {base : Nat} {spare : Nat → Bool} {held : Bool}
set_option maxRecDepth 100000 in
theorem bool_at {ty : TypeId} (hu : P.underlying ty = some .bool) (hc : P.cellsOf ty = 1) {n off : Nat} {cs : List Value} {y : DataW H × List MemPlace}
    (h : DataW.trod enc P w base spare held n ty ((cs.drop off).take (P.cellsOf ty)) = some y) : ∃ b : Bool, cs[off]? = some (.bool b) := by
  obtain ⟨b, hz, _⟩ := DataW.trod_bool hu h
  refine ⟨b, ?_⟩
  have h3 := congrArg (fun l : List Value => l[0]?) hz
  simp [hc] at h3
  simpa using h3
set_option maxRecDepth 100000 in
theorem open_bytes {r : Reach} {b0 : Nat} {t : TypeId} {v : Value} {d : DataW H} {p : List MemPlace} (ht : P.underlying t = some (.slice 5)) (he : P.underlying 5 = some (.int .u8)) (hc : P.cellsOf 5 = 1)
    (hv : Value.okWide P w r b0 t v) (h : DataW.Trod enc P w base (fun _ => true) held t v d p) :
    ∃ ao len cap xs, v = .slice ao len cap ∧ Rd w ao len cap xs ∧ (∀ x ∈ xs, x < 256) ∧ len ≤ 9223372036854775807 := by
  obtain ⟨ao', len', cap', rfl⟩ := okWide_slice ht hv
  obtain ⟨fuel, hf⟩ := h
  obtain ⟨ao, len, cap, xs, hcs, hr⟩ := rd_open ht he hc hf
  simp [Value.cells] at hcs
  obtain ⟨rfl, rfl, rfl⟩ := hcs
  exact ⟨_, _, _, xs, rfl, hr⟩
end
theorem how_shape : (Tryz.prog.underlying 57).bind shapeOf = some [(3, 0), (4, 1), (4, 2)] := by kernel_rfl
theorem co4 : Tryz.prog.cellsOf 4 = 1 := by kernel_rfl
theorem co27 : Tryz.prog.cellsOf 57 = 3 := by kernel_rfl
section
variable {H : Type} {enc : TypeId × Value → H} {w : World} {base : Nat} {held : Bool}
set_option maxRecDepth 100000 in
theorem open_how {r : Reach} {b0 : Nat} {v : Value} {d : DataW H} {p : List MemPlace} (hv : Value.okWide Tryz.prog w r b0 57 v) (h : DataW.Trod enc Tryz.prog w base (fun _ => true) held 57 v d p) :
    ∃ (z : Int) (l x : Bool), v = .agg #[.int .i64 z, .bool l, .bool x] := by
  obtain ⟨fs, hu, _⟩ := struct_of how_shape
  simp only [Value.okWide, hu] at hv
  obtain ⟨cs', rfl, _⟩ := hv
  obtain ⟨cs, rfl⟩ : ∃ cs : List Value, cs' = cs.toArray := ⟨cs'.toList, by simp⟩
  obtain ⟨fuel, hf⟩ := h
  have hf' : DataW.trod enc Tryz.prog w base (fun _ => true) held fuel 57 cs = some (d, p) := by simpa [Value.cells] using hf
  obtain ⟨hlen3, hx⟩ := field_ofW how_shape hf'
  rw [co27] at hlen3
  obtain ⟨y0, n0, _, h0, _⟩ := hx 0 3 0 rfl
  obtain ⟨y1, n1, _, h1, _⟩ := hx 1 4 1 rfl
  obtain ⟨y2, n2, _, h2, _⟩ := hx 2 4 2 rfl
  obtain ⟨z, hz, _⟩ := int_at Tryz.underlying3 co3 h0
  obtain ⟨l, hl⟩ := bool_at Tryz.underlying4 co4 h1
  obtain ⟨x, hx'⟩ := bool_at Tryz.underlying4 co4 h2
  obtain ⟨c0, c1, c2, rfl⟩ : ∃ a b c, cs = [a, b, c] := by
    match cs, hlen3 with
    | [a, b, c], _ => exact ⟨a, b, c, rfl⟩
  have a0 : c0 = _ := Option.some.inj hz
  have a1 : c1 = _ := Option.some.inj hl
  have a2 : c2 = _ := Option.some.inj hx'
  rw [a0, a1, a2]
  exact ⟨z, l, x, rfl⟩
end
end Go.Proofs.YtpmfedimjjifaaaGreatDoor
