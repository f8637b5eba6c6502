/- How acts that came in as arguments are read; no statement of the seat is proved here. -/
import Derived.Test.YtebjjibgkjgpgaaAa
import Derived.Deep.Grids
import Derived.ProofKit
import Derived.OpenShut
import Derived.ChangeSlices
namespace Go.Proofs.Ytebjjibgkjgpgaa
open Go.ChangeShapes Go.WideShapes Go.ChangeAt Go.RowKit

def shapeOf : TypeDesc → Option (List (TypeId × Nat))
  | .struct fs => some (fs.toList.map fun f => (f.type, f.offset))
  | _ => none

theorem struct_of {P : Program} {t : TypeId} {L : List (TypeId × Nat)} (h : (P.underlying t).bind shapeOf = some L) :
    ∃ fs : Array Field, P.underlying t = some (.struct fs) ∧ ∀ (i : Nat) (ty : TypeId) (off : Nat), L[i]? = some (ty, off) → ∃ f : Field, fs[i]? = some f ∧ f.type = ty ∧ f.offset = off := by
  obtain ⟨d, hd, hs⟩ := Option.bind_eq_some_iff.1 h
  cases d with
  | struct fs =>
    refine ⟨fs, hd, fun i ty off hi => ?_⟩
    simp only [shapeOf, Option.some.injEq] at hs
    subst hs
    rw [List.getElem?_map] at hi
    obtain ⟨f, hf, he⟩ := Option.map_eq_some_iff.1 hi
    simp only [Prod.mk.injEq] at he
    exact ⟨f, by simpa using hf, he.1, he.2⟩
  | _ => simp [shapeOf] at hs

section
variable {H : Type} {enc : TypeId × Value → H} {P : Program} {w : World} {base : Nat} {spare : Nat → Bool} {held : Bool}

theorem field_of {t : TypeId} {L : List (TypeId × Nat)} (h : (P.underlying t).bind shapeOf = some L) {fuel : Nat} {cs : List Value} {x : DataW H × List MemPlace}
    (hx : DataW.trod enc P w base spare held fuel t cs = some x) : cs.length = P.cellsOf t ∧ ∀ (i : Nat) (ty : TypeId) (off : Nat), L[i]? = some (ty, off) → ∃ y n, DataW.trod enc P w base spare held n ty ((cs.drop off).take (P.cellsOf ty)) = some y := by
  obtain ⟨fs, hu, hf⟩ := struct_of h
  obtain ⟨xs, n, _, _, hl, hxl, hi⟩ := DataW.trod_struct hu hx
  refine ⟨hl, fun i ty off hL => ?_⟩
  obtain ⟨f, h1, rfl, rfl⟩ := hf i ty off hL
  have h2 := hi i f h1
  have hlt : i < xs.length := by
    rw [hxl]; exact (Array.getElem?_eq_some_iff.1 h1).1
  exact ⟨xs[i], n, by rw [h2, List.getElem?_eq_getElem hlt]⟩

theorem int_at {ty : TypeId} {k : IntKind} (hu : P.underlying ty = some (.int k)) (hc : P.cellsOf ty = 1) {n off : Nat} {cs : List Value} {y : DataW H × List MemPlace}
    (h : DataW.trod enc P w base spare held n ty ((cs.drop off).take (P.cellsOf ty)) = some y) : ∃ z : Int, cs[off]? = some (.int k z) ∧ (Lit.int k z).wf = true := by
  obtain ⟨z, hz, _, hw⟩ := DataW.trod_int hu h
  refine ⟨z, ?_, hw⟩
  have h3 := congrArg (fun l : List Value => l[0]?) hz
  simp [hc] at h3
  simpa using h3

theorem bool_at {ty : TypeId} (hu : P.underlying ty = some .bool) (hc : P.cellsOf ty = 1) {n off : Nat} {cs : List Value} {y : DataW H × List MemPlace}
    (h : DataW.trod enc P w base spare held n ty ((cs.drop off).take (P.cellsOf ty)) = some y) : ∃ b : Bool, cs[off]? = some (.bool b) := by
  obtain ⟨b, hz, _⟩ := DataW.trod_bool hu h
  refine ⟨b, ?_⟩
  have h3 := congrArg (fun l : List Value => l[0]?) hz
  simp [hc] at h3
  simpa using h3

theorem bounds_u8' {z : Int} (h : (Lit.int .u8 z).wf = true) : 0 ≤ z ∧ z < 256 := by
  simp [Lit.wf, IntKind.min, IntKind.max, IntKind.bits, IntKind.signed] at h
  omega


theorem bounds_i64' {z : Int} (h : (Lit.int .i64 z).wf = true) : -9223372036854775808 ≤ z ∧ z ≤ 9223372036854775807 := by
  simp [Lit.wf, IntKind.min, IntKind.max, IntKind.bits, IntKind.signed] at h
  omega

/-- A slice of bools that came in. -/
theorem rd_open {t : TypeId} (ht : P.underlying t = some (.slice 5)) (he : P.underlying 5 = some (.int .u8)) (hc : P.cellsOf 5 = 1) {n : Nat} {cs : List Value} {y : DataW H × List MemPlace}
    (h : DataW.trod enc P w base (fun _ => true) held n t cs = some y) :
    ∃ ao len cap xs, cs = [.slice ao len cap] ∧ Rd w ao len cap xs ∧ (∀ x ∈ xs, x < 256) ∧ len ≤ 9223372036854775807 := by
  rcases open_ints ht he hc h with ⟨rfl, _⟩ | ⟨a, len, cap, zs, rfl, _, hl, hm, hz, _, hcell, hwz⟩
  · exact ⟨none, 0, 0, [], rfl, Rd.nil w, by simp, by omega⟩
  · simp at hz
    refine ⟨some a, len, cap, (zs.take len).map Int.toNat, rfl, ⟨by simp; omega, hl, fun h => (by cases h), fun hp => ?_⟩, ?_, by unfold maxLen at hm; omega⟩
    · obtain ⟨b, off, spot⟩ := a
      have hc0 := hcell 0 (by omega)
      have hspot : spot = none := by simpa [Addr.add] using World.cell?_spot hc0
      subst hspot
      refine ⟨b, off, rfl, fun t ht => ?_⟩
      have hct := hcell t (by omega)
      rw [Addr.add_lit] at hct
      rw [hct]
      have hb := bounds_u8' (hwz (zs.getD t 0) (by rw [List.getD_eq_getElem?_getD, List.getElem?_eq_getElem (show t < zs.length by omega)]; simp))
      simp [List.getD, List.getElem?_map, ht, List.getElem?_eq_getElem (show t < zs.length by omega)] at hb ⊢
      omega
    · intro x hx
      obtain ⟨z, hz, rfl⟩ := List.mem_map.1 hx
      have := bounds_u8' (hwz z (List.mem_of_mem_take hz))
      omega

theorem open_bytes {r : Reach} {b0 : Nat} {t : TypeId} {v : Value} {d : DataW H} {p : List MemPlace} (ht : P.underlying t = some (.slice 5)) (he : P.underlying 5 = some (.int .u8)) (hc : P.cellsOf 5 = 1)
    (hv : Value.okWide P w r b0 t v) (h : DataW.Trod enc P w base (fun _ => true) held t v d p) :
    ∃ ao len cap xs, v = .slice ao len cap ∧ Rd w ao len cap xs ∧ (∀ x ∈ xs, x < 256) ∧ len ≤ 9223372036854775807 := by
  obtain ⟨ao', len', cap', rfl⟩ := okWide_slice ht hv
  obtain ⟨fuel, hf⟩ := h
  obtain ⟨ao, len, cap, xs, hcs, hr⟩ := rd_open ht he hc hf
  simp [Value.cells] at hcs
  obtain ⟨rfl, rfl, rfl⟩ := hcs
  exact ⟨_, _, _, xs, rfl, hr⟩
theorem act_shape : (Try.prog.underlying 29).bind shapeOf = some [(3, 0), (3, 1), (5, 2), (4, 3)] := by kernel_rfl

/-- An act: what, of which page, with which byte, too short or not. -/
structure Av where
  k : Int
  p : Int
  s : Nat
  sh : Bool
def avV (x : Av) : List Value := [.int .i64 x.k, .int .i64 x.p, .int .u8 (x.s : Int), .bool x.sh]
def I64 (z : Int) : Prop := -9223372036854775808 ≤ z ∧ z ≤ 9223372036854775807
structure AvOk (x : Av) : Prop where
  k : I64 x.k
  p : I64 x.p
  s : x.s < 256

theorem one_act {n : Nat} {cs : List Value} {y : DataW H × List MemPlace} (h : DataW.trod enc Try.prog w base (fun _ => true) held n 29 cs = some y) :
    ∃ x : Av, cs[0]? = some (.int .i64 x.k) ∧ cs[1]? = some (.int .i64 x.p) ∧ cs[2]? = some (.int .u8 (x.s : Int)) ∧ cs[3]? = some (.bool x.sh) ∧ AvOk x ∧ cs.length = 4 := by
  obtain ⟨hl, hx⟩ := field_of act_shape h
  rw [show Try.prog.cellsOf 29 = 4 by kernel_rfl] at hl
  obtain ⟨y0, n0, h0⟩ := hx 0 3 0 rfl
  obtain ⟨y1, n1, h1⟩ := hx 1 3 1 rfl
  obtain ⟨y2, n2, h2⟩ := hx 2 5 2 rfl
  obtain ⟨y3, n3, h3⟩ := hx 3 4 3 rfl
  obtain ⟨k, hk, wk⟩ := int_at Try.underlying3 (by kernel_rfl) h0
  obtain ⟨f, hf, wf⟩ := int_at Try.underlying3 (by kernel_rfl) h1
  obtain ⟨s, hs, ws⟩ := int_at Try.underlying5 (by kernel_rfl) h2
  obtain ⟨b, hb⟩ := bool_at Try.underlying4 (by kernel_rfl) h3
  have hsb := bounds_u8' ws
  obtain ⟨s', rfl⟩ := Int.eq_ofNat_of_zero_le hsb.1
  exact ⟨⟨k, f, s', b⟩, hk, hf, hs, hb, ⟨bounds_i64' wk, bounds_i64' wf, by simp only; omega⟩, hl⟩

theorem agg_of {P : Program} {r : Reach} {b0 : Nat} {t : TypeId} {fs : Array Field} {v : Value} (hu : P.underlying t = some (.struct fs)) (hv : Value.okWide P w r b0 t v) : ∃ cs : List Value, v = .agg cs.toArray := by
  simp only [Value.okWide, hu] at hv
  obtain ⟨cs, rfl, _⟩ := hv
  exact ⟨cs.toList, by simp⟩

set_option maxRecDepth 100000 in
/-- One act, as an argument. -/
theorem open_act {r : Reach} {b0 : Nat} {v : Value} {d : DataW H} {p : List MemPlace} (hv : Value.okWide Try.prog w r b0 29 v) (h : DataW.Trod enc Try.prog w base (fun _ => true) held 29 v d p) :
    ∃ x : Av, v = .agg #[.int .i64 x.k, .int .i64 x.p, .int .u8 (x.s : Int), .bool x.sh] ∧ AvOk x := by
  obtain ⟨fs, hu, _⟩ := struct_of act_shape
  obtain ⟨cs, rfl⟩ := agg_of hu hv
  obtain ⟨fuel, hf⟩ := h
  have hf' : DataW.trod enc Try.prog w base (fun _ => true) held fuel 29 cs = some (d, p) := by simpa [Value.cells] using hf
  obtain ⟨x, c0, c1, c2, c3, ok, hl⟩ := one_act hf'
  refine ⟨x, ?_, ok⟩
  match cs, hl with
  | [e0, e1, e2, e3], _ =>
    simp at c0 c1 c2 c3
    rw [c0, c1, c2, c3]

/-- Acts that lie one behind the other. -/
def Acts (w : World) (b off L : Nat) (X : Nat → Av) : Prop :=
  ∀ i, i < L → w.cell? ⟨b, off + i * 4, none⟩ = some (.int .i64 (X i).k) ∧ w.cell? ⟨b, off + i * 4 + 1, none⟩ = some (.int .i64 (X i).p) ∧ w.cell? ⟨b, off + i * 4 + 2, none⟩ = some (.int .u8 ((X i).s : Int)) ∧ w.cell? ⟨b, off + i * 4 + 3, none⟩ = some (.bool (X i).sh) ∧ AvOk (X i)

theorem Acts.keep {w w' : World} {b off L : Nat} {X : Nat → Av} (h : Acts w b off L X) (hb : Below w.heap.size w w') : Acts w' b off L X := fun i hi => by
  obtain ⟨h0, h1, h2, h3, ok⟩ := h i hi
  exact ⟨keep_old hb h0, keep_old hb h1, keep_old hb h2, keep_old hb h3, ok⟩

set_option maxRecDepth 100000 in
theorem open_acts {t : TypeId} (ht : Try.prog.underlying t = some (.slice 29)) {r : Reach} {b0 : Nat} {v : Value} {d : DataW H} {p : List MemPlace} (hv : Value.okWide Try.prog w r b0 t v) (h : DataW.Trod enc Try.prog w base (fun _ => true) held t v d p) :
    (∃ lo C, v = .slice lo 0 C) ∨ ∃ b off L C X, 0 < L ∧ L ≤ 9223372036854775807 ∧ v = .slice (some ⟨b, off, none⟩) L C ∧ Acts w b off L X := by
  obtain ⟨ao', len', cap', rfl⟩ := okWide_slice ht hv
  obtain ⟨fuel, hf⟩ := h
  rcases DataW.trod_slice ht hf with ⟨hcs, _⟩ | ⟨a, len, cap, elems, rest, n, _, hcs, _, _, hl, hm, hlen, hel, _, _⟩
  · simp [Value.cells] at hcs
    obtain ⟨rfl, rfl, rfl⟩ := hcs
    exact Or.inl ⟨_, _, rfl⟩
  · simp [Value.cells] at hcs
    obtain ⟨rfl, rfl, rfl⟩ := hcs
    by_cases h0 : len' = 0
    · subst h0; exact Or.inl ⟨_, _, rfl⟩
    right
    rw [show Try.prog.cellsOf 29 = 4 by kernel_rfl] at hel
    have each : ∀ i, i < len' → ∃ cs y, w.cells? base (a.add (i * 4)) 4 = some cs ∧ DataW.trod enc Try.prog w base (fun _ => true) held n 29 cs = some y := by
      intro i hi
      have h1 := hel i hi
      rw [List.getElem?_eq_getElem (by omega), Option.bind_eq_some_iff] at h1
      obtain ⟨cs, hc, ht⟩ := h1
      exact ⟨cs, _, hc, ht⟩
    obtain ⟨b, off, spot⟩ := a
    have hspot : spot = none := by
      obtain ⟨cs, y, hc, ht⟩ := each 0 (by omega)
      obtain ⟨x, t0, _⟩ := one_act ht
      have h2 := (World.cells?_some hc).2.2 0 (by omega)
      rw [t0] at h2
      have := World.cell?_spot h2
      simpa [Addr.add] using this
    subst hspot
    have each2 : ∀ i, ∃ x : Av, i < len' → w.cell? ⟨b, off + i * 4, none⟩ = some (.int .i64 x.k) ∧ w.cell? ⟨b, off + i * 4 + 1, none⟩ = some (.int .i64 x.p) ∧ w.cell? ⟨b, off + i * 4 + 2, none⟩ = some (.int .u8 (x.s : Int)) ∧ w.cell? ⟨b, off + i * 4 + 3, none⟩ = some (.bool x.sh) ∧ AvOk x := by
      intro i
      by_cases hi : i < len'
      · obtain ⟨cs, y, hc, ht⟩ := each i hi
        obtain ⟨x, t0, t1, t2, t3, ok, _⟩ := one_act ht
        have h2 := (World.cells?_some hc).2.2
        refine ⟨x, fun _ => ⟨?_, ?_, ?_, ?_, ok⟩⟩
        · have := h2 0 (by omega); rw [t0, Addr.add_lit, Addr.add_lit] at this; simpa using this
        · have := h2 1 (by omega); rw [t1, Addr.add_lit, Addr.add_lit] at this; exact this
        · have := h2 2 (by omega); rw [t2, Addr.add_lit, Addr.add_lit] at this; exact this
        · have := h2 3 (by omega); rw [t3, Addr.add_lit, Addr.add_lit] at this; exact this
      · exact ⟨⟨0, 0, 0, false⟩, fun h => absurd h hi⟩
    obtain ⟨X, hX⟩ := Classical.axiomOfChoice each2
    exact ⟨b, off, len', cap', X, by omega, by unfold maxLen at hm; omega, rfl, fun i hi => hX i hi⟩
end

end Go.Proofs.Ytebjjibgkjgpgaa
