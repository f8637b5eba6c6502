/- How structs, bools and slices of bytes that came in as arguments are read; no statement of the seat is proved here. -/
import Derived.Test.YtbpcekhfjkodcaaOBa
import Derived.ProofKit
import Derived.OpenShut
import Derived.ChangeSlices
namespace Go.Proofs.Ytbpcekhfjkodcaa
open Go.ChangeShapes Go.WideShapes Go.ChangeAt Go.RowKit

def shapeOf : TypeDesc → Option (List (TypeId × Nat))
  | .struct fs => some (fs.toList.map fun f => (f.type, f.offset))
  | _ => none

theorem struct_of {P : Program} {t : TypeId} {L : List (TypeId × Nat)} (h : (P.underlying t).bind shapeOf = some L) :
    ∃ fs : Array Field, P.underlying t = some (.struct fs) ∧ ∀ (i : Nat) (ty : TypeId) (off : Nat), L[i]? = some (ty, off) → ∃ f : Field, fs[i]? = some f ∧ f.type = ty ∧ f.offset = off := by
  obtain ⟨d, hd, hs⟩ := Option.bind_eq_some_iff.1 h
  cases d with
  | struct fs =>
    refine ⟨fs, hd, fun i ty off hi => ?_⟩
    simp only [shapeOf, Option.some.injEq] at hs
    subst hs
    rw [List.getElem?_map] at hi
    obtain ⟨f, hf, he⟩ := Option.map_eq_some_iff.1 hi
    simp only [Prod.mk.injEq] at he
    exact ⟨f, by simpa using hf, he.1, he.2⟩
  | _ => simp [shapeOf] at hs

section
variable {H : Type} {enc : TypeId × Value → H} {P : Program} {w : World} {base : Nat} {spare : Nat → Bool} {held : Bool}

theorem field_of {t : TypeId} {L : List (TypeId × Nat)} (h : (P.underlying t).bind shapeOf = some L) {fuel : Nat} {cs : List Value} {x : DataW H × List MemPlace}
    (hx : DataW.trod enc P w base spare held fuel t cs = some x) : cs.length = P.cellsOf t ∧ ∀ (i : Nat) (ty : TypeId) (off : Nat), L[i]? = some (ty, off) → ∃ y n, DataW.trod enc P w base spare held n ty ((cs.drop off).take (P.cellsOf ty)) = some y := by
  obtain ⟨fs, hu, hf⟩ := struct_of h
  obtain ⟨xs, n, _, _, hl, hxl, hi⟩ := DataW.trod_struct hu hx
  refine ⟨hl, fun i ty off hL => ?_⟩
  obtain ⟨f, h1, rfl, rfl⟩ := hf i ty off hL
  have h2 := hi i f h1
  have hlt : i < xs.length := by
    rw [hxl]; exact (Array.getElem?_eq_some_iff.1 h1).1
  exact ⟨xs[i], n, by rw [h2, List.getElem?_eq_getElem hlt]⟩

theorem int_at {ty : TypeId} {k : IntKind} (hu : P.underlying ty = some (.int k)) (hc : P.cellsOf ty = 1) {n off : Nat} {cs : List Value} {y : DataW H × List MemPlace}
    (h : DataW.trod enc P w base spare held n ty ((cs.drop off).take (P.cellsOf ty)) = some y) : ∃ z : Int, cs[off]? = some (.int k z) ∧ (Lit.int k z).wf = true := by
  obtain ⟨z, hz, _, hw⟩ := DataW.trod_int hu h
  refine ⟨z, ?_, hw⟩
  have h3 := congrArg (fun l : List Value => l[0]?) hz
  simp [hc] at h3
  simpa using h3

theorem bool_at {ty : TypeId} (hu : P.underlying ty = some .bool) (hc : P.cellsOf ty = 1) {n off : Nat} {cs : List Value} {y : DataW H × List MemPlace}
    (h : DataW.trod enc P w base spare held n ty ((cs.drop off).take (P.cellsOf ty)) = some y) : ∃ b : Bool, cs[off]? = some (.bool b) := by
  obtain ⟨b, hz, _⟩ := DataW.trod_bool hu h
  refine ⟨b, ?_⟩
  have h3 := congrArg (fun l : List Value => l[0]?) hz
  simp [hc] at h3
  simpa using h3

theorem bounds_u8' {z : Int} (h : (Lit.int .u8 z).wf = true) : 0 ≤ z ∧ z < 256 := by
  simp [Lit.wf, IntKind.min, IntKind.max, IntKind.bits, IntKind.signed] at h
  omega

/-- The cells of a slice of bytes, as what the walks ask. -/
theorem rd_open {t : TypeId} (ht : P.underlying t = some (.slice 5)) (he : P.underlying 5 = some (.int .u8)) (hc : P.cellsOf 5 = 1) {n : Nat} {cs : List Value} {y : DataW H × List MemPlace}
    (h : DataW.trod enc P w base (fun _ => true) held n t cs = some y) :
    ∃ ao len cap xs, cs = [.slice ao len cap] ∧ Rd w ao len cap xs ∧ (∀ x ∈ xs, x < 256) ∧ len ≤ 9223372036854775807 := by
  rcases open_ints ht he hc h with ⟨rfl, _⟩ | ⟨a, len, cap, zs, rfl, _, hl, hm, hz, _, hcell, hwz⟩
  · exact ⟨none, 0, 0, [], rfl, Rd.nil w, by simp, by omega⟩
  · simp at hz
    refine ⟨some a, len, cap, (zs.take len).map Int.toNat, rfl, ⟨by simp; omega, hl, fun h => (by cases h), fun hp => ?_⟩, ?_, by unfold maxLen at hm; omega⟩
    · obtain ⟨b, off, spot⟩ := a
      have hc0 := hcell 0 (by omega)
      have hspot : spot = none := by simpa [Addr.add] using World.cell?_spot hc0
      subst hspot
      refine ⟨b, off, rfl, fun t ht => ?_⟩
      have hct := hcell t (by omega)
      rw [Addr.add_lit] at hct
      rw [hct]
      have hb := bounds_u8' (hwz (zs.getD t 0) (by rw [List.getD_eq_getElem?_getD, List.getElem?_eq_getElem (show t < zs.length by omega)]; simp))
      simp [List.getD, List.getElem?_map, ht, List.getElem?_eq_getElem (show t < zs.length by omega)] at hb ⊢
      omega
    · intro x hx
      obtain ⟨z, hz, rfl⟩ := List.mem_map.1 hx
      have := bounds_u8' (hwz z (List.mem_of_mem_take hz))
      omega

theorem open_bytes {r : Reach} {b0 : Nat} {t : TypeId} {v : Value} {d : DataW H} {p : List MemPlace} (ht : P.underlying t = some (.slice 5)) (he : P.underlying 5 = some (.int .u8)) (hc : P.cellsOf 5 = 1)
    (hv : Value.okWide P w r b0 t v) (h : DataW.Trod enc P w base (fun _ => true) held t v d p) :
    ∃ ao len cap xs, v = .slice ao len cap ∧ Rd w ao len cap xs ∧ (∀ x ∈ xs, x < 256) ∧ len ≤ 9223372036854775807 := by
  obtain ⟨ao', len', cap', rfl⟩ := okWide_slice ht hv
  obtain ⟨fuel, hf⟩ := h
  obtain ⟨ao, len, cap, xs, hcs, hr⟩ := rd_open ht he hc hf
  simp [Value.cells] at hcs
  obtain ⟨rfl, rfl, rfl⟩ := hcs
  exact ⟨_, _, _, xs, rfl, hr⟩
end

end Go.Proofs.Ytbpcekhfjkodcaa
