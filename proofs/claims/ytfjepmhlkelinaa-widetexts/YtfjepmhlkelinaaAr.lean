/- How an array of two or three uint64 that came in as an argument is read; no statement of the seat is proved here. -/
import Derived.Test.YtfjepmhlkelinaaRows
import Derived.ProofKit
import Derived.OpenShut
namespace Go.Proofs.Ytfjepmhlkelinaa
open Go.ChangeShapes Go.WideShapes Go.ChangeAt Go.RowKit

section
variable {H : Type} {enc : TypeId × Value → H} {P : Program} {w : World} {base : Nat} {spare : Nat → Bool} {held : Bool}

theorem open_cells {r : Reach} {b0 : Nat} {t e : TypeId} {n : Nat} {v : Value} {d : DataW H} {p : List MemPlace} (ht : P.underlying t = some (.array n e)) (he : P.underlying e = some (.int .u64)) (hce : P.cellsOf e = 1) (hct : P.cellsOf t = n)
    (hv : Value.okWide P w r b0 t v) (h : DataW.Trod enc P w base spare held t v d p) :
    ∃ cs : List Value, v = .agg cs.toArray ∧ cs.length = n ∧ ∀ i, i < n → ∃ z : Int, cs[i]? = some (.int .u64 z) ∧ 0 ≤ z ∧ z < 18446744073709551616 := by
  simp only [Value.okWide, ht] at hv
  obtain ⟨cs, rfl, hsz, _⟩ := hv
  obtain ⟨fuel, hf⟩ := h
  obtain ⟨xs, m, _, _, hl, hx, hi⟩ := DataW.trod_array ht hf
  refine ⟨cs.toList, by simp, by simp [hsz, hct], fun i hin => ?_⟩
  have h1 := hi i hin
  rw [hce, Nat.mul_one] at h1
  have h2 : xs[i]? = some xs[i] := List.getElem?_eq_getElem (by omega)
  rw [h2] at h1
  obtain ⟨z, hz, _, hw⟩ := DataW.trod_int he h1
  refine ⟨z, ?_, ?_⟩
  · have h3 := congrArg (fun l : List Value => l[0]?) hz
    simp [List.getElem?_drop, Value.cells] at h3
    simpa using h3
  · have := bounds_u64 hw
    omega
end

theorem two_of {cs : List Value} (hl : cs.length = 2) (h : ∀ i, i < 2 → ∃ z : Int, cs[i]? = some (.int .u64 z) ∧ 0 ≤ z ∧ z < 18446744073709551616) :
    ∃ a b : Int, cs = [.int .u64 a, .int .u64 b] ∧ (0 ≤ a ∧ a < 18446744073709551616) ∧ (0 ≤ b ∧ b < 18446744073709551616) := by
  obtain ⟨a, ha, ha'⟩ := h 0 (by omega)
  obtain ⟨b, hb, hb'⟩ := h 1 (by omega)
  match cs, hl with
  | [c0, c1], _ =>
    simp at ha hb
    exact ⟨a, b, by rw [ha, hb], ha', hb'⟩

theorem three_of {cs : List Value} (hl : cs.length = 3) (h : ∀ i, i < 3 → ∃ z : Int, cs[i]? = some (.int .u64 z) ∧ 0 ≤ z ∧ z < 18446744073709551616) :
    ∃ a b c : Int, cs = [.int .u64 a, .int .u64 b, .int .u64 c] ∧ (0 ≤ a ∧ a < 18446744073709551616) ∧ (0 ≤ b ∧ b < 18446744073709551616) ∧ (0 ≤ c ∧ c < 18446744073709551616) := by
  obtain ⟨a, ha, ha'⟩ := h 0 (by omega)
  obtain ⟨b, hb, hb'⟩ := h 1 (by omega)
  obtain ⟨c, hc, hc'⟩ := h 2 (by omega)
  match cs, hl with
  | [c0, c1, c2], _ =>
    simp at ha hb hc
    exact ⟨a, b, c, by rw [ha, hb, hc], ha', hb', hc'⟩

end Go.Proofs.Ytfjepmhlkelinaa
