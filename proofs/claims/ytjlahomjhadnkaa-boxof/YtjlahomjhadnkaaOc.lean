/- How a row of boxes that came in as an argument is read; no statement of the seat is proved here. -/
import Derived.Test.YtjlahomjhadnkaaOb
import Derived.Test.YtjlahomjhadnkaaFb
namespace Go.Proofs.Ytjlahomjhadnkaa
open Go.ChangeShapes Go.WideShapes Go.ChangeAt Go.RowKit

section
variable {H : Type} {enc : TypeId × Value → H} {w : World} {base : Nat} {held : Bool}
set_option maxRecDepth 100000 in
theorem boxes_cs {n : Nat} {cs : List Value} {y : DataW H × List MemPlace} (h : DataW.trod enc Try.prog w base (fun _ => true) held n 46 cs = some y) :
    ∃ bo bn bc l, cs = [.slice bo bn bc] ∧ l.length = bn ∧ RB (fun b => b < w.heap.size) w bo l := by
  rcases DataW.trod_slice Try.underlying46 h with ⟨rfl, _⟩ | ⟨a, len, cap, elems, rest, n', _, rfl, rfl, _, hl, hm, hlen, hel, _, _⟩
  · exact ⟨none, 0, 0, [], rfl, rfl, .inl rfl⟩
  · rw [coBox] at hel
    have each : ∀ i, i < len → ∃ cs y, w.cells? base (a.add (i * 5)) 5 = some cs ∧ DataW.trod enc Try.prog w base (fun _ => true) held n' 25 cs = some y := by
      intro i hi
      have h1 := hel i hi
      rw [List.getElem?_eq_getElem (by omega), Option.bind_eq_some_iff] at h1
      obtain ⟨cs, hc, ht⟩ := h1
      exact ⟨cs, _, hc, ht⟩
    by_cases h0 : len = 0
    · subst h0
      exact ⟨some a, 0, cap, [], rfl, rfl, .inl rfl⟩
    obtain ⟨b, off, spot⟩ := a
    have hspot : spot = none := by
      obtain ⟨cs, y, hc, ht⟩ := each 0 (by omega)
      obtain ⟨t, rfl, _⟩ := box_cs ht
      have h2 := (World.cells?_some hc).2.2 0 (by omega)
      have := World.cell?_spot (v := .bool t.n) (by simpa using h2)
      simpa [Addr.add] using this
    subst hspot
    have each2 : ∀ i, ∃ r : Rect, i < len → w.cell? ⟨b, off + i * 5, none⟩ = some (.bool r.n) ∧ w.cell? ⟨b, off + i * 5 + 1, none⟩ = some (.int .i64 r.lx) ∧ w.cell? ⟨b, off + i * 5 + 2, none⟩ = some (.int .i64 r.ly) ∧ w.cell? ⟨b, off + i * 5 + 3, none⟩ = some (.int .i64 r.hx) ∧ w.cell? ⟨b, off + i * 5 + 4, none⟩ = some (.int .i64 r.hy) := by
      intro i
      by_cases hi : i < len
      · obtain ⟨cs, y, hc, ht⟩ := each i hi
        obtain ⟨t, rfl, _⟩ := box_cs ht
        have h2 := (World.cells?_some hc).2.2
        refine ⟨t, fun _ => ⟨?_, ?_, ?_, ?_, ?_⟩⟩
        · have := h2 0 (by omega); rw [Addr.add_lit, Addr.add_lit] at this; simpa using this
        · have := h2 1 (by omega); rw [Addr.add_lit, Addr.add_lit] at this; exact this
        · have := h2 2 (by omega); rw [Addr.add_lit, Addr.add_lit] at this; exact this
        · have := h2 3 (by omega); rw [Addr.add_lit, Addr.add_lit] at this; exact this
        · have := h2 4 (by omega); rw [Addr.add_lit, Addr.add_lit] at this; exact this
      · exact ⟨⟨false, 0, 0, 0, 0⟩, fun h => absurd h hi⟩
    obtain ⟨f, hf2⟩ := Classical.axiomOfChoice each2
    refine ⟨_, len, cap, (List.range len).map f, rfl, by simp, .inr ⟨b, off, rfl, lt_cell (hf2 0 (by omega)).1, fun i p hi => ?_⟩⟩
    have hil : i < len := by simpa using (List.getElem?_eq_some_iff.1 hi).1
    have : p = f i := by simpa [hil] using hi.symm
    rw [this]
    exact hf2 i hil
set_option maxRecDepth 100000 in
theorem open_boxes {r : Reach} {b0 : Nat} {v : Value} {d : DataW H} {p : List MemPlace} (hv : Value.okWide Try.prog w r b0 46 v) (h : DataW.Trod enc Try.prog w base (fun _ => true) held 46 v d p) :
    ∃ bo bn bc l, v = .slice bo bn bc ∧ l.length = bn ∧ RB (fun b => b < w.heap.size) w bo l := by
  obtain ⟨a0, len, cap, rfl⟩ := okWide_slice Try.underlying46 hv
  obtain ⟨fuel, hf⟩ := h
  obtain ⟨bo, bn, bc, l, e, h1, h2⟩ := boxes_cs (by simpa [Value.cells] using hf)
  simp at e
  exact ⟨bo, bn, bc, l, by simp [e], h1, h2⟩
end
end Go.Proofs.Ytjlahomjhadnkaa
