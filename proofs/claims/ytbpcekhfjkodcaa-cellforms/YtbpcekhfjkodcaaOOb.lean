/- How a node that came in as an argument is read; no statement of the seat is proved here. -/
import Derived.Test.YtbpcekhfjkodcaaOOa
import Derived.Test.YtbpcekhfjkodcaaAb
import Derived.SizedLaws
namespace Go.Proofs.Ytbpcekhfjkodcaa
open Go.ChangeShapes Go.WideShapes Go.ChangeAt Go.RowKit

section
variable {H : Type} {enc : TypeId × Value → H} {P : Program} {w : World} {base : Nat} {spare : Nat → Bool} {held : Bool}

theorem field_ofW {t : TypeId} {L : List (TypeId × Nat)} (h : (P.underlying t).bind shapeOf = some L) {fuel : Nat} {cs : List Value} {x : DataW H × List MemPlace}
    (hx : DataW.trod enc P w base spare held fuel t cs = some x) : cs.length = P.cellsOf t ∧ ∀ (i : Nat) (ty : TypeId) (off : Nat), L[i]? = some (ty, off) → ∃ y n, DataW.trod enc P w base spare held n ty ((cs.drop off).take (P.cellsOf ty)) = some y ∧ ∀ m ∈ y.1.weights P ty, m ∈ x.1.weights P t := by
  obtain ⟨fs, hu, hf⟩ := struct_of h
  obtain ⟨xs, n, _, rfl, hl, hxl, hi⟩ := DataW.trod_struct hu hx
  refine ⟨hl, fun i ty off hL => ?_⟩
  obtain ⟨f, h1, rfl, rfl⟩ := hf i ty off hL
  have h2 := hi i f h1
  have hlt : i < xs.length := by
    rw [hxl]; exact (Array.getElem?_eq_some_iff.1 h1).1
  refine ⟨xs[i], n, by rw [h2, List.getElem?_eq_getElem hlt], fun m hm => ?_⟩
  simp only [DataW.weights, hu]
  exact DataW.weights_mem_each (j := i) (t := f.type) (d := xs[i].1) (by rw [List.getElem?_map, Array.getElem?_toList, h1]; rfl) (by rw [List.getElem?_map, List.getElem?_eq_getElem hlt]; rfl) m hm

theorem weights_mem_all {e : TypeId} {d : DataW H} : ∀ {l : List (DataW H)}, d ∈ l → ∀ m ∈ d.weights P e, m ∈ DataW.weightsAll P e l
  | [], h, _, _ => by cases h
  | a :: r, h, m, hm => by
    simp only [DataW.weightsAll, List.mem_append]
    rcases List.mem_cons.1 h with rfl | h
    · exact Or.inl hm
    · exact Or.inr (weights_mem_all h m hm)

/-- The cells of a slice of bytes, as what the walks ask, and that it is not too long. -/
theorem rd_openW {t : TypeId} (ht : P.underlying t = some (.slice 5)) (he : P.underlying 5 = some (.int .u8)) (hc : P.cellsOf 5 = 1) (hb5 : P.bytesOf 5 = 1) {n : Nat} {cs : List Value} {y : DataW H × List MemPlace}
    (h : DataW.trod enc P w base (fun _ => true) held n t cs = some y) (hw : ∀ m ∈ y.1.weights P t, m ≤ reachBytes) :
    ∃ ao len cap xs, cs = [.slice ao len cap] ∧ Rd w ao len cap xs ∧ (∀ x ∈ xs, x < 256) ∧ len ≤ big := by
  obtain ⟨ao, len, cap, xs, hcs, hr, hx, _⟩ := rd_open ht he hc h
  refine ⟨ao, len, cap, xs, hcs, hr, hx, ?_⟩
  rcases DataW.trod_slice ht h with ⟨h1, _⟩ | ⟨a, len', cap', elems, rest, n', _, h1, rfl, _, _, _, hl, _⟩
  · rw [hcs] at h1
    simp only [List.cons.injEq, Value.slice.injEq, and_true] at h1
    unfold big; omega
  · rw [hcs] at h1
    simp only [List.cons.injEq, Value.slice.injEq, and_true] at h1
    obtain ⟨_, rfl, _⟩ := h1
    have := hw ((elems.length + rest.length) * 1) (by simp [DataW.weights, ht, hb5])
    have h2 : reachBytes < 2 ^ 47 := reachBytes_lt
    unfold big
    omega
end

theorem cell_shape : (Try.prog.underlying 57).bind shapeOf = some [(3, 0), (3, 1), (3, 2), (25, 3), (3, 4)] := by kernel_rfl
theorem node_shape : (Try.prog.underlying 24).bind shapeOf = some [(4, 0), (3, 1), (22, 2)] := by kernel_rfl

section
variable {H : Type} {enc : TypeId × Value → H} {w : World} {base : Nat} {held : Bool}

theorem one_cell9 {n : Nat} {cs : List Value} {y : DataW H × List MemPlace} (h : DataW.trod enc Try.prog w base (fun _ => true) held n 57 cs = some y) (hw : ∀ m ∈ y.1.weights Try.prog 57, m ≤ reachBytes) :
    ∃ a : C, cs[0]? = some (.int .i64 a.k) ∧ cs[1]? = some (.int .i64 a.c) ∧ cs[2]? = some (.int .i64 a.l) ∧ cs[3]? = some (.slice a.o a.n a.m) ∧ cs[4]? = some (.int .i64 a.x) ∧ Cok w a := by
  obtain ⟨_, hx⟩ := field_ofW cell_shape h
  obtain ⟨y0, n0, h0, _⟩ := hx 0 3 0 rfl
  obtain ⟨y1, n1, h1, _⟩ := hx 1 3 1 rfl
  obtain ⟨y2, n2, h2, _⟩ := hx 2 3 2 rfl
  obtain ⟨y3, n3, h3, w3⟩ := hx 3 25 3 rfl
  obtain ⟨y4, n4, h4, _⟩ := hx 4 3 4 rfl
  obtain ⟨k, hk, kw⟩ := int_at Try.underlying3 (by kernel_rfl) h0
  obtain ⟨c, hc, cw⟩ := int_at Try.underlying3 (by kernel_rfl) h1
  obtain ⟨l, hl, lw⟩ := int_at Try.underlying3 (by kernel_rfl) h2
  obtain ⟨x, hx4, xw⟩ := int_at Try.underlying3 (by kernel_rfl) h4
  obtain ⟨ao, len, cap, xs, hcs, hr, hb, hn⟩ := rd_openW Try.underlying25 Try.underlying5 (by kernel_rfl) (by kernel_rfl) h3 (fun m hm => hw m (w3 m hm))
  have hc3 : cs[3]? = some (.slice ao len cap) := by
    have h3 := congrArg (fun l : List Value => l[0]?) hcs
    rw [show Try.prog.cellsOf 25 = 1 by kernel_rfl] at h3
    simp at h3
    simpa using h3
  have b1 := bounds_i64 kw; have b2 := bounds_i64 cw; have b3 := bounds_i64 lw; have b4 := bounds_i64 xw
  have i1 : I64 k := ⟨by omega, by omega⟩
  have i2 : I64 c := ⟨by omega, by omega⟩
  have i3 : I64 l := ⟨by omega, by omega⟩
  have i4 : I64 x := ⟨by omega, by omega⟩
  exact ⟨⟨k, c, l, ao, len, cap, x, xs⟩, hk, hc, hl, hc3, hx4, { rd := hr, by8 := hb, kI := i1, cI := i2, lI := i3, xI := i4, nB := hn }⟩

theorem cells_open {n : Nat} {cs : List Value} {y : DataW H × List MemPlace} (h : DataW.trod enc Try.prog w base (fun _ => true) held n 22 cs = some y) (hw : ∀ m ∈ y.1.weights Try.prog 22, m ≤ reachBytes) :
    ∃ co cn cc l, cs = [.slice co cn cc] ∧ Cs w co cn cc l ∧ cn ≤ 9223372036854775807 := by
  rcases DataW.trod_slice Try.underlying22 h with ⟨rfl, _⟩ | ⟨a, len, cap, elems, rest, n', _, rfl, rfl, _, hl, hm, hlen, hel, _, _⟩
  · exact ⟨none, 0, 0, [], rfl, Cs.nil w, by omega⟩
  · rw [show Try.prog.cellsOf 57 = 5 by kernel_rfl] at hel
    have hww : ∀ y ∈ elems, ∀ m ∈ y.1.weights Try.prog 57, m ≤ reachBytes := fun y hy m hm => hw m (by
      simp only [DataW.weights, Try.underlying22, List.mem_cons, List.mem_append]
      exact Or.inr (Or.inl (weights_mem_all (List.mem_map.2 ⟨y, hy, rfl⟩) m hm)))
    have each : ∀ i, i < len → ∃ cs y, w.cells? base (a.add (i * 5)) 5 = some cs ∧ DataW.trod enc Try.prog w base (fun _ => true) held n' 57 cs = some y ∧ y ∈ elems := by
      intro i hi
      have h1 := hel i hi
      rw [List.getElem?_eq_getElem (by omega), Option.bind_eq_some_iff] at h1
      obtain ⟨cs, hc, ht⟩ := h1
      exact ⟨cs, _, hc, ht, List.getElem_mem _⟩
    by_cases h0 : len = 0
    · subst h0
      exact ⟨some a, 0, cap, [], rfl, ⟨rfl, by omega, fun e => (by cases e), fun hp => by omega, fun a h => by cases h⟩, by omega⟩
    obtain ⟨b, off, spot⟩ := a
    have hspot : spot = none := by
      obtain ⟨cs, y, hc, ht, hy⟩ := each 0 (by omega)
      obtain ⟨t, t0, _⟩ := one_cell9 ht (hww y hy)
      have h2 := (World.cells?_some hc).2.2 0 (by omega)
      rw [t0] at h2
      have := World.cell?_spot h2
      simpa [Addr.add] using this
    subst hspot
    have each2 : ∀ i, ∃ t : C, i < len → At5 w b (off + i * 5) t ∧ Cok w t := by
      intro i
      by_cases hi : i < len
      · obtain ⟨cs, y, hc, ht, hy⟩ := each i hi
        obtain ⟨t, t0, t1, t2, t3, t4, tr⟩ := one_cell9 ht (hww y hy)
        have h2 := (World.cells?_some hc).2.2
        refine ⟨t, fun _ => ⟨⟨?_, ?_, ?_, ?_, ?_⟩, tr⟩⟩
        · have := h2 0 (by omega); rw [t0, Addr.add_lit, Addr.add_lit] at this; simpa using this
        · have := h2 1 (by omega); rw [t1, Addr.add_lit, Addr.add_lit] at this; exact this
        · have := h2 2 (by omega); rw [t2, Addr.add_lit, Addr.add_lit] at this; exact this
        · have := h2 3 (by omega); rw [t3, Addr.add_lit, Addr.add_lit] at this; exact this
        · have := h2 4 (by omega); rw [t4, Addr.add_lit, Addr.add_lit] at this; exact this
      · exact ⟨default, fun h => absurd h hi⟩
    obtain ⟨f, hf2⟩ := Classical.axiomOfChoice each2
    refine ⟨_, len, cap, (List.range len).map f, rfl, ⟨by simp, hl, fun e => (by cases e), fun _ => ⟨b, off, rfl, fun t ht => ?_⟩, fun x hx => ?_⟩, by unfold maxLen at hm; omega⟩
    · have : ((List.range len).map f).getD t default = f t := by simp [List.getD, ht]
      rw [this]
      exact (hf2 t ht).1
    · obtain ⟨i, hi, rfl⟩ := List.mem_map.1 hx
      exact (hf2 i (by simpa using hi)).2

set_option maxRecDepth 100000 in
theorem open_node {r : Reach} {b0 : Nat} {v : Value} {d : DataW H} {p : List MemPlace} (hv : Value.okWide Try.prog w r b0 24 v) (h : DataW.Trod enc Try.prog w base (fun _ => true) held 24 v d p) (hw : ∀ m ∈ d.weights Try.prog 24, m ≤ reachBytes) :
    ∃ (leaf : Bool) (r : Int) (co : Option Addr) (cn cc : Nat) (cs : List C), v = .agg #[.bool leaf, .int .i64 r, .slice co cn cc] ∧ Cs w co cn cc cs ∧ cn ≤ 9223372036854775807 ∧ I64 r := by
  obtain ⟨fs, hu, _⟩ := struct_of node_shape
  simp only [Value.okWide, hu] at hv
  obtain ⟨cs', rfl, _⟩ := hv
  obtain ⟨cs, rfl⟩ : ∃ cs : List Value, cs' = cs.toArray := ⟨cs'.toList, by simp⟩
  obtain ⟨fuel, hf⟩ := h
  have hf' : DataW.trod enc Try.prog w base (fun _ => true) held fuel 24 cs = some (d, p) := by simpa [Value.cells] using hf
  obtain ⟨hl, hx⟩ := field_ofW node_shape hf'
  rw [show Try.prog.cellsOf 24 = 3 by kernel_rfl] at hl
  obtain ⟨y0, n0, h0, _⟩ := hx 0 4 0 rfl
  obtain ⟨y1, n1, h1, _⟩ := hx 1 3 1 rfl
  obtain ⟨y2, n2, h2, w2⟩ := hx 2 22 2 rfl
  obtain ⟨b, hb⟩ := bool_at Try.underlying4 (by kernel_rfl) h0
  obtain ⟨z, hz, zw⟩ := int_at Try.underlying3 (by kernel_rfl) h1
  obtain ⟨co, cn, cc, l, hcs, hC, hn⟩ := cells_open h2 (fun m hm => hw m (w2 m hm))
  have hc2 : cs[2]? = some (.slice co cn cc) := by
    have h3 := congrArg (fun l : List Value => l[0]?) hcs
    rw [show Try.prog.cellsOf 22 = 1 by kernel_rfl] at h3
    simp at h3
    simpa using h3
  have bz := bounds_i64 zw
  clear hf hf' hx h0 h1 h2 hcs w2 hw hu
  match cs, hl with
  | [c0, c1, c2], _ =>
    simp at hb hz hc2
    exact ⟨b, z, co, cn, cc, l, by rw [hb, hz, hc2], hC, hn, ⟨by omega, by omega⟩⟩
end

end Go.Proofs.Ytbpcekhfjkodcaa
