/- How a shape and two slices of bytes come in, and the law WkbBack; no statement of the seat is proved here. -/
import Derived.Test.YtjieegnmofimkaaDoorHa
import Derived.Test.YtjieegnmofimkaaDoorCd
import Derived.Test.YtjieegnmofimkaaDoorOa
import Derived.LaidMore
namespace Go.Proofs.YtjieegnmofimkaaDoor
open Go.ChangeShapes Go.WideShapes Go.ChangeAt Go.RowKit

theorem Rg.mk' {k : Int} {xo : Option Addr} {xn xc : Nat} {l : List (Int × Int)} {po : Option Addr} {pn pc : Nat} {ps : List Sh} (h : ∀ p ∈ l, InR p) (hp : ∀ p ∈ ps, Rg p) : Rg (.mk k xo xn xc l po pn pc ps) := by
  intro q hq
  rw [nodes_eq] at hq
  rcases List.mem_cons.1 hq with rfl | hq
  · exact h
  · have key : ∀ m : List Sh, (∀ p ∈ m, Rg p) → q ∈ nodesL m → ∀ p ∈ q.xy, InR p := by
      intro m
      induction m with
      | nil => intro _ h; rw [nodesL] at h; cases h
      | cons a r ih =>
        intro hm h
        rw [nodesL, List.mem_append] at h
        rcases h with h | h
        · exact hm a (by simp) q h
        · exact ih (fun p hp => hm p (by simp [hp])) h
    exact key ps hp hq

section
variable {H : Type} {enc : TypeId × Value → H} {w : World} {base : Nat} {held : Bool}

theorem one_ptR {n : Nat} {cs : List Value} {y : DataW H × List MemPlace} (h : DataW.trod enc Tryd.prog w base (fun _ => true) held n 56 cs = some y) :
    ∃ a : Int × Int, cs[0]? = some (.int .i64 a.1) ∧ cs[1]? = some (.int .i64 a.2) ∧ InR a := by
  obtain ⟨_, hx⟩ := field_ofW point_shape h
  obtain ⟨y0, n0, _, h0, _⟩ := hx 0 3 0 rfl
  obtain ⟨y1, n1, _, h1, _⟩ := hx 1 3 1 rfl
  obtain ⟨k, hk, b0⟩ := int_at Tryd.underlying3 co3 h0
  obtain ⟨c, hc, b1⟩ := int_at Tryd.underlying3 co3 h1
  have c0 := bounds_i64' b0
  have c1 := bounds_i64' b1
  exact ⟨(k, c), hk, hc, ⟨by unfold NW; omega, by omega⟩, ⟨by unfold NW; omega, by omega⟩⟩
theorem pts_openR {n : Nat} {cs : List Value} {y : DataW H × List MemPlace} (h : DataW.trod enc Tryd.prog w base (fun _ => true) held n 22 cs = some y) (hw : ∀ m ∈ y.1.weights Tryd.prog 22, m ≤ reachBytes) :
    ∃ xo xn xc l, cs = [.slice xo xn xc] ∧ l.length = xn ∧ xn ≤ xc ∧ xn * 16 ≤ 140737488355328 ∧ (xo = none → xn = 0 ∧ xc = 0) ∧ XR (fun b => b < w.heap.size) w xo l ∧ ∀ p ∈ l, InR p := by
  rcases DataW.trod_slice Tryd.underlying22 h with ⟨rfl, _⟩ | ⟨a, len, cap, elems, rest, n', _, rfl, rfl, _, hl, hm, hlen, hel, _, _⟩
  · exact ⟨none, 0, 0, [], rfl, rfl, by omega, by omega, fun _ => ⟨rfl, rfl⟩, .inl rfl, fun p hp => by cases hp⟩
  · rw [co41] at hel
    have hb : len * 16 ≤ 140737488355328 := by
      have := hw ((elems.length + rest.length) * 16) (by simp [DataW.weights, Tryd.underlying22, by41])
      have h2 : reachBytes < 2 ^ 47 := reachBytes_lt
      omega
    have each : ∀ i, i < len → ∃ cs y, w.cells? base (a.add (i * 2)) 2 = some cs ∧ DataW.trod enc Tryd.prog w base (fun _ => true) held n' 56 cs = some y := by
      intro i hi
      have h1 := hel i hi
      rw [List.getElem?_eq_getElem (by omega), Option.bind_eq_some_iff] at h1
      obtain ⟨cs, hc, ht⟩ := h1
      exact ⟨cs, _, hc, ht⟩
    by_cases h0 : len = 0
    · subst h0
      exact ⟨some a, 0, cap, [], rfl, rfl, by omega, by omega, fun e => (by cases e), .inl rfl, fun p hp => by cases hp⟩
    obtain ⟨b, off, spot⟩ := a
    have hspot : spot = none := by
      obtain ⟨cs, y, hc, ht⟩ := each 0 (by omega)
      obtain ⟨t, t0, _⟩ := one_ptR ht
      have h2 := (World.cells?_some hc).2.2 0 (by omega)
      rw [t0] at h2
      have := World.cell?_spot h2
      simpa [Addr.add] using this
    subst hspot
    have each2 : ∀ i, ∃ t : Int × Int, i < len → w.cell? ⟨b, off + i * 2, none⟩ = some (.int .i64 t.1) ∧ w.cell? ⟨b, off + i * 2 + 1, none⟩ = some (.int .i64 t.2) ∧ InR t := by
      intro i
      by_cases hi : i < len
      · obtain ⟨cs, y, hc, ht⟩ := each i hi
        obtain ⟨t, t0, t1, tr⟩ := one_ptR ht
        have h2 := (World.cells?_some hc).2.2
        refine ⟨t, fun _ => ⟨?_, ?_, tr⟩⟩
        · have := h2 0 (by omega); rw [t0, Addr.add_lit, Addr.add_lit] at this; simpa using this
        · have := h2 1 (by omega); rw [t1, Addr.add_lit, Addr.add_lit] at this; exact this
      · exact ⟨(0, 0), fun h => absurd h hi⟩
    obtain ⟨f, hf2⟩ := Classical.axiomOfChoice each2
    refine ⟨_, len, cap, (List.range len).map f, rfl, by simp, hl, hb, fun e => (by cases e), .inr ⟨b, off, rfl, lt_cell (hf2 0 (by omega)).1, fun i p hi => ?_⟩, fun p hp => by obtain ⟨i, hi, rfl⟩ := List.mem_map.1 hp; exact (hf2 i (by simpa using hi)).2.2⟩
    have hil : i < len := by simpa using (List.getElem?_eq_some_iff.1 hi).1
    have : p = f i := by simpa [hil] using hi.symm
    rw [this]
    exact ⟨(hf2 i hil).1, (hf2 i hil).2.1⟩
set_option maxRecDepth 100000 in
theorem open_shR : ∀ (n : Nat) (cs : List Value) (y : DataW H × List MemPlace), DataW.trod enc Tryd.prog w base (fun _ => true) held n 25 cs = some y → (∀ m ∈ y.1.weights Tryd.prog 25, m ≤ reachBytes) →
    ∃ s : Sh, cs = [.int .i64 (s).k, .slice (s).xo (s).xn (s).xc, .slice (s).po (s).pn (s).pc] ∧ In (fun b => b < w.heap.size) w s ∧ Rg s := by
  intro n
  induction n using Nat.strongRecOn with
  | _ n ih =>
    intro cs y h hw
    obtain ⟨hlen3, hx⟩ := field_ofW sh_shape h
    rw [co25] at hlen3
    obtain ⟨y0, n0, _, h0, _⟩ := hx 0 3 0 rfl
    obtain ⟨y1, n1, _, h1, w1⟩ := hx 1 22 1 rfl
    obtain ⟨y2, n2, l2, h2, w2⟩ := hx 2 23 2 rfl
    obtain ⟨k, hk, kw⟩ := int_at Tryd.underlying3 co3 h0
    obtain ⟨xo, xn, xc, l, hxs, xl, xm, xb, x0, xr, xg⟩ := pts_openR h1 (fun m hm => hw m (w1 m hm))
    have hc1 := at_off co22 hxs
    have kb := bounds_i64' kw
    have parts : ∃ po pn pc ps, cs[2]? = some (.slice po pn pc) ∧ ps.length = pn ∧ pn ≤ pc ∧ pn * 56 ≤ 140737488355328 ∧ (po = none → pn = 0 ∧ pc = 0) ∧ PR (fun b => b < w.heap.size) w po ps ∧ ∀ p ∈ ps, In (fun b => b < w.heap.size) w p ∧ Rg p := by
      rcases DataW.trod_slice Tryd.underlying23 h2 with ⟨e, _⟩ | ⟨a, len, cap, elems, rest, n', hn', e, hy, _, hl, hm, hlen, hel, _, _⟩
      · exact ⟨none, 0, 0, [], at_off co23 e, rfl, by omega, by omega, fun _ => ⟨rfl, rfl⟩, .inl rfl, fun p hp => by cases hp⟩
      · have hc2 := at_off co23 e
        rw [co25] at hel
        have hb : len * 56 ≤ 140737488355328 := by
          have := hw ((elems.length + rest.length) * 56) (w2 _ (by rw [hy]; simp [DataW.weights, Tryd.underlying23, by25]))
          have h2 : reachBytes < 2 ^ 47 := reachBytes_lt
          omega
        have hww : ∀ z ∈ elems, ∀ m ∈ z.1.weights Tryd.prog 25, m ≤ reachBytes := fun z hz m hm => hw m (w2 m (by
          rw [hy]
          simp only [DataW.weights, Tryd.underlying23, List.mem_cons, List.mem_append]
          exact Or.inr (Or.inl (weights_mem_all (List.mem_map.2 ⟨z, hz, rfl⟩) m hm))))
        have each : ∀ i, i < len → ∃ cs z, w.cells? base (a.add (i * 3)) 3 = some cs ∧ DataW.trod enc Tryd.prog w base (fun _ => true) held n' 25 cs = some z ∧ z ∈ elems := by
          intro i hi
          have h1 := hel i hi
          rw [List.getElem?_eq_getElem (by omega), Option.bind_eq_some_iff] at h1
          obtain ⟨cs, hc, ht⟩ := h1
          exact ⟨cs, _, hc, ht, List.getElem_mem _⟩
        by_cases h0 : len = 0
        · subst h0
          exact ⟨some a, 0, cap, [], hc2, rfl, by omega, by omega, fun e => (by cases e), .inl rfl, fun p hp => by cases hp⟩
        obtain ⟨b, off, spot⟩ := a
        have hspot : spot = none := by
          obtain ⟨cs, z, hc, ht, hz⟩ := each 0 (by omega)
          obtain ⟨t, rfl, _⟩ := ih n' (by omega) cs z ht (hww z hz)
          have h2 := (World.cells?_some hc).2.2 0 (by omega)
          have := World.cell?_spot (v := .int .i64 t.k) (by simpa using h2)
          simpa [Addr.add] using this
        subst hspot
        have each2 : ∀ i, ∃ t : Sh, i < len → At3 w b (off + i * 3) t ∧ In (fun b => b < w.heap.size) w t ∧ Rg t := by
          intro i
          by_cases hi : i < len
          · obtain ⟨cs, z, hc, ht, hz⟩ := each i hi
            obtain ⟨t, rfl, ti⟩ := ih n' (by omega) cs z ht (hww z hz)
            have h2 := (World.cells?_some hc).2.2
            refine ⟨t, fun _ => ⟨⟨?_, ?_, ?_⟩, ti⟩⟩
            · have := h2 0 (by omega); rw [Addr.add_lit, Addr.add_lit] at this; simpa using this
            · have := h2 1 (by omega); rw [Addr.add_lit, Addr.add_lit] at this; exact this
            · have := h2 2 (by omega); rw [Addr.add_lit, Addr.add_lit] at this; exact this
          · exact ⟨default, fun h => absurd h hi⟩
        obtain ⟨f, hf2⟩ := Classical.axiomOfChoice each2
        refine ⟨_, len, cap, (List.range len).map f, hc2, by simp, hl, hb, fun e => (by cases e), .inr ⟨b, off, rfl, lt_cell (hf2 0 (by omega)).1.1, fun i p hi => ?_⟩, fun p hp => ?_⟩
        · have hil : i < len := by simpa using (List.getElem?_eq_some_iff.1 hi).1
          have : p = f i := by simpa [hil] using hi.symm
          rw [this]
          exact (hf2 i hil).1
        · obtain ⟨i, hi, rfl⟩ := List.mem_map.1 hp
          exact (hf2 i (by simpa using hi)).2
    obtain ⟨po, pn, pc, ps, hc2, pl, pm, pb, p0, pr, pin⟩ := parts
    refine ⟨.mk k xo xn xc l po pn pc ps, ?_, In.mk' { kI := kb, xl := xl, xm := xm, xb := xb, x0 := x0, xr := xr, pl := pl, pm := pm, pb := pb, p0 := p0, pr := pr } fun p hp => (pin p hp).1, Rg.mk' xg fun p hp => (pin p hp).2⟩
    obtain ⟨c0, c1, c2, rfl⟩ : ∃ a b c, cs = [a, b, c] := by
      match cs, hlen3 with
      | [a, b, c], _ => exact ⟨a, b, c, rfl⟩
    have a0 : c0 = _ := Option.some.inj hk
    have a1 : c1 = _ := Option.some.inj hc1
    have a2 : c2 = _ := Option.some.inj hc2
    rw [a0, a1, a2]
    rfl

set_option maxRecDepth 100000 in
theorem open_shapeR {r : Reach} {b0 : Nat} {v : Value} {d : DataW H} {p : List MemPlace} (hv : Value.okWide Tryd.prog w r b0 25 v) (h : DataW.Trod enc Tryd.prog w base (fun _ => true) held 25 v d p) (hw : ∀ m ∈ d.weights Tryd.prog 25, m ≤ reachBytes) :
    ∃ s : Sh, v = .agg #[.int .i64 (s).k, .slice (s).xo (s).xn (s).xc, .slice (s).po (s).pn (s).pc] ∧ In (fun b => b < w.heap.size) w s ∧ Rg s := by
  obtain ⟨fs, hu, _⟩ := struct_of sh_shape
  simp only [Value.okWide, hu] at hv
  obtain ⟨cs', rfl, _⟩ := hv
  obtain ⟨cs, rfl⟩ : ∃ cs : List Value, cs' = cs.toArray := ⟨cs'.toList, by simp⟩
  obtain ⟨fuel, hf⟩ := h
  have hf' : DataW.trod enc Tryd.prog w base (fun _ => true) held fuel 25 cs = some (d, p) := by simpa [Value.cells] using hf
  obtain ⟨s, rfl, hs⟩ := open_shR fuel cs _ hf' hw
  exact ⟨s, rfl, hs⟩
end
end Go.Proofs.YtjieegnmofimkaaDoor

namespace Go.Proofs.YtjieegnmofimkaaDoor
open Go.ChangeShapes Go.WideShapes Go.ChangeAt Go.RowKit
section
variable {H : Type} {enc : TypeId × Value → H} {P : Program} {w : World} {base : Nat} {held : Bool}
theorem bounds_u8' {z : Int} (h : (Lit.int .u8 z).wf = true) : 0 ≤ z ∧ z < 256 := by
  simp [Lit.wf, IntKind.min, IntKind.max, IntKind.bits, IntKind.signed] at h
  omega

/-- The cells of a slice of bytes, as what the walks ask. -/
theorem rd_open {t : TypeId} (ht : P.underlying t = some (.slice 5)) (he : P.underlying 5 = some (.int .u8)) (hc : P.cellsOf 5 = 1) {n : Nat} {cs : List Value} {y : DataW H × List MemPlace}
    (h : DataW.trod enc P w base (fun _ => true) held n t cs = some y) :
    ∃ ao len cap xs, cs = [.slice ao len cap] ∧ Rd w ao len cap xs ∧ (∀ x ∈ xs, x < 256) ∧ len ≤ 9223372036854775807 := by
  rcases open_ints ht he hc h with ⟨rfl, _⟩ | ⟨a, len, cap, zs, rfl, _, hl, hm, hz, _, hcell, hwz⟩
  · exact ⟨none, 0, 0, [], rfl, Rd.nil w, by simp, by omega⟩
  · simp at hz
    refine ⟨some a, len, cap, (zs.take len).map Int.toNat, rfl, ⟨by simp; omega, hl, fun h => (by cases h), fun hp => ?_⟩, ?_, by unfold maxLen at hm; omega⟩
    · obtain ⟨b, off, spot⟩ := a
      have hc0 := hcell 0 (by omega)
      have hspot : spot = none := by simpa [Addr.add] using World.cell?_spot hc0
      subst hspot
      refine ⟨b, off, rfl, fun t ht => ?_⟩
      have hct := hcell t (by omega)
      rw [Addr.add_lit] at hct
      rw [hct]
      have hb := bounds_u8' (hwz (zs.getD t 0) (by rw [List.getD_eq_getElem?_getD, List.getElem?_eq_getElem (show t < zs.length by omega)]; simp))
      simp [List.getD, List.getElem?_map, ht, List.getElem?_eq_getElem (show t < zs.length by omega)] at hb ⊢
      omega
    · intro x hx
      obtain ⟨z, hz, rfl⟩ := List.mem_map.1 hx
      have := bounds_u8' (hwz z (List.mem_of_mem_take hz))
      omega


end
set_option maxRecDepth 100000 in
/-- Two slices of bytes that came in as an array. -/
theorem open_two {H : Type} {enc : TypeId × Value → H} {w : World} {base : Nat} {held : Bool} {r : Reach} {b0 : Nat} {v : Value} {d : DataW H} {p : List MemPlace}
    (hv : Value.okWide Tryd.prog w r b0 45 v) (h : DataW.Trod enc Tryd.prog w base (fun _ => true) held 45 v d p) :
    ∃ ao an ac xs bo bn bc ys, v = .agg #[.slice ao an ac, .slice bo bn bc] ∧ (Rd w ao an ac xs ∧ ∀ x ∈ xs, x < 256) ∧ (Rd w bo bn bc ys ∧ ∀ x ∈ ys, x < 256) := by
  have u45 : Tryd.prog.underlying 45 = some (.array 2 27) := by kernel_rfl
  have c45 : Tryd.prog.cellsOf 45 = 2 := by kernel_rfl
  have c27 : Tryd.prog.cellsOf 27 = 1 := by kernel_rfl
  have c5 : Tryd.prog.cellsOf 5 = 1 := by kernel_rfl
  simp only [Value.okWide, u45] at hv
  obtain ⟨cs, rfl, hsz, _⟩ := hv
  obtain ⟨fuel, hf⟩ := h
  obtain ⟨zs, m, _, _, hl, hx, hi⟩ := DataW.trod_array u45 hf
  have e : ∀ i, i < 2 → ∃ ao an ac xs, ((cs.toList.drop i).take 1) = [.slice ao an ac] ∧ Rd w ao an ac xs ∧ ∀ x ∈ xs, x < 256 := by
    intro i hin
    have h1 := hi i hin
    rw [c27, Nat.mul_one, List.getElem?_eq_getElem (by omega)] at h1
    obtain ⟨ao, an, ac, xs, h2, h3, h4, -⟩ := rd_open Tryd.underlying27 Tryd.underlying5 c5 h1
    exact ⟨ao, an, ac, xs, by simpa [Value.cells] using h2, h3, h4⟩
  obtain ⟨ao, an, ac, xs, a1, a2, a3⟩ := e 0 (by omega)
  obtain ⟨bo, bn, bc, ys, b1, b2, b3⟩ := e 1 (by omega)
  refine ⟨ao, an, ac, xs, bo, bn, bc, ys, ?_, ⟨a2, a3⟩, ⟨b2, b3⟩⟩
  have hs : cs.toList.length = 2 := by simp [hsz, c45]
  obtain ⟨l⟩ := cs
  match l, hs with
  | [x, y], _ =>
    simp at a1 b1
    rw [a1, b1]
end Go.Proofs.YtjieegnmofimkaaDoor

namespace Go.Proofs.YtjieegnmofimkaaDoor
open Go.RowKit Go.Maps

theorem row_some {w : World} {B n cap : Nat} {o : Option Addr} {xs : List Value} (h : w.ownsRow B 5 1 (.slice o n cap) n xs) (hn : 0 < n) : ∃ g, o = some ⟨g, 0, none⟩ := by
  rcases h.2 with ⟨h1, h2⟩ | ⟨g', cap', cur, h1, _⟩
  · simp at h1 h2; omega
  · simp only [Value.slice.injEq] at h1; exact ⟨g', h1.1⟩
theorem own_empty (W : World) (B : Nat) (h : B ≤ W.heap.size) : ((W.alloc (.cells #[.int .i64 0, .slice none 0 0, .slice none 0 0] 25)).alloc (.cells #[] 5)).ownsRow B 5 1 (.slice (some ⟨W.heap.size + 1, 0, none⟩) 0 0) 0 (bs []) := by
  have := World.ownsRow_made (base := B) (e := 5) (size := 1) (W.alloc (.cells #[.int .i64 0, .slice none 0 0, .slice none 0 0] 25)) #[] 0 (by rw [World.size_alloc]; omega) (by decide) rfl
  rw [World.size_alloc] at this
  exact this
theorem size_pos (l : Bool) (s : Sh) : 4 ≤ sizeI (s.t.items l) := by
  by_cases h0 : s.k = 0
  · rw [ring_items l s.t (by rw [t_k, h0]), sizeI_cons]; simp only; omega
  · have e1 : sizeI [(if l then 1 else 0, 1), (U s.t.k, 4)] = 5 := rfl
    by_cases h1 : s.k = 1
    · rw [items_point l s.t (by rw [t_k, h1]), sizeI_append, e1]; omega
    · by_cases h2 : s.k = 2
      · rw [items_line l s.t (by rw [t_k, h2]), sizeI_append, e1]; omega
      · rw [items_other l s.t (by rw [t_k]; exact ⟨h0, h1, h2⟩), sizeI_append, e1]; omega

theorem ord_bytes (l : Bool) (t : T) (h : t.k ≠ 0) (xs : List Nat) : ordV (bytesI l (t.items l) ++ xs) = (l, true) := by
  rw [items_eq, if_neg h, List.cons_append, bytesI_cons]
  have : putN (if l then 1 else 0) 1 l = [if l then 1 else 0] := by cases l <;> decide
  rw [this]
  cases l <;> rfl
theorem bx2 (w : World) (a b : Value) : Bo (w.alloc (.cells #[a, b] 45)) w.heap.size #[a, b] 45 := Bo.new w _ _
set_option maxRecDepth 100000 in
set_option maxHeartbeats 4000000 in
theorem back_big (s : Sh) (l : Bool) (ao bo : Option Addr) (an ac bn bc : Nat) (w : World) (hT : Tab w) (hb : 500 < an ∨ 20000 < bn) :
    Calls Tryd.prog 5 #[.agg #[.int .i64 (s).k, .slice (s).xo (s).xn (s).xc, .slice (s).po (s).pn (s).pc], .bool l, .agg #[.slice ao an ac, .slice bo bn bc]] w fun e w' => e = .returned (.bool true) ∧ Below w.heap.size w w' := by
  have hg0 : Below w.heap.size w (w.alloc (.cells #[.int .i64 (s).k, .slice (s).xo (s).xn (s).xc, .slice (s).po (s).pn (s).pc] 25)) := ext1 _
  have hg : Below w.heap.size w ((w.alloc (.cells #[.int .i64 (s).k, .slice (s).xo (s).xn (s).xc, .slice (s).po (s).pn (s).pc] 25)).alloc (.cells #[.slice ao an ac, .slice bo bn bc] 45)) := gt hg0 (ext1 _)
  have HG := hid hg
  have BX := hid ((Bx.new w s).keep (ext1 (.cells #[.slice ao an ac, .slice bo bn bc] 45)))
  have BB := hid (bx2 (w.alloc (.cells #[.int .i64 (s).k, .slice (s).xo (s).xn (s).xc, .slice (s).po (s).pn (s).pc] 25)) (.slice ao an ac) (.slice bo bn bc))
  have LV := hid (fun W (hb : Below w.heap.size w W) => lives_call W (hT.keep hb))
  have HT := hid (fun W (hb : Below w.heap.size w W) => hT.keep hb)
  have X2 := BB.out.cell 0 _ rfl
  have Y2 := BB.out.cell 1 _ rfl
  simp only [World.size_alloc] at X2 Y2
  have HD := hid (HG.out.trans ((Below.refl _ _).drew.mono HG.out.size))
  clear hT hg0 hg
  by_cases h5 : 500 < an
  · have hA : (500 : Int) < (an : Int) := by omega
    clear hb
    go_enter Tryd.func5, Tryd.ntmps5
    go_wp2
    refine wp_region_K (S := (fun W => W.cell? ⟨w.heap.size + 1, 0, none⟩ = some (.slice ao an ac) ∧ W.cell? ⟨w.heap.size + 1, 1, none⟩ = some (.slice bo bn bc))) (fun _ => false) (by kernel_rfl) (by exact ⟨X2, Y2⟩) (fun hHeld => ?_)
    refine gkp 0 ?_
    refine gkt 1 ?_ (h := by intro W hSw; obtain ⟨r0, r1⟩ := hSw; go_simp; first | done | with_reducible rfl)
    refine gkp 2 ?_
    refine gkt 3 ?_ (h := by intro W hSw; obtain ⟨r0, r1⟩ := hSw; go_simp; first | done | with_reducible rfl)
    refine gkp 4 ?_
    refine gkp 5 ?_
    refine wpAnyK_done (by kernel_rfl) ?_ _
    go_wp2_with (go_at_call 11; refine (LV.out _ HD.out).mono ?_; rintro e w6 ⟨rfl, b6⟩; have H6 := hid (gt HD.out b6); clear b6)
    go_ret
    exact ⟨rfl, H6.out⟩
  · have hA : ¬ (500 : Int) < (an : Int) := by omega
    have hB : (20000 : Int) < (bn : Int) := by omega
    clear hb
    go_enter Tryd.func5, Tryd.ntmps5
    go_wp2
    refine wp_region_K (S := (fun W => W.cell? ⟨w.heap.size + 1, 0, none⟩ = some (.slice ao an ac) ∧ W.cell? ⟨w.heap.size + 1, 1, none⟩ = some (.slice bo bn bc))) (fun _ => false) (by kernel_rfl) (by exact ⟨X2, Y2⟩) (fun hHeld => ?_)
    refine gkp 0 ?_
    refine gkt 1 ?_ (h := by intro W hSw; obtain ⟨r0, r1⟩ := hSw; go_simp; first | done | with_reducible rfl)
    refine gkp 2 ?_
    refine gkt 3 ?_ (h := by intro W hSw; obtain ⟨r0, r1⟩ := hSw; go_simp; first | done | with_reducible rfl)
    refine gkp 4 ?_
    refine gkp 5 ?_
    refine wpAnyK_done (by kernel_rfl) ?_ _
    go_wp2_with (go_at_call 11; refine (LV.out _ HD.out).mono ?_; rintro e w6 ⟨rfl, b6⟩; have H6 := hid (gt HD.out b6); clear b6)
    go_ret
    exact ⟨rfl, H6.out⟩

set_option maxRecDepth 100000 in
set_option maxHeartbeats 4000000 in
theorem back_bad0 (s : Sh) (l : Bool) (ao bo : Option Addr) (an ac bn bc : Nat) (ys : List Nat) (w : World) (hT : Tab w) (h : In (fun b => b < w.heap.size) w s) (rb : Rd w bo bn bc ys) (hy : ∀ x ∈ ys, x < 256) (ha5 : an ≤ 500) (hb2 : bn ≤ 20000) (e : Nat) (hd : R0 ys = .bad e) (hc : checkN s ≠ 0) :
    Calls Tryd.prog 5 #[.agg #[.int .i64 (s).k, .slice (s).xo (s).xn (s).xc, .slice (s).po (s).pn (s).pc], .bool l, .agg #[.slice ao an ac, .slice bo bn bc]] w fun e w' => e = .returned (.bool true) ∧ Below w.heap.size w w' := by
  have hg0 : Below w.heap.size w (w.alloc (.cells #[.int .i64 (s).k, .slice (s).xo (s).xn (s).xc, .slice (s).po (s).pn (s).pc] 25)) := ext1 _
  have hg : Below w.heap.size w ((w.alloc (.cells #[.int .i64 (s).k, .slice (s).xo (s).xn (s).xc, .slice (s).po (s).pn (s).pc] 25)).alloc (.cells #[.slice ao an ac, .slice bo bn bc] 45)) := gt hg0 (ext1 _)
  have HG := hid hg
  have BX := hid ((Bx.new w s).keep (ext1 (.cells #[.slice ao an ac, .slice bo bn bc] 45)))
  have BB := hid (bx2 (w.alloc (.cells #[.int .i64 (s).k, .slice (s).xo (s).xn (s).xc, .slice (s).po (s).pn (s).pc] 25)) (.slice ao an ac) (.slice bo bn bc))
  have LV := hid (fun W (hb : Below w.heap.size w W) => lives_call W (hT.keep hb))
  have HT := hid (fun W (hb : Below w.heap.size w W) => hT.keep hb)
  have X2 := BB.out.cell 0 _ rfl
  have Y2 := BB.out.cell 1 _ rfl
  simp only [World.size_alloc] at X2 Y2
  have HD := hid (HG.out.trans ((Below.refl _ _).drew.mono HG.out.size))
  have BXD := hid (BX.out.keep (Below.refl _ _).drew)
  have hA : ¬ (500 : Int) < (an : Int) := by omega
  have hB : ¬ (20000 : Int) < (bn : Int) := by omega
  have RF := hid (fun W (hb : Below w.heap.size w W) => refCheck_call s W (h.grow hb))
  have ES := hid (fun W (hb : Below w.heap.size w W) => encode_call s l W (hT.keep hb) (h.grow hb))
  have RC := hid (fun W (hb : Below w.heap.size w W) => read_bad bo bn bc ys W (hT.keep hb) (rb.keep hb) hy (by omega) e hd)
  have E0 := hid (show encB s l = [] by unfold encB; rw [if_neg hc])
  rw [E0.out] at ES
  generalize checkN s = ck at *
  have hck : (ck == 0) = false := by simp; exact hc
  have hck' : (ck != 0) = true := by simp; exact hc
  clear hd
  clear h hT hg0 hg rb hy hc
  go_enter Tryd.func5, Tryd.ntmps5
  go_wp2
  refine wp_region_K (S := (fun W => W.cell? ⟨w.heap.size + 1, 0, none⟩ = some (.slice ao an ac) ∧ W.cell? ⟨w.heap.size + 1, 1, none⟩ = some (.slice bo bn bc))) (fun _ => false) (by kernel_rfl) (by exact ⟨X2, Y2⟩) (fun hHeld => ?_)
  refine gkp 0 ?_
  refine gkt 1 ?_ (h := by intro W hSw; obtain ⟨r0, r1⟩ := hSw; go_simp; first | done | with_reducible rfl)
  refine gkp 2 ?_
  refine gkt 3 ?_ (h := by intro W hSw; obtain ⟨r0, r1⟩ := hSw; go_simp; first | done | with_reducible rfl)
  refine gkp 4 ?_
  refine gkp 5 ?_
  refine wpAnyK_done (by kernel_rfl) ?_ _
  go_wp2_with (first
    | (go_at_call 15; refine (RC.out _ HD.out).mono ?_; rintro x w2 ⟨rfl, he, b2⟩; have hne : ((e : Int) == 0) = false := (by simp; omega); have H5 := hid (gt (gt HD.out b2) (ext1 (.cells #[.int .i64 0, .slice none 0 0, .slice none 0 0] 25))); have X5 := hid ((BXD.out.keep b2).keep (ext1 (.cells #[.int .i64 0, .slice none 0 0, .slice none 0 0] 25))); obtain ⟨x0, x1, x2⟩ := X5.out.cells; clear b2)
    | (go_at_call 19; refine (RF.out _ H5.out).mono ?_; rintro x w6 ⟨rfl, b6⟩; have H6 := hid (gt H5.out b6); have X6 := hid (X5.out.keep b6); obtain ⟨x0, x1, x2⟩ := X6.out.cells; clear b6)
    | (go_at_call 9; refine (ES.out _ H6.out).mono ?_; rintro x w7 ⟨a7, n7, c7, rfl, o7, -, b7⟩; obtain rfl : n7 = 0 := (by have := o7.1; simpa [bs] using this.symm); have H7 := hid (gt H6.out b7); clear b7 o7)
    | (go_at_call 11; refine (LV.out _ H7.out).mono ?_; rintro x w8 ⟨rfl, b8⟩; have H8 := hid (gt H7.out b8); clear b8))
  go_ret
  exact ⟨rfl, H8.out⟩

set_option maxRecDepth 100000 in
set_option maxHeartbeats 4000000 in
theorem back_ok0 (s : Sh) (l : Bool) (ao bo : Option Addr) (an ac bn bc : Nat) (ys : List Nat) (w : World) (hT : Tab w) (h : In (fun b => b < w.heap.size) w s) (rb : Rd w bo bn bc ys) (hy : ∀ x ∈ ys, x < 256) (ha5 : an ≤ 500) (hb2 : bn ≤ 20000) (t : T) (s1 : St) (hd : R0 ys = .ok t s1) (hc : checkN s ≠ 0) :
    Calls Tryd.prog 5 #[.agg #[.int .i64 (s).k, .slice (s).xo (s).xn (s).xc, .slice (s).po (s).pn (s).pc], .bool l, .agg #[.slice ao an ac, .slice bo bn bc]] w fun e w' => e = .returned (.bool true) ∧ Below w.heap.size w w' := by
  have hg0 : Below w.heap.size w (w.alloc (.cells #[.int .i64 (s).k, .slice (s).xo (s).xn (s).xc, .slice (s).po (s).pn (s).pc] 25)) := ext1 _
  have hg : Below w.heap.size w ((w.alloc (.cells #[.int .i64 (s).k, .slice (s).xo (s).xn (s).xc, .slice (s).po (s).pn (s).pc] 25)).alloc (.cells #[.slice ao an ac, .slice bo bn bc] 45)) := gt hg0 (ext1 _)
  have HG := hid hg
  have BX := hid ((Bx.new w s).keep (ext1 (.cells #[.slice ao an ac, .slice bo bn bc] 45)))
  have BB := hid (bx2 (w.alloc (.cells #[.int .i64 (s).k, .slice (s).xo (s).xn (s).xc, .slice (s).po (s).pn (s).pc] 25)) (.slice ao an ac) (.slice bo bn bc))
  have LV := hid (fun W (hb : Below w.heap.size w W) => lives_call W (hT.keep hb))
  have HT := hid (fun W (hb : Below w.heap.size w W) => hT.keep hb)
  have X2 := BB.out.cell 0 _ rfl
  have Y2 := BB.out.cell 1 _ rfl
  simp only [World.size_alloc] at X2 Y2
  have HD := hid (HG.out.trans ((Below.refl _ _).drew.mono HG.out.size))
  have BXD := hid (BX.out.keep (Below.refl _ _).drew)
  have hA : ¬ (500 : Int) < (an : Int) := by omega
  have hB : ¬ (20000 : Int) < (bn : Int) := by omega
  have RF := hid (fun W (hb : Below w.heap.size w W) => refCheck_call s W (h.grow hb))
  have ES := hid (fun W (hb : Below w.heap.size w W) => encode_call s l W (hT.keep hb) (h.grow hb))
  have RC := hid (fun W (hb : Below w.heap.size w W) => read_ok bo bn bc ys W (hT.keep hb) (rb.keep hb) hy (by omega) t s1 hd)
  have LN := hid (show ∀ p : Sh, checkN p = 0 → p.t = t → sizeI (if checkN p = 0 then p.t.items false else []) = bn by
    intro p h0 h1
    rw [if_pos h0, h1, (r0_len hd false).1]
    exact rb.1)
  have SP := hid (fun (p : Sh) W (hb : Below w.heap.size w W) (hi : In (fun b => b < W.heap.size) W p) => size_call p W (hT.keep hb) hi)
  have EP := hid (fun (p : Sh) W (hb : Below w.heap.size w W) (hi : In (fun b => b < W.heap.size) W p) => encode_call p true W (hT.keep hb) hi)
  have E0 := hid (show encB s l = [] by unfold encB; rw [if_neg hc])
  rw [E0.out] at ES
  generalize checkN s = ck at *
  have hck : (ck == 0) = false := by simp; exact hc
  have hck' : (ck != 0) = true := by simp; exact hc
  have CT := hid (r0_len hd true).2
  have CE := hid (fun (W : World) (p : Sh) (hi : In (fun b => b < W.heap.size) W p) (hp : p.t = t) => (show checkN p = 0 by rw [chk_eq hi, hp]; exact CT.out))
  have HC := hid hc
  clear hd
  clear h hT hg0 hg rb hy hc
  go_enter Tryd.func5, Tryd.ntmps5
  go_wp2
  refine wp_region_K (S := (fun W => W.cell? ⟨w.heap.size + 1, 0, none⟩ = some (.slice ao an ac) ∧ W.cell? ⟨w.heap.size + 1, 1, none⟩ = some (.slice bo bn bc))) (fun _ => false) (by kernel_rfl) (by exact ⟨X2, Y2⟩) (fun hHeld => ?_)
  refine gkp 0 ?_
  refine gkt 1 ?_ (h := by intro W hSw; obtain ⟨r0, r1⟩ := hSw; go_simp; first | done | with_reducible rfl)
  refine gkp 2 ?_
  refine gkt 3 ?_ (h := by intro W hSw; obtain ⟨r0, r1⟩ := hSw; go_simp; first | done | with_reducible rfl)
  refine gkp 4 ?_
  refine gkp 5 ?_
  refine wpAnyK_done (by kernel_rfl) ?_ _
  go_wp2_with (first
    | (go_at_call 15; refine (RC.out _ HD.out).mono ?_; rintro e w2 ⟨⟨p, rfl, hpt, hm⟩, -, b2⟩; have HI := hid ((hm.keep (ext1 (.cells #[.int .i64 (p).k, .slice (p).xo (p).xn (p).xc, .slice (p).po (p).pn (p).pc] 25))).of fun b hb => ⟨rfl, hb.2⟩); have LP := hid (LN.out p (CE.out _ p (hm.of fun b hb => ⟨rfl, hb.2⟩) hpt) hpt); have H2 := hid (gt (gt HD.out b2) (ext1 (.cells #[.int .i64 (p).k, .slice (p).xo (p).xn (p).xc, .slice (p).po (p).pn (p).pc] 25))); have X2 := hid ((BXD.out.keep b2).keep (ext1 (.cells #[.int .i64 (p).k, .slice (p).xo (p).xn (p).xc, .slice (p).po (p).pn (p).pc] 25))); obtain ⟨x0, x1, x2⟩ := X2.out.cells; have XP := hid (Bx.new w2 p); obtain ⟨p0, p1, p2⟩ := XP.out.cells; clear b2 hm hpt)
    | (go_at_call 10; refine (SP.out p _ H2.out HI.out).mono ?_; rintro e w3 ⟨rfl, b3⟩; rw [LP.out]; have H3 := hid (gt H2.out b3); have HI3 := hid (HI.out.grow b3); have X3 := hid (X2.out.keep b3); obtain ⟨x0, x1, x2⟩ := X3.out.cells; have XP3 := hid (XP.out.keep b3); obtain ⟨p0, p1, p2⟩ := XP3.out.cells; clear b3)
    | (go_at_call 19; refine (RF.out _ H5.out).mono ?_; rintro x w6 ⟨rfl, b6⟩; have H6 := hid (gt H5.out b6); have X6 := hid (X5.out.keep b6); obtain ⟨x0, x1, x2⟩ := X6.out.cells; clear b6)
    | (go_at_call 9; refine (ES.out _ H6.out).mono ?_; rintro x w7 ⟨a7, n7, c7, rfl, o7, -, b7⟩; obtain rfl : n7 = 0 := (by have := o7.1; simpa [bs] using this.symm); have H7 := hid (gt H6.out b7); clear b7 o7)
    | (go_at_call 11; refine (LV.out _ H7.out).mono ?_; rintro x w8 ⟨rfl, b8⟩; have H8 := hid (gt H7.out b8); clear b8)
    | (go_at_call 9; refine (EP.out p _ H3.out HI3.out).mono ?_; rintro e w4 ⟨a4, n4, c4, rfl, o4, -, b4⟩; obtain rfl : n4 = bn := (by have := o4.1; rw [bs_length, encB_len] at this; unfold encN at this; rw [LP.out] at this; omega); have H5 := hid (gt H3.out b4); have X5 := hid (X3.out.keep b4); obtain ⟨x0, x1, x2⟩ := X5.out.cells; clear b4 o4))
  go_ret
  exact ⟨rfl, H8.out⟩

set_option maxRecDepth 100000 in
set_option maxHeartbeats 4000000 in
theorem back_bad1 (s : Sh) (l : Bool) (ao bo : Option Addr) (an ac bn bc : Nat) (xs ys : List Nat) (w : World) (hT : Tab w) (h : In (fun b => b < w.heap.size) w s) (hr : Rg s) (ra : Rd w ao an ac xs) (rb : Rd w bo bn bc ys) (hx : ∀ x ∈ xs, x < 256) (hy : ∀ x ∈ ys, x < 256) (ha5 : an ≤ 500) (hb2 : bn ≤ 20000) (e : Nat) (hd : R0 ys = .bad e) (hc : checkN s = 0) :
    Calls Tryd.prog 5 #[.agg #[.int .i64 (s).k, .slice (s).xo (s).xn (s).xc, .slice (s).po (s).pn (s).pc], .bool l, .agg #[.slice ao an ac, .slice bo bn bc]] w fun e w' => e = .returned (.bool true) ∧ Below w.heap.size w w' := by
  have hg0 : Below w.heap.size w (w.alloc (.cells #[.int .i64 (s).k, .slice (s).xo (s).xn (s).xc, .slice (s).po (s).pn (s).pc] 25)) := ext1 _
  have hg : Below w.heap.size w ((w.alloc (.cells #[.int .i64 (s).k, .slice (s).xo (s).xn (s).xc, .slice (s).po (s).pn (s).pc] 25)).alloc (.cells #[.slice ao an ac, .slice bo bn bc] 45)) := gt hg0 (ext1 _)
  have HG := hid hg
  have BX := hid ((Bx.new w s).keep (ext1 (.cells #[.slice ao an ac, .slice bo bn bc] 45)))
  have BB := hid (bx2 (w.alloc (.cells #[.int .i64 (s).k, .slice (s).xo (s).xn (s).xc, .slice (s).po (s).pn (s).pc] 25)) (.slice ao an ac) (.slice bo bn bc))
  have LV := hid (fun W (hb : Below w.heap.size w W) => lives_call W (hT.keep hb))
  have HT := hid (fun W (hb : Below w.heap.size w W) => hT.keep hb)
  have X2 := BB.out.cell 0 _ rfl
  have Y2 := BB.out.cell 1 _ rfl
  simp only [World.size_alloc] at X2 Y2
  have HD := hid (HG.out.trans ((Below.refl _ _).drew.mono HG.out.size))
  have BXD := hid (BX.out.keep (Below.refl _ _).drew)
  have hA : ¬ (500 : Int) < (an : Int) := by omega
  have hB : ¬ (20000 : Int) < (bn : Int) := by omega
  have RF := hid (fun W (hb : Below w.heap.size w W) => refCheck_call s W (h.grow hb))
  have ES := hid (fun W (hb : Below w.heap.size w W) => encode_call s l W (hT.keep hb) (h.grow hb))
  have RC := hid (fun W (hb : Below w.heap.size w W) => read_bad bo bn bc ys W (hT.keep hb) (rb.keep hb) hy (by omega) e hd)
  obtain ⟨P, Q, hD⟩ := d0_more h hr hc l xs
  obtain ⟨-, -, -, -, hk1⟩ := good16 h hr hc
  have OV := hid (show ordV (bytesI l (s.t.items l)) = (l, true) by
    have := ord_bytes l s.t (by rw [t_k]; omega) []
    rwa [List.append_nil] at this)
  have EB : encB s l = bytesI l (s.t.items l) := by unfold encB; rw [if_pos hc]
  have LB := hid (show ∀ x ∈ bytesI l (s.t.items l), x < 256 from bytesI_bytes l _)
  rw [EB] at ES
  rw [hc] at RF
  have h4 : 4 ≤ (bytesI l (s.t.items l)).length := by rw [bytesI_length]; exact size_pos l s
  have hX := ra.1
  have RA := hid (fun W (hb : Below w.heap.size w W) => ra.keep hb)
  have IS := hid (fun W (hb : Below w.heap.size w W) => h.grow hb)
  generalize bytesI l (s.t.items l) = zs at *
  have HL := hid (⟨rfl, h4⟩ : zs.length = zs.length ∧ 4 ≤ zs.length)
  have DC := hid (show ∀ (W : World) (o : Option Addr) (m c : Nat), Below w.heap.size w W → Rd W o m c (zs ++ xs) → m ≤ 1000000 → Calls Tryd.prog 13 #[.slice o m c] W fun x w' => (∃ p : Sh, x = .returned (.tuple #[.agg #[.int .i64 (p).k, .slice (p).xo (p).xn (p).xc, .slice (p).po (p).pn (p).pc], .int .i64 (zs.length : Int), .int .i64 0]) ∧ p.t = s.t ∧ Made W.heap.size w' p) ∧ Below W.heap.size W w' by
    intro W o m c hb h7 hm
    refine (decode_ok o m c (zs ++ xs) W (hT.keep hb) h7 (fun x hx' => (List.mem_append.1 hx').elim (LB.out x) (hx x)) (by omega) s.t ⟨xs, P, Q⟩ hD).mono ?_
    rintro e w' ⟨⟨p, rfl, h1, h2⟩, -, -, h3⟩
    have hm2 : m = zs.length + xs.length := by rw [← h7.1, List.length_append]
    refine ⟨⟨p, ?_, h1, h2⟩, h3⟩
    rw [show ((m : Nat) : Int) - ((xs.length : Nat) : Int) = (zs.length : Int) by omega])
  have OC := hid (show ∀ (W : World) (o : Option Addr) (m c : Nat), Rd W o m c zs → m ≤ 1000000 → Calls Tryd.prog 17 #[.slice o m c] W fun x w' => x = .returned (.tuple #[.bool l, .bool true]) ∧ w' = W by
    intro W o m c h7 hm
    have := Order_call o m c zs W h7 LB.out (by omega)
    rw [OV.out] at this
    exact this)
  have QC := hid (show ∀ (W : World) (p : Sh), p.t = s.t → In (fun b => b < W.heap.size) W p → Below w.heap.size w W → Calls Tryd.prog 18 #[.agg #[.int .i64 (p).k, .slice (p).xo (p).xn (p).xc, .slice (p).po (p).pn (p).pc], .agg #[.int .i64 (s).k, .slice (s).xo (s).xn (s).xc, .slice (s).po (s).pn (s).pc]] W fun x w' => x = .returned (.bool true) ∧ Below W.heap.size W w' by
    intro W p h1 h2 hb
    have := refEqual_call _ p s (Nat.le_refl _) W h2 (h.grow hb)
    rw [eqS_t _ p s (Nat.le_refl _) h1] at this
    exact this)
  clear hd
  clear h hT hg0 hg hr ra rb hx hy hc
  clear h4 EB hk1 hD
  go_enter Tryd.func5, Tryd.ntmps5
  go_wp2
  refine wp_region_K (S := (fun W => W.cell? ⟨w.heap.size + 1, 0, none⟩ = some (.slice ao an ac) ∧ W.cell? ⟨w.heap.size + 1, 1, none⟩ = some (.slice bo bn bc))) (fun _ => false) (by kernel_rfl) (by exact ⟨X2, Y2⟩) (fun hHeld => ?_)
  refine gkp 0 ?_
  refine gkt 1 ?_ (h := by intro W hSw; obtain ⟨r0, r1⟩ := hSw; go_simp; first | done | with_reducible rfl)
  refine gkp 2 ?_
  refine gkt 3 ?_ (h := by intro W hSw; obtain ⟨r0, r1⟩ := hSw; go_simp; first | done | with_reducible rfl)
  refine gkp 4 ?_
  refine gkp 5 ?_
  refine wpAnyK_done (by kernel_rfl) ?_ _
  go_wp2_with (first
    | (go_at_call 15; refine (RC.out _ HD.out).mono ?_; rintro x w2 ⟨rfl, he, b2⟩; have hne : ((e : Int) == 0) = false := (by simp; omega); have H5 := hid (gt (gt HD.out b2) (ext1 (.cells #[.int .i64 0, .slice none 0 0, .slice none 0 0] 25))); have X5 := hid ((BXD.out.keep b2).keep (ext1 (.cells #[.int .i64 0, .slice none 0 0, .slice none 0 0] 25))); obtain ⟨x0, x1, x2⟩ := X5.out.cells; clear b2)
    | (go_at_call 19; refine (RF.out _ H5.out).mono ?_; rintro x w6 ⟨rfl, b6⟩; have H6 := hid (gt H5.out b6); have X6 := hid (X5.out.keep b6); obtain ⟨x0, x1, x2⟩ := X6.out.cells; clear b6)
    | (go_at_call 9; refine (ES.out _ H6.out).mono ?_; rintro x w7 ⟨a7, n7, c7, rfl, o7, h17, b7⟩; have N7 := hid (show n7 = zs.length by have := o7.1; rw [bs_length] at this; omega); have h74 : 4 ≤ n7 := (by rw [N7.out]; exact HL.out.2); obtain ⟨g, rfl⟩ := row_some o7 (by omega); have R7 := hid (rd_own o7); have H7 := hid (gt H6.out b7); have X7 := hid (X6.out.keep b7); obtain ⟨x0, x1, x2⟩ := X7.out.cells; clear b7 o7)
    | (at_builtin; (refine wpList_append_rd rfl (.tmp 67) (.tmp 68) rfl w7.heap.size _ 0 [] rfl (World.ownsRow_made (base := w7.heap.size) w7 #[] 0 (Nat.le_refl _) (by decide) rfl) _ n7 c7 zs rfl (R7.out.keep (ext1 _)) (by omega) (by simp) ?_); intro v8 w8 o8 b8; rw [Nat.zero_add, List.nil_append] at o8; have O8 := hid o8; have B8 := hid ((ext1 (.cells #[] 5)).trans b8); clear o8 b8)
    | (at_builtin; (refine wpList_append_rd rfl (.tmp 69) (.tmp 70) rfl w7.heap.size _ n7 zs rfl O8.out _ an ac xs rfl (RA.out _ (gt H7.out B8.out)) (by omega) B8.out.size ?_); intro v9 w9 o9 b9; obtain ⟨a9, c9, rfl⟩ := row_form o9; obtain ⟨g9, rfl⟩ := row_some o9 (by omega); have R9 := hid (rd_own o9); have B9 := hid (B8.out.trans b9); have H9 := hid (gt H7.out B9.out); clear o9 b9)
    | (go_at_call 13; refine (DC.out _ _ _ _ H9.out R9.out (by omega)).mono ?_; rintro x w10 ⟨⟨q, rfl, hqt, hm⟩, b10⟩; rw [← N7.out]; have HQ := hid hqt; have B10 := hid (gt (gt B9.out b10) (ext1 (.cells #[.int .i64 (q).k, .slice (q).xo (q).xn (q).xc, .slice (q).po (q).pn (q).pc] 25))); have H10 := hid (gt H7.out B10.out); have X10 := hid (X7.out.keep B10.out); obtain ⟨x0, x1, x2⟩ := X10.out.cells; have XQ := hid (Bx.new w10 q); obtain ⟨q0, q1, q2⟩ := XQ.out.cells; have IQ := hid ((hm.keep (ext1 (.cells #[.int .i64 (q).k, .slice (q).xo (q).xn (q).xc, .slice (q).po (q).pn (q).pc] 25))).of fun b hb => ⟨rfl, hb.2⟩); have R10 := hid (R7.out.keep B10.out); clear b10 hm hqt)
    | (go_at_call 17; refine (OC.out _ _ _ _ R10.out (by omega)).mono ?_; rintro x w11 ⟨rfl, hw⟩; obtain rfl := hw.symm)
    | (go_at_call 18; refine (QC.out _ q HQ.out IQ.out H10.out).mono ?_; rintro x w12 ⟨rfl, b12⟩; have H12 := hid (gt H10.out b12); clear b12)
    | (go_at_call 11; refine (LV.out _ H12.out).mono ?_; rintro x w13 ⟨rfl, b13⟩; have H13 := hid (gt H12.out b13); clear b13))
  go_ret
  exact ⟨rfl, H13.out⟩

set_option maxRecDepth 100000 in
set_option maxHeartbeats 4000000 in
theorem back_ok1 (s : Sh) (l : Bool) (ao bo : Option Addr) (an ac bn bc : Nat) (xs ys : List Nat) (w : World) (hT : Tab w) (h : In (fun b => b < w.heap.size) w s) (hr : Rg s) (ra : Rd w ao an ac xs) (rb : Rd w bo bn bc ys) (hx : ∀ x ∈ xs, x < 256) (hy : ∀ x ∈ ys, x < 256) (ha5 : an ≤ 500) (hb2 : bn ≤ 20000) (t : T) (s1 : St) (hd : R0 ys = .ok t s1) (hc : checkN s = 0) :
    Calls Tryd.prog 5 #[.agg #[.int .i64 (s).k, .slice (s).xo (s).xn (s).xc, .slice (s).po (s).pn (s).pc], .bool l, .agg #[.slice ao an ac, .slice bo bn bc]] w fun e w' => e = .returned (.bool true) ∧ Below w.heap.size w w' := by
  have hg0 : Below w.heap.size w (w.alloc (.cells #[.int .i64 (s).k, .slice (s).xo (s).xn (s).xc, .slice (s).po (s).pn (s).pc] 25)) := ext1 _
  have hg : Below w.heap.size w ((w.alloc (.cells #[.int .i64 (s).k, .slice (s).xo (s).xn (s).xc, .slice (s).po (s).pn (s).pc] 25)).alloc (.cells #[.slice ao an ac, .slice bo bn bc] 45)) := gt hg0 (ext1 _)
  have HG := hid hg
  have BX := hid ((Bx.new w s).keep (ext1 (.cells #[.slice ao an ac, .slice bo bn bc] 45)))
  have BB := hid (bx2 (w.alloc (.cells #[.int .i64 (s).k, .slice (s).xo (s).xn (s).xc, .slice (s).po (s).pn (s).pc] 25)) (.slice ao an ac) (.slice bo bn bc))
  have LV := hid (fun W (hb : Below w.heap.size w W) => lives_call W (hT.keep hb))
  have HT := hid (fun W (hb : Below w.heap.size w W) => hT.keep hb)
  have X2 := BB.out.cell 0 _ rfl
  have Y2 := BB.out.cell 1 _ rfl
  simp only [World.size_alloc] at X2 Y2
  have HD := hid (HG.out.trans ((Below.refl _ _).drew.mono HG.out.size))
  have BXD := hid (BX.out.keep (Below.refl _ _).drew)
  have hA : ¬ (500 : Int) < (an : Int) := by omega
  have hB : ¬ (20000 : Int) < (bn : Int) := by omega
  have RF := hid (fun W (hb : Below w.heap.size w W) => refCheck_call s W (h.grow hb))
  have ES := hid (fun W (hb : Below w.heap.size w W) => encode_call s l W (hT.keep hb) (h.grow hb))
  have RC := hid (fun W (hb : Below w.heap.size w W) => read_ok bo bn bc ys W (hT.keep hb) (rb.keep hb) hy (by omega) t s1 hd)
  have LN := hid (show ∀ p : Sh, checkN p = 0 → p.t = t → sizeI (if checkN p = 0 then p.t.items false else []) = bn by
    intro p h0 h1
    rw [if_pos h0, h1, (r0_len hd false).1]
    exact rb.1)
  have SP := hid (fun (p : Sh) W (hb : Below w.heap.size w W) (hi : In (fun b => b < W.heap.size) W p) => size_call p W (hT.keep hb) hi)
  have EP := hid (fun (p : Sh) W (hb : Below w.heap.size w W) (hi : In (fun b => b < W.heap.size) W p) => encode_call p true W (hT.keep hb) hi)
  obtain ⟨P, Q, hD⟩ := d0_more h hr hc l xs
  obtain ⟨-, -, -, -, hk1⟩ := good16 h hr hc
  have OV := hid (show ordV (bytesI l (s.t.items l)) = (l, true) by
    have := ord_bytes l s.t (by rw [t_k]; omega) []
    rwa [List.append_nil] at this)
  have EB : encB s l = bytesI l (s.t.items l) := by unfold encB; rw [if_pos hc]
  have LB := hid (show ∀ x ∈ bytesI l (s.t.items l), x < 256 from bytesI_bytes l _)
  rw [EB] at ES
  rw [hc] at RF
  have h4 : 4 ≤ (bytesI l (s.t.items l)).length := by rw [bytesI_length]; exact size_pos l s
  have hX := ra.1
  have RA := hid (fun W (hb : Below w.heap.size w W) => ra.keep hb)
  have IS := hid (fun W (hb : Below w.heap.size w W) => h.grow hb)
  generalize bytesI l (s.t.items l) = zs at *
  have HL := hid (⟨rfl, h4⟩ : zs.length = zs.length ∧ 4 ≤ zs.length)
  have DC := hid (show ∀ (W : World) (o : Option Addr) (m c : Nat), Below w.heap.size w W → Rd W o m c (zs ++ xs) → m ≤ 1000000 → Calls Tryd.prog 13 #[.slice o m c] W fun x w' => (∃ p : Sh, x = .returned (.tuple #[.agg #[.int .i64 (p).k, .slice (p).xo (p).xn (p).xc, .slice (p).po (p).pn (p).pc], .int .i64 (zs.length : Int), .int .i64 0]) ∧ p.t = s.t ∧ Made W.heap.size w' p) ∧ Below W.heap.size W w' by
    intro W o m c hb h7 hm
    refine (decode_ok o m c (zs ++ xs) W (hT.keep hb) h7 (fun x hx' => (List.mem_append.1 hx').elim (LB.out x) (hx x)) (by omega) s.t ⟨xs, P, Q⟩ hD).mono ?_
    rintro e w' ⟨⟨p, rfl, h1, h2⟩, -, -, h3⟩
    have hm2 : m = zs.length + xs.length := by rw [← h7.1, List.length_append]
    refine ⟨⟨p, ?_, h1, h2⟩, h3⟩
    rw [show ((m : Nat) : Int) - ((xs.length : Nat) : Int) = (zs.length : Int) by omega])
  have OC := hid (show ∀ (W : World) (o : Option Addr) (m c : Nat), Rd W o m c zs → m ≤ 1000000 → Calls Tryd.prog 17 #[.slice o m c] W fun x w' => x = .returned (.tuple #[.bool l, .bool true]) ∧ w' = W by
    intro W o m c h7 hm
    have := Order_call o m c zs W h7 LB.out (by omega)
    rw [OV.out] at this
    exact this)
  have QC := hid (show ∀ (W : World) (p : Sh), p.t = s.t → In (fun b => b < W.heap.size) W p → Below w.heap.size w W → Calls Tryd.prog 18 #[.agg #[.int .i64 (p).k, .slice (p).xo (p).xn (p).xc, .slice (p).po (p).pn (p).pc], .agg #[.int .i64 (s).k, .slice (s).xo (s).xn (s).xc, .slice (s).po (s).pn (s).pc]] W fun x w' => x = .returned (.bool true) ∧ Below W.heap.size W w' by
    intro W p h1 h2 hb
    have := refEqual_call _ p s (Nat.le_refl _) W h2 (h.grow hb)
    rw [eqS_t _ p s (Nat.le_refl _) h1] at this
    exact this)
  have CT := hid (r0_len hd true).2
  have CE := hid (fun (W : World) (p : Sh) (hi : In (fun b => b < W.heap.size) W p) (hp : p.t = t) => (show checkN p = 0 by rw [chk_eq hi, hp]; exact CT.out))
  have HC := hid hc
  clear hd
  clear h hT hg0 hg hr ra rb hx hy hc
  clear h4 EB hk1 hD
  go_enter Tryd.func5, Tryd.ntmps5
  go_wp2
  refine wp_region_K (S := (fun W => W.cell? ⟨w.heap.size + 1, 0, none⟩ = some (.slice ao an ac) ∧ W.cell? ⟨w.heap.size + 1, 1, none⟩ = some (.slice bo bn bc))) (fun _ => false) (by kernel_rfl) (by exact ⟨X2, Y2⟩) (fun hHeld => ?_)
  refine gkp 0 ?_
  refine gkt 1 ?_ (h := by intro W hSw; obtain ⟨r0, r1⟩ := hSw; go_simp; first | done | with_reducible rfl)
  refine gkp 2 ?_
  refine gkt 3 ?_ (h := by intro W hSw; obtain ⟨r0, r1⟩ := hSw; go_simp; first | done | with_reducible rfl)
  refine gkp 4 ?_
  refine gkp 5 ?_
  refine wpAnyK_done (by kernel_rfl) ?_ _
  go_wp2_with (first
    | (go_at_call 15; refine (RC.out _ HD.out).mono ?_; rintro e w2 ⟨⟨p, rfl, hpt, hm⟩, -, b2⟩; have HI := hid ((hm.keep (ext1 (.cells #[.int .i64 (p).k, .slice (p).xo (p).xn (p).xc, .slice (p).po (p).pn (p).pc] 25))).of fun b hb => ⟨rfl, hb.2⟩); have LP := hid (LN.out p (CE.out _ p (hm.of fun b hb => ⟨rfl, hb.2⟩) hpt) hpt); have H2 := hid (gt (gt HD.out b2) (ext1 (.cells #[.int .i64 (p).k, .slice (p).xo (p).xn (p).xc, .slice (p).po (p).pn (p).pc] 25))); have X2 := hid ((BXD.out.keep b2).keep (ext1 (.cells #[.int .i64 (p).k, .slice (p).xo (p).xn (p).xc, .slice (p).po (p).pn (p).pc] 25))); obtain ⟨x0, x1, x2⟩ := X2.out.cells; have XP := hid (Bx.new w2 p); obtain ⟨p0, p1, p2⟩ := XP.out.cells; clear b2 hm hpt)
    | (go_at_call 10; refine (SP.out p _ H2.out HI.out).mono ?_; rintro e w3 ⟨rfl, b3⟩; rw [LP.out]; have H3 := hid (gt H2.out b3); have HI3 := hid (HI.out.grow b3); have X3 := hid (X2.out.keep b3); obtain ⟨x0, x1, x2⟩ := X3.out.cells; have XP3 := hid (XP.out.keep b3); obtain ⟨p0, p1, p2⟩ := XP3.out.cells; clear b3)
    | (go_at_call 19; refine (RF.out _ H5.out).mono ?_; rintro x w6 ⟨rfl, b6⟩; have H6 := hid (gt H5.out b6); have X6 := hid (X5.out.keep b6); obtain ⟨x0, x1, x2⟩ := X6.out.cells; clear b6)
    | (go_at_call 9; refine (ES.out _ H6.out).mono ?_; rintro x w7 ⟨a7, n7, c7, rfl, o7, h17, b7⟩; have N7 := hid (show n7 = zs.length by have := o7.1; rw [bs_length] at this; omega); have h74 : 4 ≤ n7 := (by rw [N7.out]; exact HL.out.2); obtain ⟨g, rfl⟩ := row_some o7 (by omega); have R7 := hid (rd_own o7); have H7 := hid (gt H6.out b7); have X7 := hid (X6.out.keep b7); obtain ⟨x0, x1, x2⟩ := X7.out.cells; clear b7 o7)
    | (at_builtin; (refine wpList_append_rd rfl (.tmp 67) (.tmp 68) rfl w7.heap.size _ 0 [] rfl (World.ownsRow_made (base := w7.heap.size) w7 #[] 0 (Nat.le_refl _) (by decide) rfl) _ n7 c7 zs rfl (R7.out.keep (ext1 _)) (by omega) (by simp) ?_); intro v8 w8 o8 b8; rw [Nat.zero_add, List.nil_append] at o8; have O8 := hid o8; have B8 := hid ((ext1 (.cells #[] 5)).trans b8); clear o8 b8)
    | (at_builtin; (refine wpList_append_rd rfl (.tmp 69) (.tmp 70) rfl w7.heap.size _ n7 zs rfl O8.out _ an ac xs rfl (RA.out _ (gt H7.out B8.out)) (by omega) B8.out.size ?_); intro v9 w9 o9 b9; obtain ⟨a9, c9, rfl⟩ := row_form o9; obtain ⟨g9, rfl⟩ := row_some o9 (by omega); have R9 := hid (rd_own o9); have B9 := hid (B8.out.trans b9); have H9 := hid (gt H7.out B9.out); clear o9 b9)
    | (go_at_call 13; refine (DC.out _ _ _ _ H9.out R9.out (by omega)).mono ?_; rintro x w10 ⟨⟨q, rfl, hqt, hm⟩, b10⟩; rw [← N7.out]; have HQ := hid hqt; have B10 := hid (gt (gt B9.out b10) (ext1 (.cells #[.int .i64 (q).k, .slice (q).xo (q).xn (q).xc, .slice (q).po (q).pn (q).pc] 25))); have H10 := hid (gt H7.out B10.out); have X10 := hid (X7.out.keep B10.out); obtain ⟨x0, x1, x2⟩ := X10.out.cells; have XQ := hid (Bx.new w10 q); obtain ⟨q0, q1, q2⟩ := XQ.out.cells; have IQ := hid ((hm.keep (ext1 (.cells #[.int .i64 (q).k, .slice (q).xo (q).xn (q).xc, .slice (q).po (q).pn (q).pc] 25))).of fun b hb => ⟨rfl, hb.2⟩); have R10 := hid (R7.out.keep B10.out); clear b10 hm hqt)
    | (go_at_call 17; refine (OC.out _ _ _ _ R10.out (by omega)).mono ?_; rintro x w11 ⟨rfl, hw⟩; obtain rfl := hw.symm)
    | (go_at_call 18; refine (QC.out _ q HQ.out IQ.out H10.out).mono ?_; rintro x w12 ⟨rfl, b12⟩; have H12 := hid (gt H10.out b12); clear b12)
    | (go_at_call 11; refine (LV.out _ H12.out).mono ?_; rintro x w13 ⟨rfl, b13⟩; have H13 := hid (gt H12.out b13); clear b13)
    | (go_at_call 9; refine (EP.out p _ H3.out HI3.out).mono ?_; rintro e w4 ⟨a4, n4, c4, rfl, o4, -, b4⟩; obtain rfl : n4 = bn := (by have := o4.1; rw [bs_length, encB_len] at this; unfold encN at this; rw [LP.out] at this; omega); have H5 := hid (gt H3.out b4); have X5 := hid (X3.out.keep b4); obtain ⟨x0, x1, x2⟩ := X5.out.cells; clear b4 o4))
  go_ret
  exact ⟨rfl, H13.out⟩
theorem back_law (s : Sh) (l : Bool) (ao bo : Option Addr) (an ac bn bc : Nat) (xs ys : List Nat) (w : World) (hT : Tab w) (h : In (fun b => b < w.heap.size) w s) (hr : Rg s) (ra : Rd w ao an ac xs) (rb : Rd w bo bn bc ys) (hx : ∀ x ∈ xs, x < 256) (hy : ∀ x ∈ ys, x < 256) :
    Calls Tryd.prog 5 #[.agg #[.int .i64 (s).k, .slice (s).xo (s).xn (s).xc, .slice (s).po (s).pn (s).pc], .bool l, .agg #[.slice ao an ac, .slice bo bn bc]] w fun e w' => e = .returned (.bool true) ∧ Below w.heap.size w w' := by
  by_cases hb : 500 < an ∨ 20000 < bn
  · exact back_big s l ao bo an ac bn bc w hT hb
  · cases hd : R0 ys with
    | ok t s1 =>
      by_cases hc : checkN s = 0
      · exact back_ok1 s l ao bo an ac bn bc xs ys w hT h hr ra rb hx hy (by omega) (by omega) t s1 hd hc
      · exact back_ok0 s l ao bo an ac bn bc ys w hT h rb hy (by omega) (by omega) t s1 hd hc
    | bad e =>
      by_cases hc : checkN s = 0
      · exact back_bad1 s l ao bo an ac bn bc xs ys w hT h hr ra rb hx hy (by omega) (by omega) e hd hc
      · exact back_bad0 s l ao bo an ac bn bc ys w hT h rb hy (by omega) (by omega) e hd hc
end Go.Proofs.YtjieegnmofimkaaDoor
