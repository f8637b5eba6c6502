/- How a shape that came in as an argument is read; no statement of the seat is proved here. -/
import Derived.Test.YtjlahomjhadnkaaAb
import Derived.ProofKit
import Derived.OpenShut
import Derived.ChangeSlices
import Derived.SizedLaws
namespace Go.Proofs.Ytjlahomjhadnkaa
open Go.ChangeShapes Go.WideShapes Go.ChangeAt Go.RowKit

set_option maxRecDepth 100000 in
theorem bounds_i64' {z : Int} (h : (Lit.int .i64 z).wf = true) : -9223372036854775808 ≤ z ∧ z ≤ 9223372036854775807 := by
  simp [Lit.wf, IntKind.min, IntKind.max, IntKind.bits, IntKind.signed] at h
  omega
def shapeOf : TypeDesc → Option (List (TypeId × Nat))
  | .struct fs => some (fs.toList.map fun f => (f.type, f.offset))
  | _ => none

set_option maxRecDepth 100000 in
theorem struct_of {P : Program} {t : TypeId} {L : List (TypeId × Nat)} (h : (P.underlying t).bind shapeOf = some L) :
    ∃ fs : Array Field, P.underlying t = some (.struct fs) ∧ ∀ (i : Nat) (ty : TypeId) (off : Nat), L[i]? = some (ty, off) → ∃ f : Field, fs[i]? = some f ∧ f.type = ty ∧ f.offset = off := by
  obtain ⟨d, hd, hs⟩ := Option.bind_eq_some_iff.1 h
  cases d with
  | struct fs =>
    refine ⟨fs, hd, fun i ty off hi => ?_⟩
    simp only [shapeOf, Option.some.injEq] at hs
    subst hs
    rw [List.getElem?_map] at hi
    obtain ⟨f, hf, he⟩ := Option.map_eq_some_iff.1 hi
    simp only [Prod.mk.injEq] at he
    exact ⟨f, by simpa using hf, he.1, he.2⟩
  | _ => simp [shapeOf] at hs

section
variable {H : Type} {enc : TypeId × Value → H} {P : Program} {w : World} {base : Nat} {spare : Nat → Bool} {held : Bool}

set_option maxRecDepth 100000 in
theorem int_at {ty : TypeId} {k : IntKind} (hu : P.underlying ty = some (.int k)) (hc : P.cellsOf ty = 1) {n off : Nat} {cs : List Value} {y : DataW H × List MemPlace}
    (h : DataW.trod enc P w base spare held n ty ((cs.drop off).take (P.cellsOf ty)) = some y) : ∃ z : Int, cs[off]? = some (.int k z) ∧ (Lit.int k z).wf = true := by
  obtain ⟨z, hz, _, hw⟩ := DataW.trod_int hu h
  refine ⟨z, ?_, hw⟩
  have h3 := congrArg (fun l : List Value => l[0]?) hz
  simp [hc] at h3
  simpa using h3

set_option maxRecDepth 100000 in
theorem field_ofW {t : TypeId} {L : List (TypeId × Nat)} (h : (P.underlying t).bind shapeOf = some L) {fuel : Nat} {cs : List Value} {x : DataW H × List MemPlace}
    (hx : DataW.trod enc P w base spare held fuel t cs = some x) : cs.length = P.cellsOf t ∧ ∀ (i : Nat) (ty : TypeId) (off : Nat), L[i]? = some (ty, off) → ∃ y n, n < fuel ∧ DataW.trod enc P w base spare held n ty ((cs.drop off).take (P.cellsOf ty)) = some y ∧ ∀ m ∈ y.1.weights P ty, m ∈ x.1.weights P t := by
  obtain ⟨fs, hu, hf⟩ := struct_of h
  obtain ⟨xs, n, hfu, rfl, hl, hxl, hi⟩ := DataW.trod_struct hu hx
  refine ⟨hl, fun i ty off hL => ?_⟩
  obtain ⟨f, h1, rfl, rfl⟩ := hf i ty off hL
  have h2 := hi i f h1
  have hlt : i < xs.length := by
    rw [hxl]; exact (Array.getElem?_eq_some_iff.1 h1).1
  refine ⟨xs[i], n, by omega, by rw [h2, List.getElem?_eq_getElem hlt], fun m hm => ?_⟩
  simp only [DataW.weights, hu]
  exact DataW.weights_mem_each (j := i) (t := f.type) (d := xs[i].1) (by rw [List.getElem?_map, Array.getElem?_toList, h1]; rfl) (by rw [List.getElem?_map, List.getElem?_eq_getElem hlt]; rfl) m hm

set_option maxRecDepth 100000 in
theorem weights_mem_all {e : TypeId} {d : DataW H} : ∀ {l : List (DataW H)}, d ∈ l → ∀ m ∈ d.weights P e, m ∈ DataW.weightsAll P e l
  | [], h, _, _ => by cases h
  | a :: r, h, m, hm => by
    simp only [DataW.weightsAll, List.mem_append]
    rcases List.mem_cons.1 h with rfl | h
    · exact Or.inl hm
    · exact Or.inr (weights_mem_all h m hm)

set_option maxRecDepth 100000 in
theorem at_off {ty : TypeId} (hc : P.cellsOf ty = 1) {cs : List Value} {off : Nat} {v : Value} (h : (cs.drop off).take (P.cellsOf ty) = [v]) : cs[off]? = some v := by
  have h3 := congrArg (fun l : List Value => l[0]?) h
  rw [hc] at h3
  simpa using h3
end

set_option maxRecDepth 100000 in
theorem point_shape : (Try.prog.underlying 23).bind shapeOf = some [(3, 0), (3, 1)] := by kernel_rfl
set_option maxRecDepth 100000 in
theorem sh_shape : (Try.prog.underlying 45).bind shapeOf = some [(3, 0), (42, 1), (43, 2)] := by kernel_rfl
set_option maxRecDepth 100000 in
theorem co3 : Try.prog.cellsOf 3 = 1 := by kernel_rfl
set_option maxRecDepth 100000 in
theorem co22 : Try.prog.cellsOf 42 = 1 := by kernel_rfl
set_option maxRecDepth 100000 in
theorem co23 : Try.prog.cellsOf 43 = 1 := by kernel_rfl
set_option maxRecDepth 100000 in
theorem co41 : Try.prog.cellsOf 23 = 2 := by kernel_rfl
set_option maxRecDepth 100000 in
theorem co25 : Try.prog.cellsOf 45 = 3 := by kernel_rfl
set_option maxRecDepth 100000 in
theorem by41 : Try.prog.bytesOf 23 = 16 := by kernel_rfl
set_option maxRecDepth 100000 in
theorem by25 : Try.prog.bytesOf 45 = 56 := by kernel_rfl

section
variable {H : Type} {enc : TypeId × Value → H} {w : World} {base : Nat} {held : Bool}

set_option maxRecDepth 100000 in
theorem one_pt {n : Nat} {cs : List Value} {y : DataW H × List MemPlace} (h : DataW.trod enc Try.prog w base (fun _ => true) held n 23 cs = some y) :
    ∃ a : Int × Int, cs[0]? = some (.int .i64 a.1) ∧ cs[1]? = some (.int .i64 a.2) := by
  obtain ⟨_, hx⟩ := field_ofW point_shape h
  obtain ⟨y0, n0, _, h0, _⟩ := hx 0 3 0 rfl
  obtain ⟨y1, n1, _, h1, _⟩ := hx 1 3 1 rfl
  obtain ⟨k, hk, _⟩ := int_at Try.underlying3 co3 h0
  obtain ⟨c, hc, _⟩ := int_at Try.underlying3 co3 h1
  exact ⟨(k, c), hk, hc⟩
set_option maxRecDepth 100000 in
theorem pts_open {n : Nat} {cs : List Value} {y : DataW H × List MemPlace} (h : DataW.trod enc Try.prog w base (fun _ => true) held n 42 cs = some y) (hw : ∀ m ∈ y.1.weights Try.prog 42, m ≤ reachBytes) :
    ∃ xo xn xc l, cs = [.slice xo xn xc] ∧ l.length = xn ∧ xn ≤ xc ∧ xn * 16 ≤ 140737488355328 ∧ (xo = none → xn = 0 ∧ xc = 0) ∧ XR (fun b => b < w.heap.size) w xo l := by
  rcases DataW.trod_slice Try.underlying42 h with ⟨rfl, _⟩ | ⟨a, len, cap, elems, rest, n', _, rfl, rfl, _, hl, hm, hlen, hel, _, _⟩
  · exact ⟨none, 0, 0, [], rfl, rfl, by omega, by omega, fun _ => ⟨rfl, rfl⟩, .inl rfl⟩
  · rw [co41] at hel
    have hb : len * 16 ≤ 140737488355328 := by
      have := hw ((elems.length + rest.length) * 16) (by simp [DataW.weights, Try.underlying42, by41])
      have h2 : reachBytes < 2 ^ 47 := reachBytes_lt
      omega
    have each : ∀ i, i < len → ∃ cs y, w.cells? base (a.add (i * 2)) 2 = some cs ∧ DataW.trod enc Try.prog w base (fun _ => true) held n' 23 cs = some y := by
      intro i hi
      have h1 := hel i hi
      rw [List.getElem?_eq_getElem (by omega), Option.bind_eq_some_iff] at h1
      obtain ⟨cs, hc, ht⟩ := h1
      exact ⟨cs, _, hc, ht⟩
    by_cases h0 : len = 0
    · subst h0
      exact ⟨some a, 0, cap, [], rfl, rfl, by omega, by omega, fun e => (by cases e), .inl rfl⟩
    obtain ⟨b, off, spot⟩ := a
    have hspot : spot = none := by
      obtain ⟨cs, y, hc, ht⟩ := each 0 (by omega)
      obtain ⟨t, t0, _⟩ := one_pt ht
      have h2 := (World.cells?_some hc).2.2 0 (by omega)
      rw [t0] at h2
      have := World.cell?_spot h2
      simpa [Addr.add] using this
    subst hspot
    have each2 : ∀ i, ∃ t : Int × Int, i < len → w.cell? ⟨b, off + i * 2, none⟩ = some (.int .i64 t.1) ∧ w.cell? ⟨b, off + i * 2 + 1, none⟩ = some (.int .i64 t.2) := by
      intro i
      by_cases hi : i < len
      · obtain ⟨cs, y, hc, ht⟩ := each i hi
        obtain ⟨t, t0, t1⟩ := one_pt ht
        have h2 := (World.cells?_some hc).2.2
        refine ⟨t, fun _ => ⟨?_, ?_⟩⟩
        · have := h2 0 (by omega); rw [t0, Addr.add_lit, Addr.add_lit] at this; simpa using this
        · have := h2 1 (by omega); rw [t1, Addr.add_lit, Addr.add_lit] at this; exact this
      · exact ⟨(0, 0), fun h => absurd h hi⟩
    obtain ⟨f, hf2⟩ := Classical.axiomOfChoice each2
    refine ⟨_, len, cap, (List.range len).map f, rfl, by simp, hl, hb, fun e => (by cases e), .inr ⟨b, off, rfl, lt_cell (hf2 0 (by omega)).1, fun i p hi => ?_⟩⟩
    have hil : i < len := by simpa using (List.getElem?_eq_some_iff.1 hi).1
    have : p = f i := by simpa [hil] using hi.symm
    rw [this]
    exact hf2 i hil
set_option maxRecDepth 100000 in
theorem In.mk' {S : Nat → Prop} {w : World} {s : Sh} (h : Here S w s) (hp : ∀ p ∈ s.ps, In S w p) : In S w s := by
  intro q hq
  rw [nodes_eq] at hq
  rcases List.mem_cons.1 hq with rfl | hq
  · exact h
  · generalize s.ps = l at hq hp
    induction l with
    | nil => rw [nodesL] at hq; cases hq
    | cons a r ih =>
      rw [nodesL, List.mem_append] at hq
      rcases hq with hq | hq
      · exact hp a (by simp) q hq
      · exact ih hq fun p h => hp p (by simp [h])

set_option maxRecDepth 100000 in
theorem open_sh : ∀ (n : Nat) (cs : List Value) (y : DataW H × List MemPlace), DataW.trod enc Try.prog w base (fun _ => true) held n 45 cs = some y → (∀ m ∈ y.1.weights Try.prog 45, m ≤ reachBytes) →
    ∃ s : Sh, cs = [.int .i64 (s).k, .slice (s).xo (s).xn (s).xc, .slice (s).po (s).pn (s).pc] ∧ In (fun b => b < w.heap.size) w s := by
  intro n
  induction n using Nat.strongRecOn with
  | _ n ih =>
    intro cs y h hw
    obtain ⟨hlen3, hx⟩ := field_ofW sh_shape h
    rw [co25] at hlen3
    obtain ⟨y0, n0, _, h0, _⟩ := hx 0 3 0 rfl
    obtain ⟨y1, n1, _, h1, w1⟩ := hx 1 42 1 rfl
    obtain ⟨y2, n2, l2, h2, w2⟩ := hx 2 43 2 rfl
    obtain ⟨k, hk, kw⟩ := int_at Try.underlying3 co3 h0
    obtain ⟨xo, xn, xc, l, hxs, xl, xm, xb, x0, xr⟩ := pts_open h1 (fun m hm => hw m (w1 m hm))
    have hc1 := at_off co22 hxs
    have kb := bounds_i64' kw
    have parts : ∃ po pn pc ps, cs[2]? = some (.slice po pn pc) ∧ ps.length = pn ∧ pn ≤ pc ∧ pn * 56 ≤ 140737488355328 ∧ (po = none → pn = 0 ∧ pc = 0) ∧ PR (fun b => b < w.heap.size) w po ps ∧ ∀ p ∈ ps, In (fun b => b < w.heap.size) w p := by
      rcases DataW.trod_slice Try.underlying43 h2 with ⟨e, _⟩ | ⟨a, len, cap, elems, rest, n', hn', e, hy, _, hl, hm, hlen, hel, _, _⟩
      · exact ⟨none, 0, 0, [], at_off co23 e, rfl, by omega, by omega, fun _ => ⟨rfl, rfl⟩, .inl rfl, fun p hp => by cases hp⟩
      · have hc2 := at_off co23 e
        rw [co25] at hel
        have hb : len * 56 ≤ 140737488355328 := by
          have := hw ((elems.length + rest.length) * 56) (w2 _ (by rw [hy]; simp [DataW.weights, Try.underlying43, by25]))
          have h2 : reachBytes < 2 ^ 47 := reachBytes_lt
          omega
        have hww : ∀ z ∈ elems, ∀ m ∈ z.1.weights Try.prog 45, m ≤ reachBytes := fun z hz m hm => hw m (w2 m (by
          rw [hy]
          simp only [DataW.weights, Try.underlying43, List.mem_cons, List.mem_append]
          exact Or.inr (Or.inl (weights_mem_all (List.mem_map.2 ⟨z, hz, rfl⟩) m hm))))
        have each : ∀ i, i < len → ∃ cs z, w.cells? base (a.add (i * 3)) 3 = some cs ∧ DataW.trod enc Try.prog w base (fun _ => true) held n' 45 cs = some z ∧ z ∈ elems := by
          intro i hi
          have h1 := hel i hi
          rw [List.getElem?_eq_getElem (by omega), Option.bind_eq_some_iff] at h1
          obtain ⟨cs, hc, ht⟩ := h1
          exact ⟨cs, _, hc, ht, List.getElem_mem _⟩
        by_cases h0 : len = 0
        · subst h0
          exact ⟨some a, 0, cap, [], hc2, rfl, by omega, by omega, fun e => (by cases e), .inl rfl, fun p hp => by cases hp⟩
        obtain ⟨b, off, spot⟩ := a
        have hspot : spot = none := by
          obtain ⟨cs, z, hc, ht, hz⟩ := each 0 (by omega)
          obtain ⟨t, rfl, _⟩ := ih n' (by omega) cs z ht (hww z hz)
          have h2 := (World.cells?_some hc).2.2 0 (by omega)
          have := World.cell?_spot (v := .int .i64 t.k) (by simpa using h2)
          simpa [Addr.add] using this
        subst hspot
        have each2 : ∀ i, ∃ t : Sh, i < len → At3 w b (off + i * 3) t ∧ In (fun b => b < w.heap.size) w t := by
          intro i
          by_cases hi : i < len
          · obtain ⟨cs, z, hc, ht, hz⟩ := each i hi
            obtain ⟨t, rfl, ti⟩ := ih n' (by omega) cs z ht (hww z hz)
            have h2 := (World.cells?_some hc).2.2
            refine ⟨t, fun _ => ⟨⟨?_, ?_, ?_⟩, ti⟩⟩
            · have := h2 0 (by omega); rw [Addr.add_lit, Addr.add_lit] at this; simpa using this
            · have := h2 1 (by omega); rw [Addr.add_lit, Addr.add_lit] at this; exact this
            · have := h2 2 (by omega); rw [Addr.add_lit, Addr.add_lit] at this; exact this
          · exact ⟨default, fun h => absurd h hi⟩
        obtain ⟨f, hf2⟩ := Classical.axiomOfChoice each2
        refine ⟨_, len, cap, (List.range len).map f, hc2, by simp, hl, hb, fun e => (by cases e), .inr ⟨b, off, rfl, lt_cell (hf2 0 (by omega)).1.1, fun i p hi => ?_⟩, fun p hp => ?_⟩
        · have hil : i < len := by simpa using (List.getElem?_eq_some_iff.1 hi).1
          have : p = f i := by simpa [hil] using hi.symm
          rw [this]
          exact (hf2 i hil).1
        · obtain ⟨i, hi, rfl⟩ := List.mem_map.1 hp
          exact (hf2 i (by simpa using hi)).2
    obtain ⟨po, pn, pc, ps, hc2, pl, pm, pb, p0, pr, pin⟩ := parts
    refine ⟨.mk k xo xn xc l po pn pc ps, ?_, In.mk' { kI := kb, xl := xl, xm := xm, xb := xb, x0 := x0, xr := xr, pl := pl, pm := pm, pb := pb, p0 := p0, pr := pr } pin⟩
    obtain ⟨c0, c1, c2, rfl⟩ : ∃ a b c, cs = [a, b, c] := by
      match cs, hlen3 with
      | [a, b, c], _ => exact ⟨a, b, c, rfl⟩
    have a0 : c0 = _ := Option.some.inj hk
    have a1 : c1 = _ := Option.some.inj hc1
    have a2 : c2 = _ := Option.some.inj hc2
    rw [a0, a1, a2]
    rfl

set_option maxRecDepth 100000 in
theorem open_shape {r : Reach} {b0 : Nat} {v : Value} {d : DataW H} {p : List MemPlace} (hv : Value.okWide Try.prog w r b0 45 v) (h : DataW.Trod enc Try.prog w base (fun _ => true) held 45 v d p) (hw : ∀ m ∈ d.weights Try.prog 45, m ≤ reachBytes) :
    ∃ s : Sh, v = .agg #[.int .i64 (s).k, .slice (s).xo (s).xn (s).xc, .slice (s).po (s).pn (s).pc] ∧ In (fun b => b < w.heap.size) w s := by
  obtain ⟨fs, hu, _⟩ := struct_of sh_shape
  simp only [Value.okWide, hu] at hv
  obtain ⟨cs', rfl, _⟩ := hv
  obtain ⟨cs, rfl⟩ : ∃ cs : List Value, cs' = cs.toArray := ⟨cs'.toList, by simp⟩
  obtain ⟨fuel, hf⟩ := h
  have hf' : DataW.trod enc Try.prog w base (fun _ => true) held fuel 45 cs = some (d, p) := by simpa [Value.cells] using hf
  obtain ⟨s, rfl, hs⟩ := open_sh fuel cs _ hf' hw
  exact ⟨s, rfl, hs⟩
set_option maxRecDepth 100000 in
theorem open_point {r : Reach} {b0 : Nat} {v : Value} {d : DataW H} {p : List MemPlace} (hv : Value.okWide Try.prog w r b0 23 v) (h : DataW.Trod enc Try.prog w base (fun _ => true) held 23 v d p) :
    ∃ a b : Int, v = .agg #[.int .i64 a, .int .i64 b] := by
  obtain ⟨fs, hu, _⟩ := struct_of point_shape
  simp only [Value.okWide, hu] at hv
  obtain ⟨cs', rfl, _⟩ := hv
  obtain ⟨cs, rfl⟩ : ∃ cs : List Value, cs' = cs.toArray := ⟨cs'.toList, by simp⟩
  obtain ⟨fuel, hf⟩ := h
  have hf' : DataW.trod enc Try.prog w base (fun _ => true) held fuel 23 cs = some (d, p) := by simpa [Value.cells] using hf
  obtain ⟨hl, _⟩ := field_ofW point_shape hf'
  rw [co41] at hl
  obtain ⟨⟨a, b⟩, h0, h1⟩ := one_pt hf'
  match cs, hl with
  | [c0, c1], _ =>
    simp at h0 h1
    exact ⟨a, b, by rw [h0, h1]⟩
end
end Go.Proofs.Ytjlahomjhadnkaa
