/- How acts and crashes that came in as arguments are read; no statement of the seat is proved here. -/
import Derived.Test.YtkgenmooepfhjaaAh
import Derived.Deep.Grids
import Derived.ProofKit
import Derived.OpenShut
import Derived.ChangeSlices
namespace Go.Proofs.Ytkgenmooepfhjaa
open Go.ChangeShapes Go.WideShapes Go.ChangeAt Go.RowKit

def shapeOf : TypeDesc → Option (List (TypeId × Nat))
  | .struct fs => some (fs.toList.map fun f => (f.type, f.offset))
  | _ => none

theorem struct_of {P : Program} {t : TypeId} {L : List (TypeId × Nat)} (h : (P.underlying t).bind shapeOf = some L) :
    ∃ fs : Array Field, P.underlying t = some (.struct fs) ∧ ∀ (i : Nat) (ty : TypeId) (off : Nat), L[i]? = some (ty, off) → ∃ f : Field, fs[i]? = some f ∧ f.type = ty ∧ f.offset = off := by
  obtain ⟨d, hd, hs⟩ := Option.bind_eq_some_iff.1 h
  cases d with
  | struct fs =>
    refine ⟨fs, hd, fun i ty off hi => ?_⟩
    simp only [shapeOf, Option.some.injEq] at hs
    subst hs
    rw [List.getElem?_map] at hi
    obtain ⟨f, hf, he⟩ := Option.map_eq_some_iff.1 hi
    simp only [Prod.mk.injEq] at he
    exact ⟨f, by simpa using hf, he.1, he.2⟩
  | _ => simp [shapeOf] at hs

section
variable {H : Type} {enc : TypeId × Value → H} {P : Program} {w : World} {base : Nat} {spare : Nat → Bool} {held : Bool}

theorem field_of {t : TypeId} {L : List (TypeId × Nat)} (h : (P.underlying t).bind shapeOf = some L) {fuel : Nat} {cs : List Value} {x : DataW H × List MemPlace}
    (hx : DataW.trod enc P w base spare held fuel t cs = some x) : cs.length = P.cellsOf t ∧ ∀ (i : Nat) (ty : TypeId) (off : Nat), L[i]? = some (ty, off) → ∃ y n, DataW.trod enc P w base spare held n ty ((cs.drop off).take (P.cellsOf ty)) = some y := by
  obtain ⟨fs, hu, hf⟩ := struct_of h
  obtain ⟨xs, n, _, _, hl, hxl, hi⟩ := DataW.trod_struct hu hx
  refine ⟨hl, fun i ty off hL => ?_⟩
  obtain ⟨f, h1, rfl, rfl⟩ := hf i ty off hL
  have h2 := hi i f h1
  have hlt : i < xs.length := by
    rw [hxl]; exact (Array.getElem?_eq_some_iff.1 h1).1
  exact ⟨xs[i], n, by rw [h2, List.getElem?_eq_getElem hlt]⟩

theorem int_at {ty : TypeId} {k : IntKind} (hu : P.underlying ty = some (.int k)) (hc : P.cellsOf ty = 1) {n off : Nat} {cs : List Value} {y : DataW H × List MemPlace}
    (h : DataW.trod enc P w base spare held n ty ((cs.drop off).take (P.cellsOf ty)) = some y) : ∃ z : Int, cs[off]? = some (.int k z) ∧ (Lit.int k z).wf = true := by
  obtain ⟨z, hz, _, hw⟩ := DataW.trod_int hu h
  refine ⟨z, ?_, hw⟩
  have h3 := congrArg (fun l : List Value => l[0]?) hz
  simp [hc] at h3
  simpa using h3

theorem bool_at {ty : TypeId} (hu : P.underlying ty = some .bool) (hc : P.cellsOf ty = 1) {n off : Nat} {cs : List Value} {y : DataW H × List MemPlace}
    (h : DataW.trod enc P w base spare held n ty ((cs.drop off).take (P.cellsOf ty)) = some y) : ∃ b : Bool, cs[off]? = some (.bool b) := by
  obtain ⟨b, hz, _⟩ := DataW.trod_bool hu h
  refine ⟨b, ?_⟩
  have h3 := congrArg (fun l : List Value => l[0]?) hz
  simp [hc] at h3
  simpa using h3

theorem bounds_u8' {z : Int} (h : (Lit.int .u8 z).wf = true) : 0 ≤ z ∧ z < 256 := by
  simp [Lit.wf, IntKind.min, IntKind.max, IntKind.bits, IntKind.signed] at h
  omega


theorem bounds_i64' {z : Int} (h : (Lit.int .i64 z).wf = true) : -9223372036854775808 ≤ z ∧ z ≤ 9223372036854775807 := by
  simp [Lit.wf, IntKind.min, IntKind.max, IntKind.bits, IntKind.signed] at h
  omega

/-- A slice of bools that came in. -/
theorem bools_open {t : TypeId} (ht : P.underlying t = some (.slice 4)) (he : P.underlying 4 = some .bool) (hc : P.cellsOf 4 = 1) {n : Nat} {cs : List Value} {y : DataW H × List MemPlace}
    (h : DataW.trod enc P w base (fun _ => true) held n t cs = some y) : ∃ ao cap xs, cs = [.slice ao xs.length cap] ∧ RdB w ao xs ∧ xs.length ≤ 9223372036854775807 := by
  rcases Go.Deep.open_bools ht he hc h with ⟨rfl, _⟩ | ⟨a, len, cap, B, rfl, _, hl, hm, _, hcell⟩
  · exact ⟨none, 0, [], rfl, fun h => by simp at h, by simp⟩
  · refine ⟨some a, cap, (List.range len).map B, by simp, fun hp => ?_, by simp; unfold maxLen at hm; omega⟩
    simp only [List.length_map, List.length_range] at hp ⊢
    obtain ⟨b, off, spot⟩ := a
    have hspot : spot = none := by simpa [Addr.add] using World.cell?_spot (hcell 0 (by omega))
    subst hspot
    refine ⟨b, off, rfl, fun t ht => ?_⟩
    have hct := hcell t (by omega)
    rw [Addr.add_lit] at hct
    rw [hct]
    simp [List.getD, List.getElem?_map, List.getElem?_range ht]
end

theorem act_shape : (Try.prog.underlying 34).bind shapeOf = some [(3, 0), (3, 1), (3, 2), (3, 3), (5, 4), (32, 5)] := by kernel_rfl
theorem crash_shape : (Try.prog.underlying 32).bind shapeOf = some [(30, 0), (3, 1)] := by kernel_rfl

/-- An act, as it came in. -/
structure Av where
  k : Int
  f : Int
  a : Int
  n : Int
  s : Nat
  ko : Option Addr
  kc : Nat
  keep : List Bool
  t : Int

def I64 (z : Int) : Prop := -9223372036854775808 ≤ z ∧ z ≤ 9223372036854775807
structure AvOk (w : World) (x : Av) : Prop where
  k : I64 x.k
  f : I64 x.f
  a : I64 x.a
  n : I64 x.n
  s : x.s < 256
  t : I64 x.t
  keep : RdB w x.ko x.keep
  kl : x.keep.length ≤ 9223372036854775807

theorem AvOk.later {w w' : World} {x : Av} (h : AvOk w x) (hb : Below w.heap.size w w') : AvOk w' x :=
  ⟨h.k, h.f, h.a, h.n, h.s, h.t, fun hp => by obtain ⟨b, off, e, hc⟩ := h.keep hp; exact ⟨b, off, e, fun t ht => keep_old hb (hc t ht)⟩, h.kl⟩

section
variable {H : Type} {enc : TypeId × Value → H} {w : World} {base : Nat} {held : Bool}

theorem one_crash {n : Nat} {cs : List Value} {y : DataW H × List MemPlace} (h : DataW.trod enc Try.prog w base (fun _ => true) held n 32 cs = some y) :
    ∃ (ko : Option Addr) (kc : Nat) (keep : List Bool) (t : Int), cs[0]? = some (.slice ko keep.length kc) ∧ cs[1]? = some (.int .i64 t) ∧ RdB w ko keep ∧ keep.length ≤ 9223372036854775807 ∧ I64 t ∧ cs.length = 2 := by
  obtain ⟨hl, hx⟩ := field_of crash_shape h
  rw [show Try.prog.cellsOf 32 = 2 by kernel_rfl] at hl
  obtain ⟨y0, n0, h0⟩ := hx 0 30 0 rfl
  obtain ⟨y1, n1, h1⟩ := hx 1 3 1 rfl
  obtain ⟨ko, kc, keep, hcs, hr, hkl⟩ := bools_open Try.underlying30 Try.underlying4 (by kernel_rfl) h0
  obtain ⟨t, ht, hw⟩ := int_at Try.underlying3 (by kernel_rfl) h1
  have hc0 : cs[0]? = some (.slice ko keep.length kc) := by
    have h3 := congrArg (fun l : List Value => l[0]?) hcs
    rw [show Try.prog.cellsOf 30 = 1 by kernel_rfl] at h3
    simp at h3
    simpa using h3
  exact ⟨ko, kc, keep, t, hc0, ht, hr, hkl, bounds_i64' hw, hl⟩

theorem one_act {n : Nat} {cs : List Value} {y : DataW H × List MemPlace} (h : DataW.trod enc Try.prog w base (fun _ => true) held n 34 cs = some y) :
    ∃ x : Av, cs[0]? = some (.int .i64 x.k) ∧ cs[1]? = some (.int .i64 x.f) ∧ cs[2]? = some (.int .i64 x.a) ∧ cs[3]? = some (.int .i64 x.n) ∧ cs[4]? = some (.int .u8 (x.s : Int)) ∧ cs[5]? = some (.slice x.ko x.keep.length x.kc) ∧ cs[6]? = some (.int .i64 x.t) ∧ AvOk w x ∧ cs.length = 7 := by
  obtain ⟨hl, hx⟩ := field_of act_shape h
  rw [show Try.prog.cellsOf 34 = 7 by kernel_rfl] at hl
  obtain ⟨y0, n0, h0⟩ := hx 0 3 0 rfl
  obtain ⟨y1, n1, h1⟩ := hx 1 3 1 rfl
  obtain ⟨y2, n2, h2⟩ := hx 2 3 2 rfl
  obtain ⟨y3, n3, h3⟩ := hx 3 3 3 rfl
  obtain ⟨y4, n4, h4⟩ := hx 4 5 4 rfl
  obtain ⟨y5, n5, h5⟩ := hx 5 32 5 rfl
  obtain ⟨k, hk, wk⟩ := int_at Try.underlying3 (by kernel_rfl) h0
  obtain ⟨f, hf, wf⟩ := int_at Try.underlying3 (by kernel_rfl) h1
  obtain ⟨a, ha, wa⟩ := int_at Try.underlying3 (by kernel_rfl) h2
  obtain ⟨n', hn, wn⟩ := int_at Try.underlying3 (by kernel_rfl) h3
  obtain ⟨s, hs, ws⟩ := int_at Try.underlying5 (by kernel_rfl) h4
  obtain ⟨ko, kc, keep, t, c5, c6, hr, hkl, ht, _⟩ := one_crash h5
  rw [show Try.prog.cellsOf 32 = 2 by kernel_rfl] at c5 c6
  have hsb := bounds_u8' ws
  obtain ⟨s', rfl⟩ := Int.eq_ofNat_of_zero_le hsb.1
  refine ⟨⟨k, f, a, n', s', ko, kc, keep, t⟩, hk, hf, ha, hn, hs, ?_, ?_, ⟨bounds_i64' wk, bounds_i64' wf, bounds_i64' wa, bounds_i64' wn, by simp only; omega, ht, hr, hkl⟩, hl⟩
  · simpa using c5
  · simpa using c6

theorem agg_of {P : Program} {r : Reach} {b0 : Nat} {t : TypeId} {fs : Array Field} {v : Value} (hu : P.underlying t = some (.struct fs)) (hv : Value.okWide P w r b0 t v) : ∃ cs : List Value, v = .agg cs.toArray := by
  simp only [Value.okWide, hu] at hv
  obtain ⟨cs, rfl, _⟩ := hv
  exact ⟨cs.toList, by simp⟩

set_option maxRecDepth 100000 in
/-- One act, as an argument. -/
theorem open_act {r : Reach} {b0 : Nat} {v : Value} {d : DataW H} {p : List MemPlace} (hv : Value.okWide Try.prog w r b0 34 v) (h : DataW.Trod enc Try.prog w base (fun _ => true) held 34 v d p) :
    ∃ x : Av, v = .agg #[.int .i64 x.k, .int .i64 x.f, .int .i64 x.a, .int .i64 x.n, .int .u8 (x.s : Int), .slice x.ko x.keep.length x.kc, .int .i64 x.t] ∧ AvOk w x := by
  obtain ⟨fs, hu, _⟩ := struct_of act_shape
  obtain ⟨cs, rfl⟩ := agg_of hu hv
  obtain ⟨fuel, hf⟩ := h
  have hf' : DataW.trod enc Try.prog w base (fun _ => true) held fuel 34 cs = some (d, p) := by simpa [Value.cells] using hf
  obtain ⟨x, c0, c1, c2, c3, c4, c5, c6, ok, hl⟩ := one_act hf'
  refine ⟨x, ?_, ok⟩
  match cs, hl with
  | [e0, e1, e2, e3, e4, e5, e6], _ =>
    simp at c0 c1 c2 c3 c4 c5 c6
    rw [c0, c1, c2, c3, c4, c5, c6]

set_option maxRecDepth 100000 in
/-- One crash, as an argument. -/
theorem open_crash {r : Reach} {b0 : Nat} {v : Value} {d : DataW H} {p : List MemPlace} (hv : Value.okWide Try.prog w r b0 32 v) (h : DataW.Trod enc Try.prog w base (fun _ => true) held 32 v d p) :
    ∃ (ko : Option Addr) (kc : Nat) (keep : List Bool) (t : Int), v = .agg #[.slice ko keep.length kc, .int .i64 t] ∧ RdB w ko keep ∧ keep.length ≤ 9223372036854775807 ∧ I64 t := by
  obtain ⟨fs, hu, _⟩ := struct_of crash_shape
  obtain ⟨cs, rfl⟩ := agg_of hu hv
  obtain ⟨fuel, hf⟩ := h
  have hf' : DataW.trod enc Try.prog w base (fun _ => true) held fuel 32 cs = some (d, p) := by simpa [Value.cells] using hf
  obtain ⟨ko, kc, keep, t, c0, c1, hr, hkl, ht, hl⟩ := one_crash hf'
  refine ⟨ko, kc, keep, t, ?_, hr, hkl, ht⟩
  match cs, hl with
  | [e0, e1], _ =>
    simp at c0 c1
    rw [c0, c1]

/-- Acts that lie one behind the other. -/
def Acts (w : World) (b off L : Nat) (X : Nat → Av) : Prop :=
  ∀ i, i < L → w.cell? ⟨b, off + i * 7, none⟩ = some (.int .i64 (X i).k) ∧ w.cell? ⟨b, off + i * 7 + 1, none⟩ = some (.int .i64 (X i).f) ∧ w.cell? ⟨b, off + i * 7 + 2, none⟩ = some (.int .i64 (X i).a) ∧ w.cell? ⟨b, off + i * 7 + 3, none⟩ = some (.int .i64 (X i).n) ∧ w.cell? ⟨b, off + i * 7 + 4, none⟩ = some (.int .u8 ((X i).s : Int)) ∧
    w.cell? ⟨b, off + i * 7 + 5, none⟩ = some (.slice (X i).ko (X i).keep.length (X i).kc) ∧ w.cell? ⟨b, off + i * 7 + 6, none⟩ = some (.int .i64 (X i).t) ∧ AvOk w (X i)

theorem Acts.keep {w w' : World} {b off L : Nat} {X : Nat → Av} (h : Acts w b off L X) (hb : Below w.heap.size w w') : Acts w' b off L X := fun i hi => by
  obtain ⟨h0, h1, h2, h3, h4, h5, h6, ok⟩ := h i hi
  exact ⟨keep_old hb h0, keep_old hb h1, keep_old hb h2, keep_old hb h3, keep_old hb h4, keep_old hb h5, keep_old hb h6, ok.later hb⟩

set_option maxRecDepth 100000 in
theorem open_acts {t : TypeId} (ht : Try.prog.underlying t = some (.slice 34)) {r : Reach} {b0 : Nat} {v : Value} {d : DataW H} {p : List MemPlace} (hv : Value.okWide Try.prog w r b0 t v) (h : DataW.Trod enc Try.prog w base (fun _ => true) held t v d p) :
    (∃ lo C, v = .slice lo 0 C) ∨ ∃ b off L C X, 0 < L ∧ L ≤ 9223372036854775807 ∧ v = .slice (some ⟨b, off, none⟩) L C ∧ Acts w b off L X := by
  obtain ⟨ao', len', cap', rfl⟩ := okWide_slice ht hv
  obtain ⟨fuel, hf⟩ := h
  rcases DataW.trod_slice ht hf with ⟨hcs, _⟩ | ⟨a, len, cap, elems, rest, n, _, hcs, _, _, hl, hm, hlen, hel, _, _⟩
  · simp [Value.cells] at hcs
    obtain ⟨rfl, rfl, rfl⟩ := hcs
    exact Or.inl ⟨_, _, rfl⟩
  · simp [Value.cells] at hcs
    obtain ⟨rfl, rfl, rfl⟩ := hcs
    by_cases h0 : len' = 0
    · subst h0; exact Or.inl ⟨_, _, rfl⟩
    right
    rw [show Try.prog.cellsOf 34 = 7 by kernel_rfl] at hel
    have each : ∀ i, i < len' → ∃ cs y, w.cells? base (a.add (i * 7)) 7 = some cs ∧ DataW.trod enc Try.prog w base (fun _ => true) held n 34 cs = some y := by
      intro i hi
      have h1 := hel i hi
      rw [List.getElem?_eq_getElem (by omega), Option.bind_eq_some_iff] at h1
      obtain ⟨cs, hc, ht⟩ := h1
      exact ⟨cs, _, hc, ht⟩
    obtain ⟨b, off, spot⟩ := a
    have hspot : spot = none := by
      obtain ⟨cs, y, hc, ht⟩ := each 0 (by omega)
      obtain ⟨x, t0, _⟩ := one_act ht
      have h2 := (World.cells?_some hc).2.2 0 (by omega)
      rw [t0] at h2
      have := World.cell?_spot h2
      simpa [Addr.add] using this
    subst hspot
    have each2 : ∀ i, ∃ x : Av, i < len' → w.cell? ⟨b, off + i * 7, none⟩ = some (.int .i64 x.k) ∧ w.cell? ⟨b, off + i * 7 + 1, none⟩ = some (.int .i64 x.f) ∧ w.cell? ⟨b, off + i * 7 + 2, none⟩ = some (.int .i64 x.a) ∧ w.cell? ⟨b, off + i * 7 + 3, none⟩ = some (.int .i64 x.n) ∧ w.cell? ⟨b, off + i * 7 + 4, none⟩ = some (.int .u8 (x.s : Int)) ∧
        w.cell? ⟨b, off + i * 7 + 5, none⟩ = some (.slice x.ko x.keep.length x.kc) ∧ w.cell? ⟨b, off + i * 7 + 6, none⟩ = some (.int .i64 x.t) ∧ AvOk w x := by
      intro i
      by_cases hi : i < len'
      · obtain ⟨cs, y, hc, ht⟩ := each i hi
        obtain ⟨x, t0, t1, t2, t3, t4, t5, t6, ok, _⟩ := one_act ht
        have h2 := (World.cells?_some hc).2.2
        refine ⟨x, fun _ => ⟨?_, ?_, ?_, ?_, ?_, ?_, ?_, ok⟩⟩
        · have := h2 0 (by omega); rw [t0, Addr.add_lit, Addr.add_lit] at this; simpa using this
        · have := h2 1 (by omega); rw [t1, Addr.add_lit, Addr.add_lit] at this; exact this
        · have := h2 2 (by omega); rw [t2, Addr.add_lit, Addr.add_lit] at this; exact this
        · have := h2 3 (by omega); rw [t3, Addr.add_lit, Addr.add_lit] at this; exact this
        · have := h2 4 (by omega); rw [t4, Addr.add_lit, Addr.add_lit] at this; exact this
        · have := h2 5 (by omega); rw [t5, Addr.add_lit, Addr.add_lit] at this; exact this
        · have := h2 6 (by omega); rw [t6, Addr.add_lit, Addr.add_lit] at this; exact this
      · exact ⟨⟨0, 0, 0, 0, 0, none, 0, [], 0⟩, fun h => absurd h hi⟩
    obtain ⟨f, hf2⟩ := Classical.axiomOfChoice each2
    exact ⟨b, off, len', cap', f, by omega, by unfold maxLen at hm; omega, rfl, hf2⟩
end

end Go.Proofs.Ytkgenmooepfhjaa
