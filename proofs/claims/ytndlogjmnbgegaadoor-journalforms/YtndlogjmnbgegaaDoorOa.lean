/- How slices of bytes that came in are read, and what the table that the program's text lays gives the walks; no statement of the seat is proved here. -/
import Derived.Test.YtndlogjmnbgegaaDoorAa
import Derived.ProofKit
import Derived.OpenShut
import Derived.ChangeSlices
import Derived.LaidMore
import Derived.Lib.LaidTab
namespace Go.Proofs.YtndlogjmnbgegaaDoor
open Go.ChangeShapes Go.WideShapes Go.ChangeAt Go.RowKit

def shapeOf : TypeDesc → Option (List (TypeId × Nat))
  | .struct fs => some (fs.toList.map fun f => (f.type, f.offset))
  | _ => none

theorem struct_of {P : Program} {t : TypeId} {L : List (TypeId × Nat)} (h : (P.underlying t).bind shapeOf = some L) :
    ∃ fs : Array Field, P.underlying t = some (.struct fs) ∧ ∀ (i : Nat) (ty : TypeId) (off : Nat), L[i]? = some (ty, off) → ∃ f : Field, fs[i]? = some f ∧ f.type = ty ∧ f.offset = off := by
  obtain ⟨d, hd, hs⟩ := Option.bind_eq_some_iff.1 h
  cases d with
  | struct fs =>
    refine ⟨fs, hd, fun i ty off hi => ?_⟩
    simp only [shapeOf, Option.some.injEq] at hs
    subst hs
    rw [List.getElem?_map] at hi
    obtain ⟨f, hf, he⟩ := Option.map_eq_some_iff.1 hi
    simp only [Prod.mk.injEq] at he
    exact ⟨f, by simpa using hf, he.1, he.2⟩
  | _ => simp [shapeOf] at hs

section
variable {H : Type} {enc : TypeId × Value → H} {P : Program} {w : World} {base : Nat} {spare : Nat → Bool} {held : Bool}

theorem field_of {t : TypeId} {L : List (TypeId × Nat)} (h : (P.underlying t).bind shapeOf = some L) {fuel : Nat} {cs : List Value} {x : DataW H × List MemPlace}
    (hx : DataW.trod enc P w base spare held fuel t cs = some x) : cs.length = P.cellsOf t ∧ ∀ (i : Nat) (ty : TypeId) (off : Nat), L[i]? = some (ty, off) → ∃ y n, DataW.trod enc P w base spare held n ty ((cs.drop off).take (P.cellsOf ty)) = some y := by
  obtain ⟨fs, hu, hf⟩ := struct_of h
  obtain ⟨xs, n, _, _, hl, hxl, hi⟩ := DataW.trod_struct hu hx
  refine ⟨hl, fun i ty off hL => ?_⟩
  obtain ⟨f, h1, rfl, rfl⟩ := hf i ty off hL
  have h2 := hi i f h1
  have hlt : i < xs.length := by
    rw [hxl]; exact (Array.getElem?_eq_some_iff.1 h1).1
  exact ⟨xs[i], n, by rw [h2, List.getElem?_eq_getElem hlt]⟩

theorem int_at {ty : TypeId} {k : IntKind} (hu : P.underlying ty = some (.int k)) (hc : P.cellsOf ty = 1) {n off : Nat} {cs : List Value} {y : DataW H × List MemPlace}
    (h : DataW.trod enc P w base spare held n ty ((cs.drop off).take (P.cellsOf ty)) = some y) : ∃ z : Int, cs[off]? = some (.int k z) ∧ (Lit.int k z).wf = true := by
  obtain ⟨z, hz, _, hw⟩ := DataW.trod_int hu h
  refine ⟨z, ?_, hw⟩
  have h3 := congrArg (fun l : List Value => l[0]?) hz
  simp [hc] at h3
  simpa using h3

theorem bool_at {ty : TypeId} (hu : P.underlying ty = some .bool) (hc : P.cellsOf ty = 1) {n off : Nat} {cs : List Value} {y : DataW H × List MemPlace}
    (h : DataW.trod enc P w base spare held n ty ((cs.drop off).take (P.cellsOf ty)) = some y) : ∃ b : Bool, cs[off]? = some (.bool b) := by
  obtain ⟨b, hz, _⟩ := DataW.trod_bool hu h
  refine ⟨b, ?_⟩
  have h3 := congrArg (fun l : List Value => l[0]?) hz
  simp [hc] at h3
  simpa using h3

end

section
variable {H : Type} {enc : TypeId × Value → H} {P : Program} {w : World} {base : Nat} {held : Bool}

theorem bounds_u8' {z : Int} (h : (Lit.int .u8 z).wf = true) : 0 ≤ z ∧ z < 256 := by
  simp [Lit.wf, IntKind.min, IntKind.max, IntKind.bits, IntKind.signed] at h
  omega

/-- The cells of a slice of bytes, as what the walks ask. -/
theorem rd_open {t : TypeId} (ht : P.underlying t = some (.slice 5)) (he : P.underlying 5 = some (.int .u8)) (hc : P.cellsOf 5 = 1) {n : Nat} {cs : List Value} {y : DataW H × List MemPlace}
    (h : DataW.trod enc P w base (fun _ => true) held n t cs = some y) :
    ∃ ao len cap xs, cs = [.slice ao len cap] ∧ Rd w ao len cap xs ∧ (∀ x ∈ xs, x < 256) ∧ len ≤ 9223372036854775807 := by
  rcases open_ints ht he hc h with ⟨rfl, _⟩ | ⟨a, len, cap, zs, rfl, _, hl, hm, hz, _, hcell, hwz⟩
  · exact ⟨none, 0, 0, [], rfl, Rd.nil w, by simp, by omega⟩
  · simp at hz
    refine ⟨some a, len, cap, (zs.take len).map Int.toNat, rfl, ⟨by simp; omega, hl, fun h => (by cases h), fun hp => ?_⟩, ?_, by unfold maxLen at hm; omega⟩
    · obtain ⟨b, off, spot⟩ := a
      have hc0 := hcell 0 (by omega)
      have hspot : spot = none := by simpa [Addr.add] using World.cell?_spot hc0
      subst hspot
      refine ⟨b, off, rfl, fun t ht => ?_⟩
      have hct := hcell t (by omega)
      rw [Addr.add_lit] at hct
      rw [hct]
      have hb := bounds_u8' (hwz (zs.getD t 0) (by rw [List.getD_eq_getElem?_getD, List.getElem?_eq_getElem (show t < zs.length by omega)]; simp))
      simp [List.getD, List.getElem?_map, ht, List.getElem?_eq_getElem (show t < zs.length by omega)] at hb ⊢
      omega
    · intro x hx
      obtain ⟨z, hz, rfl⟩ := List.mem_map.1 hx
      have := bounds_u8' (hwz z (List.mem_of_mem_take hz))
      omega

theorem open_bytes {r : Reach} {b0 : Nat} {t : TypeId} {v : Value} {d : DataW H} {p : List MemPlace} (ht : P.underlying t = some (.slice 5)) (he : P.underlying 5 = some (.int .u8)) (hc : P.cellsOf 5 = 1)
    (hv : Value.okWide P w r b0 t v) (h : DataW.Trod enc P w base (fun _ => true) held t v d p) :
    ∃ ao len cap xs, v = .slice ao len cap ∧ Rd w ao len cap xs ∧ (∀ x ∈ xs, x < 256) ∧ len ≤ 9223372036854775807 := by
  obtain ⟨ao', len', cap', rfl⟩ := okWide_slice ht hv
  obtain ⟨fuel, hf⟩ := h
  obtain ⟨ao, len, cap, xs, hcs, hr⟩ := rd_open ht he hc hf
  simp [Value.cells] at hcs
  obtain ⟨rfl, rfl, rfl⟩ := hcs
  exact ⟨_, _, _, xs, rfl, hr⟩
end

theorem bounds_u32 {z : Int} (h : (Lit.int .u32 z).wf = true) : 0 ≤ z ∧ z < 4294967296 := by
  simp [Lit.wf, IntKind.min, IntKind.max, IntKind.bits, IntKind.signed] at h
  omega
theorem bounds_uint {z : Int} (h : (Lit.int .u64 z).wf = true) : 0 ≤ z ∧ z < 18446744073709551616 := by
  simp [Lit.wf, IntKind.min, IntKind.max, IntKind.bits, IntKind.signed] at h
  omega

theorem bounds_i64' {z : Int} (h : (Lit.int .i64 z).wf = true) : -9223372036854775808 ≤ z ∧ z ≤ 9223372036854775807 := by
  simp [Lit.wf, IntKind.min, IntKind.max, IntKind.bits, IntKind.signed] at h
  omega

theorem head_shape : (Tryd.prog.underlying 24).bind shapeOf = some [(3, 0), (3, 1), (22, 2)] := by kernel_rfl
theorem seed_shape : (Tryd.prog.underlying 66).bind shapeOf = some [(3, 0), (5, 1), (4, 2)] := by kernel_rfl
theorem Tryd.u25 : Tryd.prog.underlying 25 = some (.slice 66) := by kernel_rfl

section
variable {H : Type} {enc : TypeId × Value → H} {w : World} {base : Nat} {held : Bool}

theorem agg_of {P : Program} {r : Reach} {b0 : Nat} {t : TypeId} {fs : Array Field} {v : Value} (hu : P.underlying t = some (.struct fs)) (hv : Value.okWide P w r b0 t v) : ∃ cs : List Value, v = .agg cs.toArray := by
  simp only [Value.okWide, hu] at hv
  obtain ⟨cs, rfl, _⟩ := hv
  exact ⟨cs.toList, by simp⟩

theorem open_head {spare : Nat → Bool} {r : Reach} {b0 : Nat} {v : Value} {d : DataW H} {p : List MemPlace} (hv : Value.okWide Tryd.prog w r b0 24 v) (h : DataW.Trod enc Tryd.prog w base spare held 24 v d p) :
    ∃ (c q : Int) (n : Nat), v = .agg #[.int .i64 c, .int .i64 q, .int .u64 (n : Int)] ∧ n < 18446744073709551616 ∧ (-9223372036854775808 ≤ c ∧ c ≤ 9223372036854775807) ∧ (-9223372036854775808 ≤ q ∧ q ≤ 9223372036854775807) := by
  obtain ⟨fs, hu, _⟩ := struct_of head_shape
  obtain ⟨cs, rfl⟩ := agg_of hu hv
  obtain ⟨fuel, hf⟩ := h
  have hf' : DataW.trod enc Tryd.prog w base spare held fuel 24 cs = some (d, p) := by simpa [Value.cells] using hf
  obtain ⟨hl, hx⟩ := field_of head_shape hf'
  rw [show Tryd.prog.cellsOf 24 = 3 by kernel_rfl] at hl
  obtain ⟨y0, n0, h0⟩ := hx 0 3 0 rfl
  obtain ⟨y1, n1, h1⟩ := hx 1 3 1 rfl
  obtain ⟨y2, n2, h2⟩ := hx 2 22 2 rfl
  obtain ⟨k, hk, kw⟩ := int_at Tryd.underlying3 (by kernel_rfl) h0
  obtain ⟨z, hz, zw⟩ := int_at Tryd.underlying3 (by kernel_rfl) h1
  obtain ⟨n, hn, hw⟩ := int_at Tryd.underlying22 (by kernel_rfl) h2
  have hb := bounds_uint hw
  obtain ⟨n, rfl⟩ := Int.eq_ofNat_of_zero_le hb.1
  match cs, hl with
  | [c0, c1, c2], _ =>
    simp at hk hz hn
    exact ⟨k, z, n, by rw [hk, hz, hn], by omega, bounds_i64' kw, bounds_i64' zw⟩

theorem one_seed {spare : Nat → Bool} {n : Nat} {cs : List Value} {y : DataW H × List MemPlace} (h : DataW.trod enc Tryd.prog w base spare held n 66 cs = some y) :
    ∃ t : Int × Nat × Bool, cs[0]? = some (.int .i64 t.1) ∧ cs[1]? = some (.int .u8 (t.2.1 : Int)) ∧ cs[2]? = some (.bool t.2.2) ∧ t.2.1 < 256 ∧ (-9223372036854775808 ≤ t.1 ∧ t.1 ≤ 9223372036854775807) := by
  obtain ⟨_, hx⟩ := field_of seed_shape h
  obtain ⟨y0, n0, h0⟩ := hx 0 3 0 rfl
  obtain ⟨y1, n1, h1⟩ := hx 1 5 1 rfl
  obtain ⟨y2, n2, h2⟩ := hx 2 4 2 rfl
  obtain ⟨k, hk, kw⟩ := int_at Tryd.underlying3 (by kernel_rfl) h0
  obtain ⟨z, hz, zw⟩ := int_at Tryd.underlying5 (by kernel_rfl) h1
  obtain ⟨l, hl⟩ := bool_at Tryd.underlying4 (by kernel_rfl) h2
  have hb := bounds_u8' zw
  obtain ⟨z, rfl⟩ := Int.eq_ofNat_of_zero_le hb.1
  exact ⟨(k, z, l), hk, hz, hl, by simp only; omega, bounds_i64' kw⟩

theorem open_seed {spare : Nat → Bool} {r : Reach} {b0 : Nat} {v : Value} {d : DataW H} {p : List MemPlace} (hv : Value.okWide Tryd.prog w r b0 66 v) (h : DataW.Trod enc Tryd.prog w base spare held 66 v d p) :
    ∃ (q : Int) (s : Nat) (l : Bool), v = .agg #[.int .i64 q, .int .u8 (s : Int), .bool l] ∧ s < 256 ∧ (-9223372036854775808 ≤ q ∧ q ≤ 9223372036854775807) := by
  obtain ⟨fs, hu, _⟩ := struct_of seed_shape
  obtain ⟨cs, rfl⟩ := agg_of hu hv
  obtain ⟨fuel, hf⟩ := h
  have hf' : DataW.trod enc Tryd.prog w base spare held fuel 66 cs = some (d, p) := by simpa [Value.cells] using hf
  obtain ⟨hl, _⟩ := field_of seed_shape hf'
  rw [show Tryd.prog.cellsOf 66 = 3 by kernel_rfl] at hl
  obtain ⟨⟨q, s, l⟩, h0, h1, h2, h3, h4⟩ := one_seed hf'
  match cs, hl with
  | [c0, c1, c2], _ =>
    simp at h0 h1 h2
    exact ⟨q, s, l, by rw [h0, h1, h2], h3, h4⟩

/-- A list of seeds in memory. -/
def Seeds (w : World) (lo : Option Addr) (L : Nat) (X : Nat → Int × Nat × Bool) : Prop :=
  0 < L → ∃ b off, lo = some ⟨b, off, none⟩ ∧ ∀ i, i < L → w.cell? ⟨b, off + i * 3, none⟩ = some (.int .i64 (X i).1) ∧ w.cell? ⟨b, off + i * 3 + 1, none⟩ = some (.int .u8 ((X i).2.1 : Int)) ∧ w.cell? ⟨b, off + i * 3 + 2, none⟩ = some (.bool (X i).2.2) ∧
    (X i).2.1 < 256 ∧ (-9223372036854775808 ≤ (X i).1 ∧ (X i).1 ≤ 9223372036854775807)

theorem open_seeds {r : Reach} {b0 : Nat} {v : Value} {d : DataW H} {p : List MemPlace} (hv : Value.okWide Tryd.prog w r b0 25 v) (h : DataW.Trod enc Tryd.prog w base (fun _ => true) held 25 v d p) :
    ∃ lo L C X, v = .slice lo L C ∧ Seeds w lo L X := by
  obtain ⟨ao', len', cap', rfl⟩ := okWide_slice Tryd.u25 hv
  obtain ⟨fuel, hf⟩ := h
  rcases DataW.trod_slice Tryd.u25 hf with ⟨hcs, _⟩ | ⟨a, len, cap, elems, rest, n, _, hcs, _, _, hl, hm, hlen, hel, _, _⟩
  · simp [Value.cells] at hcs
    obtain ⟨rfl, rfl, rfl⟩ := hcs
    exact ⟨_, _, _, fun _ => (0, 0, false), rfl, fun h => by omega⟩
  · simp [Value.cells] at hcs
    obtain ⟨rfl, rfl, rfl⟩ := hcs
    by_cases h0 : len' = 0
    · subst h0
      exact ⟨_, _, _, fun _ => (0, 0, false), rfl, fun h => by omega⟩
    rw [show Tryd.prog.cellsOf 66 = 3 by kernel_rfl] at hel
    have each : ∀ i, i < len' → ∃ cs y, w.cells? base (a.add (i * 3)) 3 = some cs ∧ DataW.trod enc Tryd.prog w base (fun _ => true) held n 66 cs = some y := by
      intro i hi
      have h1 := hel i hi
      rw [List.getElem?_eq_getElem (by omega), Option.bind_eq_some_iff] at h1
      obtain ⟨cs, hc, ht⟩ := h1
      exact ⟨cs, _, hc, ht⟩
    obtain ⟨b, off, spot⟩ := a
    have hspot : spot = none := by
      obtain ⟨cs, y, hc, ht⟩ := each 0 (by omega)
      obtain ⟨t, t0, _⟩ := one_seed ht
      have h2 := (World.cells?_some hc).2.2 0 (by omega)
      rw [t0] at h2
      have := World.cell?_spot h2
      simpa [Addr.add] using this
    subst hspot
    have each2 : ∀ i, ∃ t : Int × Nat × Bool, i < len' → w.cell? ⟨b, off + i * 3, none⟩ = some (.int .i64 t.1) ∧ w.cell? ⟨b, off + i * 3 + 1, none⟩ = some (.int .u8 (t.2.1 : Int)) ∧ w.cell? ⟨b, off + i * 3 + 2, none⟩ = some (.bool t.2.2) ∧
        t.2.1 < 256 ∧ (-9223372036854775808 ≤ t.1 ∧ t.1 ≤ 9223372036854775807) := by
      intro i
      by_cases hi : i < len'
      · obtain ⟨cs, y, hc, ht⟩ := each i hi
        obtain ⟨t, t0, t1, t2, tr⟩ := one_seed ht
        have h2 := (World.cells?_some hc).2.2
        refine ⟨t, fun _ => ⟨?_, ?_, ?_, tr⟩⟩
        · have := h2 0 (by omega); rw [t0, Addr.add_lit, Addr.add_lit] at this; simpa using this
        · have := h2 1 (by omega); rw [t1, Addr.add_lit, Addr.add_lit] at this; exact this
        · have := h2 2 (by omega); rw [t2, Addr.add_lit, Addr.add_lit] at this; exact this
      · exact ⟨(0, 0, false), fun h => absurd h hi⟩
    obtain ⟨f, hf2⟩ := Classical.axiomOfChoice each2
    exact ⟨_, _, _, f, rfl, fun _ => ⟨b, off, rfl, hf2⟩⟩
end

def laid1 : List (String × DataW Unit) := [("hachure/sum.carried", Rows.laid_hachure_sum_carried)]
def tabZ : List Int := [0, 274646895, 549293790, 820201905, 1098587580, 1361435347, 1640403810, 1905808397, 2197175160, 2460548119, 2722870694, 2987750089, 3280807620, 3553878443, 3811616794, 4084100981]
theorem laid1_eq : laid1 = [("hachure/sum.carried", Lib.tabData .u32 tabZ)] := rfl
theorem gTab : Tryd.prog.globalNamed "hachure/sum.carried" = some 0 := by kernel_rfl
theorem tTab : (Tryd.prog.globals[0]?).map (·.type) = some 91 := by kernel_rfl
theorem uTab : Tryd.prog.underlying 91 = some (.array 16 69) := by kernel_rfl

theorem tab_nums : ∀ k : Fin 16, tabZ.getD k.val 0 = ((txn 4 k.val : Nat) : Int) := by decide +kernel

/-- What the condition gives the walks. -/
theorem tab_of_laid {W : World} (h : laidMetH Tryd.prog laid1 W) : Tab W := by
  rw [MakeChecks.laidMetH_plain _ _ _ (by kernel_rfl), laid1_eq] at h
  have hT := Lib.tabIs_of_head gTab tTab uTab Tryd.underlying69 (by kernel_rfl) (by kernel_rfl) h
  intro k hk
  rw [hT.cell gTab k (by simpa [tabZ] using hk), tab_nums ⟨k, hk⟩]

/-- The door's own heap meets the condition. -/
theorem door_met (os : Os) (args : Array Value) : laidMetH Tryd.prog laid1 ((World.doorLaid Tryd.prog 14 os).forCall (fun _ _ => 0) ⟨#[], args, []⟩).memory :=
  laidMetH_of_parts3 (fuel := 8) (laidMet_of_run' 8 (by kernel_rfl) (by kernel_rfl)) (by kernel_rfl) (by kernel_rfl)

end Go.Proofs.YtndlogjmnbgegaaDoor
