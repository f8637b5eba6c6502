/- How a shape and two slices of bytes come in, and the law WkbBack; no statement of the seat is proved here. -/
import Derived.Test.YtpmfedimjjifaaaGreatDoorJ25
import Derived.Test.YtpmfedimjjifaaaGreatDoorJ16
import Derived.Test.YtpmfedimjjifaaaGreatDoorJ32
import Derived.LaidMore
import Derived.Test.YtpmfedimjjifaaaGreatDoorJ30
namespace Go.Proofs.YtpmfedimjjifaaaGreatDoor
open Go.ChangeShapes Go.WideShapes Go.ChangeAt Go.RowKit

set_option maxRecDepth 100000 in
theorem Rg.mk' {k : Int} {xo : Option Addr} {xn xc : Nat} {l : List (Int × Int)} {po : Option Addr} {pn pc : Nat} {ps : List Sh} (h : ∀ p ∈ l, InR p) (hp : ∀ p ∈ ps, Rg p) : Rg (.mk k xo xn xc l po pn pc ps) := by
  intro q hq
  rw [nodes_eq] at hq
  rcases List.mem_cons.1 hq with rfl | hq
  · exact h
  · have key : ∀ m : List Sh, (∀ p ∈ m, Rg p) → q ∈ nodesL m → ∀ p ∈ q.xy, InR p := by
      intro m
      induction m with
      | nil => intro _ h; rw [nodesL] at h; cases h
      | cons a r ih =>
        intro hm h
        rw [nodesL, List.mem_append] at h
        rcases h with h | h
        · exact hm a (by simp) q h
        · exact ih (fun p hp => hm p (by simp [hp])) h
    exact key ps hp hq

section
variable {H : Type} {enc : TypeId × Value → H} {w : World} {base : Nat} {held : Bool}

set_option maxRecDepth 100000 in
theorem one_ptR {n : Nat} {cs : List Value} {y : DataW H × List MemPlace} (h : DataW.trod enc Tryz.prog w base (fun _ => true) held n 25 cs = some y) :
    ∃ a : Int × Int, cs[0]? = some (.int .i64 a.1) ∧ cs[1]? = some (.int .i64 a.2) ∧ InR a := by
  obtain ⟨_, hx⟩ := field_ofW point_shape h
  obtain ⟨y0, n0, _, h0, _⟩ := hx 0 3 0 rfl
  obtain ⟨y1, n1, _, h1, _⟩ := hx 1 3 1 rfl
  obtain ⟨k, hk, b0⟩ := int_at Tryz.underlying3 co3 h0
  obtain ⟨c, hc, b1⟩ := int_at Tryz.underlying3 co3 h1
  have c0 := bounds_i64' b0
  have c1 := bounds_i64' b1
  exact ⟨(k, c), hk, hc, ⟨by unfold NW; omega, by omega⟩, ⟨by unfold NW; omega, by omega⟩⟩
set_option maxRecDepth 100000 in
theorem pts_openR {n : Nat} {cs : List Value} {y : DataW H × List MemPlace} (h : DataW.trod enc Tryz.prog w base (fun _ => true) held n 36 cs = some y) (hw : ∀ m ∈ y.1.weights Tryz.prog 36, m ≤ reachBytes) :
    ∃ xo xn xc l, cs = [.slice xo xn xc] ∧ l.length = xn ∧ xn ≤ xc ∧ xn * 16 ≤ 140737488355328 ∧ (xo = none → xn = 0 ∧ xc = 0) ∧ XR (fun b => b < w.heap.size) w xo l ∧ ∀ p ∈ l, InR p := by
  rcases DataW.trod_slice Tryz.underlying36 h with ⟨rfl, _⟩ | ⟨a, len, cap, elems, rest, n', _, rfl, rfl, _, hl, hm, hlen, hel, _, _⟩
  · exact ⟨none, 0, 0, [], rfl, rfl, by omega, by omega, fun _ => ⟨rfl, rfl⟩, .inl rfl, fun p hp => by cases hp⟩
  · rw [co41] at hel
    have hb : len * 16 ≤ 140737488355328 := by
      have := hw ((elems.length + rest.length) * 16) (by simp [DataW.weights, Tryz.underlying36, by41])
      have h2 : reachBytes < 2 ^ 47 := reachBytes_lt
      omega
    have each : ∀ i, i < len → ∃ cs y, w.cells? base (a.add (i * 2)) 2 = some cs ∧ DataW.trod enc Tryz.prog w base (fun _ => true) held n' 25 cs = some y := by
      intro i hi
      have h1 := hel i hi
      rw [List.getElem?_eq_getElem (by omega), Option.bind_eq_some_iff] at h1
      obtain ⟨cs, hc, ht⟩ := h1
      exact ⟨cs, _, hc, ht⟩
    by_cases h0 : len = 0
    · subst h0
      exact ⟨some a, 0, cap, [], rfl, rfl, by omega, by omega, fun e => (by cases e), .inl rfl, fun p hp => by cases hp⟩
    obtain ⟨b, off, spot⟩ := a
    have hspot : spot = none := by
      obtain ⟨cs, y, hc, ht⟩ := each 0 (by omega)
      obtain ⟨t, t0, _⟩ := one_ptR ht
      have h2 := (World.cells?_some hc).2.2 0 (by omega)
      rw [t0] at h2
      have := World.cell?_spot h2
      simpa [Addr.add] using this
    subst hspot
    have each2 : ∀ i, ∃ t : Int × Int, i < len → w.cell? ⟨b, off + i * 2, none⟩ = some (.int .i64 t.1) ∧ w.cell? ⟨b, off + i * 2 + 1, none⟩ = some (.int .i64 t.2) ∧ InR t := by
      intro i
      by_cases hi : i < len
      · obtain ⟨cs, y, hc, ht⟩ := each i hi
        obtain ⟨t, t0, t1, tr⟩ := one_ptR ht
        have h2 := (World.cells?_some hc).2.2
        refine ⟨t, fun _ => ⟨?_, ?_, tr⟩⟩
        · have := h2 0 (by omega); rw [t0, Addr.add_lit, Addr.add_lit] at this; simpa using this
        · have := h2 1 (by omega); rw [t1, Addr.add_lit, Addr.add_lit] at this; exact this
      · exact ⟨(0, 0), fun h => absurd h hi⟩
    obtain ⟨f, hf2⟩ := Classical.axiomOfChoice each2
    refine ⟨_, len, cap, (List.range len).map f, rfl, by simp, hl, hb, fun e => (by cases e), .inr ⟨b, off, rfl, lt_cell (hf2 0 (by omega)).1, fun i p hi => ?_⟩, fun p hp => by obtain ⟨i, hi, rfl⟩ := List.mem_map.1 hp; exact (hf2 i (by simpa using hi)).2.2⟩
    have hil : i < len := by simpa using (List.getElem?_eq_some_iff.1 hi).1
    have : p = f i := by simpa [hil] using hi.symm
    rw [this]
    exact ⟨(hf2 i hil).1, (hf2 i hil).2.1⟩
set_option maxRecDepth 100000 in
theorem open_shR : ∀ (n : Nat) (cs : List Value) (y : DataW H × List MemPlace), DataW.trod enc Tryz.prog w base (fun _ => true) held n 39 cs = some y → (∀ m ∈ y.1.weights Tryz.prog 39, m ≤ reachBytes) →
    ∃ s : Sh, cs = [.int .i64 (s).k, .slice (s).xo (s).xn (s).xc, .slice (s).po (s).pn (s).pc] ∧ In (fun b => b < w.heap.size) w s ∧ Rg s := by
  intro n
  induction n using Nat.strongRecOn with
  | _ n ih =>
    intro cs y h hw
    obtain ⟨hlen3, hx⟩ := field_ofW sh_shape h
    rw [co25] at hlen3
    obtain ⟨y0, n0, _, h0, _⟩ := hx 0 3 0 rfl
    obtain ⟨y1, n1, _, h1, w1⟩ := hx 1 36 1 rfl
    obtain ⟨y2, n2, l2, h2, w2⟩ := hx 2 37 2 rfl
    obtain ⟨k, hk, kw⟩ := int_at Tryz.underlying3 co3 h0
    obtain ⟨xo, xn, xc, l, hxs, xl, xm, xb, x0, xr, xg⟩ := pts_openR h1 (fun m hm => hw m (w1 m hm))
    have hc1 := at_off co22 hxs
    have kb := bounds_i64' kw
    have parts : ∃ po pn pc ps, cs[2]? = some (.slice po pn pc) ∧ ps.length = pn ∧ pn ≤ pc ∧ pn * 56 ≤ 140737488355328 ∧ (po = none → pn = 0 ∧ pc = 0) ∧ PR (fun b => b < w.heap.size) w po ps ∧ ∀ p ∈ ps, In (fun b => b < w.heap.size) w p ∧ Rg p := by
      rcases DataW.trod_slice Tryz.underlying37 h2 with ⟨e, _⟩ | ⟨a, len, cap, elems, rest, n', hn', e, hy, _, hl, hm, hlen, hel, _, _⟩
      · exact ⟨none, 0, 0, [], at_off co23 e, rfl, by omega, by omega, fun _ => ⟨rfl, rfl⟩, .inl rfl, fun p hp => by cases hp⟩
      · have hc2 := at_off co23 e
        rw [co25] at hel
        have hb : len * 56 ≤ 140737488355328 := by
          have := hw ((elems.length + rest.length) * 56) (w2 _ (by rw [hy]; simp [DataW.weights, Tryz.underlying37, by25]))
          have h2 : reachBytes < 2 ^ 47 := reachBytes_lt
          omega
        have hww : ∀ z ∈ elems, ∀ m ∈ z.1.weights Tryz.prog 39, m ≤ reachBytes := fun z hz m hm => hw m (w2 m (by
          rw [hy]
          simp only [DataW.weights, Tryz.underlying37, List.mem_cons, List.mem_append]
          exact Or.inr (Or.inl (weights_mem_all (List.mem_map.2 ⟨z, hz, rfl⟩) m hm))))
        have each : ∀ i, i < len → ∃ cs z, w.cells? base (a.add (i * 3)) 3 = some cs ∧ DataW.trod enc Tryz.prog w base (fun _ => true) held n' 39 cs = some z ∧ z ∈ elems := by
          intro i hi
          have h1 := hel i hi
          rw [List.getElem?_eq_getElem (by omega), Option.bind_eq_some_iff] at h1
          obtain ⟨cs, hc, ht⟩ := h1
          exact ⟨cs, _, hc, ht, List.getElem_mem _⟩
        by_cases h0 : len = 0
        · subst h0
          exact ⟨some a, 0, cap, [], hc2, rfl, by omega, by omega, fun e => (by cases e), .inl rfl, fun p hp => by cases hp⟩
        obtain ⟨b, off, spot⟩ := a
        have hspot : spot = none := by
          obtain ⟨cs, z, hc, ht, hz⟩ := each 0 (by omega)
          obtain ⟨t, rfl, _⟩ := ih n' (by omega) cs z ht (hww z hz)
          have h2 := (World.cells?_some hc).2.2 0 (by omega)
          have := World.cell?_spot (v := .int .i64 t.k) (by simpa using h2)
          simpa [Addr.add] using this
        subst hspot
        have each2 : ∀ i, ∃ t : Sh, i < len → At3 w b (off + i * 3) t ∧ In (fun b => b < w.heap.size) w t ∧ Rg t := by
          intro i
          by_cases hi : i < len
          · obtain ⟨cs, z, hc, ht, hz⟩ := each i hi
            obtain ⟨t, rfl, ti⟩ := ih n' (by omega) cs z ht (hww z hz)
            have h2 := (World.cells?_some hc).2.2
            refine ⟨t, fun _ => ⟨⟨?_, ?_, ?_⟩, ti⟩⟩
            · have := h2 0 (by omega); rw [Addr.add_lit, Addr.add_lit] at this; simpa using this
            · have := h2 1 (by omega); rw [Addr.add_lit, Addr.add_lit] at this; exact this
            · have := h2 2 (by omega); rw [Addr.add_lit, Addr.add_lit] at this; exact this
          · exact ⟨default, fun h => absurd h hi⟩
        obtain ⟨f, hf2⟩ := Classical.axiomOfChoice each2
        refine ⟨_, len, cap, (List.range len).map f, hc2, by simp, hl, hb, fun e => (by cases e), .inr ⟨b, off, rfl, lt_cell (hf2 0 (by omega)).1.1, fun i p hi => ?_⟩, fun p hp => ?_⟩
        · have hil : i < len := by simpa using (List.getElem?_eq_some_iff.1 hi).1
          have : p = f i := by simpa [hil] using hi.symm
          rw [this]
          exact (hf2 i hil).1
        · obtain ⟨i, hi, rfl⟩ := List.mem_map.1 hp
          exact (hf2 i (by simpa using hi)).2
    obtain ⟨po, pn, pc, ps, hc2, pl, pm, pb, p0, pr, pin⟩ := parts
    refine ⟨.mk k xo xn xc l po pn pc ps, ?_, In.mk' { kI := kb, xl := xl, xm := xm, xb := xb, x0 := x0, xr := xr, pl := pl, pm := pm, pb := pb, p0 := p0, pr := pr } fun p hp => (pin p hp).1, Rg.mk' xg fun p hp => (pin p hp).2⟩
    obtain ⟨c0, c1, c2, rfl⟩ : ∃ a b c, cs = [a, b, c] := by
      match cs, hlen3 with
      | [a, b, c], _ => exact ⟨a, b, c, rfl⟩
    have a0 : c0 = _ := Option.some.inj hk
    have a1 : c1 = _ := Option.some.inj hc1
    have a2 : c2 = _ := Option.some.inj hc2
    rw [a0, a1, a2]
    rfl

set_option maxRecDepth 100000 in
theorem open_shapeR {r : Reach} {b0 : Nat} {v : Value} {d : DataW H} {p : List MemPlace} (hv : Value.okWide Tryz.prog w r b0 39 v) (h : DataW.Trod enc Tryz.prog w base (fun _ => true) held 39 v d p) (hw : ∀ m ∈ d.weights Tryz.prog 39, m ≤ reachBytes) :
    ∃ s : Sh, v = .agg #[.int .i64 (s).k, .slice (s).xo (s).xn (s).xc, .slice (s).po (s).pn (s).pc] ∧ In (fun b => b < w.heap.size) w s ∧ Rg s := by
  obtain ⟨fs, hu, _⟩ := struct_of sh_shape
  simp only [Value.okWide, hu] at hv
  obtain ⟨cs', rfl, _⟩ := hv
  obtain ⟨cs, rfl⟩ : ∃ cs : List Value, cs' = cs.toArray := ⟨cs'.toList, by simp⟩
  obtain ⟨fuel, hf⟩ := h
  have hf' : DataW.trod enc Tryz.prog w base (fun _ => true) held fuel 39 cs = some (d, p) := by simpa [Value.cells] using hf
  obtain ⟨s, rfl, hs⟩ := open_shR fuel cs _ hf' hw
  exact ⟨s, rfl, hs⟩
end
end Go.Proofs.YtpmfedimjjifaaaGreatDoor

namespace Go.Proofs.YtpmfedimjjifaaaGreatDoor
open Go.ChangeShapes Go.WideShapes Go.ChangeAt Go.RowKit
section
variable {H : Type} {enc : TypeId × Value → H} {P : Program} {w : World} {base : Nat} {held : Bool}
set_option maxRecDepth 100000 in
theorem bounds_u8' {z : Int} (h : (Lit.int .u8 z).wf = true) : 0 ≤ z ∧ z < 256 := by
  simp [Lit.wf, IntKind.min, IntKind.max, IntKind.bits, IntKind.signed] at h
  omega

set_option maxRecDepth 100000 in
/-- The cells of a slice of bytes, as what the walks ask. -/
theorem rd_open {t : TypeId} (ht : P.underlying t = some (.slice 5)) (he : P.underlying 5 = some (.int .u8)) (hc : P.cellsOf 5 = 1) {n : Nat} {cs : List Value} {y : DataW H × List MemPlace}
    (h : DataW.trod enc P w base (fun _ => true) held n t cs = some y) :
    ∃ ao len cap xs, cs = [.slice ao len cap] ∧ Rd w ao len cap xs ∧ (∀ x ∈ xs, x < 256) ∧ len ≤ 9223372036854775807 := by
  rcases open_ints ht he hc h with ⟨rfl, _⟩ | ⟨a, len, cap, zs, rfl, _, hl, hm, hz, _, hcell, hwz⟩
  · exact ⟨none, 0, 0, [], rfl, Rd.nil w, by simp, by omega⟩
  · simp at hz
    refine ⟨some a, len, cap, (zs.take len).map Int.toNat, rfl, ⟨by simp; omega, hl, fun h => (by cases h), fun hp => ?_⟩, ?_, by unfold maxLen at hm; omega⟩
    · obtain ⟨b, off, spot⟩ := a
      have hc0 := hcell 0 (by omega)
      have hspot : spot = none := by simpa [Addr.add] using World.cell?_spot hc0
      subst hspot
      refine ⟨b, off, rfl, fun t ht => ?_⟩
      have hct := hcell t (by omega)
      rw [Addr.add_lit] at hct
      rw [hct]
      have hb := bounds_u8' (hwz (zs.getD t 0) (by rw [List.getD_eq_getElem?_getD, List.getElem?_eq_getElem (show t < zs.length by omega)]; simp))
      simp [List.getD, List.getElem?_map, ht, List.getElem?_eq_getElem (show t < zs.length by omega)] at hb ⊢
      omega
    · intro x hx
      obtain ⟨z, hz, rfl⟩ := List.mem_map.1 hx
      have := bounds_u8' (hwz z (List.mem_of_mem_take hz))
      omega


end
end Go.Proofs.YtpmfedimjjifaaaGreatDoor

namespace Go.Proofs.YtpmfedimjjifaaaGreatDoor
open Go.RowKit Go.Maps

set_option maxRecDepth 100000 in
theorem row_some {w : World} {B n cap : Nat} {o : Option Addr} {xs : List Value} (h : w.ownsRow B 5 1 (.slice o n cap) n xs) (hn : 0 < n) : ∃ g, o = some ⟨g, 0, none⟩ := by
  rcases h.2 with ⟨h1, h2⟩ | ⟨g', cap', cur, h1, _⟩
  · simp at h1 h2; omega
  · simp only [Value.slice.injEq] at h1; exact ⟨g', h1.1⟩
set_option maxRecDepth 100000 in
theorem own_empty (W : World) (B : Nat) (h : B ≤ W.heap.size) : ((W.alloc (.cells #[.int .i64 0, .slice none 0 0, .slice none 0 0] 39)).alloc (.cells #[] 5)).ownsRow B 5 1 (.slice (some ⟨W.heap.size + 1, 0, none⟩) 0 0) 0 (bs []) := by
  have := World.ownsRow_made (base := B) (e := 5) (size := 1) (W.alloc (.cells #[.int .i64 0, .slice none 0 0, .slice none 0 0] 39)) #[] 0 (by rw [World.size_alloc]; omega) (by decide) rfl
  rw [World.size_alloc] at this
  exact this
set_option maxRecDepth 100000 in
theorem size_pos (l : Bool) (s : Sh) : 4 ≤ sizeI (s.t.items l) := by
  by_cases h0 : s.k = 0
  · rw [ring_items l s.t (by rw [t_k, h0]), sizeI_cons]; simp only; omega
  · have e1 : sizeI [(if l then 1 else 0, 1), (U s.t.k, 4)] = 5 := rfl
    by_cases h1 : s.k = 1
    · rw [items_point l s.t (by rw [t_k, h1]), sizeI_append, e1]; omega
    · by_cases h2 : s.k = 2
      · rw [items_line l s.t (by rw [t_k, h2]), sizeI_append, e1]; omega
      · rw [items_other l s.t (by rw [t_k]; exact ⟨h0, h1, h2⟩), sizeI_append, e1]; omega

set_option maxRecDepth 100000 in
theorem ord_bytes (l : Bool) (t : T) (h : t.k ≠ 0) (xs : List Nat) : ordV (bytesI l (t.items l) ++ xs) = (l, true) := by
  rw [items_eq, if_neg h, List.cons_append, bytesI_cons]
  have : putN (if l then 1 else 0) 1 l = [if l then 1 else 0] := by cases l <;> decide
  rw [this]
  cases l <;> rfl
end Go.Proofs.YtpmfedimjjifaaaGreatDoor

/- What Open says of blobs that were made, cut, lengthened, changed; no statement of the seat is proved here. -/
namespace Go.Proofs.YtpmfedimjjifaaaGreatDoor
open Go.RowKit
open Bxs (boxL Rect noR goodR orR uniR ptR Bd)

set_option maxRecDepth 100000 in
theorem enc_eq {s : Sh} (hc : checkN s = 0) (l : Bool) : encB s l = bytesI l (s.t.items l) := by unfold encB; rw [if_pos hc]
set_option maxRecDepth 100000 in
theorem k_pos {s : Sh} (hc : checkN s = 0) : s.t.k ≠ 0 := by
  have := (right_of hc).2
  rw [t_k]; omega
set_option maxRecDepth 100000 in
theorem r0_enc {S : Nat → Prop} {w : World} {s : Sh} (h : In S w s) (hr : Rg s) (hc : checkN s = 0) (l : Bool) : ∃ s1, R0 (encB s l) = .ok s.t s1 := by
  obtain ⟨P, Q, e⟩ := d0_more h hr hc l []
  rw [List.append_nil] at e
  rw [enc_eq hc]
  unfold R0
  rw [e, bind_ok]
  exact ⟨_, if_pos rfl⟩
set_option maxRecDepth 100000 in
theorem ord_enc {s : Sh} (hc : checkN s = 0) (l : Bool) : (ordV (encB s l)).1 = l := by
  have := ord_bytes l s.t (k_pos hc) []
  rw [List.append_nil] at this
  rw [enc_eq hc, this]

structure Opn (xs : List Nat) (h : Hd) (t : T) : Prop where
  m : xs.take 3 = markN
  f : okF (xs.getD 3 0) = true
  b : h.b = (xs.getD 3 0 / 2 % 2 == 1)
  z : szH h.b ≤ xs.length
  v : h = fillV (flagH (xs.getD 3 0)) ((xs.drop 4).take (szH h.b - 4))
  g : goodR h.x = true
  r : ∃ s1, R0 (xs.drop (szH h.b)) = .ok t s1
  e : h = headV t.pt h.srs (ordV (xs.drop (szH h.b))).1 h.b
set_option maxRecDepth 100000 in
theorem begun_of {xs : List Nat} (hm : xs.take 3 = markN) (hl : 8 ≤ xs.length) : begunV xs = (flagH (xs.getD 3 0), okF (xs.getD 3 0)) := by
  unfold begunV
  rw [hm, if_neg (by simp [markN]), if_neg (by omega)]
set_option maxRecDepth 100000 in
theorem peek_inv {xs : List Nat} {h : Hd} (hp : peekV xs = .ok h) : xs.take 3 = markN ∧ okF (xs.getD 3 0) = true ∧ h.b = (xs.getD 3 0 / 2 % 2 == 1) ∧ szH h.b ≤ xs.length ∧ h = fillV (flagH (xs.getD 3 0)) ((xs.drop 4).take (szH h.b - 4)) ∧ goodR h.x = true := by
  unfold peekV at hp
  split at hp
  · cases hp
  · rename_i h1
    split at hp
    · cases hp
    · rename_i h2
      split at hp
      · cases hp
      · rename_i h3
        injection hp with hp
        have h8 : 8 ≤ szH (begunV xs).1.b := by unfold szH; split <;> omega
        have hm : xs.take 3 = markN := by
          unfold begunV at h1
          split at h1
          · exact absurd rfl h1
          · rename_i h4
            have : (xs.take 3).length = 3 := by rw [List.length_take]; omega
            rw [this] at h4
            simpa [markN] using (Decidable.of_not_not h4).symm
        have hb := begun_of hm (by omega)
        rw [hb] at h1 h2 h3 hp
        have eb : h.b = (xs.getD 3 0 / 2 % 2 == 1) := by rw [← hp]; rfl
        refine ⟨hm, by simpa using h1, eb, ?_, ?_, ?_⟩
        · rw [eb]; exact Nat.le_of_not_lt h2
        · rw [eb]; exact hp.symm
        · rw [← hp]; simpa using h3
set_option maxRecDepth 100000 in
theorem open_iff {xs : List Nat} {h : Hd} {t : T} : openV xs = .ok h t ↔ Opn xs h t := by
  constructor
  · intro ho
    unfold openV at ho
    split at ho
    · cases ho
    · rename_i h' hp
      split at ho
      · cases ho
      · rename_i t' s1 hr
        split at ho
        · rename_i he
          injection ho with e1 e2
          subst e1 e2
          obtain ⟨p1, p2, p3, p4, p5, p6⟩ := peek_inv hp
          exact ⟨p1, p2, p3, p4, p5, p6, ⟨_, hr⟩, eqH_iff.1 he⟩
        · cases ho
  · intro k
    obtain ⟨s1, hr⟩ := k.r
    have h8 : 8 ≤ szH h.b := by unfold szH; split <;> omega
    have hb := begun_of k.m (by have := k.z; omega)
    have hp : peekV xs = .ok h := by
      unfold peekV
      rw [hb]
      have e0 : (flagH (xs.getD 3 0)).b = h.b := k.b.symm
      simp only [e0]
      rw [← k.v, if_neg (by rw [k.f]; decide), if_neg (by have := k.z; omega), if_neg (by rw [k.g]; decide)]
    unfold openV
    rw [hp]
    simp only
    rw [hr]
    simp only
    rw [if_pos (eqH_iff.2 k.e)]

set_option maxRecDepth 100000 in
theorem open_make {S : Nat → Prop} {w : World} {s : Sh} (h : In S w s) (hr : Rg s) (hc : checkN s = 0) {id : Int} (ho : okS id = true) (l b : Bool) : openV (makeB s id l b) = .ok (headV (ptsOf s) id l b) s.t := by
  have k := head_ok (rg_pts hr) ho l b
  obtain ⟨s1, e1⟩ := r0_enc h hr hc l
  unfold openV
  rw [make_head s id l b hc ho, peek_head k]
  simp only
  have hd : (headBs (headV (ptsOf s) id l b) ++ encB s l).drop (szH (headV (ptsOf s) id l b).b) = encB s l := List.drop_left' (headBs_len _)
  rw [hd, e1, ord_enc hc]
  simp only
  rw [if_pos (eqH_iff.2 (by rw [pt_of]; unfold headV; simp only; cases (boxL (ptsOf s)).n <;> cases b <;> rfl))]
set_option maxRecDepth 100000 in
theorem open_cut {S : Nat → Prop} {w : World} {s : Sh} (h : In S w s) (hr : Rg s) (hc : checkN s = 0) {id : Int} (ho : okS id = true) (l b : Bool) (j : Nat) (hj : j < (makeB s id l b).length) : ∃ e, openV ((makeB s id l b).take j) = .bad e := by
  have k := head_ok (rg_pts hr) ho l b
  rw [make_head s id l b hc ho] at hj ⊢
  rw [List.length_append] at hj
  have hl := headBs_len (headV (ptsOf s) id l b)
  by_cases h1 : j < szH (headV (ptsOf s) id l b).b
  · obtain ⟨e, he⟩ := peek_cut k (encB s l) j h1
    unfold openV
    rw [he]
    exact ⟨e, rfl⟩
  · have e1 : (headBs (headV (ptsOf s) id l b) ++ encB s l).take j = headBs (headV (ptsOf s) id l b) ++ (encB s l).take (j - szH (headV (ptsOf s) id l b).b) := by
      rw [List.take_append, hl, List.take_of_length_le (by omega)]
    have e2 : R0 ((encB s l).take (j - szH (headV (ptsOf s) id l b).b)) = .bad 8 := by
      rw [enc_eq hc] at hj ⊢
      unfold R0
      rw [d0_cut h hr hc l _ (by omega)]; rfl
    unfold openV
    rw [e1, peek_head k]
    simp only
    rw [List.drop_left' hl, e2]
    exact ⟨8, rfl⟩
set_option maxRecDepth 100000 in
theorem open_more {S : Nat → Prop} {w : World} {s : Sh} (h : In S w s) (hr : Rg s) (hc : checkN s = 0) {id : Int} (ho : okS id = true) (l b : Bool) (x : Nat) : ∃ e, openV (makeB s id l b ++ [x]) = .bad e := by
  have k := head_ok (rg_pts hr) ho l b
  have hl := headBs_len (headV (ptsOf s) id l b)
  rw [make_head s id l b hc ho, List.append_assoc]
  unfold openV
  rw [peek_head k]
  simp only
  rw [List.drop_left' hl, enc_eq hc, r0_more h hr hc l x]
  exact ⟨9, rfl⟩

/-- Another reference system. -/
def retV (xs : List Nat) (srs : Int) (l : Bool) : List Nat := xs.take 4 ++ (putN (U srs) 4 l ++ xs.drop 8)
set_option maxRecDepth 100000 in
theorem S4_ok (v : Nat) : okS (S4 v) = true := by
  unfold okS S4
  rw [IntKind.wrap_i32]
  simp only [Bool.and_eq_true, decide_eq_true_eq]
  omega
set_option maxRecDepth 100000 in
theorem Opn.srs {xs : List Nat} {h : Hd} {t : T} (k : Opn xs h t) : okS h.srs = true := by rw [k.v]; exact S4_ok _
set_option maxRecDepth 100000 in
theorem Opn.len {xs : List Nat} {h : Hd} {t : T} (k : Opn xs h t) : 8 ≤ xs.length := by
  have := k.z
  have h8 : 8 ≤ szH h.b := by unfold szH; split <;> omega
  omega
set_option maxRecDepth 100000 in
theorem ret_parts {xs : List Nat} (h8 : 8 ≤ xs.length) (srs : Int) (l : Bool) : (retV xs srs l).length = xs.length ∧ (retV xs srs l).take 4 = xs.take 4 ∧ (retV xs srs l).drop 4 = putN (U srs) 4 l ++ xs.drop 8 ∧ (retV xs srs l).drop 8 = xs.drop 8 := by
  have e4 : (xs.take 4).length = 4 := by rw [List.length_take]; omega
  have d4 : (retV xs srs l).drop 4 = putN (U srs) 4 l ++ xs.drop 8 := List.drop_left' e4
  refine ⟨?_, List.take_left' e4, d4, ?_⟩
  · unfold retV
    rw [List.length_append, List.length_append, e4, putN_length, List.length_drop]; omega
  · rw [show 8 = 4 + 4 from rfl, ← List.drop_drop, d4, drop_put]
set_option maxRecDepth 100000 in
theorem open_ret {xs : List Nat} {h : Hd} {t : T} (k : Opn xs h t) {srs : Int} (ho : okS srs = true) : Opn (retV xs srs h.l) ⟨srs, h.l, h.b, h.e, h.x⟩ t := by
  obtain ⟨r1, r2, r3, r4⟩ := ret_parts k.len srs h.l
  have g3 : (retV xs srs h.l).getD 3 0 = xs.getD 3 0 := by
    have a := congrArg (fun l => List.getD l 3 0) r2
    simpa [List.getD] using a
  have t3 : (retV xs srs h.l).take 3 = xs.take 3 := by
    have a := congrArg (List.take 3) r2
    simpa [List.take_take] using a
  have h8 : 8 ≤ szH h.b := by unfold szH; split <;> omega
  have dz : (retV xs srs h.l).drop (szH h.b) = xs.drop (szH h.b) := by
    have a := congrArg (List.drop (szH h.b - 8)) r4
    rw [List.drop_drop, List.drop_drop, show 8 + (szH h.b - 8) = szH h.b by omega] at a
    exact a
  obtain ⟨s1, hr⟩ := k.r
  refine ⟨t3.trans k.m, by rw [g3]; exact k.f, by rw [g3]; exact k.b, by simp only; rw [r1]; exact k.z, ?_, k.g, ⟨s1, by simp only; rw [dz]; exact hr⟩, ?_⟩
  · simp only
    rw [g3, r3]
    have hl : (flagH (xs.getD 3 0)).l = h.l := by have := congrArg Hd.l k.v; exact this.symm
    have he : (flagH (xs.getD 3 0)).e = h.e := by have := congrArg Hd.e k.v; exact this.symm
    have hb : (flagH (xs.getD 3 0)).b = h.b := k.b.symm
    have hx : h.x = if h.b then rdX (((xs.drop 4).take (szH h.b - 4)).drop 4) h.l else noR := by have := congrArg Hd.x k.v; unfold fillV at this; simp only [hb, hl] at this; exact this
    have ey : (putN (U srs) 4 h.l ++ xs.drop 8).take (szH h.b - 4) = putN (U srs) 4 h.l ++ (xs.drop 8).take (szH h.b - 8) := by
      rw [List.take_append, putN_length, List.take_of_length_le (by rw [putN_length]; omega), show szH h.b - 4 - 4 = szH h.b - 8 by omega]
    have ez : ((xs.drop 4).take (szH h.b - 4)).drop 4 = (xs.drop 8).take (szH h.b - 8) := by
      rw [List.drop_take, List.drop_drop, show szH h.b - 4 - 4 = szH h.b - 8 by omega]
    rw [ez] at hx
    unfold fillV
    rw [hl, he, hb, ey, S4_U srs ho, drop_put, ← hx]
  · simp only
    rw [dz]
    show (⟨srs, h.l, h.b, h.e, h.x⟩ : Hd) = ⟨srs, (headV t.pt h.srs (ordV (xs.drop (szH h.b))).1 h.b).l, (headV t.pt h.srs (ordV (xs.drop (szH h.b))).1 h.b).b, (headV t.pt h.srs (ordV (xs.drop (szH h.b))).1 h.b).e, (headV t.pt h.srs (ordV (xs.drop (szH h.b))).1 h.b).x⟩
    rw [← k.e]
set_option maxRecDepth 100000 in
theorem put_S4 (a b c d : Nat) (ha : a < 256) (hb : b < 256) (hc : c < 256) (hd : d < 256) (r : List Nat) (l : Bool) : putN (U (S4 (psum (a :: b :: c :: d :: r) 4 l 4))) 4 l = [a, b, c, d] := by
  have e : ∀ v : Nat, v < 4294967296 → U (S4 v) % 4294967296 = v := by
    intro v hv
    unfold U S4
    rw [IntKind.wrap_i32]
    omega
  cases l
  · have hp : psum (a :: b :: c :: d :: r) 4 false 4 = a * 16777216 + b * 65536 + c * 256 + d := by simp [psum, place]
    rw [hp]
    have := e (a * 16777216 + b * 65536 + c * 256 + d) (by omega)
    generalize U (S4 (a * 16777216 + b * 65536 + c * 256 + d)) = u at *
    simp [putN, up, place]
    omega
  · have hp : psum (a :: b :: c :: d :: r) 4 true 4 = a + b * 256 + c * 65536 + d * 16777216 := by simp [psum, place]
    rw [hp]
    have := e (a + b * 256 + c * 65536 + d * 16777216) (by omega)
    generalize U (S4 (a + b * 256 + c * 65536 + d * 16777216)) = u at *
    simp [putN, up, place]
    omega
set_option maxRecDepth 100000 in
theorem ret_back {xs : List Nat} {h : Hd} {t : T} (k : Opn xs h t) (hx : ∀ x ∈ xs, x < 256) (srs : Int) : retV (retV xs srs h.l) h.srs h.l = xs := by
  obtain ⟨r1, r2, r3, r4⟩ := ret_parts k.len srs h.l
  have hl : (flagH (xs.getD 3 0)).l = h.l := by have := congrArg Hd.l k.v; exact this.symm
  have hs : h.srs = S4 (psum ((xs.drop 4).take (szH h.b - 4)) 4 h.l 4) := by have := congrArg Hd.srs k.v; unfold fillV at this; simp only [hl] at this; exact this
  have h8 := k.len
  have hz : 8 ≤ szH h.b := by unfold szH; split <;> omega
  obtain ⟨a, b, c, d, r, e⟩ : ∃ a b c d r, xs.drop 4 = a :: b :: c :: d :: r := by
    have hl4 : 4 ≤ (xs.drop 4).length := by rw [List.length_drop]; omega
    match xs.drop 4, hl4 with
    | a :: b :: c :: d :: r, _ => exact ⟨a, b, c, d, r, rfl⟩
  have hm : ∀ x ∈ a :: b :: c :: d :: r, x < 256 := by rw [← e]; exact fun x hx' => hx x (List.mem_of_mem_drop hx')
  obtain ⟨i, hi⟩ : ∃ i, szH h.b - 4 = i + 4 := ⟨szH h.b - 8, by omega⟩
  rw [e, hi, List.take_succ_cons, List.take_succ_cons, List.take_succ_cons, List.take_succ_cons] at hs
  have P := put_S4 a b c d (hm a (by simp)) (hm b (by simp)) (hm c (by simp)) (hm d (by simp)) (r.take i) h.l
  rw [← hs] at P
  have e8 : xs.drop 8 = r := by rw [show 8 = 4 + 4 from rfl, ← List.drop_drop, e]; rfl
  unfold retV at r2 r4 ⊢
  have e9 : [a, b, c, d] ++ r = xs.drop 4 := e.symm
  rw [r2, r4, P, e8, e9]
  exact List.take_append_drop 4 xs
end Go.Proofs.YtpmfedimjjifaaaGreatDoor

/- What Open says of bytes that are none; no statement of the seat is proved here. -/
namespace Go.Proofs.YtpmfedimjjifaaaGreatDoor
open Go.RowKit Go.Maps
open Bxs (Rect noR goodR)

theorem results_cc {fn : Func} {p q u : Tmp} {ty ty2 : TypeId} (h : fn.results = #[.cell p ty, .cell q ty2, .tmp u]) (tmps : Array Value) (P : Program) (w : World) :
    (results fn tmps).run P w = ((asAddr (tmps.getD p undef)).run P w).andThen fun a w₁ => ((loadVar ty a).run P w₁).andThen fun x w₂ => ((asAddr (tmps.getD q undef)).run P w₂).andThen fun b w₃ => ((loadVar ty2 b).run P w₃).andThen fun y w₄ => .ok (.tuple #[x, y, tmps.getD u undef]) w₄ := by
  simp only [results, h]
  simp [Sem.run_bind, Result.andThen]
theorem ret_hs {fn : Func} {p q u : Tmp} (h : fn.results = #[.cell p 29, .cell q 39, .tmp u]) {tmps : Array Value} {W : World} {A B : Nat} {x : Hd} {t' : TypeId} {a b c : Value}
    (hp : tmps.getD p undef = .pointer (some ⟨A, 0, none⟩)) (hq : tmps.getD q undef = .pointer (some ⟨B, 0, none⟩)) (hA : B9 W A x) (hB : W.heap[B]? = some (.cells #[a, b, c] t')) : (results fn tmps).run Tryz.prog W = .ok (.tuple #[.agg #[.int .i64 (x).srs, .bool (x).l, .bool (x).b, .bool (x).e, .bool (x).x.n, .int .i64 (x).x.lx, .int .i64 (x).x.ly, .int .i64 (x).x.hx, .int .i64 (x).x.hy], .agg #[a, b, c], tmps.getD u undef]) W := by
  rw [results_cc h, hp, hq]
  simp [asAddr, load9 Tryz.isAgg29 Tryz.sizeOf29 hA, load3 Tryz.isAgg39 Tryz.sizeOf39 hB]
theorem pk_err {xs : List Nat} {e : Nat} (h : peekV xs = .bad e) : 1 ≤ e ∧ e ≤ 20 := by
  unfold peekV at h
  split at h
  · injection h with h; omega
  · split at h
    · injection h with h; omega
    · split at h
      · injection h with h; omega
      · cases h
theorem heap9 {W : World} {A c : Nat} (hne : c ≠ A) (q : Hd) : ((((((((((W).setCell ⟨A, 0, none⟩ (.int .i64 (q).srs)).setCell ⟨A, 1, none⟩ (.bool (q).l)).setCell ⟨A, 2, none⟩ (.bool (q).b)).setCell ⟨A, 3, none⟩ (.bool (q).e)).setCell ⟨A, 4, none⟩ (.bool (q).x.n)).setCell ⟨A, 5, none⟩ (.int .i64 (q).x.lx)).setCell ⟨A, 6, none⟩ (.int .i64 (q).x.ly)).setCell ⟨A, 7, none⟩ (.int .i64 (q).x.hx)).setCell ⟨A, 8, none⟩ (.int .i64 (q).x.hy)).heap[c]? = W.heap[c]? := by
  rw [heap_setCell_other _ _ _ _ hne, heap_setCell_other _ _ _ _ hne, heap_setCell_other _ _ _ _ hne, heap_setCell_other _ _ _ _ hne, heap_setCell_other _ _ _ _ hne, heap_setCell_other _ _ _ _ hne, heap_setCell_other _ _ _ _ hne, heap_setCell_other _ _ _ _ hne, heap_setCell_other _ _ _ _ hne]
theorem st_both {W : World} {A B : Nat} {x : Hd} {u0 u1 u2 : Value} (hA : B9 W A x) (hB : Bo W B #[u0, u1, u2] 39) (hne : A ≠ B) (q : Hd) (a b c : Value) : B9 (((((((((((((W).setCell ⟨A, 0, none⟩ (.int .i64 (q).srs)).setCell ⟨A, 1, none⟩ (.bool (q).l)).setCell ⟨A, 2, none⟩ (.bool (q).b)).setCell ⟨A, 3, none⟩ (.bool (q).e)).setCell ⟨A, 4, none⟩ (.bool (q).x.n)).setCell ⟨A, 5, none⟩ (.int .i64 (q).x.lx)).setCell ⟨A, 6, none⟩ (.int .i64 (q).x.ly)).setCell ⟨A, 7, none⟩ (.int .i64 (q).x.hx)).setCell ⟨A, 8, none⟩ (.int .i64 (q).x.hy)).setCell ⟨B, 0, none⟩ (a)).setCell ⟨B, 1, none⟩ (b)).setCell ⟨B, 2, none⟩ (c)) A q ∧ Bo (((((((((((((W).setCell ⟨A, 0, none⟩ (.int .i64 (q).srs)).setCell ⟨A, 1, none⟩ (.bool (q).l)).setCell ⟨A, 2, none⟩ (.bool (q).b)).setCell ⟨A, 3, none⟩ (.bool (q).e)).setCell ⟨A, 4, none⟩ (.bool (q).x.n)).setCell ⟨A, 5, none⟩ (.int .i64 (q).x.lx)).setCell ⟨A, 6, none⟩ (.int .i64 (q).x.ly)).setCell ⟨A, 7, none⟩ (.int .i64 (q).x.hx)).setCell ⟨A, 8, none⟩ (.int .i64 (q).x.hy)).setCell ⟨B, 0, none⟩ (a)).setCell ⟨B, 1, none⟩ (b)).setCell ⟨B, 2, none⟩ (c)) B #[a, b, c] 39 := by
  have h1 := B9.put hA q
  have h2 : Bo ((((((((((W).setCell ⟨A, 0, none⟩ (.int .i64 (q).srs)).setCell ⟨A, 1, none⟩ (.bool (q).l)).setCell ⟨A, 2, none⟩ (.bool (q).b)).setCell ⟨A, 3, none⟩ (.bool (q).e)).setCell ⟨A, 4, none⟩ (.bool (q).x.n)).setCell ⟨A, 5, none⟩ (.int .i64 (q).x.lx)).setCell ⟨A, 6, none⟩ (.int .i64 (q).x.ly)).setCell ⟨A, 7, none⟩ (.int .i64 (q).x.hx)).setCell ⟨A, 8, none⟩ (.int .i64 (q).x.hy)) B #[u0, u1, u2] 39 := (heap9 (Ne.symm hne) q).trans hB
  refine ⟨?_, (((h2.set 0 a).set 1 b).set 2 c)⟩
  exact ((heap_setCell_other _ _ _ _ hne).trans ((heap_setCell_other _ _ _ _ hne).trans ((heap_setCell_other _ _ _ _ hne).trans h1)))
theorem fr_both {N : Nat} {w W : World} {A B : Nat} (h : Below N w W) (hA : N ≤ A) (hB : N ≤ B) (q : Hd) (a b c : Value) : Below N w (((((((((((((W).setCell ⟨A, 0, none⟩ (.int .i64 (q).srs)).setCell ⟨A, 1, none⟩ (.bool (q).l)).setCell ⟨A, 2, none⟩ (.bool (q).b)).setCell ⟨A, 3, none⟩ (.bool (q).e)).setCell ⟨A, 4, none⟩ (.bool (q).x.n)).setCell ⟨A, 5, none⟩ (.int .i64 (q).x.lx)).setCell ⟨A, 6, none⟩ (.int .i64 (q).x.ly)).setCell ⟨A, 7, none⟩ (.int .i64 (q).x.hx)).setCell ⟨A, 8, none⟩ (.int .i64 (q).x.hy)).setCell ⟨B, 0, none⟩ (a)).setCell ⟨B, 1, none⟩ (b)).setCell ⟨B, 2, none⟩ (c)) := (((fr9 h hA q).setCell hB _).setCell hB _).setCell hB _
set_option maxRecDepth 100000 in
set_option maxHeartbeats 8000000 in
theorem open_bad1 (o : Option Addr) (n c : Nat) (xs : List Nat) (w : World) (h : Rd w o n c xs) (hx : ∀ x ∈ xs, x < 256) (hn : n ≤ 1000000000) (e : Nat) (hp : peekV xs = .bad e) : Calls Tryz.prog 8 #[.slice o n c] w fun x w' => x = .returned (.tuple #[.agg #[.int .i64 (noH).srs, .bool (noH).l, .bool (noH).b, .bool (noH).e, .bool (noH).x.n, .int .i64 (noH).x.lx, .int .i64 (noH).x.ly, .int .i64 (noH).x.hx, .int .i64 (noH).x.hy], .agg #[.int .i64 0, .slice none 0 0, .slice none 0 0], .int .i64 (e : Int)]) ∧ (1 ≤ e ∧ e ≤ 20) ∧ Below w.heap.size w w' := by
  have hbb : Below w.heap.size w ((w.alloc (.cells #[.int .i64 0, .bool false, .bool false, .bool false, .bool false, .int .i64 0, .int .i64 0, .int .i64 0, .int .i64 0] 29)).alloc (.cells #[.int .i64 0, .slice none 0 0, .slice none 0 0] 39)) := gt (ext1 _) (ext1 _)
  have BZ := hid ((B9.new w noH).keep (ext1 (.cells #[.int .i64 0, .slice none 0 0, .slice none 0 0] 39)))
  have BS : Hid (Bo ((w.alloc (.cells #[.int .i64 0, .bool false, .bool false, .bool false, .bool false, .int .i64 0, .int .i64 0, .int .i64 0, .int .i64 0] 29)).alloc (.cells #[.int .i64 0, .slice none 0 0, .slice none 0 0] 39)) (w.heap.size + 1) #[.int .i64 0, .slice none 0 0, .slice none 0 0] 39) := hid (by repeat (first | (refine at_new ?_; first | with_reducible rfl | (simp only [World.size_alloc]; done)) | refine at_old ?_))
  have PK := hid (peek_call o n c xs _ (h.keep hbb) hx hn)
  rw [hp] at PK
  simp only [pkV, pkE] at PK
  have hbb := hid hbb
  have he1 := pk_err hp
  clear h hx hn hp
  have he2 : ((e : Int) != 0) = true := by simp; omega
  go_enter Tryz.func8, Tryz.ntmps8
  go_wp2_with (go_at_call 6; refine PK.out.mono ?_; rintro e w1 ⟨rfl, he, b1⟩; have HE := hid he; clear he; have H1 := hid (gt (gt hbb.out b1) (ext1 (.cells #[.int .i64 (noH).srs, .bool (noH).l, .bool (noH).b, .bool (noH).e, .bool (noH).x.n, .int .i64 (noH).x.lx, .int .i64 (noH).x.ly, .int .i64 (noH).x.hx, .int .i64 (noH).x.hy] 29))); have Z1 := hid ((BZ.out.keep b1).keep (ext1 (.cells #[.int .i64 (noH).srs, .bool (noH).l, .bool (noH).b, .bool (noH).e, .bool (noH).x.n, .int .i64 (noH).x.lx, .int .i64 (noH).x.ly, .int .i64 (noH).x.hx, .int .i64 (noH).x.hy] 29))); have S1 := hid ((BS.out.keep b1).keep (ext1 (.cells #[.int .i64 (noH).srs, .bool (noH).l, .bool (noH).b, .bool (noH).e, .bool (noH).x.n, .int .i64 (noH).x.lx, .int .i64 (noH).x.ly, .int .i64 (noH).x.hx, .int .i64 (noH).x.hy] 29))); have D1 := hid (B9.new w1 noH); have hz1 := hid (show w.heap.size + 1 < w1.heap.size by have h1 := b1.size; simp only [World.size_alloc] at h1; omega); clear b1; obtain ⟨z0, z1, z2, z3, z4, z5, z6, z7, z8⟩ := Z1.out.c; have zf0 := Z1.out.fz 0; have zf1 := Z1.out.fz 1; have zf2 := Z1.out.fz 2; have zf3 := Z1.out.fz 3; have zf4 := Z1.out.fz 4; have zf5 := Z1.out.fz 5; have zf6 := Z1.out.fz 6; have zf7 := Z1.out.fz 7; have zf8 := Z1.out.fz 8; have s0 := S1.out.cell 0 (.int .i64 0) rfl; have sf0 := S1.out.fz 0; have s1 := S1.out.cell 1 (.slice none 0 0) rfl; have sf1 := S1.out.fz 1; have s2 := S1.out.cell 2 (.slice none 0 0) rfl; have sf2 := S1.out.fz 2; have hlow := H1.out)
  exact bodyPost_ret (ret_hs rfl rfl rfl (st_both Z1.out S1.out (by omega) noH _ _ _).1 (st_both Z1.out S1.out (by omega) noH _ _ _).2) rfl ⟨rfl, HE.out, fr_both H1.out (Nat.le_refl _) (Nat.le_succ _) noH _ _ _⟩
set_option maxRecDepth 100000 in
set_option maxHeartbeats 8000000 in
theorem open_bad2 (o : Option Addr) (n c : Nat) (xs : List Nat) (w : World) (hT : Tab w) (h : Rd w o n c xs) (hx : ∀ x ∈ xs, x < 256) (hn : n ≤ 1000000000) (hh : Hd) (hp : peekV xs = .ok hh) (e : Nat) (hd : R0 (xs.drop (szH hh.b)) = .bad e) : Calls Tryz.prog 8 #[.slice o n c] w fun x w' => x = .returned (.tuple #[.agg #[.int .i64 (noH).srs, .bool (noH).l, .bool (noH).b, .bool (noH).e, .bool (noH).x.n, .int .i64 (noH).x.lx, .int .i64 (noH).x.ly, .int .i64 (noH).x.hx, .int .i64 (noH).x.hy], .agg #[.int .i64 0, .slice none 0 0, .slice none 0 0], .int .i64 (e : Int)]) ∧ (1 ≤ e ∧ e ≤ 20) ∧ Below w.heap.size w w' := by
  have hbb : Below w.heap.size w ((w.alloc (.cells #[.int .i64 0, .bool false, .bool false, .bool false, .bool false, .int .i64 0, .int .i64 0, .int .i64 0, .int .i64 0] 29)).alloc (.cells #[.int .i64 0, .slice none 0 0, .slice none 0 0] 39)) := gt (ext1 _) (ext1 _)
  have BZ := hid ((B9.new w noH).keep (ext1 (.cells #[.int .i64 0, .slice none 0 0, .slice none 0 0] 39)))
  have BS : Hid (Bo ((w.alloc (.cells #[.int .i64 0, .bool false, .bool false, .bool false, .bool false, .int .i64 0, .int .i64 0, .int .i64 0, .int .i64 0] 29)).alloc (.cells #[.int .i64 0, .slice none 0 0, .slice none 0 0] 39)) (w.heap.size + 1) #[.int .i64 0, .slice none 0 0, .slice none 0 0] 39) := hid (by repeat (first | (refine at_new ?_; first | with_reducible rfl | (simp only [World.size_alloc]; done)) | refine at_old ?_))
  have PK := hid (peek_call o n c xs _ (h.keep hbb) hx hn)
  rw [hp] at PK
  simp only [pkV, pkE] at PK
  obtain ⟨-, -, -, hz, -, -⟩ := peek_inv hp
  obtain ⟨o', SL, SR⟩ := slice_l h (szH hh.b) (by rw [← h.1]; exact hz)
  have hhz : (hh.b = hh.b) := rfl
  have RD := hid (fun W (hb : Below w.heap.size w W) => read_bad o' (n - szH hh.b) (c - szH hh.b) (xs.drop (szH hh.b)) W (hT.keep hb) (SR W (h.keep hb)) (fun x hx' => hx x (List.mem_of_mem_drop hx')) (by omega) e hd)
  have hbb := hid hbb
  generalize szH hh.b = sz at *
  clear h hx hn hT hp hd hz SR hhz
  by_cases he : 1 ≤ e ∧ e ≤ 20
  · have he2 : ((e : Int) != 0) = true := by simp; omega
    clear he
    go_enter Tryz.func8, Tryz.ntmps8
    go_wp2_with (first | (go_at_call 6; refine PK.out.mono ?_; rintro e w1 ⟨rfl, he, b1⟩; clear he; have H1 := hid (gt (gt hbb.out b1) (ext1 (.cells #[.int .i64 (hh).srs, .bool (hh).l, .bool (hh).b, .bool (hh).e, .bool (hh).x.n, .int .i64 (hh).x.lx, .int .i64 (hh).x.ly, .int .i64 (hh).x.hx, .int .i64 (hh).x.hy] 29))); have Z1 := hid ((BZ.out.keep b1).keep (ext1 (.cells #[.int .i64 (hh).srs, .bool (hh).l, .bool (hh).b, .bool (hh).e, .bool (hh).x.n, .int .i64 (hh).x.lx, .int .i64 (hh).x.ly, .int .i64 (hh).x.hx, .int .i64 (hh).x.hy] 29))); have S1 := hid ((BS.out.keep b1).keep (ext1 (.cells #[.int .i64 (hh).srs, .bool (hh).l, .bool (hh).b, .bool (hh).e, .bool (hh).x.n, .int .i64 (hh).x.lx, .int .i64 (hh).x.ly, .int .i64 (hh).x.hx, .int .i64 (hh).x.hy] 29))); have D1 := hid (B9.new w1 hh); have hz1 := hid (show w.heap.size + 1 < w1.heap.size by have h1 := b1.size; simp only [World.size_alloc] at h1; omega); clear b1; obtain ⟨z0, z1, z2, z3, z4, z5, z6, z7, z8⟩ := Z1.out.c; have zf0 := Z1.out.fz 0; have zf1 := Z1.out.fz 1; have zf2 := Z1.out.fz 2; have zf3 := Z1.out.fz 3; have zf4 := Z1.out.fz 4; have zf5 := Z1.out.fz 5; have zf6 := Z1.out.fz 6; have zf7 := Z1.out.fz 7; have zf8 := Z1.out.fz 8; have s0 := S1.out.cell 0 (.int .i64 0) rfl; have sf0 := S1.out.fz 0; have s1 := S1.out.cell 1 (.slice none 0 0) rfl; have sf1 := S1.out.fz 1; have s2 := S1.out.cell 2 (.slice none 0 0) rfl; have sf2 := S1.out.fz 2; have hlow := H1.out) | (go_at_call 28; refine (RD.out _ H1.out).mono ?_; rintro e w4 ⟨rfl, he4, b4⟩; clear z0 zf0 z1 zf1 z2 zf2 z3 zf3 z4 zf4 z5 zf5 z6 zf6 z7 zf7 z8 zf8; clear s0 sf0 s1 sf1 s2 sf2; clear hlow; have H4 := hid (gt (gt H1.out b4) (ext1 (.cells #[.int .i64 0, .slice none 0 0, .slice none 0 0] 39))); have Z4 := hid ((Z1.out.keep b4).keep (ext1 (.cells #[.int .i64 0, .slice none 0 0, .slice none 0 0] 39))); have S4 := hid ((S1.out.keep b4).keep (ext1 (.cells #[.int .i64 0, .slice none 0 0, .slice none 0 0] 39))); clear b4; have HE := hid he4; clear he4; obtain ⟨z0, z1, z2, z3, z4, z5, z6, z7, z8⟩ := Z4.out.c; have zf0 := Z4.out.fz 0; have zf1 := Z4.out.fz 1; have zf2 := Z4.out.fz 2; have zf3 := Z4.out.fz 3; have zf4 := Z4.out.fz 4; have zf5 := Z4.out.fz 5; have zf6 := Z4.out.fz 6; have zf7 := Z4.out.fz 7; have zf8 := Z4.out.fz 8; have s0 := S4.out.cell 0 (.int .i64 0) rfl; have sf0 := S4.out.fz 0; have s1 := S4.out.cell 1 (.slice none 0 0) rfl; have sf1 := S4.out.fz 1; have s2 := S4.out.cell 2 (.slice none 0 0) rfl; have sf2 := S4.out.fz 2; have hlow := H4.out))
    exact bodyPost_ret (ret_hs rfl rfl rfl (st_both Z4.out S4.out (by omega) noH _ _ _).1 (st_both Z4.out S4.out (by omega) noH _ _ _).2) rfl ⟨rfl, HE.out, fr_both H4.out (Nat.le_refl _) (Nat.le_succ _) noH _ _ _⟩
  · have he0 := he
    clear he
    go_enter Tryz.func8, Tryz.ntmps8
    go_wp2_with (first | (go_at_call 6; refine PK.out.mono ?_; rintro e w1 ⟨rfl, he1, b1⟩;  have H1 := hid (gt (gt hbb.out b1) (ext1 (.cells #[.int .i64 (hh).srs, .bool (hh).l, .bool (hh).b, .bool (hh).e, .bool (hh).x.n, .int .i64 (hh).x.lx, .int .i64 (hh).x.ly, .int .i64 (hh).x.hx, .int .i64 (hh).x.hy] 29))); have Z1 := hid ((BZ.out.keep b1).keep (ext1 (.cells #[.int .i64 (hh).srs, .bool (hh).l, .bool (hh).b, .bool (hh).e, .bool (hh).x.n, .int .i64 (hh).x.lx, .int .i64 (hh).x.ly, .int .i64 (hh).x.hx, .int .i64 (hh).x.hy] 29))); have S1 := hid ((BS.out.keep b1).keep (ext1 (.cells #[.int .i64 (hh).srs, .bool (hh).l, .bool (hh).b, .bool (hh).e, .bool (hh).x.n, .int .i64 (hh).x.lx, .int .i64 (hh).x.ly, .int .i64 (hh).x.hx, .int .i64 (hh).x.hy] 29))); have D1 := hid (B9.new w1 hh); have hz1 := hid (show w.heap.size + 1 < w1.heap.size by have h1 := b1.size; simp only [World.size_alloc] at h1; omega); clear b1; obtain ⟨z0, z1, z2, z3, z4, z5, z6, z7, z8⟩ := Z1.out.c; have zf0 := Z1.out.fz 0; have zf1 := Z1.out.fz 1; have zf2 := Z1.out.fz 2; have zf3 := Z1.out.fz 3; have zf4 := Z1.out.fz 4; have zf5 := Z1.out.fz 5; have zf6 := Z1.out.fz 6; have zf7 := Z1.out.fz 7; have zf8 := Z1.out.fz 8; have s0 := S1.out.cell 0 (.int .i64 0) rfl; have sf0 := S1.out.fz 0; have s1 := S1.out.cell 1 (.slice none 0 0) rfl; have sf1 := S1.out.fz 1; have s2 := S1.out.cell 2 (.slice none 0 0) rfl; have sf2 := S1.out.fz 2; have hlow := H1.out) | (go_at_call 28; refine (RD.out _ H1.out).mono ?_; rintro e w4 ⟨rfl, he4, b4⟩; exact absurd he4 he0))
end Go.Proofs.YtpmfedimjjifaaaGreatDoor
