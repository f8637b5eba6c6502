/- How a shape comes in, with the range of its ordinates, and the law WkbCuts; no statement of the seat is proved here. -/
import Derived.Test.YtjieegnmofimkaaDoorHa
import Derived.Test.YtjieegnmofimkaaDoorCd
import Derived.Test.YtjieegnmofimkaaDoorOa
namespace Go.Proofs.YtjieegnmofimkaaDoor
open Go.ChangeShapes Go.WideShapes Go.ChangeAt Go.RowKit

theorem Rg.mk' {k : Int} {xo : Option Addr} {xn xc : Nat} {l : List (Int × Int)} {po : Option Addr} {pn pc : Nat} {ps : List Sh} (h : ∀ p ∈ l, InR p) (hp : ∀ p ∈ ps, Rg p) : Rg (.mk k xo xn xc l po pn pc ps) := by
  intro q hq
  rw [nodes_eq] at hq
  rcases List.mem_cons.1 hq with rfl | hq
  · exact h
  · have key : ∀ m : List Sh, (∀ p ∈ m, Rg p) → q ∈ nodesL m → ∀ p ∈ q.xy, InR p := by
      intro m
      induction m with
      | nil => intro _ h; rw [nodesL] at h; cases h
      | cons a r ih =>
        intro hm h
        rw [nodesL, List.mem_append] at h
        rcases h with h | h
        · exact hm a (by simp) q h
        · exact ih (fun p hp => hm p (by simp [hp])) h
    exact key ps hp hq

section
variable {H : Type} {enc : TypeId × Value → H} {w : World} {base : Nat} {held : Bool}

theorem one_ptR {n : Nat} {cs : List Value} {y : DataW H × List MemPlace} (h : DataW.trod enc Tryd.prog w base (fun _ => true) held n 56 cs = some y) :
    ∃ a : Int × Int, cs[0]? = some (.int .i64 a.1) ∧ cs[1]? = some (.int .i64 a.2) ∧ InR a := by
  obtain ⟨_, hx⟩ := field_ofW point_shape h
  obtain ⟨y0, n0, _, h0, _⟩ := hx 0 3 0 rfl
  obtain ⟨y1, n1, _, h1, _⟩ := hx 1 3 1 rfl
  obtain ⟨k, hk, b0⟩ := int_at Tryd.underlying3 co3 h0
  obtain ⟨c, hc, b1⟩ := int_at Tryd.underlying3 co3 h1
  have c0 := bounds_i64' b0
  have c1 := bounds_i64' b1
  exact ⟨(k, c), hk, hc, ⟨by unfold NW; omega, by omega⟩, ⟨by unfold NW; omega, by omega⟩⟩
theorem pts_openR {n : Nat} {cs : List Value} {y : DataW H × List MemPlace} (h : DataW.trod enc Tryd.prog w base (fun _ => true) held n 22 cs = some y) (hw : ∀ m ∈ y.1.weights Tryd.prog 22, m ≤ reachBytes) :
    ∃ xo xn xc l, cs = [.slice xo xn xc] ∧ l.length = xn ∧ xn ≤ xc ∧ xn * 16 ≤ 140737488355328 ∧ (xo = none → xn = 0 ∧ xc = 0) ∧ XR (fun b => b < w.heap.size) w xo l ∧ ∀ p ∈ l, InR p := by
  rcases DataW.trod_slice Tryd.underlying22 h with ⟨rfl, _⟩ | ⟨a, len, cap, elems, rest, n', _, rfl, rfl, _, hl, hm, hlen, hel, _, _⟩
  · exact ⟨none, 0, 0, [], rfl, rfl, by omega, by omega, fun _ => ⟨rfl, rfl⟩, .inl rfl, fun p hp => by cases hp⟩
  · rw [co41] at hel
    have hb : len * 16 ≤ 140737488355328 := by
      have := hw ((elems.length + rest.length) * 16) (by simp [DataW.weights, Tryd.underlying22, by41])
      have h2 : reachBytes < 2 ^ 47 := reachBytes_lt
      omega
    have each : ∀ i, i < len → ∃ cs y, w.cells? base (a.add (i * 2)) 2 = some cs ∧ DataW.trod enc Tryd.prog w base (fun _ => true) held n' 56 cs = some y := by
      intro i hi
      have h1 := hel i hi
      rw [List.getElem?_eq_getElem (by omega), Option.bind_eq_some_iff] at h1
      obtain ⟨cs, hc, ht⟩ := h1
      exact ⟨cs, _, hc, ht⟩
    by_cases h0 : len = 0
    · subst h0
      exact ⟨some a, 0, cap, [], rfl, rfl, by omega, by omega, fun e => (by cases e), .inl rfl, fun p hp => by cases hp⟩
    obtain ⟨b, off, spot⟩ := a
    have hspot : spot = none := by
      obtain ⟨cs, y, hc, ht⟩ := each 0 (by omega)
      obtain ⟨t, t0, _⟩ := one_ptR ht
      have h2 := (World.cells?_some hc).2.2 0 (by omega)
      rw [t0] at h2
      have := World.cell?_spot h2
      simpa [Addr.add] using this
    subst hspot
    have each2 : ∀ i, ∃ t : Int × Int, i < len → w.cell? ⟨b, off + i * 2, none⟩ = some (.int .i64 t.1) ∧ w.cell? ⟨b, off + i * 2 + 1, none⟩ = some (.int .i64 t.2) ∧ InR t := by
      intro i
      by_cases hi : i < len
      · obtain ⟨cs, y, hc, ht⟩ := each i hi
        obtain ⟨t, t0, t1, tr⟩ := one_ptR ht
        have h2 := (World.cells?_some hc).2.2
        refine ⟨t, fun _ => ⟨?_, ?_, tr⟩⟩
        · have := h2 0 (by omega); rw [t0, Addr.add_lit, Addr.add_lit] at this; simpa using this
        · have := h2 1 (by omega); rw [t1, Addr.add_lit, Addr.add_lit] at this; exact this
      · exact ⟨(0, 0), fun h => absurd h hi⟩
    obtain ⟨f, hf2⟩ := Classical.axiomOfChoice each2
    refine ⟨_, len, cap, (List.range len).map f, rfl, by simp, hl, hb, fun e => (by cases e), .inr ⟨b, off, rfl, lt_cell (hf2 0 (by omega)).1, fun i p hi => ?_⟩, fun p hp => by obtain ⟨i, hi, rfl⟩ := List.mem_map.1 hp; exact (hf2 i (by simpa using hi)).2.2⟩
    have hil : i < len := by simpa using (List.getElem?_eq_some_iff.1 hi).1
    have : p = f i := by simpa [hil] using hi.symm
    rw [this]
    exact ⟨(hf2 i hil).1, (hf2 i hil).2.1⟩
set_option maxRecDepth 100000 in
theorem open_shR : ∀ (n : Nat) (cs : List Value) (y : DataW H × List MemPlace), DataW.trod enc Tryd.prog w base (fun _ => true) held n 25 cs = some y → (∀ m ∈ y.1.weights Tryd.prog 25, m ≤ reachBytes) →
    ∃ s : Sh, cs = [.int .i64 (s).k, .slice (s).xo (s).xn (s).xc, .slice (s).po (s).pn (s).pc] ∧ In (fun b => b < w.heap.size) w s ∧ Rg s := by
  intro n
  induction n using Nat.strongRecOn with
  | _ n ih =>
    intro cs y h hw
    obtain ⟨hlen3, hx⟩ := field_ofW sh_shape h
    rw [co25] at hlen3
    obtain ⟨y0, n0, _, h0, _⟩ := hx 0 3 0 rfl
    obtain ⟨y1, n1, _, h1, w1⟩ := hx 1 22 1 rfl
    obtain ⟨y2, n2, l2, h2, w2⟩ := hx 2 23 2 rfl
    obtain ⟨k, hk, kw⟩ := int_at Tryd.underlying3 co3 h0
    obtain ⟨xo, xn, xc, l, hxs, xl, xm, xb, x0, xr, xg⟩ := pts_openR h1 (fun m hm => hw m (w1 m hm))
    have hc1 := at_off co22 hxs
    have kb := bounds_i64' kw
    have parts : ∃ po pn pc ps, cs[2]? = some (.slice po pn pc) ∧ ps.length = pn ∧ pn ≤ pc ∧ pn * 56 ≤ 140737488355328 ∧ (po = none → pn = 0 ∧ pc = 0) ∧ PR (fun b => b < w.heap.size) w po ps ∧ ∀ p ∈ ps, In (fun b => b < w.heap.size) w p ∧ Rg p := by
      rcases DataW.trod_slice Tryd.underlying23 h2 with ⟨e, _⟩ | ⟨a, len, cap, elems, rest, n', hn', e, hy, _, hl, hm, hlen, hel, _, _⟩
      · exact ⟨none, 0, 0, [], at_off co23 e, rfl, by omega, by omega, fun _ => ⟨rfl, rfl⟩, .inl rfl, fun p hp => by cases hp⟩
      · have hc2 := at_off co23 e
        rw [co25] at hel
        have hb : len * 56 ≤ 140737488355328 := by
          have := hw ((elems.length + rest.length) * 56) (w2 _ (by rw [hy]; simp [DataW.weights, Tryd.underlying23, by25]))
          have h2 : reachBytes < 2 ^ 47 := reachBytes_lt
          omega
        have hww : ∀ z ∈ elems, ∀ m ∈ z.1.weights Tryd.prog 25, m ≤ reachBytes := fun z hz m hm => hw m (w2 m (by
          rw [hy]
          simp only [DataW.weights, Tryd.underlying23, List.mem_cons, List.mem_append]
          exact Or.inr (Or.inl (weights_mem_all (List.mem_map.2 ⟨z, hz, rfl⟩) m hm))))
        have each : ∀ i, i < len → ∃ cs z, w.cells? base (a.add (i * 3)) 3 = some cs ∧ DataW.trod enc Tryd.prog w base (fun _ => true) held n' 25 cs = some z ∧ z ∈ elems := by
          intro i hi
          have h1 := hel i hi
          rw [List.getElem?_eq_getElem (by omega), Option.bind_eq_some_iff] at h1
          obtain ⟨cs, hc, ht⟩ := h1
          exact ⟨cs, _, hc, ht, List.getElem_mem _⟩
        by_cases h0 : len = 0
        · subst h0
          exact ⟨some a, 0, cap, [], hc2, rfl, by omega, by omega, fun e => (by cases e), .inl rfl, fun p hp => by cases hp⟩
        obtain ⟨b, off, spot⟩ := a
        have hspot : spot = none := by
          obtain ⟨cs, z, hc, ht, hz⟩ := each 0 (by omega)
          obtain ⟨t, rfl, _⟩ := ih n' (by omega) cs z ht (hww z hz)
          have h2 := (World.cells?_some hc).2.2 0 (by omega)
          have := World.cell?_spot (v := .int .i64 t.k) (by simpa using h2)
          simpa [Addr.add] using this
        subst hspot
        have each2 : ∀ i, ∃ t : Sh, i < len → At3 w b (off + i * 3) t ∧ In (fun b => b < w.heap.size) w t ∧ Rg t := by
          intro i
          by_cases hi : i < len
          · obtain ⟨cs, z, hc, ht, hz⟩ := each i hi
            obtain ⟨t, rfl, ti⟩ := ih n' (by omega) cs z ht (hww z hz)
            have h2 := (World.cells?_some hc).2.2
            refine ⟨t, fun _ => ⟨⟨?_, ?_, ?_⟩, ti⟩⟩
            · have := h2 0 (by omega); rw [Addr.add_lit, Addr.add_lit] at this; simpa using this
            · have := h2 1 (by omega); rw [Addr.add_lit, Addr.add_lit] at this; exact this
            · have := h2 2 (by omega); rw [Addr.add_lit, Addr.add_lit] at this; exact this
          · exact ⟨default, fun h => absurd h hi⟩
        obtain ⟨f, hf2⟩ := Classical.axiomOfChoice each2
        refine ⟨_, len, cap, (List.range len).map f, hc2, by simp, hl, hb, fun e => (by cases e), .inr ⟨b, off, rfl, lt_cell (hf2 0 (by omega)).1.1, fun i p hi => ?_⟩, fun p hp => ?_⟩
        · have hil : i < len := by simpa using (List.getElem?_eq_some_iff.1 hi).1
          have : p = f i := by simpa [hil] using hi.symm
          rw [this]
          exact (hf2 i hil).1
        · obtain ⟨i, hi, rfl⟩ := List.mem_map.1 hp
          exact (hf2 i (by simpa using hi)).2
    obtain ⟨po, pn, pc, ps, hc2, pl, pm, pb, p0, pr, pin⟩ := parts
    refine ⟨.mk k xo xn xc l po pn pc ps, ?_, In.mk' { kI := kb, xl := xl, xm := xm, xb := xb, x0 := x0, xr := xr, pl := pl, pm := pm, pb := pb, p0 := p0, pr := pr } fun p hp => (pin p hp).1, Rg.mk' xg fun p hp => (pin p hp).2⟩
    obtain ⟨c0, c1, c2, rfl⟩ : ∃ a b c, cs = [a, b, c] := by
      match cs, hlen3 with
      | [a, b, c], _ => exact ⟨a, b, c, rfl⟩
    have a0 : c0 = _ := Option.some.inj hk
    have a1 : c1 = _ := Option.some.inj hc1
    have a2 : c2 = _ := Option.some.inj hc2
    rw [a0, a1, a2]
    rfl

set_option maxRecDepth 100000 in
theorem open_shapeR {r : Reach} {b0 : Nat} {v : Value} {d : DataW H} {p : List MemPlace} (hv : Value.okWide Tryd.prog w r b0 25 v) (h : DataW.Trod enc Tryd.prog w base (fun _ => true) held 25 v d p) (hw : ∀ m ∈ d.weights Tryd.prog 25, m ≤ reachBytes) :
    ∃ s : Sh, v = .agg #[.int .i64 (s).k, .slice (s).xo (s).xn (s).xc, .slice (s).po (s).pn (s).pc] ∧ In (fun b => b < w.heap.size) w s ∧ Rg s := by
  obtain ⟨fs, hu, _⟩ := struct_of sh_shape
  simp only [Value.okWide, hu] at hv
  obtain ⟨cs', rfl, _⟩ := hv
  obtain ⟨cs, rfl⟩ : ∃ cs : List Value, cs' = cs.toArray := ⟨cs'.toList, by simp⟩
  obtain ⟨fuel, hf⟩ := h
  have hf' : DataW.trod enc Tryd.prog w base (fun _ => true) held fuel 25 cs = some (d, p) := by simpa [Value.cells] using hf
  obtain ⟨s, rfl, hs⟩ := open_shR fuel cs _ hf' hw
  exact ⟨s, rfl, hs⟩
end
end Go.Proofs.YtjieegnmofimkaaDoor

namespace Go.Proofs.YtjieegnmofimkaaDoor
open Go.RowKit Go.Maps

theorem row_some {w : World} {B n cap : Nat} {o : Option Addr} {xs : List Value} (h : w.ownsRow B 5 1 (.slice o n cap) n xs) (hn : 0 < n) : ∃ g, o = some ⟨g, 0, none⟩ := by
  rcases h.2 with ⟨h1, h2⟩ | ⟨g', cap', cur, h1, _⟩
  · simp at h1 h2; omega
  · simp only [Value.slice.injEq] at h1; exact ⟨g', h1.1⟩
theorem own_empty (W : World) (B : Nat) (h : B ≤ W.heap.size) : ((W.alloc (.cells #[.int .i64 0, .slice none 0 0, .slice none 0 0] 25)).alloc (.cells #[] 5)).ownsRow B 5 1 (.slice (some ⟨W.heap.size + 1, 0, none⟩) 0 0) 0 (bs []) := by
  have := World.ownsRow_made (base := B) (e := 5) (size := 1) (W.alloc (.cells #[.int .i64 0, .slice none 0 0, .slice none 0 0] 25)) #[] 0 (by rw [World.size_alloc]; omega) (by decide) rfl
  rw [World.size_alloc] at this
  exact this
theorem size_pos (l : Bool) (s : Sh) : 4 ≤ sizeI (s.t.items l) := by
  by_cases h0 : s.k = 0
  · rw [ring_items l s.t (by rw [t_k, h0]), sizeI_cons]; simp only; omega
  · have e1 : sizeI [(if l then 1 else 0, 1), (U s.t.k, 4)] = 5 := rfl
    by_cases h1 : s.k = 1
    · rw [items_point l s.t (by rw [t_k, h1]), sizeI_append, e1]; omega
    · by_cases h2 : s.k = 2
      · rw [items_line l s.t (by rw [t_k, h2]), sizeI_append, e1]; omega
      · rw [items_other l s.t (by rw [t_k]; exact ⟨h0, h1, h2⟩), sizeI_append, e1]; omega
theorem rd_take {w : World} {g n cap : Nat} {xs : List Nat} (h : Rd w (some ⟨g, 0, none⟩) n cap xs) (r : Nat) (hr : r ≤ n) : Rd w (some ⟨g, 0, none⟩) r cap (xs.take r) := by
  refine ⟨by have := h.1; simp; omega, by have := h.2.1; omega, (fun e => by cases e), fun h0 => ?_⟩
  obtain ⟨b, off, e, hc⟩ := h.2.2.2 (by omega)
  refine ⟨b, off, e, fun t ht => ?_⟩
  rw [hc t (by omega)]
  simp [List.getD, ht]

set_option maxRecDepth 100000 in
set_option maxHeartbeats 4000000 in
theorem cuts_bad (s : Sh) (l : Bool) (n : Nat) (w : World) (hT : Tab w) (h : In (fun b => b < w.heap.size) w s) (hc : checkN s ≠ 0) : Calls Tryd.prog 6 #[.agg #[.int .i64 (s).k, .slice (s).xo (s).xn (s).xc, .slice (s).po (s).pn (s).pc], .bool l, .int .u64 (n : Int)] w fun e w' => e = .returned (.bool true) ∧ Below w.heap.size w w' := by
  have hg : Below w.heap.size w (w.alloc (.cells #[.int .i64 (s).k, .slice (s).xo (s).xn (s).xc, .slice (s).po (s).pn (s).pc] 25)) := ext1 _
  have HG := hid hg
  have BX := hid (Bx.new w s)
  obtain ⟨x0, x1, x2⟩ := BX.out.cells
  have EC := hid (encode_call s l _ (hT.keep hg) (h.grow hg))
  have E0 := hid (show encB s l = [] by unfold encB; rw [if_neg hc])
  rw [E0.out] at EC
  have RF := hid (fun W (hb : Below w.heap.size w W) => refCheck_call s W (h.grow hb))
  have LV := hid (fun W (hb : Below w.heap.size w W) => lives_call W (hT.keep hb))
  generalize checkN s = ck at *
  have hck : (ck == 0) = false := by simp; exact hc
  have hck' : (ck != 0) = true := by simp; exact hc
  clear h hT hg
  go_enter Tryd.func6, Tryd.ntmps6
  go_wp2_with (first
    | (go_at_call 9; refine EC.out.mono ?_; rintro e w4 ⟨a4, n4, c4, rfl, o4, -, b4⟩; have H4 := hid (gt HG.out b4); have X4 := hid (BX.out.keep b4); obtain ⟨x0, x1, x2⟩ := X4.out.cells; obtain rfl : n4 = 0 := (by have := o4.1; simpa [bs] using this.symm); clear o4 b4)
    | (go_at_call 19; refine (RF.out _ H4.out).mono ?_; rintro e w5 ⟨rfl, b5⟩; have H5 := hid (gt H4.out b5); clear b5)
    | (go_at_call 11; refine (LV.out _ H5.out).mono ?_; rintro e w6 ⟨rfl, b6⟩; have H6 := hid (gt H5.out b6); clear b6))
  go_ret
  exact ⟨rfl, H6.out⟩
set_option maxRecDepth 100000 in
set_option maxHeartbeats 4000000 in
theorem cuts_ok (s : Sh) (l : Bool) (n : Nat) (w : World) (hT : Tab w) (h : In (fun b => b < w.heap.size) w s) (hr : Rg s) (hn : n < 18446744073709551616) (hc : checkN s = 0) : Calls Tryd.prog 6 #[.agg #[.int .i64 (s).k, .slice (s).xo (s).xn (s).xc, .slice (s).po (s).pn (s).pc], .bool l, .int .u64 (n : Int)] w fun e w' => e = .returned (.bool true) ∧ Below w.heap.size w w' := by
  have hg : Below w.heap.size w (w.alloc (.cells #[.int .i64 (s).k, .slice (s).xo (s).xn (s).xc, .slice (s).po (s).pn (s).pc] 25)) := ext1 _
  have HG := hid hg
  have BX := hid (Bx.new w s)
  obtain ⟨x0, x1, x2⟩ := BX.out.cells
  have EC := hid (encode_call s l _ (hT.keep hg) (h.grow hg))
  have LV := hid (fun W (hb : Below w.heap.size w W) => lives_call W (hT.keep hb))
  have HT := hid (fun W (hb : Below w.heap.size w W) => hT.keep hb)
  have CUT := hid (fun j hj => d0_cut h hr hc l j hj)
  have MOR := hid (fun x => r0_more h hr hc l x)
  have EB : encB s l = bytesI l (s.t.items l) := by unfold encB; rw [if_pos hc]
  have LB := hid (show ∀ x ∈ bytesI l (s.t.items l), x < 256 from bytesI_bytes l _)
  rw [EB] at EC
  have h4 : 4 ≤ (bytesI l (s.t.items l)).length := by rw [bytesI_length]; exact size_pos l s
  generalize bytesI l (s.t.items l) = xs at *
  have HL := hid (⟨rfl, h4⟩ : xs.length = xs.length ∧ 4 ≤ xs.length)
  obtain ⟨m, hm⟩ : ∃ m : Nat, m = n % 256 := ⟨_, rfl⟩
  have hu8 : IntKind.u8.wrap (n : Int) = (m : Int) := by rw [IntKind.wrap_u8]; omega
  have hm8 : m < 256 := by omega
  have HM8 := hid hm8
  clear h hT hg h4 EB hr hm hm8
  go_enter Tryd.func6, Tryd.ntmps6
  go_wp2_with (go_at_call 9; refine EC.out.mono ?_; rintro e w4 ⟨a4, n4, c4, rfl, o4, hn4, b4⟩; have H4 := hid (gt HG.out b4); have X4 := hid (BX.out.keep b4); obtain ⟨x0, x1, x2⟩ := X4.out.cells; have O4 := hid o4; have N4 := hid (show n4 = xs.length by have := o4.1; rw [bs_length] at this; omega); clear o4 b4; have h4 : 4 ≤ n4 := (by rw [N4.out]; exact HL.out.2); obtain ⟨g, rfl⟩ := row_some O4.out (by omega); have RD := hid (rd_own O4.out); have hcap : n4 ≤ c4 := RD.out.2.1; obtain ⟨r, hr, hrn⟩ : ∃ r : Nat, (n : Int) % (n4 : Int) = (r : Int) ∧ r < n4 := ⟨n % n4, by omega, Nat.mod_lt _ (by omega)⟩)
  have DB := hid (decode_bad _ r c4 (xs.take r) w4 (HT.out _ H4.out) (rd_take RD.out r (by omega)) (fun x hx => LB.out x (List.mem_of_mem_take hx)) (by omega) 8 (CUT.out r (by have := N4.out; omega)))
  go_wp2_with (first
    | (go_at_call 13; refine DB.out.mono ?_; rintro e w5 ⟨rfl, -, b5⟩; have B5 := hid b5; have z5 := b5.size; clear b5)
    | (at_builtin; go_loud (refine wpList_append_rd rfl (.tmp 39) (.tmp 40) rfl w4.heap.size _ 0 [] rfl (own_empty w5 w4.heap.size z5) _ n4 c4 xs rfl (RD.out.keep (gt B5.out (gt (ext1 _) (ext1 _)))) (by omega) (by simp; omega) ?_); intro v6 w6 o6 b6; rw [Nat.zero_add, List.nil_append] at o6; have O6 := hid o6; have B6 := hid b6; have z6 : w4.heap.size ≤ w6.heap.size := (by have := b6.size; simp only [World.size_alloc] at this; omega); clear o6 b6)
    | (at_builtin; go_loud (refine wpList_append_rd rfl (.tmp 41) (.tmp 44) rfl w4.heap.size _ _ _ rfl (O6.out.alloc _) _ 1 1 [m] rfl (rd_one w6 m) (by omega) (by rw [World.size_alloc]; omega) ?_); intro v7 w7 o7 b7; obtain ⟨a7, c7, rfl⟩ := row_form o7; obtain ⟨g7, rfl⟩ := row_some o7 (by omega); have R7 := hid (rd_own o7); have B7 := hid (show Below w.heap.size w w7 from gt H4.out ((((B5.out.trans ((ext1 _).mono z5)).trans (((ext1 _).mono (by rw [World.size_alloc]; omega)))).trans B6.out).trans (((ext1 _).mono z6).trans b7))); clear o7 b7)
    | (go_at_call 15; refine (read_bad _ _ _ _ w7 (HT.out _ B7.out) R7.out (by simp only [List.mem_append, List.mem_singleton]; rintro x (hx | rfl); exact LB.out x hx; exact HM8.out) (by omega) 9 (MOR.out m)).mono ?_; rintro e w8 ⟨rfl, -, b8⟩; have B8 := hid (gt B7.out b8); clear b8)
    | (go_at_call 11; refine (LV.out _ (gt B8.out (ext1 _))).mono ?_; rintro e w9 ⟨rfl, b9⟩; have B9 := hid (gt (gt B8.out (ext1 _)) b9); clear b9))
  go_ret
  exact ⟨rfl, B9.out⟩
theorem cuts_law (s : Sh) (l : Bool) (n : Nat) (w : World) (hT : Tab w) (h : In (fun b => b < w.heap.size) w s) (hr : Rg s) (hn : n < 18446744073709551616) : Calls Tryd.prog 6 #[.agg #[.int .i64 (s).k, .slice (s).xo (s).xn (s).xc, .slice (s).po (s).pn (s).pc], .bool l, .int .u64 (n : Int)] w fun e w' => e = .returned (.bool true) ∧ Below w.heap.size w w' := by
  by_cases hc : checkN s = 0
  · exact cuts_ok s l n w hT h hr hn hc
  · exact cuts_bad s l n w hT h hc
end Go.Proofs.YtjieegnmofimkaaDoor
