/- The law OctetBack at short and long lists, and how a list of values that came in is read; no statement of the seat is proved here. -/
import Derived.Test.YtieachnejicafaaCf
import Derived.Test.YtieachnejicafaaOa
namespace Go.Proofs.Ytieachnejicafaa
open Go.ChangeShapes Go.WideShapes Go.ChangeAt Go.RowKit

set_option maxHeartbeats 400000 in
theorem back_long (lo : Option Addr) (L C : Nat) (w : World) (hL : 30 < L) : Calls Try.prog 4 #[.slice lo L C] w fun e w' => e = .returned (.bool true) ∧ Below w.heap.size w w' := by
  have lv := hid lives_any
  go_enter Try.func4, Try.ntmps4
  go_wp2_with (go_at_call 7; refine (lv.out _).mono ?_; rintro e w1 ⟨rfl, hb1⟩)
  go_ret
  exact ⟨rfl, hb1⟩

set_option maxHeartbeats 1000000 in
theorem back_none (lo : Option Addr) (C : Nat) (w : World) : Calls Try.prog 4 #[.slice lo 0 C] w fun e w' => e = .returned (.bool true) ∧ Below w.heap.size w w' := by
  have lv := hid lives_any
  have c18 := hid (read_ok none 0 0 [] w (Rd.nil w) (by omega))
  go_enter Try.func4, Try.ntmps4
  go_wp2
  refine wp_loop_rounds 1 ?_
  rw [rounds_succ]
  go_wp2_with (go_at_call 18; refine c18.out.mono ?_; rintro e w1 ⟨p, rfl, hp, hs1, hb1⟩; have c22 := hid (end_ok p w1 hs1); have c23 := hid (left_ok p w1 hs1); replace hs1 := hid hs1)
  refine wp_loop_rounds 1 ?_
  rw [rounds_succ]
  go_wp2_with (first | (go_at_call 22; refine c22.out.mono ?_; rintro e y1 ⟨rfl, rfl⟩) | (go_at_call 23; refine c23.out.mono ?_; rintro e y2 ⟨rfl, rfl⟩) | (go_at_call 7; refine (lv.out _).mono ?_; rintro e y3 ⟨rfl, hb3⟩))
  go_ret
  exact ⟨rfl, gt hb1 hb3⟩

theorem value_shape : (Try.prog.underlying 25).bind shapeOf = some [(3, 0), (23, 1), (3, 2), (4, 3), (22, 4)] := by kernel_rfl
theorem Try.u35 : Try.prog.underlying 35 = some (.slice 25) := by kernel_rfl

section
variable {H : Type} {enc : TypeId × Value → H} {w : World} {base : Nat} {held : Bool}

theorem one_value {n : Nat} {cs : List Value} {y : DataW H × List MemPlace} (h : DataW.trod enc Try.prog w base (fun _ => true) held n 25 cs = some y) :
    ∃ t : Int × Nat × Int × Bool × Option Addr × Nat × Nat × List Nat, cs[0]? = some (.int .i64 t.1) ∧ cs[1]? = some (.int .u64 (t.2.1 : Int)) ∧ cs[2]? = some (.int .i64 t.2.2.1) ∧ cs[3]? = some (.bool t.2.2.2.1) ∧
      cs[4]? = some (.slice t.2.2.2.2.1 t.2.2.2.2.2.1 t.2.2.2.2.2.2.1) ∧ Rd w t.2.2.2.2.1 t.2.2.2.2.2.1 t.2.2.2.2.2.2.1 t.2.2.2.2.2.2.2 ∧ (∀ x ∈ t.2.2.2.2.2.2.2, x < 256) ∧ t.2.1 < 18446744073709551616 ∧ t.2.2.2.2.2.1 ≤ 9223372036854775807 := by
  obtain ⟨_, hx⟩ := field_of value_shape h
  obtain ⟨y0, n0, h0⟩ := hx 0 3 0 rfl
  obtain ⟨y1, n1, h1⟩ := hx 1 23 1 rfl
  obtain ⟨y2, n2, h2⟩ := hx 2 3 2 rfl
  obtain ⟨y3, n3, h3⟩ := hx 3 4 3 rfl
  obtain ⟨y4, n4, h4⟩ := hx 4 22 4 rfl
  obtain ⟨k, hk, _⟩ := int_at Try.underlying3 (by kernel_rfl) h0
  obtain ⟨m, hm, hw⟩ := int_at Try.underlying23 (by kernel_rfl) h1
  obtain ⟨z, hz, _⟩ := int_at Try.underlying3 (by kernel_rfl) h2
  obtain ⟨l, hl⟩ := bool_at Try.underlying4 (by kernel_rfl) h3
  obtain ⟨ao, len, cap, xs, hcs, hr, hb, hn⟩ := rd_open Try.underlying22 Try.underlying5 (by kernel_rfl) h4
  have hc4 : cs[4]? = some (.slice ao len cap) := by
    have h3 := congrArg (fun l : List Value => l[0]?) hcs
    rw [show Try.prog.cellsOf 22 = 1 by kernel_rfl] at h3
    simp at h3
    simpa using h3
  have hb2 := bounds_u64 hw
  obtain ⟨m', rfl⟩ := Int.eq_ofNat_of_zero_le hb2.1
  exact ⟨(k, m', z, l, ao, len, cap, xs), hk, hm, hz, hl, hc4, hr, hb, by simp only; omega, hn⟩

theorem open_vals {r : Reach} {b0 : Nat} {v : Value} {d : DataW H} {p : List MemPlace} (hv : Value.okWide Try.prog w r b0 35 v) (h : DataW.Trod enc Try.prog w base (fun _ => true) held 35 v d p) :
    (∃ lo C, v = .slice lo 0 C) ∨ ∃ b off L C K N Z B bo bn bc X, 0 < L ∧ v = .slice (some ⟨b, off, none⟩) L C ∧ Vals w b off L K N Z B bo bn bc X := by
  obtain ⟨ao', len', cap', rfl⟩ := okWide_slice Try.u35 hv
  obtain ⟨fuel, hf⟩ := h
  rcases DataW.trod_slice Try.u35 hf with ⟨hcs, _⟩ | ⟨a, len, cap, elems, rest, n, _, hcs, _, _, hl, hm, hlen, hel, _, _⟩
  · simp [Value.cells] at hcs
    obtain ⟨rfl, rfl, rfl⟩ := hcs
    exact Or.inl ⟨_, _, rfl⟩
  · simp [Value.cells] at hcs
    obtain ⟨rfl, rfl, rfl⟩ := hcs
    by_cases h0 : len' = 0
    · subst h0; exact Or.inl ⟨_, _, rfl⟩
    right
    rw [show Try.prog.cellsOf 25 = 5 by kernel_rfl] at hel
    have each : ∀ i, i < len' → ∃ cs y, w.cells? base (a.add (i * 5)) 5 = some cs ∧ DataW.trod enc Try.prog w base (fun _ => true) held n 25 cs = some y := by
      intro i hi
      have h1 := hel i hi
      rw [List.getElem?_eq_getElem (by omega), Option.bind_eq_some_iff] at h1
      obtain ⟨cs, hc, ht⟩ := h1
      exact ⟨cs, _, hc, ht⟩
    obtain ⟨b, off, spot⟩ := a
    have hspot : spot = none := by
      obtain ⟨cs, y, hc, ht⟩ := each 0 (by omega)
      obtain ⟨t, t0, _⟩ := one_value ht
      have h2 := (World.cells?_some hc).2.2 0 (by omega)
      rw [t0] at h2
      have := World.cell?_spot h2
      simpa [Addr.add] using this
    subst hspot
    have each2 : ∀ i, ∃ t : Int × Nat × Int × Bool × Option Addr × Nat × Nat × List Nat, i < len' → w.cell? ⟨b, off + i * 5, none⟩ = some (.int .i64 t.1) ∧ w.cell? ⟨b, off + i * 5 + 1, none⟩ = some (.int .u64 (t.2.1 : Int)) ∧ w.cell? ⟨b, off + i * 5 + 2, none⟩ = some (.int .i64 t.2.2.1) ∧ w.cell? ⟨b, off + i * 5 + 3, none⟩ = some (.bool t.2.2.2.1) ∧
        w.cell? ⟨b, off + i * 5 + 4, none⟩ = some (.slice t.2.2.2.2.1 t.2.2.2.2.2.1 t.2.2.2.2.2.2.1) ∧ Rd w t.2.2.2.2.1 t.2.2.2.2.2.1 t.2.2.2.2.2.2.1 t.2.2.2.2.2.2.2 ∧ (∀ x ∈ t.2.2.2.2.2.2.2, x < 256) ∧ t.2.1 < 18446744073709551616 ∧ t.2.2.2.2.2.1 ≤ 9223372036854775807 := by
      intro i
      by_cases hi : i < len'
      · obtain ⟨cs, y, hc, ht⟩ := each i hi
        obtain ⟨t, t0, t1, t2, t3, t4, tr⟩ := one_value ht
        have h2 := (World.cells?_some hc).2.2
        refine ⟨t, fun _ => ⟨?_, ?_, ?_, ?_, ?_, tr⟩⟩
        · have := h2 0 (by omega); rw [t0, Addr.add_lit, Addr.add_lit] at this; simpa using this
        · have := h2 1 (by omega); rw [t1, Addr.add_lit, Addr.add_lit] at this; exact this
        · have := h2 2 (by omega); rw [t2, Addr.add_lit, Addr.add_lit] at this; exact this
        · have := h2 3 (by omega); rw [t3, Addr.add_lit, Addr.add_lit] at this; exact this
        · have := h2 4 (by omega); rw [t4, Addr.add_lit, Addr.add_lit] at this; exact this
      · exact ⟨(0, 0, 0, false, none, 0, 0, []), fun h => absurd h hi⟩
    obtain ⟨f, hf2⟩ := Classical.axiomOfChoice each2
    exact ⟨b, off, len', cap', fun i => (f i).1, fun i => (f i).2.1, fun i => (f i).2.2.1, fun i => (f i).2.2.2.1, fun i => (f i).2.2.2.2.1, fun i => (f i).2.2.2.2.2.1, fun i => (f i).2.2.2.2.2.2.1, fun i => (f i).2.2.2.2.2.2.2, by omega, rfl, hf2⟩
end

end Go.Proofs.Ytieachnejicafaa
