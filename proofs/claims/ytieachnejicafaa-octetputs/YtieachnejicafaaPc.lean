/- The law OctetPuts of package hachurelaw02 returns true for all bytes and every value and leaves its arguments as they were: the given statement, without a condition. -/
import Derived.Test.YtieachnejicafaaRows
import Derived.Test.YtieachnejicafaaBu
import Derived.Test.YtieachnejicafaaOa
namespace Go.Proofs.Ytieachnejicafaa
open Go.ChangeShapes Go.WideShapes Go.ChangeAt Go.RowKit

theorem value_shape : (Try.prog.underlying 25).bind shapeOf = some [(3, 0), (23, 1), (3, 2), (4, 3), (22, 4)] := by kernel_rfl

section
variable {H : Type} {enc : TypeId × Value → H} {w : World} {base : Nat} {spare : Nat → Bool} {held : Bool}

theorem open_value {r : Reach} {b0 : Nat} {v : Value} {d : DataW H} {p : List MemPlace} (hv : Value.okWide Try.prog w r b0 25 v) (h : DataW.Trod enc Try.prog w base spare held 25 v d p) :
    ∃ (k : Int) (n : Nat) (z : Int) (l : Bool) (b : Value), v = .agg #[.int .i64 k, .int .u64 (n : Int), .int .i64 z, .bool l, b] ∧ n < 18446744073709551616 := by
  obtain ⟨fs, hu, _⟩ := struct_of value_shape
  simp only [Value.okWide, hu] at hv
  obtain ⟨cs', rfl, _⟩ := hv
  obtain ⟨cs, rfl⟩ : ∃ cs : List Value, cs' = cs.toArray := ⟨cs'.toList, by simp⟩
  obtain ⟨fuel, hf⟩ := h
  have hf' : DataW.trod enc Try.prog w base spare held fuel 25 cs = some (d, p) := by simpa [Value.cells] using hf
  obtain ⟨hl, hx⟩ := field_of value_shape hf'
  rw [show Try.prog.cellsOf 25 = 5 by kernel_rfl] at hl
  obtain ⟨y0, n0, h0⟩ := hx 0 3 0 rfl
  obtain ⟨y1, n1, h1⟩ := hx 1 23 1 rfl
  obtain ⟨y2, n2, h2⟩ := hx 2 3 2 rfl
  obtain ⟨y3, n3, h3⟩ := hx 3 4 3 rfl
  obtain ⟨k, hk, _⟩ := int_at Try.underlying3 (by kernel_rfl) h0
  obtain ⟨n, hn, hw⟩ := int_at Try.underlying23 (by kernel_rfl) h1
  obtain ⟨z, hz, _⟩ := int_at Try.underlying3 (by kernel_rfl) h2
  obtain ⟨l, hl'⟩ := bool_at Try.underlying4 (by kernel_rfl) h3
  have hb := bounds_u64 hw
  obtain ⟨m, rfl⟩ := Int.eq_ofNat_of_zero_le hb.1
  match cs, hl with
  | [c0, c1, c2, c3, c4], _ =>
    simp at hk hz hl' hn
    exact ⟨k, m, z, l, c4, by rw [hk, hz, hl', hn], by omega⟩
end

namespace OctetPutsRow
theorem own : ownKnob Try.prog.godebug = none := by kernel_rfl
theorem laidOut : laidOutB Try.prog = true := by kernel_rfl

set_option maxRecDepth 100000 in
theorem lifted (os : Os) (started : os.Started) (H : Type) (enc : TypeId × Value → H) :
    ReturnsInHanded {} Try.checked os 3 .any (Rows.octetPutsSpec.pre6 enc Try.prog Try.f3 Rows.octetPutsRow.domain false) (Rows.octetPutsSpec.post enc Try.prog Try.f3 false true false false) := by
  refine returnsInHanded_of_change (C := Try.checked) own started (by kernel_rfl) Try.func3
    (ChangeSpec.witness6 (enc := enc) (C := Try.checked) false ⟨#[], #[.slice none 0 0, .agg #[.int .i64 0, .int .u64 0, .int .i64 0, .bool false, .slice none 0 0]], []⟩ 8 (by kernel_rfl) (by kernel_rfl) (by kernel_rfl) (by kernel_rfl)) ?_
  intro W base args ds gs before hval0 hW hcnd _
  have hval : ∀ (j : Nat) t v, Try.f3.params[j]? = some t → args[j]? = some v → Value.okWide Try.prog W .any base t v := hval0
  have hW' := hW
  obtain ⟨p, q, hA0, hV, rfl, hfz, hnd⟩ := hW
  have hA : DataW.TrodAll enc Try.prog W 0 (fun _ => true) true Try.f3.params.toList args.toList ds p := hA0
  rw [Try.params3] at hA hval
  obtain ⟨v0, v1, d0, d1, p0, p1, rfl, rfl, rfl, h0, h1⟩ := trodAll_two hA
  obtain ⟨rfl, rfl⟩ := trodVars_none hV
  have k0 := h0
  have k1 := h1
  have lt0 : ∀ x ∈ p0, x.block < W.heap.size := by obtain ⟨m, hm⟩ := k0; exact DataW.trod_lt m _ _ _ hm
  have lt1 : ∀ x ∈ p1, x.block < W.heap.size := by obtain ⟨m, hm⟩ := k1; exact DataW.trod_lt m _ _ _ hm
  obtain ⟨ao, n, cap, xs, rfl, hr, hx, hn⟩ := open_bytes Try.underlying22 Try.underlying5 (by kernel_rfl) (hval 0 22 v0 rfl rfl) h0
  obtain ⟨k, m, z, l, b, rfl, hm⟩ := open_value (hval 1 25 v1 rfl rfl) h1
  clear hA0 hval0
  have law : Calls Try.prog 3 #[.slice ao n cap, .agg #[.int .i64 k, .int .u64 (m : Int), .int .i64 z, .bool l, b]] W fun e w' => e = .returned (.bool true) ∧ Below W.heap.size W w' := by
    by_cases h300 : 300 < n
    · exact puts_long ao n cap k m z l b W h300
    · exact puts_law ao n cap xs k m z l b W hr hx (by omega) hm
  refine law.mono fun e W' ⟨he, bel⟩ => ?_
  subst he
  exact ⟨_, rfl, _, _, _, [], _, [], hW', trodAll_mk1 (shut_bool Try.underlying4 _), trodAll_mk2 (Below.trod laidOut (by kernel_rfl) (of_decide_eq_true (by kernel_rfl)) k0 bel lt0) (Below.trod laidOut (by kernel_rfl) (of_decide_eq_true (by kernel_rfl)) k1 bel lt1), rfl, bel.frame _, fun h => by cases h⟩
end OctetPutsRow

theorem octetPuts_holds : Rows.OctetPutsSaid :=
  OpenClaim.holds_of_wide 3 Try.f3 rfl rfl rfl rfl rfl rfl rfl ⟨rfl, rfl, rfl, rfl, rfl⟩ rfl rfl rfl rfl rfl (by kernel_rfl) Try.func3 (by kernel_rfl)
    (of_decide_eq_true (by kernel_rfl)) (by unfold Func.isWrapper; first | (rw [if_pos (by decide +kernel)]; kernel_rfl) | (rw [if_neg (by decide +kernel)]; exact ⟨rfl, rfl⟩))
    (fun os started H enc _ => OctetPutsRow.lifted os started H enc)

#print axioms octetPuts_holds
end Go.Proofs.Ytieachnejicafaa
