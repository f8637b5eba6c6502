/- The law OctetNone of package hachurelaw02 returns true for every question and leaves its argument as it was: the given statement, without a condition. -/
import Derived.Test.YtieachnejicafaaRows
import Derived.Test.YtieachnejicafaaBg
import Derived.Test.YtieachnejicafaaOa
namespace Go.Proofs.Ytieachnejicafaa
open Go.ChangeShapes Go.WideShapes Go.ChangeAt Go.RowKit

theorem ask_shape : (Try.prog.underlying 47).bind shapeOf = some [(3, 0), (3, 1), (4, 2), (23, 3)] := by kernel_rfl

section
variable {H : Type} {enc : TypeId × Value → H} {w : World} {base : Nat} {spare : Nat → Bool} {held : Bool}

theorem agg_of {P : Program} {r : Reach} {b0 : Nat} {t : TypeId} {fs : Array Field} {v : Value} (hu : P.underlying t = some (.struct fs)) (hv : Value.okWide P w r b0 t v) : ∃ cs : List Value, v = .agg cs.toArray := by
  simp only [Value.okWide, hu] at hv
  obtain ⟨cs, rfl, _⟩ := hv
  exact ⟨cs.toList, by simp⟩

theorem open_ask {r : Reach} {b0 : Nat} {v : Value} {d : DataW H} {p : List MemPlace} (hv : Value.okWide Try.prog w r b0 47 v) (h : DataW.Trod enc Try.prog w base spare held 47 v d p) :
    ∃ (k z : Int) (l : Bool) (n : Int), v = .agg #[.int .i64 k, .int .i64 z, .bool l, .int .u64 n] := by
  obtain ⟨fs, hu, _⟩ := struct_of ask_shape
  obtain ⟨cs, rfl⟩ := agg_of hu hv
  obtain ⟨fuel, hf⟩ := h
  have hf' : DataW.trod enc Try.prog w base spare held fuel 47 cs = some (d, p) := by simpa [Value.cells] using hf
  obtain ⟨hl, hx⟩ := field_of ask_shape hf'
  rw [show Try.prog.cellsOf 47 = 4 by kernel_rfl] at hl
  obtain ⟨y0, n0, h0⟩ := hx 0 3 0 rfl
  obtain ⟨y1, n1, h1⟩ := hx 1 3 1 rfl
  obtain ⟨y2, n2, h2⟩ := hx 2 4 2 rfl
  obtain ⟨y3, n3, h3⟩ := hx 3 23 3 rfl
  obtain ⟨k, hk, _⟩ := int_at Try.underlying3 (by kernel_rfl) h0
  obtain ⟨z, hz, _⟩ := int_at Try.underlying3 (by kernel_rfl) h1
  obtain ⟨l, hl'⟩ := bool_at Try.underlying4 (by kernel_rfl) h2
  obtain ⟨n, hn, _⟩ := int_at Try.underlying23 (by kernel_rfl) h3
  match cs, hl with
  | [c0, c1, c2, c3], _ =>
    simp at hk hz hl' hn
    exact ⟨k, z, l, n, by rw [hk, hz, hl', hn]⟩
end

namespace OctetNoneRow
theorem own : ownKnob Try.prog.godebug = none := by kernel_rfl
theorem laidOut : laidOutB Try.prog = true := by kernel_rfl

set_option maxRecDepth 100000 in
theorem lifted (os : Os) (started : os.Started) (H : Type) (enc : TypeId × Value → H) :
    ReturnsInHanded {} Try.checked os 6 .any (Rows.octetNoneSpec.pre6 enc Try.prog Try.f6 Rows.octetNoneRow.domain false) (Rows.octetNoneSpec.post enc Try.prog Try.f6 false true false false) := by
  refine returnsInHanded_of_change (C := Try.checked) own started (by kernel_rfl) Try.func6
    (ChangeSpec.witness6 (enc := enc) (C := Try.checked) false ⟨#[], #[.agg #[.int .i64 0, .int .i64 0, .bool false, .int .u64 0]], []⟩ 8 (by kernel_rfl) (by kernel_rfl) (by kernel_rfl) (by kernel_rfl)) ?_
  intro W base args ds gs before hval0 hW hcnd _
  have hval : ∀ (j : Nat) t v, Try.f6.params[j]? = some t → args[j]? = some v → Value.okWide Try.prog W .any base t v := hval0
  have hW' := hW
  obtain ⟨p, q, hA0, hV, rfl, hfz, hnd⟩ := hW
  have hA : DataW.TrodAll enc Try.prog W 0 (fun _ => true) true Try.f6.params.toList args.toList ds p := hA0
  rw [Try.params6] at hA hval
  obtain ⟨v0, d0, rfl, rfl, h0⟩ := trodAll_one hA
  obtain ⟨rfl, rfl⟩ := trodVars_none hV
  have k0 := h0
  have lt0 : ∀ x ∈ p, x.block < W.heap.size := by obtain ⟨m, hm⟩ := k0; exact DataW.trod_lt m _ _ _ hm
  obtain ⟨k, z, l, n, rfl⟩ := open_ask (hval 0 47 v0 rfl rfl) h0
  clear hA0 hval0
  refine (none_law k z l n W).mono fun e W' ⟨he, bel⟩ => ?_
  subst he
  exact ⟨_, rfl, _, _, _, [], _, [], hW', trodAll_mk1 (shut_bool Try.underlying4 _), trodAll_mk1 (Below.trod laidOut (by kernel_rfl) (of_decide_eq_true (by kernel_rfl)) k0 bel lt0), rfl, bel.frame _, fun h => by cases h⟩
end OctetNoneRow

theorem octetNone_holds : Rows.OctetNoneSaid :=
  OpenClaim.holds_of_wide 6 Try.f6 rfl rfl rfl rfl rfl rfl rfl ⟨rfl, rfl, rfl, rfl, rfl⟩ rfl rfl rfl rfl rfl (by kernel_rfl) Try.func6 (by kernel_rfl)
    (of_decide_eq_true (by kernel_rfl)) (by unfold Func.isWrapper; first | (rw [if_pos (by decide +kernel)]; kernel_rfl) | (rw [if_neg (by decide +kernel)]; exact ⟨rfl, rfl⟩))
    (fun os started H enc _ => OctetNoneRow.lifted os started H enc)

#print axioms octetNone_holds
end Go.Proofs.Ytieachnejicafaa
