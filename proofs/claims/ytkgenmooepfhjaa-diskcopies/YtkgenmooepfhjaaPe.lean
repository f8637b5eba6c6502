/- The law DiskCopies of package hachurelaw04 returns true for every two lists of acts, and leaves its arguments as they were: the given statement, without a condition. -/
import Derived.Test.YtkgenmooepfhjaaRows
import Derived.Test.YtkgenmooepfhjaaFe
import Derived.Test.YtkgenmooepfhjaaOa
namespace Go.Proofs.Ytkgenmooepfhjaa
open Go.ChangeShapes Go.WideShapes Go.ChangeAt Go.RowKit

namespace DiskCopiesRow
theorem own : ownKnob Try.prog.godebug = none := by kernel_rfl
theorem laidOut : laidOutB Try.prog = true := by kernel_rfl
theorem u22 : Try.prog.underlying 22 = some (.slice 34) := by kernel_rfl

set_option maxRecDepth 100000 in
theorem lifted (os : Os) (started : os.Started) (H : Type) (enc : TypeId × Value → H) :
    ReturnsInHanded {} Try.checked os 6 .any (Rows.diskCopiesSpec.pre6 enc Try.prog Try.f6 Rows.diskCopiesRow.domain false) (Rows.diskCopiesSpec.post enc Try.prog Try.f6 false true false false) := by
  refine returnsInHanded_of_change (C := Try.checked) own started (by kernel_rfl) Try.func6
    (ChangeSpec.witness6 (enc := enc) (C := Try.checked) false ⟨#[], #[.slice none 0 0, .slice none 0 0], []⟩ 8 (by kernel_rfl) (by kernel_rfl) (by kernel_rfl) (by kernel_rfl)) ?_
  intro W base args ds gs before hval0 hW hcnd _
  have hval : ∀ (j : Nat) t v, Try.f6.params[j]? = some t → args[j]? = some v → Value.okWide Try.prog W .any base t v := hval0
  have hW' := hW
  obtain ⟨p, q, hA0, hV, rfl, hfz, hnd⟩ := hW
  have hA : DataW.TrodAll enc Try.prog W 0 (fun _ => true) true Try.f6.params.toList args.toList ds p := hA0
  rw [Try.params6] at hA hval
  obtain ⟨v0, v1, d0, d1, p0, p1, rfl, rfl, rfl, h0, h1⟩ := trodAll_two hA
  obtain ⟨rfl, rfl⟩ := trodVars_none hV
  have k0 := h0; have k1 := h1
  have lt0 : ∀ x ∈ p0, x.block < W.heap.size := by obtain ⟨m, hm⟩ := k0; exact DataW.trod_lt m _ _ _ hm
  have lt1 : ∀ x ∈ p1, x.block < W.heap.size := by obtain ⟨m, hm⟩ := k1; exact DataW.trod_lt m _ _ _ hm
  obtain ⟨lo, L, C, X, rfl, ha0⟩ : ∃ lo L C X, v0 = .slice lo L C ∧ ActsV W lo L X := by
    rcases open_acts u22 (hval 0 22 v0 rfl rfl) h0 with ⟨lo, C, rfl⟩ | ⟨b, off, L, C, X, hL, _, rfl, ha⟩
    · exact ⟨lo, 0, C, fun _ => ⟨0, 0, 0, 0, 0, none, 0, [], 0⟩, rfl, fun h => by omega⟩
    · exact ⟨_, L, C, X, rfl, fun _ => ⟨b, off, rfl, ha⟩⟩
  obtain ⟨mo, ML, MC, Y, rfl, ha1⟩ : ∃ lo L C X, v1 = .slice lo L C ∧ ActsV W lo L X := by
    rcases open_acts u22 (hval 1 22 v1 rfl rfl) h1 with ⟨lo, C, rfl⟩ | ⟨b, off, L, C, X, hL, _, rfl, ha⟩
    · exact ⟨lo, 0, C, fun _ => ⟨0, 0, 0, 0, 0, none, 0, [], 0⟩, rfl, fun h => by omega⟩
    · exact ⟨_, L, C, X, rfl, fun _ => ⟨b, off, rfl, ha⟩⟩
  clear hA0 hval0
  refine (copies_walk lo L C X mo ML MC Y W ha0 ha1).mono fun e W' ⟨he, bel⟩ => ?_
  subst he
  exact ⟨_, rfl, _, _, _, [], _, [], hW', trodAll_mk1 (shut_bool Try.underlying4 _), trodAll_mk2 (Below.trod laidOut (by kernel_rfl) (of_decide_eq_true (by kernel_rfl)) k0 bel lt0) (Below.trod laidOut (by kernel_rfl) (of_decide_eq_true (by kernel_rfl)) k1 bel lt1), rfl, bel.frame _, fun h => by cases h⟩
end DiskCopiesRow

theorem diskCopies_holds : Rows.DiskCopiesSaid :=
  OpenClaim.holds_of_wide 6 Try.f6 rfl rfl rfl rfl rfl rfl rfl ⟨rfl, rfl, rfl, rfl, rfl⟩ rfl rfl rfl rfl rfl (by kernel_rfl) Try.func6 (by kernel_rfl)
    (of_decide_eq_true (by kernel_rfl)) (by unfold Func.isWrapper; first | (rw [if_pos (by decide +kernel)]; kernel_rfl) | (rw [if_neg (by decide +kernel)]; exact ⟨rfl, rfl⟩))
    (fun os started H enc _ => DiskCopiesRow.lifted os started H enc)

#print axioms diskCopies_holds
end Go.Proofs.Ytkgenmooepfhjaa
