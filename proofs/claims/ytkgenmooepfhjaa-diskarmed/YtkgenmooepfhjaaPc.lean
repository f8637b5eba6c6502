/- The law DiskArmed of package hachurelaw04 returns true for every list of acts, every count and every crash, and leaves its arguments as they were: the given statement, without a condition. -/
import Derived.Test.YtkgenmooepfhjaaRows
import Derived.Test.YtkgenmooepfhjaaDf
import Derived.Test.YtkgenmooepfhjaaOa
namespace Go.Proofs.Ytkgenmooepfhjaa
open Go.ChangeShapes Go.WideShapes Go.ChangeAt Go.RowKit

namespace DiskArmedRow
theorem own : ownKnob Try.prog.godebug = none := by kernel_rfl
theorem laidOut : laidOutB Try.prog = true := by kernel_rfl
theorem u22 : Try.prog.underlying 22 = some (.slice 34) := by kernel_rfl

theorem walk (lo : Option Addr) (L C : Nat) (X : Nat → Av) (seed : Nat) (hsd : seed < 256) (ko : Option Addr) (kc : Nat) (keep : List Bool) (t : Int) (w : World) (h : ActsV w lo L X) (hrd : RdB w ko keep) (ht : I64 t) :
    Calls Try.prog 5 #[.slice lo L C, .int .u8 (seed : Int), .agg #[.slice ko keep.length kc, .int .i64 t]] w fun e w' => e = .returned (.bool true) ∧ Below w.heap.size w w' := by
  rcases Nat.lt_or_ge 100 keep.length with hk | hk
  · exact armed_long lo L C X seed ko keep.length kc t w h hk
  · exact armed_short lo L C X seed hsd ko kc keep t w h hk hrd ht

set_option maxRecDepth 100000 in
theorem lifted (os : Os) (started : os.Started) (H : Type) (enc : TypeId × Value → H) :
    ReturnsInHanded {} Try.checked os 5 .any (Rows.diskArmedSpec.pre6 enc Try.prog Try.f5 Rows.diskArmedRow.domain false) (Rows.diskArmedSpec.post enc Try.prog Try.f5 false true false false) := by
  refine returnsInHanded_of_change (C := Try.checked) own started (by kernel_rfl) Try.func5
    (ChangeSpec.witness6 (enc := enc) (C := Try.checked) false ⟨#[], #[.slice none 0 0, .int .u8 0, .agg #[.slice none 0 0, .int .i64 0]], []⟩ 8 (by kernel_rfl) (by kernel_rfl) (by kernel_rfl) (by kernel_rfl)) ?_
  intro W base args ds gs before hval0 hW hcnd _
  have hval : ∀ (j : Nat) t v, Try.f5.params[j]? = some t → args[j]? = some v → Value.okWide Try.prog W .any base t v := hval0
  have hW' := hW
  obtain ⟨p, q, hA0, hV, rfl, hfz, hnd⟩ := hW
  have hA : DataW.TrodAll enc Try.prog W 0 (fun _ => true) true Try.f5.params.toList args.toList ds p := hA0
  rw [Try.params5] at hA hval
  obtain ⟨v0, v1, v2, d0, d1, d2, p0, p1, p2, rfl, rfl, rfl, h0, h1, h2⟩ := trodAll_three hA
  obtain ⟨rfl, rfl⟩ := trodVars_none hV
  have k0 := h0; have k1 := h1; have k2 := h2
  have lt0 : ∀ x ∈ p0, x.block < W.heap.size := by obtain ⟨m, hm⟩ := k0; exact DataW.trod_lt m _ _ _ hm
  have lt1 : ∀ x ∈ p1, x.block < W.heap.size := by obtain ⟨m, hm⟩ := k1; exact DataW.trod_lt m _ _ _ hm
  have lt2 : ∀ x ∈ p2, x.block < W.heap.size := by obtain ⟨m, hm⟩ := k2; exact DataW.trod_lt m _ _ _ hm
  obtain ⟨lo, L, C, X, rfl, hacts⟩ : ∃ lo L C X, v0 = .slice lo L C ∧ ActsV W lo L X := by
    rcases open_acts u22 (hval 0 22 v0 rfl rfl) h0 with ⟨lo, C, rfl⟩ | ⟨b, off, L, C, X, hL, _, rfl, ha⟩
    · exact ⟨lo, 0, C, fun _ => ⟨0, 0, 0, 0, 0, none, 0, [], 0⟩, rfl, fun h => by omega⟩
    · exact ⟨_, L, C, X, rfl, fun _ => ⟨b, off, rfl, ha⟩⟩
  obtain ⟨s, rfl, rfl, rfl, ws⟩ := open_int Try.underlying5 (hval 1 5 v1 rfl rfl) h1
  have hsb := bounds_u8' ws
  obtain ⟨s', rfl⟩ := Int.eq_ofNat_of_zero_le hsb.1
  obtain ⟨ko, kc, keep, t, rfl, hr, _, ht⟩ := open_crash (hval 2 32 v2 rfl rfl) h2
  clear hA0 hval0
  refine (walk lo L C X s' (by omega) ko kc keep t W hacts hr ht).mono fun e W' ⟨he, bel⟩ => ?_
  subst he
  exact ⟨_, rfl, _, _, _, [], _, [], hW', trodAll_mk1 (shut_bool Try.underlying4 _), trodAll_mk3 (Below.trod laidOut (by kernel_rfl) (of_decide_eq_true (by kernel_rfl)) k0 bel lt0) (Below.trod laidOut (by kernel_rfl) (of_decide_eq_true (by kernel_rfl)) k1 bel lt1) (Below.trod laidOut (by kernel_rfl) (of_decide_eq_true (by kernel_rfl)) k2 bel lt2), rfl, bel.frame _, fun h => by cases h⟩
end DiskArmedRow

theorem diskArmed_holds : Rows.DiskArmedSaid :=
  OpenClaim.holds_of_wide 5 Try.f5 rfl rfl rfl rfl rfl rfl rfl ⟨rfl, rfl, rfl, rfl, rfl⟩ rfl rfl rfl rfl rfl (by kernel_rfl) Try.func5 (by kernel_rfl)
    (of_decide_eq_true (by kernel_rfl)) (by unfold Func.isWrapper; first | (rw [if_pos (by decide +kernel)]; kernel_rfl) | (rw [if_neg (by decide +kernel)]; exact ⟨rfl, rfl⟩))
    (fun os started H enc _ => DiskArmedRow.lifted os started H enc)

#print axioms diskArmed_holds
end Go.Proofs.Ytkgenmooepfhjaa
