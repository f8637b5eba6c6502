/- The law SpillNone of package hachurelaw10 returns true for every two numbers and leaves its arguments as they were: the given statement, without a condition. -/
import Derived.Test.YtneemfbnjkcflaaGreatNa
import Derived.ProofKit
import Derived.OpenShut
namespace Go.Proofs.YtneemfbnjkcflaaGreat
open Go.ChangeShapes Go.WideShapes Go.ChangeAt Go.RowKit

def countI (n : Int) : Int := if n < 1 then 0 else (n - 1) / 508 + 1

set_option maxHeartbeats 400000 in
theorem count_any (n : Int) (h : -9223372036854775808 ≤ n ∧ n ≤ 9223372036854775807) (w : World) : Calls Tryz.prog 12 #[.int .i64 n] w fun e w' => e = .returned (.int .i64 (countI n)) ∧ w' = w := by
  obtain ⟨h1, h2⟩ := h
  unfold countI
  by_cases hk : n < 1
  · rw [if_pos hk]
    go_enter Tryz.func12, Tryz.ntmps12
    go_wp2
    go_ret
    exact ⟨rfl, rfl⟩
  · rw [if_neg hk]
    have e1 : (n - 1).tdiv 508 = (n - 1) / 508 := Int.tdiv_eq_ediv_of_nonneg (by omega)
    go_enter Tryz.func12, Tryz.ntmps12
    go_wp2
    go_ret
    first | exact ⟨rfl, rfl⟩ | simp [e1]

set_option maxHeartbeats 1000000 in
theorem lives_any (w : World) : Calls Tryz.prog 9 #[] w fun e w' => e = .returned (.bool true) ∧ w' = w := by
  have c1 := hid (count_any 509 ⟨by omega, by omega⟩)
  have c2 := hid (count_any 508 ⟨by omega, by omega⟩)
  have c3 := hid (count_any 0 ⟨by omega, by omega⟩)
  rw [show countI 509 = 2 by decide] at c1
  rw [show countI 508 = 1 by decide] at c2
  rw [show countI 0 = 0 by decide] at c3
  have t1 : Hid True := hid trivial
  have t2 : Hid True := hid trivial
  go_enter Tryz.func9, Tryz.ntmps9
  go_wp2_with (first
    | (go_at_call 12; clear t1; refine (c1.out _).mono ?_; rintro e w1 ⟨rfl, hw⟩; obtain rfl := hw.symm)
    | (go_at_call 12; clear t2; refine (c2.out _).mono ?_; rintro e w1 ⟨rfl, hw⟩; obtain rfl := hw.symm)
    | (go_at_call 12; refine (c3.out _).mono ?_; rintro e w1 ⟨rfl, hw⟩; obtain rfl := hw.symm))
  go_ret
  exact ⟨rfl, rfl⟩

/-- What is held while a heap that no call made is asked. -/
def NS (w : World) (v : Value) (W : World) : Prop := HZ W v ∧ Below w.heap.size w W
theorem NS.keep {w : World} {v : Value} {W W' : World} (h : NS w v W) (hb : Below W.heap.size W W') : NS w v W' := ⟨h.1.keep hb, gt h.2 hb⟩

set_option maxHeartbeats 4000000 in
set_option maxRecDepth 20000 in
theorem none_law (p n : Int) (w : World) :
    Calls Tryz.prog 3 #[.int .i64 p, .int .i64 n] w fun e w' => e = .returned (.bool true) ∧ Below w.heap.size w w' := by
  obtain ⟨W7, hW7⟩ : ∃ W7, W7 = w.alloc (.cells #[.pointer none] 24) := ⟨_, rfl⟩
  have B7 := hid (show Below w.heap.size w W7 by rw [hW7]; exact Below.alloc (Below.refl _ _) (Nat.le_refl _) _)
  have Z7 := hid (show W7.cell? ⟨w.heap.size, 0, none⟩ = some (.pointer none) by rw [hW7, World.cell?_alloc_new]; rfl)
  have ix : ∀ j : Nat, j < 2 → ∃ v, (∀ W, (Instr.index 26 (.agg #[.pointer none, .pointer (some ⟨w.heap.size, 0, none⟩)]) (.int .i64 (j : Int))).run Tryz.prog W = .ok v W) ∧ HZ W7 v := by
    intro j hj
    rcases j with _ | _ | j
    · exact ⟨_, fun W => by kernel_rfl, Or.inl rfl⟩
    · exact ⟨_, fun W => by kernel_rfl, Or.inr ⟨_, rfl, Z7.out⟩⟩
    · omega
  have IX := hid ix
  have HW7 := hid hW7
  clear ix hW7
  go_enter Tryz.func3, Tryz.ntmps3
  go_upto_region 2 with fail
  rw [← HW7.out]
  clear HW7
  go_wp2
  go_loopw [15] (fun c W => ∃ j : Nat, j ≤ 2 ∧ c = .int .i64 (j : Int) ∧ Hid (Below W7.heap.size W7 W)) (fun c _ => 2 - (Lib.intOf c).toNat)
  case atStart => exact ⟨0, by omega, rfl, hid (Below.refl _ _)⟩
  case round =>
    obtain ⟨j, hj, rfl, hbw⟩ := hrel
    by_cases hj2 : j < 2
    · obtain ⟨v, ixv, hnv⟩ := IX.out j hj2
      have hj2' : (j : Int) < 2 := by omega
      have N0 : Hid (NS W7 v wr) := hid ⟨hnv.keep hbw.out, hbw.out⟩
      clear hnv hbw
      go_wp2_with (first
        | (go_at_call 5; refine (bytes_any _).mono ?_; rintro e w1 ⟨g, rfl, hbx⟩; have N1 := hid (NS.keep N0.out hbx); clear hbx N0)
        | (go_at_call 4; refine (Write_bad _ _ _ N1.out.1).mono ?_; rintro e w2 ⟨rfl, hbx⟩; have N2 := hid (NS.keep N1.out hbx); clear hbx N1)
        | (go_at_call 6; refine (Read_bad _ _ _ _ N2.out.1).mono ?_; rintro e w3 ⟨rfl, hbx⟩; have N3 := hid (NS.keep N2.out hbx); clear hbx N2)
        | (go_at_call 7; refine (Pages_bad _ _ _ _ N3.out.1).mono ?_; rintro e w4 ⟨rfl, hbx⟩; have N4 := hid (NS.keep N3.out hbx); clear hbx N3)
        | (go_at_call 8; refine (Free_bad _ _ _ _ N4.out.1).mono ?_; rintro e w5 ⟨rfl, hbx⟩; have N5 := hid (NS.keep N4.out hbx); clear hbx N4))
      go_roundw
      case measure => simp [Lib.intOf]; omega
      case rel => exact ⟨j + 1, by omega, by go_num, hid N5.out.2⟩
    · have hj2' : ¬ (j : Int) < 2 := by omega
      have HB := hid (gt B7.out hbw.out)
      go_wp2_with (go_at_call 9; refine (lives_any _).mono ?_; rintro e w9 ⟨rfl, hw⟩; obtain rfl := hw.symm)
      go_ret
      exact ⟨rfl, HB.out⟩

namespace SpillNoneRow
theorem own : ownKnob Tryz.prog.godebug = none := by kernel_rfl
theorem laidOut : laidOutB Tryz.prog = true := by kernel_rfl

set_option maxRecDepth 100000 in
theorem lifted (os : Os) (started : os.Started) (H : Type) (enc : TypeId × Value → H) :
    ReturnsInHanded {} Tryz.checked os 3 .any (Rows.spillNoneSpec.pre6 enc Tryz.prog Tryz.f3 Rows.spillNoneRow.domain false) (Rows.spillNoneSpec.post enc Tryz.prog Tryz.f3 false true false false) := by
  refine returnsInHanded_of_change (C := Tryz.checked) own started (by kernel_rfl) Tryz.func3
    (ChangeSpec.witness6 (enc := enc) (C := Tryz.checked) false ⟨#[], #[.int .i64 0, .int .i64 0], []⟩ 8 (by kernel_rfl) (by kernel_rfl) (by kernel_rfl) (by kernel_rfl)) ?_
  intro W base args ds gs before hval0 hW hcnd _
  have hval : ∀ (j : Nat) t v, Tryz.f3.params[j]? = some t → args[j]? = some v → Value.okWide Tryz.prog W .any base t v := hval0
  have hW' := hW
  obtain ⟨p, q, hA0, hV, rfl, hfz, hnd⟩ := hW
  have hA : DataW.TrodAll enc Tryz.prog W 0 (fun _ => true) true Tryz.f3.params.toList args.toList ds p := hA0
  rw [Tryz.params3] at hA hval
  obtain ⟨v0, v1, d0, d1, p0, p1, rfl, rfl, rfl, h0, h1⟩ := trodAll_two hA
  obtain ⟨rfl, rfl⟩ := trodVars_none hV
  have k0 := h0
  have k1 := h1
  have lt0 : ∀ x ∈ p0, x.block < W.heap.size := by obtain ⟨m, hm⟩ := k0; exact DataW.trod_lt m _ _ _ hm
  have lt1 : ∀ x ∈ p1, x.block < W.heap.size := by obtain ⟨m, hm⟩ := k1; exact DataW.trod_lt m _ _ _ hm
  obtain ⟨a0, rfl, rfl, rfl, w0⟩ := open_int Tryz.underlying3 (hval 0 3 v0 rfl rfl) h0
  obtain ⟨a1, rfl, rfl, rfl, w1⟩ := open_int Tryz.underlying3 (hval 1 3 v1 rfl rfl) h1
  clear hA0 hval0
  refine (none_law a0 a1 W).mono fun e W' ⟨he, bel⟩ => ?_
  subst he
  exact ⟨_, rfl, _, _, _, [], _, [], hW', trodAll_mk1 (shut_bool Tryz.underlying4 _), trodAll_mk2 (Below.trod laidOut (by kernel_rfl) (of_decide_eq_true (by kernel_rfl)) k0 bel lt0) (Below.trod laidOut (by kernel_rfl) (of_decide_eq_true (by kernel_rfl)) k1 bel lt1), rfl, bel.frame _, fun h => by cases h⟩
end SpillNoneRow

theorem spillNone_holds : Rows.SpillNoneSaid :=
  OpenClaim.holds_of_wide 3 Tryz.f3 rfl rfl rfl rfl rfl rfl rfl ⟨rfl, rfl, rfl, rfl, rfl⟩ rfl rfl rfl rfl rfl (by kernel_rfl) Tryz.func3 (by kernel_rfl)
    (of_decide_eq_true (by kernel_rfl)) (by unfold Func.isWrapper; first | (rw [if_pos (by decide +kernel)]; kernel_rfl) | (rw [if_neg (by decide +kernel)]; exact ⟨rfl, rfl⟩))
    (fun os started H enc _ => SpillNoneRow.lifted os started H enc)

#print axioms spillNone_holds
end Go.Proofs.YtneemfbnjkcflaaGreat
