/- The law DiskActs of package hachurelaw04 returns true for every room, every list of acts and every place to read from, and leaves its arguments as they were: the given statement, without a condition. -/
import Derived.Test.YtkgenmooepfhjaaRows
import Derived.Test.YtkgenmooepfhjaaFd
import Derived.Test.YtkgenmooepfhjaaOa
namespace Go.Proofs.Ytkgenmooepfhjaa
open Go.ChangeShapes Go.WideShapes Go.ChangeAt Go.RowKit

namespace DiskActsRow
theorem own : ownKnob Try.prog.godebug = none := by kernel_rfl
theorem laidOut : laidOutB Try.prog = true := by kernel_rfl
theorem u22 : Try.prog.underlying 22 = some (.slice 34) := by kernel_rfl

theorem walk (room : Int) (hrm : I64 room) (lo : Option Addr) (L C : Nat) (X : Nat → Av) (t0 t1 t2 : Int) (ht0 : I64 t0) (ht1 : I64 t1) (ht2 : I64 t2) (w : World) (h : ActsV w lo L X) :
    Calls Try.prog 3 #[.int .i64 room, .slice lo L C, .agg #[.int .i64 t0, .int .i64 t1, .int .i64 t2]] w fun e w' => e = .returned (.bool true) ∧ Below w.heap.size w w' := by
  by_cases hr : room < 1 ∨ 32768 < room
  · exact acts_no room hr lo L C X t0 t1 t2 w h
  · obtain ⟨rm, rfl⟩ := Int.eq_ofNat_of_zero_le (show 0 ≤ room by omega)
    exact acts_yes rm (by omega) (by omega) lo L C X t0 t1 t2 ht0 ht1 ht2 w h

theorem three_i {cs : List Value} (hl : cs.length = 3) (h : ∀ i, i < 3 → ∃ z : Int, cs[i]? = some (.int .i64 z) ∧ I64 z) :
    ∃ a b c : Int, cs = [.int .i64 a, .int .i64 b, .int .i64 c] ∧ I64 a ∧ I64 b ∧ I64 c := by
  obtain ⟨a, ha, ha'⟩ := h 0 (by omega)
  obtain ⟨b, hb, hb'⟩ := h 1 (by omega)
  obtain ⟨c, hc, hc'⟩ := h 2 (by omega)
  match cs, hl with
  | [c0, c1, c2], _ =>
    simp at ha hb hc
    exact ⟨a, b, c, by rw [ha, hb, hc], ha', hb', hc'⟩
theorem u23 : Try.prog.underlying 23 = some (.array 3 3) := by kernel_rfl
/-- Three numbers that came in as an array. -/
theorem open_cells {H : Type} {enc : TypeId × Value → H} {P : Program} {w : World} {base : Nat} {spare : Nat → Bool} {held : Bool} {r : Reach} {b0 : Nat} {t e : TypeId} {n : Nat} {v : Value} {d : DataW H} {p : List MemPlace} (ht : P.underlying t = some (.array n e)) (he : P.underlying e = some (.int .i64)) (hce : P.cellsOf e = 1) (hct : P.cellsOf t = n)
    (hv : Value.okWide P w r b0 t v) (h : DataW.Trod enc P w base spare held t v d p) :
    ∃ cs : List Value, v = .agg cs.toArray ∧ cs.length = n ∧ ∀ i, i < n → ∃ z : Int, cs[i]? = some (.int .i64 z) ∧ I64 z := by
  simp only [Value.okWide, ht] at hv
  obtain ⟨cs, rfl, hsz, _⟩ := hv
  obtain ⟨fuel, hf⟩ := h
  obtain ⟨xs, m, _, _, hl, hx, hi⟩ := DataW.trod_array ht hf
  refine ⟨cs.toList, by simp, by simp [hsz, hct], fun i hin => ?_⟩
  have h1 := hi i hin
  rw [hce, Nat.mul_one] at h1
  have h2 : xs[i]? = some xs[i] := List.getElem?_eq_getElem (by omega)
  rw [h2] at h1
  obtain ⟨z, hz, _, hw⟩ := DataW.trod_int he h1
  refine ⟨z, ?_, bounds_i64' hw⟩
  have h3 := congrArg (fun l : List Value => l[0]?) hz
  simp [List.getElem?_drop, Value.cells] at h3
  simpa using h3

set_option maxRecDepth 100000 in
theorem lifted (os : Os) (started : os.Started) (H : Type) (enc : TypeId × Value → H) :
    ReturnsInHanded {} Try.checked os 3 .any (Rows.diskActsSpec.pre6 enc Try.prog Try.f3 Rows.diskActsRow.domain false) (Rows.diskActsSpec.post enc Try.prog Try.f3 false true false false) := by
  refine returnsInHanded_of_change (C := Try.checked) own started (by kernel_rfl) Try.func3
    (ChangeSpec.witness6 (enc := enc) (C := Try.checked) false ⟨#[], #[.int .i64 0, .slice none 0 0, .agg #[.int .i64 0, .int .i64 0, .int .i64 0]], []⟩ 8 (by kernel_rfl) (by kernel_rfl) (by kernel_rfl) (by kernel_rfl)) ?_
  intro W base args ds gs before hval0 hW hcnd _
  have hval : ∀ (j : Nat) t v, Try.f3.params[j]? = some t → args[j]? = some v → Value.okWide Try.prog W .any base t v := hval0
  have hW' := hW
  obtain ⟨p, q, hA0, hV, rfl, hfz, hnd⟩ := hW
  have hA : DataW.TrodAll enc Try.prog W 0 (fun _ => true) true Try.f3.params.toList args.toList ds p := hA0
  rw [Try.params3] at hA hval
  obtain ⟨v0, v1, v2, d0, d1, d2, p0, p1, p2, rfl, rfl, rfl, h0, h1, h2⟩ := trodAll_three hA
  obtain ⟨rfl, rfl⟩ := trodVars_none hV
  have k0 := h0; have k1 := h1; have k2 := h2
  have lt0 : ∀ x ∈ p0, x.block < W.heap.size := by obtain ⟨m, hm⟩ := k0; exact DataW.trod_lt m _ _ _ hm
  have lt1 : ∀ x ∈ p1, x.block < W.heap.size := by obtain ⟨m, hm⟩ := k1; exact DataW.trod_lt m _ _ _ hm
  have lt2 : ∀ x ∈ p2, x.block < W.heap.size := by obtain ⟨m, hm⟩ := k2; exact DataW.trod_lt m _ _ _ hm
  obtain ⟨rm, rfl, rfl, rfl, wr⟩ := open_int Try.underlying3 (hval 0 3 v0 rfl rfl) h0
  obtain ⟨lo, L, C, X, rfl, hacts⟩ : ∃ lo L C X, v1 = .slice lo L C ∧ ActsV W lo L X := by
    rcases open_acts u22 (hval 1 22 v1 rfl rfl) h1 with ⟨lo, C, rfl⟩ | ⟨b, off, L, C, X, hL, _, rfl, ha⟩
    · exact ⟨lo, 0, C, fun _ => ⟨0, 0, 0, 0, 0, none, 0, [], 0⟩, rfl, fun h => by omega⟩
    · exact ⟨_, L, C, X, rfl, fun _ => ⟨b, off, rfl, ha⟩⟩
  obtain ⟨cs, rfl, hl, hc⟩ := open_cells u23 Try.underlying3 (by kernel_rfl) (by kernel_rfl) (hval 2 23 v2 rfl rfl) h2
  obtain ⟨t0, t1, t2, rfl, ht0, ht1, ht2⟩ := three_i hl hc
  clear hA0 hval0
  refine (walk rm (bounds_i64' wr) lo L C X t0 t1 t2 ht0 ht1 ht2 W hacts).mono fun e W' ⟨he, bel⟩ => ?_
  subst he
  exact ⟨_, rfl, _, _, _, [], _, [], hW', trodAll_mk1 (shut_bool Try.underlying4 _), trodAll_mk3 (Below.trod laidOut (by kernel_rfl) (of_decide_eq_true (by kernel_rfl)) k0 bel lt0) (Below.trod laidOut (by kernel_rfl) (of_decide_eq_true (by kernel_rfl)) k1 bel lt1) (Below.trod laidOut (by kernel_rfl) (of_decide_eq_true (by kernel_rfl)) k2 bel lt2), rfl, bel.frame _, fun h => by cases h⟩
end DiskActsRow

theorem diskActs_holds : Rows.DiskActsSaid :=
  OpenClaim.holds_of_wide 3 Try.f3 rfl rfl rfl rfl rfl rfl rfl ⟨rfl, rfl, rfl, rfl, rfl⟩ rfl rfl rfl rfl rfl (by kernel_rfl) Try.func3 (by kernel_rfl)
    (of_decide_eq_true (by kernel_rfl)) (by unfold Func.isWrapper; first | (rw [if_pos (by decide +kernel)]; kernel_rfl) | (rw [if_neg (by decide +kernel)]; exact ⟨rfl, rfl⟩))
    (fun os started H enc _ => DiskActsRow.lifted os started H enc)

#print axioms diskActs_holds
end Go.Proofs.Ytkgenmooepfhjaa
