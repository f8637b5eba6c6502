/- The document's example; no statement of the seat is proved here. -/
import Derived.Test.YtjlahomjhadnkaaCf
import Derived.Test.YtjlahomjhadnkaaCd
import Derived.Test.YtjlahomjhadnkaaWWd
namespace Go.Proofs.Ytjlahomjhadnkaa
open Go.RowKit Go.Maps Wid

def exB (b : Nat) : Sh := .mk 2 (some ⟨b, 0, none⟩) 2 2 [(1, 5), (3, 2)] none 0 0 []
theorem exB_flat (b : Nat) : (exB b).flat 1 = [(1, exB b)] := by
  rw [flat_eq, show seenL _ (exB b) = [] from rfl]; rfl
theorem exB_in {W : World} {b : Nat} {u : TypeId} (hb : W.heap[b]? = some (.cells #[.int .i64 1, .int .i64 5, .int .i64 3, .int .i64 2] u)) : In (fun b => b < W.heap.size) W (exB b) := by
  have lb : b < W.heap.size := (Array.getElem?_eq_some_iff.1 hb).1
  intro q hq
  rw [nodes_eq, show nodesL (exB b).ps = [] from rfl] at hq
  simp at hq
  subst hq
  exact { kI := by simp [exB, Sh.k], xl := rfl, xm := Nat.le_refl _, xb := by simp [exB, Sh.xn], x0 := fun h => by simp [exB, Sh.xo] at h, xr := .inr ⟨b, 0, rfl, lb, fun i p hi => by
      match i, hi with
      | 0, hi => simp [exB, Sh.xy] at hi; subst hi; refine ⟨?_, ?_⟩ <;> simp [World.cell?, hb]
      | 1, hi => simp [exB, Sh.xy] at hi; subst hi; refine ⟨?_, ?_⟩ <;> simp [World.cell?, hb]
      | i + 2, hi => simp [exB, Sh.xy] at hi⟩, pl := rfl, pm := Nat.le_refl _, pb := by simp [exB, Sh.pn], p0 := fun _ => ⟨rfl, rfl⟩, pr := .inl rfl }
theorem ex_box : boxL [(1, 5), (3, 2)] = ⟨false, 1, 2, 3, 5⟩ := eqR_iff.1 (by decide)
theorem ex_of (b : Nat) (u : TypeId) (W : World) (hb : W.heap[b]? = some (.cells #[.int .i64 1, .int .i64 5, .int .i64 3, .int .i64 2] u)) : Calls Try.prog 27 #[.agg #[.int .i64 2, .slice (some ⟨b, 0, none⟩) 2 2, .slice none 0 0]] W fun e w' => e = .returned (.agg #[.bool false, .int .i64 1, .int .i64 2, .int .i64 3, .int .i64 5]) ∧ Below W.heap.size W w' := by
  have h := bof_call (exB b) W (exB_in hb) (by rw [exB_flat]; exact of_decide_eq_true rfl)
  rw [exB_flat, show ptsF [(1, exB b)] = [(1, 5), (3, 2)] from rfl, ex_box] at h
  exact h
theorem ex_area (W : World) : Calls Try.prog 21 #[.agg #[.bool false, .int .i64 1, .int .i64 2, .int .i64 3, .int .i64 5]] W fun e w' => e = .returned (.agg #[.int .u64 6, .int .u64 0, .int .u64 0]) ∧ Below W.heap.size W w' := by
  have h := area_call ⟨false, 1, 2, 3, 5⟩ (by unfold Bd; simp) W
  rw [show areaN ⟨false, 1, 2, 3, 5⟩ = 6 from rfl] at h
  exact h
theorem ex_text (W : World) : Calls Try.prog 53 #[.agg #[.int .u64 6, .int .u64 0, .int .u64 0]] W fun e w' => e = .returned (.string ⟨#[54]⟩) ∧ Below W.heap.size W w' := by
  have h := text_of 6 (by decide) W
  rw [show textN 6 = ⟨#[54]⟩ by decide +kernel] at h
  exact h

set_option maxRecDepth 100000 in
set_option maxHeartbeats 1000000 in
theorem lives_call (w : World) : Calls Try.prog 25 #[] w fun e w' => e = .returned (.bool true) ∧ Below w.heap.size w w' := by
  have OC := hid (ex_of w.heap.size)
  have AC := hid ex_area
  have TC := hid ex_text
  have PE : ∀ W, (binOp .eql 25 (.agg #[.bool false, .int .i64 1, .int .i64 2, .int .i64 3, .int .i64 5]) (.agg #[.bool false, .int .i64 1, .int .i64 2, .int .i64 3, .int .i64 5])).run Try.prog W = .ok (.bool true) W := fun W => box_eql ⟨false, 1, 2, 3, 5⟩ ⟨false, 1, 2, 3, 5⟩ W
  go_enter Try.func25, Try.ntmps25
  go_wp2_with (first | (go_at_call 27; refine (OC.out _ _ (by exact (by repeat (first | (refine at_new ?_; first | with_reducible rfl | (simp only [World.size_alloc]; done)) | refine at_old ?_)))).mono ?_; rintro e w6 ⟨rfl, h6⟩; have b6 := gt (ext1 _) h6; clear h6) | (go_at_call 21; refine (AC.out _).mono ?_; rintro e w7 ⟨rfl, h7⟩) | (go_at_call 53; refine (TC.out _).mono ?_; rintro e w8 ⟨rfl, h8⟩))
  go_ret
  exact ⟨rfl, gt (gt (gt b6 (ext1 _)) h7) h8⟩
end Go.Proofs.Ytjlahomjhadnkaa
