/- A pager that no call made (PagerNone); no statement of the seat is proved here. -/
import Derived.Test.YtokofpbhbjbnfaaGreatDoorG45
import Derived.Test.YtokofpbhbjbnfaaGreatDoorG31
namespace Go.Proofs.YtokofpbhbjbnfaaGreatDoor
open Go.RowKit Go.Maps
open Dsk (gt hid undrew keep_old keep_cell lt_cell Rd DS FS Sec DiskP DFrame Grew From lenD readD newD known op_at)
open Cch (CS CP Fr wpAnyK wpAnyK_take wpAnyK_pure wpAnyK_ready wpAnyK_done wp_region_K AllReadyK.cons AllReadyK.nil)

set_option maxHeartbeats 8000000 in
set_option maxRecDepth 20000 in
theorem none_any (k n : Int) (s : Nat) (sh : Bool) (r : Int) (w : World) (hT : Jrn.Tab w) (h0 : 0 < w.heap.size) :
    Calls Tryz.prog 7 #[.agg #[.int .i64 k, .int .i64 n, .int .u8 (s : Int), .bool sh], .int .i64 r] w fun e w' => e = .returned (.bool true) ∧ Below w.heap.size w w' := by
  obtain ⟨w1, hw1⟩ : ∃ w1, w1 = (((w.alloc (.cells #[.int .i64 k, .int .i64 n, .int .u8 (s : Int), .bool sh] 37)).alloc (.cells #[.bool false, .int .i64 0, .pointer none, .pointer none, .int .i64 0, .bool false, .int .i64 0, .map none, .slice none 0 0, .int .i64 0, .int .i64 0, .int .i64 0] 76)).alloc (.cells #[.int .i64 0, .bool false, .int .i64 0, .slice none 0 0, .int .i64 0, .map none, .slice none 0 0, .int .i64 0, .map none, .int .i64 0, .slice none 0 0, .int .i64 0] 83)) := ⟨_, rfl⟩
  have ha : ActAt w1 w.heap.size k n s sh := by
    rw [hw1]
    refine (ActAt.keep (w := w.alloc (.cells #[.int .i64 k, .int .i64 n, .int .u8 (s : Int), .bool sh] 37)) ?_ (by repeat (first | with_reducible exact Below.refl _ _ | with_reducible assumption | with_reducible refine Below.drew ?_ | with_reducible refine below_drewN ?_ _ | with_reducible refine Below.alloc ?_ (by simp <;> omega) _ | with_reducible refine Below.setCell ?_ (by simp <;> omega) _)))
    refine ⟨?_, ?_, ?_, ?_⟩ <;> (rw [World.cell?_alloc_at _ _ _ _ rfl]; rfl)
  have hz : Bad w1 (.pointer (some ⟨w.heap.size + 1, 0, none⟩)) 1 := ⟨by decide, Or.inr ⟨w.heap.size + 1, false, 0, rfl, by
    rw [hw1]
    constructor <;> (refine keep_old ((Below.refl _ _).alloc (Nat.le_refl _) _) ?_; rw [World.cell?_alloc_at _ _ _ _ (by simp)]; rfl), rfl⟩⟩
  have hn : Bad w1 (.pointer none) 1 := ⟨by decide, Or.inl ⟨rfl, rfl⟩⟩
  have hd : Dsk.NoDisk w1 (.pointer (some ⟨w.heap.size + 1 + 1, 0, none⟩)) := Or.inr ⟨_, rfl, by rw [hw1, World.cell?_alloc_at _ _ _ _ (by simp)]; rfl⟩
  have hbw : Below w.heap.size w w1 := by rw [hw1]; exact (by repeat (first | with_reducible exact Below.refl _ _ | with_reducible assumption | with_reducible refine Below.drew ?_ | with_reducible refine below_drewN ?_ _ | with_reducible refine Below.alloc ?_ (by simp <;> omega) _ | with_reducible refine Below.setCell ?_ (by simp <;> omega) _))
  have HA := hid ha; have HZ := hid hz; have HN := hid hn; have HB := hid hbw; have HW1 := hid hw1; have HD := hid hd
  have HT := hid hT
  clear ha hz hn hbw hw1 hd hT
  have ix : ∀ i : Nat, i < 2 → ∃ v, (∀ W, (Instr.index 84 (.agg #[.pointer none, .pointer (some ⟨w.heap.size + 1, 0, none⟩)]) (.int .i64 (i : Int))).run Tryz.prog W = .ok v W) ∧ Bad w1 v 1 := by
    intro i hi
    rcases i with _ | _ | i
    · exact ⟨_, fun W => by kernel_rfl, HN.out⟩
    · exact ⟨_, fun W => by kernel_rfl, HZ.out⟩
    · omega
  have IX := hid ix
  have h9 := fun (i : Nat) (hi : i < 9) (W : World) => nine 1 i hi W
  have H9 := hid h9
  clear ix HN HZ h9
  go_enter Tryz.func7, Tryz.ntmps7
  have t1 : Hid True := hid trivial
  go_wp2_with (first
    | (go_at_call 10; clear t1; rw [← HW1.out]; refine (open_no _ _ _ HD.out).mono ?_; rintro e wx ⟨rfl, hwx⟩; obtain rfl := hwx.symm; clear hwx)
    | (go_at_call 10; refine (open_no _ _ _ (Or.inl rfl)).mono ?_; rintro e wx ⟨rfl, hwx⟩; obtain rfl := hwx.symm; clear hwx))
  go_loopw [45] (fun c W => ∃ i : Nat, i ≤ 2 ∧ c = .int .i64 (i : Int) ∧ Hid (Below w1.heap.size w1 W)) (fun c _ => 2 - (intOf c).toNat)
  case atStart => exact ⟨0, by omega, rfl, hid (Below.refl _ _)⟩
  case round =>
    obtain ⟨i, hi, rfl, hbw⟩ := hrel
    by_cases hi2 : i < 2
    · obtain ⟨v, ixv, hnv⟩ := IX.out i hi2
      have hi2' : (i : Int) < 2 := by omega
      have a1 : w1.cell? ⟨w.heap.size, 1, none⟩ = some (.int .i64 n) := HA.out.2.1
      have a1' := keep_old hbw.out a1
      clear a1
      have N0 : Hid (NS w1 w.heap.size k n s sh v 1 wr) := hid ⟨HA.out.keep hbw.out, hnv.keep hbw.out, hbw.out⟩
      clear hnv hbw
      go_wp2_with (first
        | (go_at_call 34; refine (bad_get _ _ _ _ (NS.bad N0.out)).mono ?_; rintro e w1x ⟨rfl, hbx⟩; have N1 := hid (NS.keep N0.out hbx); clear hbx N0)
        | (go_at_call 31; refine (bad_grow _ _ _ (NS.bad N1.out)).mono ?_; rintro e w2x ⟨rfl, hbx⟩; have N2 := hid (NS.keep N1.out hbx); clear hbx N1)
        | (go_at_call 35; refine (bad_mark _ _ _ (NS.bad N2.out)).mono ?_; rintro e w3x ⟨rfl, hbx⟩; have N3 := hid (NS.keep N2.out hbx); clear hbx N2))
      clear a1' ixv
      have HS : NS w1 w.heap.size k n s sh v 1 _ := N3.out.keep ((Below.refl _ _).drew)
      refine wp_region_K (S := NS w1 w.heap.size k n s sh v 1) (fun _ => false) (by kernel_rfl) HS (fun hHeld => ?_)
      clear HS N3
      refine wpAnyK_pure (i := 0) (v := ?_) (op_at _ 0 _ rfl) (by kernel_rfl) (by kernel_rfl) (by kernel_rfl) (by kernel_rfl) (fun _ _ _ h => h) (Or.inl ⟨by rfl, ?_⟩) (Or.inl (by assumption)) ?_
      rotate_left 1
      focus (intro W hSw; go_simp; first | done | with_reducible rfl)
      (try simp only [Act.put, List.setIfInBounds_toArray, List.set_cons_zero, List.set_cons_succ])
      refine wpAnyK_pure (i := 1) (v := ?_) (op_at _ 1 _ rfl) (by kernel_rfl) (by kernel_rfl) (by kernel_rfl) (by kernel_rfl) (fun _ _ _ h => h) (Or.inl ⟨by rfl, ?_⟩) (Or.inl (by assumption)) ?_
      rotate_left 1
      focus (intro W hSw; go_simp; first | done | with_reducible rfl)
      (try simp only [Act.put, List.setIfInBounds_toArray, List.set_cons_zero, List.set_cons_succ])
      refine wpAnyK_pure (i := 2) (v := ?_) (op_at _ 2 _ rfl) (by kernel_rfl) (by kernel_rfl) (by kernel_rfl) (by kernel_rfl) (fun _ _ _ h => h) (Or.inl ⟨by rfl, ?_⟩) (Or.inl (by assumption)) ?_
      rotate_left 1
      focus (intro W hSw; go_simp; first | done | with_reducible rfl)
      (try simp only [Act.put, List.setIfInBounds_toArray, List.set_cons_zero, List.set_cons_succ])
      refine wpAnyK_pure (i := 3) (v := ?_) (op_at _ 3 _ rfl) (by kernel_rfl) (by kernel_rfl) (by kernel_rfl) (by kernel_rfl) (fun _ _ _ h => h) (Or.inl ⟨by rfl, ?_⟩) (Or.inl (by assumption)) ?_
      rotate_left 1
      focus (intro W hSw; go_simp; first | done | with_reducible rfl)
      (try simp only [Act.put, List.setIfInBounds_toArray, List.set_cons_zero, List.set_cons_succ])
      refine wpAnyK_pure (i := 5) (v := ?_) (op_at _ 5 _ rfl) (by kernel_rfl) (by kernel_rfl) (by kernel_rfl) (by kernel_rfl) (fun _ _ _ h => h) (Or.inl ⟨by rfl, ?_⟩) (Or.inl (by assumption)) ?_
      rotate_left 1
      focus (intro W hSw; go_simp; first | done | with_reducible rfl)
      (try simp only [Act.put, List.setIfInBounds_toArray, List.set_cons_zero, List.set_cons_succ])
      refine wpAnyK_pure (i := 6) (v := ?_) (op_at _ 6 _ rfl) (by kernel_rfl) (by kernel_rfl) (by kernel_rfl) (by kernel_rfl) (fun _ _ _ h => h) (Or.inl ⟨by rfl, ?_⟩) (Or.inl (by assumption)) ?_
      rotate_left 1
      focus (intro W hSw; go_simp; first | done | with_reducible rfl)
      (try simp only [Act.put, List.setIfInBounds_toArray, List.set_cons_zero, List.set_cons_succ])
      refine wpAnyK_take (i := 7) (v := ?_) (op_at _ 7 _ rfl) (by kernel_rfl) (by kernel_rfl) (by kernel_rfl) (by kernel_rfl) (fun _ _ _ h => h) (Or.inl ⟨by rfl, ?_⟩) (by assumption) ?_
      rotate_left 1
      focus (intro W hSw; obtain ⟨⟨a0, a1, a2, a3⟩, _⟩ := hSw; go_simp; first | done | with_reducible rfl)
      (try simp only [Act.put, List.setIfInBounds_toArray, List.set_cons_zero, List.set_cons_succ])
      refine wpAnyK_take (i := 8) (v := ?_) (op_at _ 8 _ rfl) (by kernel_rfl) (by kernel_rfl) (by kernel_rfl) (by kernel_rfl) (fun _ _ _ h => h) (Or.inl ⟨by rfl, ?_⟩) (by assumption) ?_
      rotate_left 1
      focus (intro W hSw; obtain ⟨⟨a0, a1, a2, a3⟩, _⟩ := hSw; go_simp; first | done | with_reducible rfl)
      (try simp only [Act.put, List.setIfInBounds_toArray, List.set_cons_zero, List.set_cons_succ])
      refine wpAnyK_pure (i := 11) (v := ?_) (op_at _ 11 _ rfl) (by kernel_rfl) (by kernel_rfl) (by kernel_rfl) (by kernel_rfl) (fun _ _ _ h => h) (Or.inl ⟨by rfl, ?_⟩) (Or.inl (by assumption)) ?_
      rotate_left 1
      focus (intro W hSw; go_simp; first | done | with_reducible rfl)
      (try simp only [Act.put, List.setIfInBounds_toArray, List.set_cons_zero, List.set_cons_succ])
      refine wpAnyK_pure (i := 12) (v := ?_) (op_at _ 12 _ rfl) (by kernel_rfl) (by kernel_rfl) (by kernel_rfl) (by kernel_rfl) (fun _ _ _ h => h) (Or.inl ⟨by rfl, ?_⟩) (Or.inl (by assumption)) ?_
      rotate_left 1
      focus (intro W hSw; go_simp; first | done | with_reducible rfl)
      (try simp only [Act.put, List.setIfInBounds_toArray, List.set_cons_zero, List.set_cons_succ])
      refine wpAnyK_take (i := 13) (v := ?_) (op_at _ 13 _ rfl) (by kernel_rfl) (by kernel_rfl) (by kernel_rfl) (by kernel_rfl) (fun _ _ _ h => h) (Or.inl ⟨by rfl, ?_⟩) (by assumption) ?_
      rotate_left 1
      focus (intro W hSw; obtain ⟨⟨a0, a1, a2, a3⟩, _⟩ := hSw; go_simp; first | done | with_reducible rfl)
      (try simp only [Act.put, List.setIfInBounds_toArray, List.set_cons_zero, List.set_cons_succ])
      refine wpAnyK_pure (i := 15) (v := ?_) (op_at _ 15 _ rfl) (by kernel_rfl) (by kernel_rfl) (by kernel_rfl) (by kernel_rfl) (fun _ _ _ h => h) (Or.inl ⟨by rfl, ?_⟩) (Or.inl (by assumption)) ?_
      rotate_left 1
      focus (intro W hSw; go_simp; first | done | with_reducible rfl)
      (try simp only [Act.put, List.setIfInBounds_toArray, List.set_cons_zero, List.set_cons_succ])
      refine wpAnyK_pure (i := 16) (v := ?_) (op_at _ 16 _ rfl) (by kernel_rfl) (by kernel_rfl) (by kernel_rfl) (by kernel_rfl) (fun _ _ _ h => h) (Or.inl ⟨by rfl, ?_⟩) (Or.inl (by assumption)) ?_
      rotate_left 1
      focus (intro W hSw; go_simp; first | done | with_reducible rfl)
      (try simp only [Act.put, List.setIfInBounds_toArray, List.set_cons_zero, List.set_cons_succ])
      refine wpAnyK_take (i := 17) (v := ?_) (op_at _ 17 _ rfl) (by kernel_rfl) (by kernel_rfl) (by kernel_rfl) (by kernel_rfl) (fun _ _ _ h => h) (Or.inl ⟨by rfl, ?_⟩) (by assumption) ?_
      rotate_left 1
      focus (intro W hSw; obtain ⟨⟨a0, a1, a2, a3⟩, _⟩ := hSw; go_simp; first | done | with_reducible rfl)
      (try simp only [Act.put, List.setIfInBounds_toArray, List.set_cons_zero, List.set_cons_succ])
      refine wpAnyK_pure (i := 19) (v := ?_) (op_at _ 19 _ rfl) (by kernel_rfl) (by kernel_rfl) (by kernel_rfl) (by kernel_rfl) (fun _ _ _ h => h) (Or.inl ⟨by rfl, ?_⟩) (Or.inl (by assumption)) ?_
      rotate_left 1
      focus (intro W hSw; go_simp; first | done | with_reducible rfl)
      (try simp only [Act.put, List.setIfInBounds_toArray, List.set_cons_zero, List.set_cons_succ])
      refine wpAnyK_pure (i := 21) (v := ?_) (op_at _ 21 _ rfl) (by kernel_rfl) (by kernel_rfl) (by kernel_rfl) (by kernel_rfl) (fun _ _ _ h => h) (Or.inl ⟨by rfl, ?_⟩) (Or.inl (by assumption)) ?_
      rotate_left 1
      focus (intro W hSw; go_simp; first | done | with_reducible rfl)
      (try simp only [Act.put, List.setIfInBounds_toArray, List.set_cons_zero, List.set_cons_succ])
      refine wpAnyK_pure (i := 24) (v := ?_) (op_at _ 24 _ rfl) (by kernel_rfl) (by kernel_rfl) (by kernel_rfl) (by kernel_rfl) (fun _ _ _ h => h) (Or.inl ⟨by rfl, ?_⟩) (Or.inl (by assumption)) ?_
      rotate_left 1
      focus (intro W hSw; go_simp; first | done | with_reducible rfl)
      (try simp only [Act.put, List.setIfInBounds_toArray, List.set_cons_zero, List.set_cons_succ])
      refine wpAnyK_ready (rs := [4]) (by kernel_rfl) (by simp) ?_
      refine AllReadyK.cons (op_at _ 4 _ rfl) (fun K hK => ?_) AllReadyK.nil
      go_simp
      refine (bad_begin _ _ _ (NS.bad hHeld)).mono ?_; rintro e wx ⟨rfl, hbx⟩; have hR := NS.keep hHeld hbx; clear hbx
      refine hK.out _ _ hR (fun hHeld => ?_)
      clear hK K
      (try simp only [Act.put, List.setIfInBounds_toArray, List.set_cons_zero, List.set_cons_succ])
      clear hR
      refine wpAnyK_ready (rs := [9]) (by kernel_rfl) (by simp) ?_
      refine AllReadyK.cons (op_at _ 9 _ rfl) (fun K hK => ?_) AllReadyK.nil
      go_simp
      refine (bytes_any _ _ _ _ _).mono ?_; rintro e wx ⟨ao, al, ac, rfl, hbx⟩; have hR := NS.keep hHeld hbx; clear hbx
      refine hK.out _ _ hR (fun hHeld => ?_)
      clear hK K
      (try simp only [Act.put, List.setIfInBounds_toArray, List.set_cons_zero, List.set_cons_succ])
      clear hR
      refine wpAnyK_ready (rs := [10]) (by kernel_rfl) (by simp) ?_
      refine AllReadyK.cons (op_at _ 10 _ rfl) (fun K hK => ?_) AllReadyK.nil
      go_simp
      refine (bad_put _ _ _ _ _ (NS.bad hHeld)).mono ?_; rintro e wx ⟨rfl, hbx⟩; have hR := NS.keep hHeld hbx; clear hbx
      refine hK.out _ _ hR (fun hHeld => ?_)
      clear hK K
      (try simp only [Act.put, List.setIfInBounds_toArray, List.set_cons_zero, List.set_cons_succ])
      clear hR
      refine wpAnyK_ready (rs := [14]) (by kernel_rfl) (by simp) ?_
      refine AllReadyK.cons (op_at _ 14 _ rfl) (fun K hK => ?_) AllReadyK.nil
      go_simp
      refine (bad_shrink _ _ _ _ (NS.bad hHeld)).mono ?_; rintro e wx ⟨rfl, hbx⟩; have hR := NS.keep hHeld hbx; clear hbx
      refine hK.out _ _ hR (fun hHeld => ?_)
      clear hK K
      (try simp only [Act.put, List.setIfInBounds_toArray, List.set_cons_zero, List.set_cons_succ])
      clear hR
      refine wpAnyK_ready (rs := [18]) (by kernel_rfl) (by simp) ?_
      refine AllReadyK.cons (op_at _ 18 _ rfl) (fun K hK => ?_) AllReadyK.nil
      go_simp
      refine (bad_undo _ _ _ _ (NS.bad hHeld)).mono ?_; rintro e wx ⟨rfl, hbx⟩; have hR := NS.keep hHeld hbx; clear hbx
      refine hK.out _ _ hR (fun hHeld => ?_)
      clear hK K
      (try simp only [Act.put, List.setIfInBounds_toArray, List.set_cons_zero, List.set_cons_succ])
      clear hR
      refine wpAnyK_ready (rs := [20]) (by kernel_rfl) (by simp) ?_
      refine AllReadyK.cons (op_at _ 20 _ rfl) (fun K hK => ?_) AllReadyK.nil
      go_simp
      refine (bad_rollback _ _ _ (NS.bad hHeld)).mono ?_; rintro e wx ⟨rfl, hbx⟩; have hR := NS.keep hHeld hbx; clear hbx
      refine hK.out _ _ hR (fun hHeld => ?_)
      clear hK K
      (try simp only [Act.put, List.setIfInBounds_toArray, List.set_cons_zero, List.set_cons_succ])
      clear hR
      refine wpAnyK_ready (rs := [22]) (by kernel_rfl) (by simp) ?_
      refine AllReadyK.cons (op_at _ 22 _ rfl) (fun K hK => ?_) AllReadyK.nil
      go_simp
      refine (bad_commit _ _ _ (NS.bad hHeld)).mono ?_; rintro e wx ⟨rfl, hbx⟩; have hR := NS.keep hHeld hbx; clear hbx
      refine hK.out _ _ hR (fun hHeld => ?_)
      clear hK K
      (try simp only [Act.put, List.setIfInBounds_toArray, List.set_cons_zero, List.set_cons_succ])
      clear hR
      refine wpAnyK_pure (i := 23) (v := ?_) (op_at _ 23 _ rfl) (by kernel_rfl) (by kernel_rfl) (by kernel_rfl) (by kernel_rfl) (fun _ _ _ h => h) (Or.inl ⟨by rfl, ?_⟩) (Or.inl (by assumption)) ?_
      rotate_left 1
      focus (intro W hSw; go_simp; first | done | with_reducible rfl)
      (try simp only [Act.put, List.setIfInBounds_toArray, List.set_cons_zero, List.set_cons_succ])
      refine wpAnyK_done (by kernel_rfl) ?_ _
      have N4 := hid hHeld
      clear hHeld
      go_wp2
      go_loopw [89] (fun c W => ∃ j : Nat, j ≤ 9 ∧ c = .int .i64 (j : Int) ∧ Hid (NS w1 w.heap.size k n s sh v 1 W)) (fun c _ => 9 - (intOf c).toNat)
      case atStart => exact ⟨0, by omega, rfl, N4⟩
      case round =>
        obtain ⟨j, hj, rfl, N5⟩ := hrel
        by_cases hj9 : j < 9
        · have hj' : (j : Int) < 9 := by omega
          have e9 := H9.out j hj9
          go_wp2
          exact ⟨⟨j + 1, by omega, by go_num, N5⟩, by simp [intOf]; omega⟩
        · obtain rfl : j = 9 := by omega
          go_wp2_with (first
            | (go_at_call 12; refine (bad_pages _ _ _ (NS.bad N5.out)).mono ?_; rintro e w6 ⟨rfl, hbx⟩; have N6 := hid (NS.keep N5.out hbx); clear hbx N5)
            | (go_at_call 17; refine (bad_changed _ _ _ (NS.bad N6.out)).mono ?_; rintro e w7 ⟨rfl, hbx⟩; have N7 := hid (NS.keep N6.out hbx); clear hbx N6)
            | (go_at_call 22; refine (bad_cached _ _ _ (NS.bad N7.out)).mono ?_; rintro e w8 ⟨rfl, hbx⟩; have N8 := hid (NS.keep N7.out hbx); clear hbx N7)
            | (go_at_call 15; refine (bad_commits _ _ _ (NS.bad N8.out)).mono ?_; rintro e w9 ⟨rfl, hbx⟩; have N9 := hid (NS.keep N8.out hbx); clear hbx N8)
            | (go_at_call 19; refine (bad_replayed _ _ _ (NS.bad N9.out)).mono ?_; rintro e w10 ⟨rfl, hbx⟩; have N10 := hid (NS.keep N9.out hbx); clear hbx N9)
            | (go_at_call 14; refine (bad_busy _ _ _ (NS.bad N10.out)).mono ?_; rintro e w11 ⟨rfl, hbx⟩; have N11 := hid (NS.keep N10.out hbx); clear hbx N10))
          exact ⟨⟨i + 1, by omega, by go_num, hid (NS.below N11.out)⟩, by simp [intOf]; omega⟩
    · have hiE : i = 2 := by omega
      subst hiE
      go_wp2_with (go_at_call 8; refine (lives_any _ (HT.out.keep (gt HB.out hbw.out)) (by have := HB.out.size; have := hbw.out.size; omega)).mono ?_; rintro e wx ⟨rfl, hbx⟩; replace hbx := hid hbx)
      go_ret
      exact ⟨rfl, gt (gt HB.out hbw.out) hbx.out⟩

end Go.Proofs.YtokofpbhbjbnfaaGreatDoor
