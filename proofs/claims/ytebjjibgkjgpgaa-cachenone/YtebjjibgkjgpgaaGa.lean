/- A cache that no call made; no statement of the seat is proved here. -/
import Derived.Test.YtebjjibgkjgpgaaFb
namespace Go.Proofs.Ytebjjibgkjgpgaa
open Go.RowKit Go.Maps

/-- No cache: nil, or one that no call made. -/
def NoC (W : World) (v : Value) : Prop := v = .pointer none ∨ ∃ c, v = .pointer (some ⟨c, 0, none⟩) ∧ W.cell? ⟨c, 0, none⟩ = some (.int .i64 0)
theorem NoC.later {W W' : World} {v : Value} (h : NoC W v) (hb : Below W.heap.size W W') : NoC W' v := by
  rcases h with h | ⟨c, h, h0⟩
  · exact Or.inl h
  · exact Or.inr ⟨c, h, keep_old hb h0⟩

theorem made_no (v : Value) (w : World) (h : NoC w v) : Calls Try.prog 48 #[v] w fun e w' => e = .returned (.bool false) ∧ w' = w := by
  rcases h with rfl | ⟨c, rfl, h0⟩
  · exact made_nil w
  · exact made_zero c w h0
theorem find_no (v : Value) (k : Int) (w : World) (h : NoC w v) : Calls Try.prog 47 #[v, .int .i64 k] w fun e w' => e = .returned (.tuple #[.pointer none, .int .i64 1]) ∧ w' = w := by
  rcases h with rfl | ⟨c, rfl, h0⟩
  · exact find_nil k w
  · exact find_zero c k w h0

set_option maxHeartbeats 1000000 in
theorem put_no (v : Value) (k : Int) (ao : Option Addr) (n cap : Nat) (w : World) (h : NoC w v) : Calls Try.prog 16 #[v, .int .i64 k, .slice ao n cap] w fun e w' => e = .returned (.int .i64 1) ∧ w' = w := by
  have k1 := hid (made_no v w h)
  clear h
  go_enter Try.func16, Try.ntmps16
  go_wp2_with (go_at_call 48; refine k1.out.mono ?_; rintro e w1 ⟨rfl, h0⟩; obtain rfl := h0.symm)
  go_ret
  exact ⟨rfl, rfl⟩

set_option maxHeartbeats 1000000 in
theorem get_no (v : Value) (k : Int) (w : World) (h : NoC w v) : Calls Try.prog 23 #[v, .int .i64 k] w fun e w' => e = .returned (.tuple #[.slice none 0 0, .bool false]) ∧ w' = w := by
  have k1 := hid (made_no v w h)
  clear h
  go_enter Try.func23, Try.ntmps23
  go_wp2_with (go_at_call 48; refine k1.out.mono ?_; rintro e w1 ⟨rfl, h0⟩; obtain rfl := h0.symm)
  go_ret2
  exact ⟨rfl, rfl⟩

set_option maxHeartbeats 1000000 in
theorem peek_no (v : Value) (k : Int) (w : World) (h : NoC w v) : Calls Try.prog 18 #[v, .int .i64 k] w fun e w' => e = .returned (.tuple #[.slice none 0 0, .bool false]) ∧ w' = w := by
  have k1 := hid (find_no v k w h)
  clear h
  go_enter Try.func18, Try.ntmps18
  go_wp2_with (go_at_call 47; refine k1.out.mono ?_; rintro e w1 ⟨rfl, h0⟩; obtain rfl := h0.symm)
  go_ret2
  exact ⟨rfl, rfl⟩

set_option maxHeartbeats 1000000 in
theorem pin_no (v : Value) (k : Int) (w : World) (h : NoC w v) : Calls Try.prog 25 #[v, .int .i64 k] w fun e w' => e = .returned (.int .i64 1) ∧ w' = w := by
  have k1 := hid (find_no v k w h)
  clear h
  go_enter Try.func25, Try.ntmps25
  go_wp2_with (go_at_call 47; refine k1.out.mono ?_; rintro e w1 ⟨rfl, h0⟩; obtain rfl := h0.symm)
  go_ret
  exact ⟨rfl, rfl⟩

set_option maxHeartbeats 1000000 in
theorem free_no (v : Value) (k : Int) (w : World) (h : NoC w v) : Calls Try.prog 26 #[v, .int .i64 k] w fun e w' => e = .returned (.int .i64 1) ∧ w' = w := by
  have k1 := hid (find_no v k w h)
  clear h
  go_enter Try.func26, Try.ntmps26
  go_wp2_with (go_at_call 47; refine k1.out.mono ?_; rintro e w1 ⟨rfl, h0⟩; obtain rfl := h0.symm)
  go_ret
  exact ⟨rfl, rfl⟩

set_option maxHeartbeats 1000000 in
theorem mark_no (v : Value) (k : Int) (d : Bool) (w : World) (h : NoC w v) : Calls Try.prog 27 #[v, .int .i64 k, .bool d] w fun e w' => e = .returned (.int .i64 1) ∧ w' = w := by
  have k1 := hid (find_no v k w h)
  clear h
  go_enter Try.func27, Try.ntmps27
  go_wp2_with (go_at_call 47; refine k1.out.mono ?_; rintro e w1 ⟨rfl, h0⟩; obtain rfl := h0.symm)
  go_ret
  exact ⟨rfl, rfl⟩

set_option maxHeartbeats 1000000 in
theorem drop_no (v : Value) (k : Int) (w : World) (h : NoC w v) : Calls Try.prog 28 #[v, .int .i64 k] w fun e w' => e = .returned (.int .i64 1) ∧ w' = w := by
  have k1 := hid (find_no v k w h)
  clear h
  go_enter Try.func28, Try.ntmps28
  go_wp2_with (go_at_call 47; refine k1.out.mono ?_; rintro e w1 ⟨rfl, h0⟩; obtain rfl := h0.symm)
  go_ret
  exact ⟨rfl, rfl⟩

set_option maxHeartbeats 1000000 in
theorem pins_no (v : Value) (k : Int) (w : World) (h : NoC w v) : Calls Try.prog 15 #[v, .int .i64 k] w fun e w' => e = .returned (.int .i64 0) ∧ w' = w := by
  have k1 := hid (find_no v k w h)
  clear h
  go_enter Try.func15, Try.ntmps15
  go_wp2_with (go_at_call 47; refine k1.out.mono ?_; rintro e w1 ⟨rfl, h0⟩; obtain rfl := h0.symm)
  go_ret
  exact ⟨rfl, rfl⟩

set_option maxHeartbeats 1000000 in
theorem len_no (v : Value) (w : World) (h : NoC w v) : Calls Try.prog 19 #[v] w fun e w' => e = .returned (.int .i64 0) ∧ w' = w := by
  have k1 := hid (made_no v w h)
  clear h
  go_enter Try.func19, Try.ntmps19
  go_wp2_with (go_at_call 48; refine k1.out.mono ?_; rintro e w1 ⟨rfl, h0⟩; obtain rfl := h0.symm)
  go_ret
  exact ⟨rfl, rfl⟩

set_option maxHeartbeats 1000000 in
theorem hits_no (v : Value) (w : World) (h : NoC w v) : Calls Try.prog 24 #[v] w fun e w' => e = .returned (.tuple #[.int .i64 0, .int .i64 0]) ∧ w' = w := by
  have k1 := hid (made_no v w h)
  clear h
  go_enter Try.func24, Try.ntmps24
  go_wp2_with (go_at_call 48; refine k1.out.mono ?_; rintro e w1 ⟨rfl, h0⟩; obtain rfl := h0.symm)
  go_ret2
  exact ⟨rfl, rfl⟩

set_option maxHeartbeats 1000000 in
theorem copy_no (v : Value) (w : World) (h : NoC w v) : Calls Try.prog 21 #[v] w fun e w' => e = .returned (.pointer none) ∧ w' = w := by
  have k1 := hid (made_no v w h)
  clear h
  go_enter Try.func21, Try.ntmps21
  go_wp2_with (go_at_call 48; refine k1.out.mono ?_; rintro e w1 ⟨rfl, h0⟩; obtain rfl := h0.symm)
  go_ret
  exact ⟨rfl, rfl⟩

theorem op_atN (l : List Oper) (i : Nat) (o : Oper) (h : l[i]? = some o) : l.toArray[i]? = some o := by simpa using h

set_option maxHeartbeats 1000000 in
theorem told_no (v : Value) (f : Nat) (w : World) (h : NoC w v) : Calls Try.prog 43 #[v, .func (.func f) #[] #[]] w fun e w' => e = .returned (.slice none 0 0) ∧ Below w.heap.size w w' := by
  have k1 := hid (made_no v _ (h.later ((Below.refl _ w).alloc (Nat.le_refl _) (.cells #[.func (.func f) #[] #[]] 70))))
  clear h
  go_enter Try.func43, Try.ntmps43
  go_wp2_with (go_at_call 48; refine k1.out.mono ?_; rintro e w1 ⟨rfl, rfl⟩)
  go_ret
  exact ⟨rfl, (by repeat (first | with_reducible exact Below.refl _ _ | with_reducible assumption | with_reducible refine Below.drew ?_ | with_reducible refine below_drewN ?_ _ | with_reducible refine Below.alloc ?_ (by simp <;> omega) _ | with_reducible refine Below.setCell ?_ (by simp <;> omega) _))⟩

set_option maxHeartbeats 1000000 in
theorem order_no (v : Value) (w : World) (h : NoC w v) : Calls Try.prog 14 #[v] w fun e w' => e = .returned (.slice none 0 0) ∧ Below w.heap.size w w' := by
  have k1 := hid (told_no v 46 w h)
  clear h
  go_enter Try.func14, Try.ntmps14
  go_wp2_with (go_at_call 43; refine k1.out.mono ?_; rintro e w1 ⟨rfl, h1⟩; have H1 := hid h1; clear h1)
  go_ret
  exact ⟨rfl, H1.out⟩

set_option maxHeartbeats 1000000 in
theorem dirty_no (v : Value) (w : World) (h : NoC w v) : Calls Try.prog 13 #[v] w fun e w' => e = .returned (.slice none 0 0) ∧ Below w.heap.size w w' := by
  have k1 := hid (told_no v 44 w h)
  have k2 := hid (fun W => AnyM.slices_Sort_int_none Try.sortA none 0 W)
  clear h
  go_enter Try.func13, Try.ntmps13
  go_wp2_with (first | (go_at_call 43; refine k1.out.mono ?_; rintro e w1 ⟨rfl, h1⟩; have H1 := hid h1; clear h1) | (go_at_call 45; refine (k2.out _).mono ?_; rintro e w2 ⟨rfl, h0⟩; obtain rfl := h0.symm))
  go_ret
  exact ⟨rfl, H1.out⟩

set_option maxHeartbeats 1000000 in
theorem shed_no0 (v : Value) (w : World) (h : NoC w v) : Calls Try.prog 51 #[v, .int .i64 0, .func (.func 56) #[] #[]] w fun e w' => e = .returned (.int .i64 0) ∧ Below w.heap.size w w' := by
  rcases h with rfl | ⟨c, rfl, h0⟩
  · go_enter Try.func51, Try.ntmps51
    go_wp2
    go_ret
    exact ⟨rfl, (by repeat (first | with_reducible exact Below.refl _ _ | with_reducible assumption | with_reducible refine Below.drew ?_ | with_reducible refine below_drewN ?_ _ | with_reducible refine Below.alloc ?_ (by simp <;> omega) _ | with_reducible refine Below.setCell ?_ (by simp <;> omega) _))⟩
  · exact shed_none c 56 0 #[] w (by omega)

set_option maxHeartbeats 1000000 in
theorem clear_no (v : Value) (w : World) (h : NoC w v) : Calls Try.prog 29 #[v] w fun e w' => e = .returned (.int .i64 0) ∧ Below w.heap.size w w' := by
  have k1 := hid (len_no v w h)
  have k2 := hid (shed_no0 v w h)
  clear h
  go_enter Try.func29, Try.ntmps29
  go_wp2_with (first | (go_at_call 19; refine k1.out.mono ?_; rintro e w1 ⟨rfl, h0⟩; obtain rfl := h0.symm) | (go_at_call 51; refine k2.out.mono ?_; rintro e w2 ⟨rfl, h1⟩; have H1 := hid h1; clear h1))
  go_ret
  exact ⟨rfl, H1.out⟩

abbrev NS (w : World) (b : Nat) (v : Value) (p : Int) (W : World) : Prop := W.cell? ⟨b, 1, none⟩ = some (.int .i64 p) ∧ NoC W v ∧ Below w.heap.size w W
theorem NS.keep {w W W' : World} {b : Nat} {v : Value} {p : Int} (h : NS w b v p W) (hb : Below W.heap.size W W') : NS w b v p W' := ⟨keep_old hb h.1, h.2.1.later hb, gt h.2.2 hb⟩
theorem NS.no {w W : World} {b : Nat} {v : Value} {p : Int} (h : NS w b v p W) : NoC W v := h.2.1
theorem NS.below {w W : World} {b : Nat} {v : Value} {p : Int} (h : NS w b v p W) : Below w.heap.size w W := h.2.2

set_option maxHeartbeats 8000000 in
set_option maxRecDepth 20000 in
theorem none_any (k p : Int) (s : Nat) (sh : Bool) (w : World) :
    Calls Try.prog 7 #[.agg #[.int .i64 k, .int .i64 p, .int .u8 (s : Int), .bool sh]] w fun e w' => e = .returned (.bool true) ∧ Below w.heap.size w w' := by
  obtain ⟨w1, hw1⟩ : ∃ w1, w1 = (w.alloc (.cells #[.int .i64 k, .int .i64 p, .int .u8 (s : Int), .bool sh] 29)).alloc (.cells #[.int .i64 0, .map none, .pointer none, .int .i64 0, .int .i64 0] 52) := ⟨_, rfl⟩
  have ha : w1.cell? ⟨w.heap.size, 1, none⟩ = some (.int .i64 p) := by
    rw [hw1]
    refine keep_old ((Below.refl _ _).alloc (Nat.le_refl _) _) ?_
    rw [World.cell?_alloc_at _ _ _ _ rfl]; rfl
  have hz : NoC w1 (.pointer (some ⟨w.heap.size + 1, 0, none⟩)) := Or.inr ⟨_, rfl, by rw [hw1, World.cell?_alloc_at _ _ _ _ (by simp)]; rfl⟩
  have hn : NoC w1 (.pointer none) := Or.inl rfl
  have hbw : Below w.heap.size w w1 := by rw [hw1]; exact (by repeat (first | with_reducible exact Below.refl _ _ | with_reducible assumption | with_reducible refine Below.drew ?_ | with_reducible refine below_drewN ?_ _ | with_reducible refine Below.alloc ?_ (by simp <;> omega) _ | with_reducible refine Below.setCell ?_ (by simp <;> omega) _))
  have HA := hid ha; have HZ := hid hz; have HN := hid hn; have HB := hid hbw; have HW1 := hid hw1
  clear ha hz hn hbw hw1
  have ix : ∀ i : Nat, i < 2 → ∃ v, (∀ W, (Instr.index 53 (.agg #[.pointer none, .pointer (some ⟨w.heap.size + 1, 0, none⟩)]) (.int .i64 (i : Int))).run Try.prog W = .ok v W) ∧ NoC w1 v := by
    intro i hi
    rcases i with _ | _ | i
    · exact ⟨_, fun W => by kernel_rfl, HN.out⟩
    · exact ⟨_, fun W => by kernel_rfl, HZ.out⟩
    · omega
  have IX := hid ix
  clear ix HN HZ
  go_enter Try.func7, Try.ntmps7
  go_wp2
  rw [← HW1.out]
  go_loopw [13] (fun c W => ∃ i : Nat, i ≤ 2 ∧ c = .int .i64 (i : Int) ∧ Hid (Below w1.heap.size w1 W)) (fun c _ => 2 - (intOf c).toNat)
  case atStart => exact ⟨0, by omega, rfl, hid (Below.refl _ _)⟩
  case round =>
    obtain ⟨i, hi, rfl, hbw⟩ := hrel
    by_cases hi2 : i < 2
    · obtain ⟨v, ixv, hnv⟩ := IX.out i hi2
      have hi2' : (i : Int) < 2 := by omega
      have hnw := hnv.later hbw.out
      have HNW := hid hnw
      have a1 := keep_old hbw.out HA.out
      clear hnv hnw
      go_wp2_with (first
        | (go_at_call 23; refine (get_no _ _ _ HNW.out).mono ?_; rintro e wx ⟨rfl, hwx⟩; obtain rfl := hwx.symm)
        | (go_at_call 18; refine (peek_no _ _ _ HNW.out).mono ?_; rintro e wx ⟨rfl, hwx⟩; obtain rfl := hwx.symm)
        | (go_at_call 24; refine (hits_no _ _ HNW.out).mono ?_; rintro e wx ⟨rfl, hwx⟩; obtain rfl := hwx.symm))
      have HS0 : NS w1 w.heap.size v p wr := ⟨a1, HNW.out, hbw.out⟩
      have HS : NS w1 w.heap.size v p wr.drew := HS0.keep ((Below.refl _ _).drew)
      clear HS0 a1 HNW ixv
      refine wp_region_K (S := NS w1 w.heap.size v p) (fun _ => false) (by kernel_rfl) HS (fun hHeld => ?_)
      clear HS
      refine wpAnyK_pure (i := 0) (v := ?_) (op_atN _ 0 _ rfl) (by kernel_rfl) (by kernel_rfl) (by kernel_rfl) (by kernel_rfl) (fun _ _ _ h => h) (Or.inl ⟨by rfl, ?_⟩) (Or.inl (by assumption)) ?_
      rotate_left 1
      focus (intro W hSw; go_simp; first | done | with_reducible rfl)
      (try simp only [Act.put, List.setIfInBounds_toArray, List.set_cons_zero, List.set_cons_succ])
      refine wpAnyK_pure (i := 1) (v := ?_) (op_atN _ 1 _ rfl) (by kernel_rfl) (by kernel_rfl) (by kernel_rfl) (by kernel_rfl) (fun _ _ _ h => h) (Or.inl ⟨by rfl, ?_⟩) (Or.inl (by assumption)) ?_
      rotate_left 1
      focus (intro W hSw; go_simp; first | done | with_reducible rfl)
      (try simp only [Act.put, List.setIfInBounds_toArray, List.set_cons_zero, List.set_cons_succ])
      refine wpAnyK_take (i := 2) (v := ?_) (op_atN _ 2 _ rfl) (by kernel_rfl) (by kernel_rfl) (by kernel_rfl) (by kernel_rfl) (fun _ _ _ h => h) (Or.inl ⟨by rfl, ?_⟩) (by assumption) ?_
      rotate_left 1
      focus (intro W hSw; obtain ⟨hw1, _⟩ := hSw; go_simp; first | done | with_reducible rfl)
      (try simp only [Act.put, List.setIfInBounds_toArray, List.set_cons_zero, List.set_cons_succ])
      refine wpAnyK_ready (rs := [3]) (by kernel_rfl) (by simp) ?_
      refine AllReadyK.cons (op_atN _ 3 _ rfl) (fun K hK => ?_) AllReadyK.nil
      go_simp
      refine (page_any 1 _).mono ?_; rintro e wx ⟨_, rfl, _, hbx, _⟩; have hR := NS.keep hHeld hbx; clear hbx
      refine hK.out _ _ hR (fun hHeld => ?_)
      clear hK K
      (try simp only [Act.put, List.setIfInBounds_toArray, List.set_cons_zero, List.set_cons_succ])
      refine wpAnyK_ready (rs := [4]) (by kernel_rfl) (by simp) ?_
      refine AllReadyK.cons (op_atN _ 4 _ rfl) (fun K hK => ?_) AllReadyK.nil
      go_simp
      refine (put_no _ _ _ _ _ _ (NS.no hHeld)).mono ?_; rintro e wx ⟨rfl, hwx⟩; obtain rfl := hwx.symm; have hR := hHeld
      refine hK.out _ _ hR (fun hHeld => ?_)
      clear hK K
      (try simp only [Act.put, List.setIfInBounds_toArray, List.set_cons_zero, List.set_cons_succ])
      refine wpAnyK_pure (i := 5) (v := ?_) (op_atN _ 5 _ rfl) (by kernel_rfl) (by kernel_rfl) (by kernel_rfl) (by kernel_rfl) (fun _ _ _ h => h) (Or.inl ⟨by rfl, ?_⟩) (Or.inl (by assumption)) ?_
      rotate_left 1
      focus (intro W hSw; go_simp; first | done | with_reducible rfl)
      (try simp only [Act.put, List.setIfInBounds_toArray, List.set_cons_zero, List.set_cons_succ])
      refine wpAnyK_pure (i := 6) (v := ?_) (op_atN _ 6 _ rfl) (by kernel_rfl) (by kernel_rfl) (by kernel_rfl) (by kernel_rfl) (fun _ _ _ h => h) (Or.inl ⟨by rfl, ?_⟩) (Or.inl (by assumption)) ?_
      rotate_left 1
      focus (intro W hSw; go_simp; first | done | with_reducible rfl)
      (try simp only [Act.put, List.setIfInBounds_toArray, List.set_cons_zero, List.set_cons_succ])
      refine wpAnyK_pure (i := 7) (v := ?_) (op_atN _ 7 _ rfl) (by kernel_rfl) (by kernel_rfl) (by kernel_rfl) (by kernel_rfl) (fun _ _ _ h => h) (Or.inl ⟨by rfl, ?_⟩) (Or.inl (by assumption)) ?_
      rotate_left 1
      focus (intro W hSw; go_simp; first | done | with_reducible rfl)
      (try simp only [Act.put, List.setIfInBounds_toArray, List.set_cons_zero, List.set_cons_succ])
      refine wpAnyK_pure (i := 8) (v := ?_) (op_atN _ 8 _ rfl) (by kernel_rfl) (by kernel_rfl) (by kernel_rfl) (by kernel_rfl) (fun _ _ _ h => h) (Or.inl ⟨by rfl, ?_⟩) (Or.inl (by assumption)) ?_
      rotate_left 1
      focus (intro W hSw; go_simp; first | done | with_reducible rfl)
      (try simp only [Act.put, List.setIfInBounds_toArray, List.set_cons_zero, List.set_cons_succ])
      refine wpAnyK_take (i := 9) (v := ?_) (op_atN _ 9 _ rfl) (by kernel_rfl) (by kernel_rfl) (by kernel_rfl) (by kernel_rfl) (fun _ _ _ h => h) (Or.inl ⟨by rfl, ?_⟩) (by assumption) ?_
      rotate_left 1
      focus (intro W hSw; obtain ⟨hw1, _⟩ := hSw; go_simp; first | done | with_reducible rfl)
      (try simp only [Act.put, List.setIfInBounds_toArray, List.set_cons_zero, List.set_cons_succ])
      refine wpAnyK_ready (rs := [10]) (by kernel_rfl) (by simp) ?_
      refine AllReadyK.cons (op_atN _ 10 _ rfl) (fun K hK => ?_) AllReadyK.nil
      go_simp
      refine (pin_no _ _ _ (NS.no hHeld)).mono ?_; rintro e wx ⟨rfl, hwx⟩; obtain rfl := hwx.symm; have hR := hHeld
      refine hK.out _ _ hR (fun hHeld => ?_)
      clear hK K
      (try simp only [Act.put, List.setIfInBounds_toArray, List.set_cons_zero, List.set_cons_succ])
      refine wpAnyK_pure (i := 11) (v := ?_) (op_atN _ 11 _ rfl) (by kernel_rfl) (by kernel_rfl) (by kernel_rfl) (by kernel_rfl) (fun _ _ _ h => h) (Or.inl ⟨by rfl, ?_⟩) (Or.inl (by assumption)) ?_
      rotate_left 1
      focus (intro W hSw; go_simp; first | done | with_reducible rfl)
      (try simp only [Act.put, List.setIfInBounds_toArray, List.set_cons_zero, List.set_cons_succ])
      refine wpAnyK_pure (i := 12) (v := ?_) (op_atN _ 12 _ rfl) (by kernel_rfl) (by kernel_rfl) (by kernel_rfl) (by kernel_rfl) (fun _ _ _ h => h) (Or.inl ⟨by rfl, ?_⟩) (Or.inl (by assumption)) ?_
      rotate_left 1
      focus (intro W hSw; go_simp; first | done | with_reducible rfl)
      (try simp only [Act.put, List.setIfInBounds_toArray, List.set_cons_zero, List.set_cons_succ])
      refine wpAnyK_pure (i := 13) (v := ?_) (op_atN _ 13 _ rfl) (by kernel_rfl) (by kernel_rfl) (by kernel_rfl) (by kernel_rfl) (fun _ _ _ h => h) (Or.inl ⟨by rfl, ?_⟩) (Or.inl (by assumption)) ?_
      rotate_left 1
      focus (intro W hSw; go_simp; first | done | with_reducible rfl)
      (try simp only [Act.put, List.setIfInBounds_toArray, List.set_cons_zero, List.set_cons_succ])
      refine wpAnyK_pure (i := 14) (v := ?_) (op_atN _ 14 _ rfl) (by kernel_rfl) (by kernel_rfl) (by kernel_rfl) (by kernel_rfl) (fun _ _ _ h => h) (Or.inl ⟨by rfl, ?_⟩) (Or.inl (by assumption)) ?_
      rotate_left 1
      focus (intro W hSw; go_simp; first | done | with_reducible rfl)
      (try simp only [Act.put, List.setIfInBounds_toArray, List.set_cons_zero, List.set_cons_succ])
      refine wpAnyK_pure (i := 15) (v := ?_) (op_atN _ 15 _ rfl) (by kernel_rfl) (by kernel_rfl) (by kernel_rfl) (by kernel_rfl) (fun _ _ _ h => h) (Or.inl ⟨by rfl, ?_⟩) (Or.inl (by assumption)) ?_
      rotate_left 1
      focus (intro W hSw; go_simp; first | done | with_reducible rfl)
      (try simp only [Act.put, List.setIfInBounds_toArray, List.set_cons_zero, List.set_cons_succ])
      refine wpAnyK_take (i := 16) (v := ?_) (op_atN _ 16 _ rfl) (by kernel_rfl) (by kernel_rfl) (by kernel_rfl) (by kernel_rfl) (fun _ _ _ h => h) (Or.inl ⟨by rfl, ?_⟩) (by assumption) ?_
      rotate_left 1
      focus (intro W hSw; obtain ⟨hw1, _⟩ := hSw; go_simp; first | done | with_reducible rfl)
      (try simp only [Act.put, List.setIfInBounds_toArray, List.set_cons_zero, List.set_cons_succ])
      refine wpAnyK_ready (rs := [17]) (by kernel_rfl) (by simp) ?_
      refine AllReadyK.cons (op_atN _ 17 _ rfl) (fun K hK => ?_) AllReadyK.nil
      go_simp
      refine (free_no _ _ _ (NS.no hHeld)).mono ?_; rintro e wx ⟨rfl, hwx⟩; obtain rfl := hwx.symm; have hR := hHeld
      refine hK.out _ _ hR (fun hHeld => ?_)
      clear hK K
      (try simp only [Act.put, List.setIfInBounds_toArray, List.set_cons_zero, List.set_cons_succ])
      refine wpAnyK_pure (i := 18) (v := ?_) (op_atN _ 18 _ rfl) (by kernel_rfl) (by kernel_rfl) (by kernel_rfl) (by kernel_rfl) (fun _ _ _ h => h) (Or.inl ⟨by rfl, ?_⟩) (Or.inl (by assumption)) ?_
      rotate_left 1
      focus (intro W hSw; go_simp; first | done | with_reducible rfl)
      (try simp only [Act.put, List.setIfInBounds_toArray, List.set_cons_zero, List.set_cons_succ])
      refine wpAnyK_pure (i := 19) (v := ?_) (op_atN _ 19 _ rfl) (by kernel_rfl) (by kernel_rfl) (by kernel_rfl) (by kernel_rfl) (fun _ _ _ h => h) (Or.inl ⟨by rfl, ?_⟩) (Or.inl (by assumption)) ?_
      rotate_left 1
      focus (intro W hSw; go_simp; first | done | with_reducible rfl)
      (try simp only [Act.put, List.setIfInBounds_toArray, List.set_cons_zero, List.set_cons_succ])
      refine wpAnyK_pure (i := 20) (v := ?_) (op_atN _ 20 _ rfl) (by kernel_rfl) (by kernel_rfl) (by kernel_rfl) (by kernel_rfl) (fun _ _ _ h => h) (Or.inl ⟨by rfl, ?_⟩) (Or.inl (by assumption)) ?_
      rotate_left 1
      focus (intro W hSw; go_simp; first | done | with_reducible rfl)
      (try simp only [Act.put, List.setIfInBounds_toArray, List.set_cons_zero, List.set_cons_succ])
      refine wpAnyK_pure (i := 21) (v := ?_) (op_atN _ 21 _ rfl) (by kernel_rfl) (by kernel_rfl) (by kernel_rfl) (by kernel_rfl) (fun _ _ _ h => h) (Or.inl ⟨by rfl, ?_⟩) (Or.inl (by assumption)) ?_
      rotate_left 1
      focus (intro W hSw; go_simp; first | done | with_reducible rfl)
      (try simp only [Act.put, List.setIfInBounds_toArray, List.set_cons_zero, List.set_cons_succ])
      refine wpAnyK_pure (i := 22) (v := ?_) (op_atN _ 22 _ rfl) (by kernel_rfl) (by kernel_rfl) (by kernel_rfl) (by kernel_rfl) (fun _ _ _ h => h) (Or.inl ⟨by rfl, ?_⟩) (Or.inl (by assumption)) ?_
      rotate_left 1
      focus (intro W hSw; go_simp; first | done | with_reducible rfl)
      (try simp only [Act.put, List.setIfInBounds_toArray, List.set_cons_zero, List.set_cons_succ])
      refine wpAnyK_take (i := 23) (v := ?_) (op_atN _ 23 _ rfl) (by kernel_rfl) (by kernel_rfl) (by kernel_rfl) (by kernel_rfl) (fun _ _ _ h => h) (Or.inl ⟨by rfl, ?_⟩) (by assumption) ?_
      rotate_left 1
      focus (intro W hSw; obtain ⟨hw1, _⟩ := hSw; go_simp; first | done | with_reducible rfl)
      (try simp only [Act.put, List.setIfInBounds_toArray, List.set_cons_zero, List.set_cons_succ])
      refine wpAnyK_ready (rs := [24]) (by kernel_rfl) (by simp) ?_
      refine AllReadyK.cons (op_atN _ 24 _ rfl) (fun K hK => ?_) AllReadyK.nil
      go_simp
      refine (mark_no _ _ _ _ (NS.no hHeld)).mono ?_; rintro e wx ⟨rfl, hwx⟩; obtain rfl := hwx.symm; have hR := hHeld
      refine hK.out _ _ hR (fun hHeld => ?_)
      clear hK K
      (try simp only [Act.put, List.setIfInBounds_toArray, List.set_cons_zero, List.set_cons_succ])
      refine wpAnyK_pure (i := 25) (v := ?_) (op_atN _ 25 _ rfl) (by kernel_rfl) (by kernel_rfl) (by kernel_rfl) (by kernel_rfl) (fun _ _ _ h => h) (Or.inl ⟨by rfl, ?_⟩) (Or.inl (by assumption)) ?_
      rotate_left 1
      focus (intro W hSw; go_simp; first | done | with_reducible rfl)
      (try simp only [Act.put, List.setIfInBounds_toArray, List.set_cons_zero, List.set_cons_succ])
      refine wpAnyK_pure (i := 26) (v := ?_) (op_atN _ 26 _ rfl) (by kernel_rfl) (by kernel_rfl) (by kernel_rfl) (by kernel_rfl) (fun _ _ _ h => h) (Or.inl ⟨by rfl, ?_⟩) (Or.inl (by assumption)) ?_
      rotate_left 1
      focus (intro W hSw; go_simp; first | done | with_reducible rfl)
      (try simp only [Act.put, List.setIfInBounds_toArray, List.set_cons_zero, List.set_cons_succ])
      refine wpAnyK_pure (i := 27) (v := ?_) (op_atN _ 27 _ rfl) (by kernel_rfl) (by kernel_rfl) (by kernel_rfl) (by kernel_rfl) (fun _ _ _ h => h) (Or.inl ⟨by rfl, ?_⟩) (Or.inl (by assumption)) ?_
      rotate_left 1
      focus (intro W hSw; go_simp; first | done | with_reducible rfl)
      (try simp only [Act.put, List.setIfInBounds_toArray, List.set_cons_zero, List.set_cons_succ])
      refine wpAnyK_pure (i := 28) (v := ?_) (op_atN _ 28 _ rfl) (by kernel_rfl) (by kernel_rfl) (by kernel_rfl) (by kernel_rfl) (fun _ _ _ h => h) (Or.inl ⟨by rfl, ?_⟩) (Or.inl (by assumption)) ?_
      rotate_left 1
      focus (intro W hSw; go_simp; first | done | with_reducible rfl)
      (try simp only [Act.put, List.setIfInBounds_toArray, List.set_cons_zero, List.set_cons_succ])
      refine wpAnyK_pure (i := 29) (v := ?_) (op_atN _ 29 _ rfl) (by kernel_rfl) (by kernel_rfl) (by kernel_rfl) (by kernel_rfl) (fun _ _ _ h => h) (Or.inl ⟨by rfl, ?_⟩) (Or.inl (by assumption)) ?_
      rotate_left 1
      focus (intro W hSw; go_simp; first | done | with_reducible rfl)
      (try simp only [Act.put, List.setIfInBounds_toArray, List.set_cons_zero, List.set_cons_succ])
      refine wpAnyK_take (i := 30) (v := ?_) (op_atN _ 30 _ rfl) (by kernel_rfl) (by kernel_rfl) (by kernel_rfl) (by kernel_rfl) (fun _ _ _ h => h) (Or.inl ⟨by rfl, ?_⟩) (by assumption) ?_
      rotate_left 1
      focus (intro W hSw; obtain ⟨hw1, _⟩ := hSw; go_simp; first | done | with_reducible rfl)
      (try simp only [Act.put, List.setIfInBounds_toArray, List.set_cons_zero, List.set_cons_succ])
      refine wpAnyK_ready (rs := [31]) (by kernel_rfl) (by simp) ?_
      refine AllReadyK.cons (op_atN _ 31 _ rfl) (fun K hK => ?_) AllReadyK.nil
      go_simp
      refine (drop_no _ _ _ (NS.no hHeld)).mono ?_; rintro e wx ⟨rfl, hwx⟩; obtain rfl := hwx.symm; have hR := hHeld
      refine hK.out _ _ hR (fun hHeld => ?_)
      clear hK K
      (try simp only [Act.put, List.setIfInBounds_toArray, List.set_cons_zero, List.set_cons_succ])
      refine wpAnyK_pure (i := 32) (v := ?_) (op_atN _ 32 _ rfl) (by kernel_rfl) (by kernel_rfl) (by kernel_rfl) (by kernel_rfl) (fun _ _ _ h => h) (Or.inl ⟨by rfl, ?_⟩) (Or.inl (by assumption)) ?_
      rotate_left 1
      focus (intro W hSw; go_simp; first | done | with_reducible rfl)
      (try simp only [Act.put, List.setIfInBounds_toArray, List.set_cons_zero, List.set_cons_succ])
      refine wpAnyK_pure (i := 33) (v := ?_) (op_atN _ 33 _ rfl) (by kernel_rfl) (by kernel_rfl) (by kernel_rfl) (by kernel_rfl) (fun _ _ _ h => h) (Or.inl ⟨by rfl, ?_⟩) (Or.inl (by assumption)) ?_
      rotate_left 1
      focus (intro W hSw; go_simp; first | done | with_reducible rfl)
      (try simp only [Act.put, List.setIfInBounds_toArray, List.set_cons_zero, List.set_cons_succ])
      refine wpAnyK_pure (i := 34) (v := ?_) (op_atN _ 34 _ rfl) (by kernel_rfl) (by kernel_rfl) (by kernel_rfl) (by kernel_rfl) (fun _ _ _ h => h) (Or.inl ⟨by rfl, ?_⟩) (Or.inl (by assumption)) ?_
      rotate_left 1
      focus (intro W hSw; go_simp; first | done | with_reducible rfl)
      (try simp only [Act.put, List.setIfInBounds_toArray, List.set_cons_zero, List.set_cons_succ])
      refine wpAnyK_pure (i := 35) (v := ?_) (op_atN _ 35 _ rfl) (by kernel_rfl) (by kernel_rfl) (by kernel_rfl) (by kernel_rfl) (fun _ _ _ h => h) (Or.inl ⟨by rfl, ?_⟩) (Or.inl (by assumption)) ?_
      rotate_left 1
      focus (intro W hSw; go_simp; first | done | with_reducible rfl)
      (try simp only [Act.put, List.setIfInBounds_toArray, List.set_cons_zero, List.set_cons_succ])
      refine wpAnyK_pure (i := 36) (v := ?_) (op_atN _ 36 _ rfl) (by kernel_rfl) (by kernel_rfl) (by kernel_rfl) (by kernel_rfl) (fun _ _ _ h => h) (Or.inl ⟨by rfl, ?_⟩) (Or.inl (by assumption)) ?_
      rotate_left 1
      focus (intro W hSw; go_simp; first | done | with_reducible rfl)
      (try simp only [Act.put, List.setIfInBounds_toArray, List.set_cons_zero, List.set_cons_succ])
      refine wpAnyK_pure (i := 37) (v := ?_) (op_atN _ 37 _ rfl) (by kernel_rfl) (by kernel_rfl) (by kernel_rfl) (by kernel_rfl) (fun _ _ _ h => h) (Or.inl ⟨by rfl, ?_⟩) (Or.inl (by assumption)) ?_
      rotate_left 1
      focus (intro W hSw; go_simp; first | done | with_reducible rfl)
      (try simp only [Act.put, List.setIfInBounds_toArray, List.set_cons_zero, List.set_cons_succ])
      refine wpAnyK_pure (i := 38) (v := ?_) (op_atN _ 38 _ rfl) (by kernel_rfl) (by kernel_rfl) (by kernel_rfl) (by kernel_rfl) (fun _ _ _ h => h) (Or.inl ⟨by rfl, ?_⟩) (Or.inl (by assumption)) ?_
      rotate_left 1
      focus (intro W hSw; go_simp; first | done | with_reducible rfl)
      (try simp only [Act.put, List.setIfInBounds_toArray, List.set_cons_zero, List.set_cons_succ])
      refine wpAnyK_pure (i := 39) (v := ?_) (op_atN _ 39 _ rfl) (by kernel_rfl) (by kernel_rfl) (by kernel_rfl) (by kernel_rfl) (fun _ _ _ h => h) (Or.inl ⟨by rfl, ?_⟩) (Or.inl (by assumption)) ?_
      rotate_left 1
      focus (intro W hSw; go_simp; first | done | with_reducible rfl)
      (try simp only [Act.put, List.setIfInBounds_toArray, List.set_cons_zero, List.set_cons_succ])
      refine wpAnyK_pure (i := 40) (v := ?_) (op_atN _ 40 _ rfl) (by kernel_rfl) (by kernel_rfl) (by kernel_rfl) (by kernel_rfl) (fun _ _ _ h => h) (Or.inl ⟨by rfl, ?_⟩) (Or.inl (by assumption)) ?_
      rotate_left 1
      focus (intro W hSw; go_simp; first | done | with_reducible rfl)
      (try simp only [Act.put, List.setIfInBounds_toArray, List.set_cons_zero, List.set_cons_succ])
      refine wpAnyK_pure (i := 41) (v := ?_) (op_atN _ 41 _ rfl) (by kernel_rfl) (by kernel_rfl) (by kernel_rfl) (by kernel_rfl) (fun _ _ _ h => h) (Or.inl ⟨by rfl, ?_⟩) (Or.inl (by assumption)) ?_
      rotate_left 1
      focus (intro W hSw; go_simp; first | done | with_reducible rfl)
      (try simp only [Act.put, List.setIfInBounds_toArray, List.set_cons_zero, List.set_cons_succ])
      refine wpAnyK_pure (i := 42) (v := ?_) (op_atN _ 42 _ rfl) (by kernel_rfl) (by kernel_rfl) (by kernel_rfl) (by kernel_rfl) (fun _ _ _ h => h) (Or.inl ⟨by rfl, ?_⟩) (Or.inl (by assumption)) ?_
      rotate_left 1
      focus (intro W hSw; go_simp; first | done | with_reducible rfl)
      (try simp only [Act.put, List.setIfInBounds_toArray, List.set_cons_zero, List.set_cons_succ])
      refine wpAnyK_pure (i := 43) (v := ?_) (op_atN _ 43 _ rfl) (by kernel_rfl) (by kernel_rfl) (by kernel_rfl) (by kernel_rfl) (fun _ _ _ h => h) (Or.inl ⟨by rfl, ?_⟩) (Or.inl (by assumption)) ?_
      rotate_left 1
      focus (intro W hSw; go_simp; first | done | with_reducible rfl)
      (try simp only [Act.put, List.setIfInBounds_toArray, List.set_cons_zero, List.set_cons_succ])
      refine wpAnyK_pure (i := 44) (v := ?_) (op_atN _ 44 _ rfl) (by kernel_rfl) (by kernel_rfl) (by kernel_rfl) (by kernel_rfl) (fun _ _ _ h => h) (Or.inl ⟨by rfl, ?_⟩) (Or.inl (by assumption)) ?_
      rotate_left 1
      focus (intro W hSw; go_simp; first | done | with_reducible rfl)
      (try simp only [Act.put, List.setIfInBounds_toArray, List.set_cons_zero, List.set_cons_succ])
      refine wpAnyK_pure (i := 47) (v := ?_) (op_atN _ 47 _ rfl) (by kernel_rfl) (by kernel_rfl) (by kernel_rfl) (by kernel_rfl) (fun _ _ _ h => h) (Or.inl ⟨by rfl, ?_⟩) (Or.inl (by assumption)) ?_
      rotate_left 1
      focus (intro W hSw; go_simp; first | done | with_reducible rfl)
      (try simp only [Act.put, List.setIfInBounds_toArray, List.set_cons_zero, List.set_cons_succ])
      refine wpAnyK_pure (i := 50) (v := ?_) (op_atN _ 50 _ rfl) (by kernel_rfl) (by kernel_rfl) (by kernel_rfl) (by kernel_rfl) (fun _ _ _ h => h) (Or.inl ⟨by rfl, ?_⟩) (Or.inl (by assumption)) ?_
      rotate_left 1
      focus (intro W hSw; go_simp; first | done | with_reducible rfl)
      (try simp only [Act.put, List.setIfInBounds_toArray, List.set_cons_zero, List.set_cons_succ])
      refine wpAnyK_pure (i := 51) (v := ?_) (op_atN _ 51 _ rfl) (by kernel_rfl) (by kernel_rfl) (by kernel_rfl) (by kernel_rfl) (fun _ _ _ h => h) (Or.inl ⟨by rfl, ?_⟩) (Or.inl (by assumption)) ?_
      rotate_left 1
      focus (intro W hSw; go_simp; first | done | with_reducible rfl)
      (try simp only [Act.put, List.setIfInBounds_toArray, List.set_cons_zero, List.set_cons_succ])
      refine wpAnyK_take (i := 52) (v := ?_) (op_atN _ 52 _ rfl) (by kernel_rfl) (by kernel_rfl) (by kernel_rfl) (by kernel_rfl) (fun _ _ _ h => h) (Or.inl ⟨by rfl, ?_⟩) (by assumption) ?_
      rotate_left 1
      focus (intro W hSw; obtain ⟨hw1, _⟩ := hSw; go_simp; first | done | with_reducible rfl)
      (try simp only [Act.put, List.setIfInBounds_toArray, List.set_cons_zero, List.set_cons_succ])
      refine wpAnyK_pure (i := 55) (v := ?_) (op_atN _ 55 _ rfl) (by kernel_rfl) (by kernel_rfl) (by kernel_rfl) (by kernel_rfl) (fun _ _ _ h => h) (Or.inl ⟨by rfl, ?_⟩) (Or.inl (by assumption)) ?_
      rotate_left 1
      focus (intro W hSw; go_simp; first | done | with_reducible rfl)
      (try simp only [Act.put, List.setIfInBounds_toArray, List.set_cons_zero, List.set_cons_succ])
      refine wpAnyK_pure (i := 59) (v := ?_) (op_atN _ 59 _ rfl) (by kernel_rfl) (by kernel_rfl) (by kernel_rfl) (by kernel_rfl) (fun _ _ _ h => h) (Or.inl ⟨by rfl, ?_⟩) (Or.inl (by assumption)) ?_
      rotate_left 1
      focus (intro W hSw; go_simp; first | done | with_reducible rfl)
      (try simp only [Act.put, List.setIfInBounds_toArray, List.set_cons_zero, List.set_cons_succ])
      refine wpAnyK_ready (rs := [45]) (by kernel_rfl) (by simp) ?_
      refine AllReadyK.cons (op_atN _ 45 _ rfl) (fun K hK => ?_) AllReadyK.nil
      go_simp
      refine (clear_no _ _ (NS.no hHeld)).mono ?_; rintro e wx ⟨rfl, hbx⟩; have hR := NS.keep hHeld hbx; clear hbx
      refine hK.out _ _ hR (fun hHeld => ?_)
      clear hK K
      (try simp only [Act.put, List.setIfInBounds_toArray, List.set_cons_zero, List.set_cons_succ])
      refine wpAnyK_pure (i := 46) (v := ?_) (op_atN _ 46 _ rfl) (by kernel_rfl) (by kernel_rfl) (by kernel_rfl) (by kernel_rfl) (fun _ _ _ h => h) (Or.inl ⟨by rfl, ?_⟩) (Or.inl (by assumption)) ?_
      rotate_left 1
      focus (intro W hSw; go_simp; first | done | with_reducible rfl)
      (try simp only [Act.put, List.setIfInBounds_toArray, List.set_cons_zero, List.set_cons_succ])
      refine wpAnyK_ready (rs := [48]) (by kernel_rfl) (by simp) ?_
      refine AllReadyK.cons (op_atN _ 48 _ rfl) (fun K hK => ?_) AllReadyK.nil
      go_simp
      refine (len_no _ _ (NS.no hHeld)).mono ?_; rintro e wx ⟨rfl, hwx⟩; obtain rfl := hwx.symm; have hR := hHeld
      refine hK.out _ _ hR (fun hHeld => ?_)
      clear hK K
      (try simp only [Act.put, List.setIfInBounds_toArray, List.set_cons_zero, List.set_cons_succ])
      refine wpAnyK_pure (i := 49) (v := ?_) (op_atN _ 49 _ rfl) (by kernel_rfl) (by kernel_rfl) (by kernel_rfl) (by kernel_rfl) (fun _ _ _ h => h) (Or.inl ⟨by rfl, ?_⟩) (Or.inl (by assumption)) ?_
      rotate_left 1
      focus (intro W hSw; go_simp; first | done | with_reducible rfl)
      (try simp only [Act.put, List.setIfInBounds_toArray, List.set_cons_zero, List.set_cons_succ])
      refine wpAnyK_ready (rs := [53]) (by kernel_rfl) (by simp) ?_
      refine AllReadyK.cons (op_atN _ 53 _ rfl) (fun K hK => ?_) AllReadyK.nil
      go_simp
      refine (pins_no _ _ _ (NS.no hHeld)).mono ?_; rintro e wx ⟨rfl, hwx⟩; obtain rfl := hwx.symm; have hR := hHeld
      refine hK.out _ _ hR (fun hHeld => ?_)
      clear hK K
      (try simp only [Act.put, List.setIfInBounds_toArray, List.set_cons_zero, List.set_cons_succ])
      refine wpAnyK_pure (i := 54) (v := ?_) (op_atN _ 54 _ rfl) (by kernel_rfl) (by kernel_rfl) (by kernel_rfl) (by kernel_rfl) (fun _ _ _ h => h) (Or.inl ⟨by rfl, ?_⟩) (Or.inl (by assumption)) ?_
      rotate_left 1
      focus (intro W hSw; go_simp; first | done | with_reducible rfl)
      (try simp only [Act.put, List.setIfInBounds_toArray, List.set_cons_zero, List.set_cons_succ])
      refine wpAnyK_ready (rs := [56]) (by kernel_rfl) (by simp) ?_
      refine AllReadyK.cons (op_atN _ 56 _ rfl) (fun K hK => ?_) AllReadyK.nil
      go_simp
      refine (dirty_no _ _ (NS.no hHeld)).mono ?_; rintro e wx ⟨rfl, hbx⟩; have hR := NS.keep hHeld hbx; clear hbx
      refine hK.out _ _ hR (fun hHeld => ?_)
      clear hK K
      (try simp only [Act.put, List.setIfInBounds_toArray, List.set_cons_zero, List.set_cons_succ])
      refine wpAnyK_pure (i := 57) (v := ?_) (op_atN _ 57 _ rfl) (by kernel_rfl) (by kernel_rfl) (by kernel_rfl) (by kernel_rfl) (fun _ _ _ h => h) (Or.inl ⟨by rfl, ?_⟩) (Or.inl (by assumption)) ?_
      rotate_left 1
      focus (intro W hSw; go_simp; first | done | with_reducible rfl)
      (try simp only [Act.put, List.setIfInBounds_toArray, List.set_cons_zero, List.set_cons_succ])
      refine wpAnyK_pure (i := 58) (v := ?_) (op_atN _ 58 _ rfl) (by kernel_rfl) (by kernel_rfl) (by kernel_rfl) (by kernel_rfl) (fun _ _ _ h => h) (Or.inl ⟨by rfl, ?_⟩) (Or.inl (by assumption)) ?_
      rotate_left 1
      focus (intro W hSw; go_simp; first | done | with_reducible rfl)
      (try simp only [Act.put, List.setIfInBounds_toArray, List.set_cons_zero, List.set_cons_succ])
      refine wpAnyK_ready (rs := [60]) (by kernel_rfl) (by simp) ?_
      refine AllReadyK.cons (op_atN _ 60 _ rfl) (fun K hK => ?_) AllReadyK.nil
      go_simp
      refine (order_no _ _ (NS.no hHeld)).mono ?_; rintro e wx ⟨rfl, hbx⟩; have hR := NS.keep hHeld hbx; clear hbx
      refine hK.out _ _ hR (fun hHeld => ?_)
      clear hK K
      (try simp only [Act.put, List.setIfInBounds_toArray, List.set_cons_zero, List.set_cons_succ])
      refine wpAnyK_pure (i := 61) (v := ?_) (op_atN _ 61 _ rfl) (by kernel_rfl) (by kernel_rfl) (by kernel_rfl) (by kernel_rfl) (fun _ _ _ h => h) (Or.inl ⟨by rfl, ?_⟩) (Or.inl (by assumption)) ?_
      rotate_left 1
      focus (intro W hSw; go_simp; first | done | with_reducible rfl)
      (try simp only [Act.put, List.setIfInBounds_toArray, List.set_cons_zero, List.set_cons_succ])
      refine wpAnyK_pure (i := 62) (v := ?_) (op_atN _ 62 _ rfl) (by kernel_rfl) (by kernel_rfl) (by kernel_rfl) (by kernel_rfl) (fun _ _ _ h => h) (Or.inl ⟨by rfl, ?_⟩) (Or.inl (by assumption)) ?_
      rotate_left 1
      focus (intro W hSw; go_simp; first | done | with_reducible rfl)
      (try simp only [Act.put, List.setIfInBounds_toArray, List.set_cons_zero, List.set_cons_succ])
      refine wpAnyK_pure (i := 63) (v := ?_) (op_atN _ 63 _ rfl) (by kernel_rfl) (by kernel_rfl) (by kernel_rfl) (by kernel_rfl) (fun _ _ _ h => h) (Or.inl ⟨by rfl, ?_⟩) (Or.inl (by assumption)) ?_
      rotate_left 1
      focus (intro W hSw; go_simp; first | done | with_reducible rfl)
      (try simp only [Act.put, List.setIfInBounds_toArray, List.set_cons_zero, List.set_cons_succ])
      refine wpAnyK_pure (i := 64) (v := ?_) (op_atN _ 64 _ rfl) (by kernel_rfl) (by kernel_rfl) (by kernel_rfl) (by kernel_rfl) (fun _ _ _ h => h) (Or.inl ⟨by rfl, ?_⟩) (Or.inl (by assumption)) ?_
      rotate_left 1
      focus (intro W hSw; go_simp; first | done | with_reducible rfl)
      (try simp only [Act.put, List.setIfInBounds_toArray, List.set_cons_zero, List.set_cons_succ])
      refine wpAnyK_pure (i := 65) (v := ?_) (op_atN _ 65 _ rfl) (by kernel_rfl) (by kernel_rfl) (by kernel_rfl) (by kernel_rfl) (fun _ _ _ h => h) (Or.inl ⟨by rfl, ?_⟩) (Or.inl (by assumption)) ?_
      rotate_left 1
      focus (intro W hSw; go_simp; first | done | with_reducible rfl)
      (try simp only [Act.put, List.setIfInBounds_toArray, List.set_cons_zero, List.set_cons_succ])
      refine wpAnyK_pure (i := 66) (v := ?_) (op_atN _ 66 _ rfl) (by kernel_rfl) (by kernel_rfl) (by kernel_rfl) (by kernel_rfl) (fun _ _ _ h => h) (Or.inl ⟨by rfl, ?_⟩) (Or.inl (by assumption)) ?_
      rotate_left 1
      focus (intro W hSw; go_simp; first | done | with_reducible rfl)
      (try simp only [Act.put, List.setIfInBounds_toArray, List.set_cons_zero, List.set_cons_succ])
      refine wpAnyK_ready (rs := [67]) (by kernel_rfl) (by simp) ?_
      refine AllReadyK.cons (op_atN _ 67 _ rfl) (fun K hK => ?_) AllReadyK.nil
      go_simp
      refine (copy_no _ _ (NS.no hHeld)).mono ?_; rintro e wx ⟨rfl, hwx⟩; obtain rfl := hwx.symm; have hR := hHeld
      refine hK.out _ _ hR (fun hHeld => ?_)
      clear hK K
      (try simp only [Act.put, List.setIfInBounds_toArray, List.set_cons_zero, List.set_cons_succ])
      refine wpAnyK_pure (i := 68) (v := ?_) (op_atN _ 68 _ rfl) (by kernel_rfl) (by kernel_rfl) (by kernel_rfl) (by kernel_rfl) (fun _ _ _ h => h) (Or.inl ⟨by rfl, ?_⟩) (Or.inl (by assumption)) ?_
      rotate_left 1
      focus (intro W hSw; go_simp; first | done | with_reducible rfl)
      (try simp only [Act.put, List.setIfInBounds_toArray, List.set_cons_zero, List.set_cons_succ])
      refine wpAnyK_pure (i := 69) (v := ?_) (op_atN _ 69 _ rfl) (by kernel_rfl) (by kernel_rfl) (by kernel_rfl) (by kernel_rfl) (fun _ _ _ h => h) (Or.inl ⟨by rfl, ?_⟩) (Or.inl (by assumption)) ?_
      rotate_left 1
      focus (intro W hSw; go_simp; first | done | with_reducible rfl)
      (try simp only [Act.put, List.setIfInBounds_toArray, List.set_cons_zero, List.set_cons_succ])
      refine wpAnyK_done (by kernel_rfl) ?_ _
      have HBZ := hid (NS.below hHeld)
      clear hHeld
      go_wp2
      exact ⟨⟨i + 1, by omega, by simp, HBZ⟩, by simp [intOf]; omega⟩
    · have hiE : i = 2 := by omega
      subst hiE
      go_wp2_with (go_at_call 8; refine (lives_any _).mono ?_; rintro e wx ⟨rfl, hbx⟩; replace hbx := hid hbx)
      go_ret
      exact ⟨rfl, gt (gt HB.out hbw.out) hbx.out⟩

end Go.Proofs.Ytebjjibgkjgpgaa
