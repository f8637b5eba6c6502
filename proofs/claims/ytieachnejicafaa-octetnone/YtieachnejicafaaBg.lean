/- The law OctetNone: a source that no call made tells zero values; no statement of the seat is proved here. -/
import Derived.Test.YtieachnejicafaaBf
namespace Go.Proofs.Ytieachnejicafaa
open Go.RowKit

/-- A source that no call made: nil, or one whose first cell is false. -/
def Un (w : World) (s : Value) : Prop := s = .pointer none ∨ ∃ p, s = .pointer (some ⟨p, 0, none⟩) ∧ w.cell? ⟨p, 0, none⟩ = some (.bool false)

theorem un_ptr {w : World} {s : Value} (h : Un w s) : ∃ u, s = .pointer u := by
  rcases h with rfl | ⟨p, rfl, _⟩
  · exact ⟨_, rfl⟩
  · exact ⟨_, rfl⟩

set_option maxHeartbeats 400000 in
theorem err_un (s : Value) (w : World) (h : Un w s) : Calls Try.prog 26 #[s] w fun e w' => e = .returned (.int .i64 1) ∧ w = w' := by
  rcases h with rfl | ⟨p, rfl, hc⟩
  · go_enter Try.func26, Try.ntmps26
    go_wp2
    go_ret
    exact ⟨rfl, rfl⟩
  · go_enter Try.func26, Try.ntmps26
    go_wp2
    go_ret
    exact ⟨rfl, rfl⟩

set_option maxHeartbeats 400000 in
theorem num_un (s : Value) (k : Int) (l : Bool) (w : World) (h : Un w s) : Calls Try.prog 19 #[s, .int .i64 k, .bool l] w fun e w' => e = .returned (.int .u64 0) ∧ w = w' := by
  have c := hid (err_un s w h)
  obtain ⟨u, rfl⟩ := un_ptr h
  clear h
  go_enter Try.func19, Try.ntmps19
  go_wp2_with (go_at_call 26; refine c.out.mono ?_; rintro e w1 ⟨rfl, rfl⟩)
  go_ret
  exact ⟨rfl, rfl⟩

set_option maxHeartbeats 400000 in
theorem var_un (s : Value) (k : Int) (w : World) (h : Un w s) : Calls Try.prog 20 #[s, .int .u64 k] w fun e w' => e = .returned (.int .u64 0) ∧ w = w' := by
  have c := hid (err_un s w h)
  obtain ⟨u, rfl⟩ := un_ptr h
  clear h
  go_enter Try.func20, Try.ntmps20
  go_wp2_with (go_at_call 26; refine c.out.mono ?_; rintro e w1 ⟨rfl, rfl⟩)
  go_ret
  exact ⟨rfl, rfl⟩

set_option maxHeartbeats 400000 in
theorem bytes_un (s : Value) (k : Int) (w : World) (h : Un w s) : Calls Try.prog 21 #[s, .int .i64 k] w fun e w' => e = .returned (.slice none 0 0) ∧ w = w' := by
  have c := hid (err_un s w h)
  obtain ⟨u, rfl⟩ := un_ptr h
  clear h
  go_enter Try.func21, Try.ntmps21
  go_wp2_with (go_at_call 26; refine c.out.mono ?_; rintro e w1 ⟨rfl, rfl⟩)
  go_ret
  exact ⟨rfl, rfl⟩

set_option maxHeartbeats 400000 in
theorem end_un (s : Value) (w : World) (h : Un w s) : Calls Try.prog 22 #[s] w fun e w' => e = .returned (.int .i64 1) ∧ w = w' := by
  have c := hid (err_un s w h)
  obtain ⟨u, rfl⟩ := un_ptr h
  clear h
  go_enter Try.func22, Try.ntmps22
  go_wp2_with (go_at_call 26; refine c.out.mono ?_; rintro e w1 ⟨rfl, rfl⟩)
  go_ret
  exact ⟨rfl, rfl⟩

set_option maxHeartbeats 400000 in
theorem left_un (s : Value) (w : World) (h : Un w s) : Calls Try.prog 23 #[s] w fun e w' => e = .returned (.int .i64 0) ∧ w = w' := by
  have c := hid (err_un s w h)
  obtain ⟨u, rfl⟩ := un_ptr h
  clear h
  go_enter Try.func23, Try.ntmps23
  go_wp2_with (go_at_call 26; refine c.out.mono ?_; rintro e w1 ⟨rfl, rfl⟩)
  go_ret
  exact ⟨rfl, rfl⟩

set_option maxHeartbeats 400000 in
theorem int_un (s : Value) (l : Bool) (w : World) (h : Un w s) : Calls Try.prog 24 #[s, .bool l] w fun e w' => e = .returned (.int .i64 0) ∧ w = w' := by
  have c := hid (num_un s 8 l w h)
  obtain ⟨u, rfl⟩ := un_ptr h
  clear h
  go_enter Try.func24, Try.ntmps24
  go_wp2_with (go_at_call 19; refine c.out.mono ?_; rintro e w1 ⟨rfl, rfl⟩)
  go_ret
  exact ⟨rfl, rfl⟩

set_option maxHeartbeats 400000 in
theorem byte_un (s : Value) (w : World) (h : Un w s) : Calls Try.prog 25 #[s] w fun e w' => e = .returned (.int .u8 0) ∧ w = w' := by
  have c := hid (num_un s 1 false w h)
  obtain ⟨u, rfl⟩ := un_ptr h
  clear h
  go_enter Try.func25, Try.ntmps25
  go_wp2_with (go_at_call 19; refine c.out.mono ?_; rintro e w1 ⟨rfl, rfl⟩)
  go_ret
  exact ⟨rfl, rfl⟩

theorem Try.info36 : (Try.prog.info? 36).map (fun i => (i.zero, i.size, i.bytes)) = some (some (.pointer none), 1, 8) := by kernel_rfl

theorem idx0 (a b : Option Addr) (w : World) : (Instr.index 50 (.agg #[.pointer a, .pointer b]) (.int .i64 0)).run Try.prog w = .ok (.pointer a) w := by
  obtain ⟨i, hi, hz0, hz1, hz2⟩ := info_parts Try.info36
  simp [Instr.index, asIntOf, run_underlying (show Try.prog.underlying 50 = some (.array 2 36) by kernel_rfl), sizeOf, typeInfo, hi, hz1, part, go_sem]

theorem idx1 (a b : Option Addr) (w : World) : (Instr.index 50 (.agg #[.pointer a, .pointer b]) (.int .i64 1)).run Try.prog w = .ok (.pointer b) w := by
  obtain ⟨i, hi, hz0, hz1, hz2⟩ := info_parts Try.info36
  simp [Instr.index, asIntOf, run_underlying (show Try.prog.underlying 50 = some (.array 2 36) by kernel_rfl), sizeOf, typeInfo, hi, hz1, part, go_sem]

set_option maxHeartbeats 2000000 in
theorem none_law (k z : Int) (l : Bool) (n : Int) (w : World) : Calls Try.prog 6 #[.agg #[.int .i64 k, .int .i64 z, .bool l, .int .u64 n]] w fun e w' => e = .returned (.bool true) ∧ Below w.heap.size w w' := by
  have lv := hid lives_any
  have i0 := idx0
  have i1 := idx1
  go_enter Try.func6, Try.ntmps6
  go_wp2
  refine wp_loop_rounds 3 ?_
  rw [rounds_succ]
  go_wp2_with (first | (go_at_call 19; refine (num_un _ _ _ _ (by first | exact Or.inl rfl | exact Or.inr ⟨_, rfl, by simp⟩)).mono ?_; rintro e w1 ⟨rfl, rfl⟩) | (go_at_call 24; refine (int_un _ _ _ (by first | exact Or.inl rfl | exact Or.inr ⟨_, rfl, by simp⟩)).mono ?_; rintro e w1 ⟨rfl, rfl⟩) | (go_at_call 20; refine (var_un _ _ _ (by first | exact Or.inl rfl | exact Or.inr ⟨_, rfl, by simp⟩)).mono ?_; rintro e w1 ⟨rfl, rfl⟩) | (go_at_call 21; refine (bytes_un _ _ _ (by first | exact Or.inl rfl | exact Or.inr ⟨_, rfl, by simp⟩)).mono ?_; rintro e w1 ⟨rfl, rfl⟩) | (go_at_call 25; refine (byte_un _ _ (by first | exact Or.inl rfl | exact Or.inr ⟨_, rfl, by simp⟩)).mono ?_; rintro e w1 ⟨rfl, rfl⟩) | (go_at_call 23; refine (left_un _ _ (by first | exact Or.inl rfl | exact Or.inr ⟨_, rfl, by simp⟩)).mono ?_; rintro e w1 ⟨rfl, rfl⟩) | (go_at_call 26; refine (err_un _ _ (by first | exact Or.inl rfl | exact Or.inr ⟨_, rfl, by simp⟩)).mono ?_; rintro e w1 ⟨rfl, rfl⟩) | (go_at_call 22; refine (end_un _ _ (by first | exact Or.inl rfl | exact Or.inr ⟨_, rfl, by simp⟩)).mono ?_; rintro e w1 ⟨rfl, rfl⟩) | (go_at_call 7; refine (lv.out _).mono ?_; rintro e w1 ⟨rfl, hb1⟩))
  rw [rounds_succ]
  go_wp2_with (first | (go_at_call 19; refine (num_un _ _ _ _ (by first | exact Or.inl rfl | exact Or.inr ⟨_, rfl, by simp⟩)).mono ?_; rintro e w1 ⟨rfl, rfl⟩) | (go_at_call 24; refine (int_un _ _ _ (by first | exact Or.inl rfl | exact Or.inr ⟨_, rfl, by simp⟩)).mono ?_; rintro e w1 ⟨rfl, rfl⟩) | (go_at_call 20; refine (var_un _ _ _ (by first | exact Or.inl rfl | exact Or.inr ⟨_, rfl, by simp⟩)).mono ?_; rintro e w1 ⟨rfl, rfl⟩) | (go_at_call 21; refine (bytes_un _ _ _ (by first | exact Or.inl rfl | exact Or.inr ⟨_, rfl, by simp⟩)).mono ?_; rintro e w1 ⟨rfl, rfl⟩) | (go_at_call 25; refine (byte_un _ _ (by first | exact Or.inl rfl | exact Or.inr ⟨_, rfl, by simp⟩)).mono ?_; rintro e w1 ⟨rfl, rfl⟩) | (go_at_call 23; refine (left_un _ _ (by first | exact Or.inl rfl | exact Or.inr ⟨_, rfl, by simp⟩)).mono ?_; rintro e w1 ⟨rfl, rfl⟩) | (go_at_call 26; refine (err_un _ _ (by first | exact Or.inl rfl | exact Or.inr ⟨_, rfl, by simp⟩)).mono ?_; rintro e w1 ⟨rfl, rfl⟩) | (go_at_call 22; refine (end_un _ _ (by first | exact Or.inl rfl | exact Or.inr ⟨_, rfl, by simp⟩)).mono ?_; rintro e w1 ⟨rfl, rfl⟩) | (go_at_call 7; refine (lv.out _).mono ?_; rintro e w1 ⟨rfl, hb1⟩))
  rw [rounds_succ]
  go_wp2_with (first | (go_at_call 19; refine (num_un _ _ _ _ (by first | exact Or.inl rfl | exact Or.inr ⟨_, rfl, by simp⟩)).mono ?_; rintro e w1 ⟨rfl, rfl⟩) | (go_at_call 24; refine (int_un _ _ _ (by first | exact Or.inl rfl | exact Or.inr ⟨_, rfl, by simp⟩)).mono ?_; rintro e w1 ⟨rfl, rfl⟩) | (go_at_call 20; refine (var_un _ _ _ (by first | exact Or.inl rfl | exact Or.inr ⟨_, rfl, by simp⟩)).mono ?_; rintro e w1 ⟨rfl, rfl⟩) | (go_at_call 21; refine (bytes_un _ _ _ (by first | exact Or.inl rfl | exact Or.inr ⟨_, rfl, by simp⟩)).mono ?_; rintro e w1 ⟨rfl, rfl⟩) | (go_at_call 25; refine (byte_un _ _ (by first | exact Or.inl rfl | exact Or.inr ⟨_, rfl, by simp⟩)).mono ?_; rintro e w1 ⟨rfl, rfl⟩) | (go_at_call 23; refine (left_un _ _ (by first | exact Or.inl rfl | exact Or.inr ⟨_, rfl, by simp⟩)).mono ?_; rintro e w1 ⟨rfl, rfl⟩) | (go_at_call 26; refine (err_un _ _ (by first | exact Or.inl rfl | exact Or.inr ⟨_, rfl, by simp⟩)).mono ?_; rintro e w1 ⟨rfl, rfl⟩) | (go_at_call 22; refine (end_un _ _ (by first | exact Or.inl rfl | exact Or.inr ⟨_, rfl, by simp⟩)).mono ?_; rintro e w1 ⟨rfl, rfl⟩) | (go_at_call 7; refine (lv.out _).mono ?_; rintro e w1 ⟨rfl, hb1⟩))
  go_ret
  exact ⟨rfl, gt (Below.alloc (Below.alloc (Below.refl _ _) (Nat.le_refl _) _) (by simp) _) hb1⟩

end Go.Proofs.Ytieachnejicafaa
