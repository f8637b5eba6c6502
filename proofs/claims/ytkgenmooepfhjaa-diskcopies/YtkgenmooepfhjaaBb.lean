/- The small functions of a disk; no statement of the seat is proved here. -/
import Derived.Test.YtkgenmooepfhjaaBa
namespace Go.Proofs.Ytkgenmooepfhjaa
open Go.RowKit Go.Maps

/-- A disk that no call made. -/
def NoDisk (w : World) (v : Value) : Prop := v = .pointer none ∨ ∃ p, v = .pointer (some ⟨p, 0, none⟩) ∧ w.cell? ⟨p, 0, none⟩ = some (.int .i64 0)

theorem NoDisk.later {w w' : World} {v : Value} (h : NoDisk w v) (hb : Below w.heap.size w w') : NoDisk w' v := by
  rcases h with h | ⟨p, h, hc⟩
  · exact Or.inl h
  · exact Or.inr ⟨p, h, keep_old hb hc⟩

set_option maxHeartbeats 400000 in
theorem made_no (v : Value) (w : World) (h : NoDisk w v) : Calls Try.prog 46 #[v] w fun e w' => e = .returned (.bool false) ∧ w' = w := by
  rcases h with rfl | ⟨p, rfl, hc⟩
  · go_enter Try.func46, Try.ntmps46
    go_wp2
    go_ret
    exact ⟨rfl, rfl⟩
  · go_enter Try.func46, Try.ntmps46
    go_wp2
    go_ret
    exact ⟨rfl, rfl⟩

set_option maxHeartbeats 400000 in
theorem made_yes (p r : Nat) (w : World) (hc : w.cell? ⟨p, 0, none⟩ = some (.int .i64 (r : Int))) (hr : 0 < r) : Calls Try.prog 46 #[.pointer (some ⟨p, 0, none⟩)] w fun e w' => e = .returned (.bool true) ∧ w' = w := by
  have hr' : (0 : Int) < (r : Int) := by omega
  go_enter Try.func46, Try.ntmps46
  go_wp2
  go_ret
  exact ⟨rfl, rfl⟩

def known (f : Int) : Bool := f == 0 || f == 1

set_option maxHeartbeats 400000 in
theorem known_any (f : Int) (w : World) : Calls Try.prog 47 #[.int .i64 f] w fun e w' => e = .returned (.bool (known f)) ∧ w' = w := by
  by_cases h0 : f = 0
  · subst h0
    go_enter Try.func47, Try.ntmps47
    go_wp2
    go_ret
    exact ⟨rfl, rfl⟩
  · have h0' : (f == 0) = false := by simp [h0]
    by_cases h1 : f = 1
    · subst h1
      go_enter Try.func47, Try.ntmps47
      go_wp2
      go_ret
      exact ⟨rfl, rfl⟩
    · have h1' : (f == 1) = false := by simp [h1]
      have hk : known f = false := by simp [known, h0, h1]
      rw [hk]
      go_enter Try.func47, Try.ntmps47
      go_wp2
      go_ret
      exact ⟨rfl, rfl⟩

set_option maxHeartbeats 400000 in
theorem fault_no (v : Value) (f : Int) (w : World) (h : NoDisk w v) : Calls Try.prog 40 #[v, .int .i64 f] w fun e w' => e = .returned (.int .i64 1) ∧ w' = w := by
  have c := hid (made_no v w h)
  clear h
  go_enter Try.func40, Try.ntmps40
  go_wp2_with (go_at_call 46; refine c.out.mono ?_; rintro e w' ⟨rfl, hw⟩; subst hw)
  go_ret
  exact ⟨rfl, rfl⟩

set_option maxHeartbeats 400000 in
theorem fault_off (p : Nat) (P : Parts) (d : DS) (f : Int) (w : World) (h : DiskP w p P d) (ho : d.off = true) : Calls Try.prog 40 #[.pointer (some ⟨p, 0, none⟩), .int .i64 f] w fun e w' => e = .returned (.int .i64 4) ∧ w' = w := by
  have c := hid (made_yes p d.room w h.c0 h.ok.r1)
  have c1 := h.c1
  rw [ho] at c1
  clear h
  go_enter Try.func40, Try.ntmps40
  go_wp2_with (go_at_call 46; refine c.out.mono ?_; rintro e w' ⟨rfl, hw⟩; subst hw)
  go_ret
  exact ⟨rfl, rfl⟩

set_option maxHeartbeats 400000 in
theorem fault_on (p : Nat) (P : Parts) (d : DS) (f : Int) (w : World) (h : DiskP w p P d) (ho : d.off = false) : Calls Try.prog 40 #[.pointer (some ⟨p, 0, none⟩), .int .i64 f] w fun e w' => e = .returned (.int .i64 (if known f then 0 else 11)) ∧ w' = w := by
  have c := hid (made_yes p d.room w h.c0 h.ok.r1)
  have c1 := h.c1
  rw [ho] at c1
  clear h
  cases hk : known f
  · have ck := known_any f w
    rw [hk] at ck
    have CK := hid ck
    clear ck
    go_enter Try.func40, Try.ntmps40
    go_wp2_with (first | (go_at_call 46; refine c.out.mono ?_; rintro e w' ⟨rfl, hw⟩; subst hw; clear c) | (go_at_call 47; refine CK.out.mono ?_; rintro e w' ⟨rfl, hw⟩; subst hw))
    go_ret
    exact ⟨rfl, rfl⟩
  · have ck := known_any f w
    rw [hk] at ck
    have CK := hid ck
    clear ck
    go_enter Try.func40, Try.ntmps40
    go_wp2_with (first | (go_at_call 46; refine c.out.mono ?_; rintro e w' ⟨rfl, hw⟩; subst hw; clear c) | (go_at_call 47; refine CK.out.mono ?_; rintro e w' ⟨rfl, hw⟩; subst hw))
    go_ret
    exact ⟨rfl, rfl⟩

set_option maxHeartbeats 400000 in
theorem on_no (v : Value) (w : World) (h : NoDisk w v) : Calls Try.prog 27 #[v] w fun e w' => e = .returned (.bool false) ∧ w' = w := by
  have c := hid (made_no v w h)
  clear h
  go_enter Try.func27, Try.ntmps27
  go_wp2_with (go_at_call 46; refine c.out.mono ?_; rintro e w' ⟨rfl, hw⟩; subst hw)
  go_ret
  exact ⟨rfl, rfl⟩
set_option maxHeartbeats 400000 in
theorem on_any (p : Nat) (P : Parts) (d : DS) (w : World) (h : DiskP w p P d) : Calls Try.prog 27 #[.pointer (some ⟨p, 0, none⟩)] w fun e w' => e = .returned (.bool (!d.off)) ∧ w' = w := by
  have c := hid (made_yes p d.room w h.c0 h.ok.r1)
  have c1 := h.c1
  clear h
  go_enter Try.func27, Try.ntmps27
  go_wp2_with (go_at_call 46; refine c.out.mono ?_; rintro e w' ⟨rfl, hw⟩; subst hw)
  go_ret
  exact ⟨rfl, rfl⟩
set_option maxHeartbeats 400000 in
theorem ops_no (v : Value) (w : World) (h : NoDisk w v) : Calls Try.prog 26 #[v] w fun e w' => e = .returned (.int .i64 0) ∧ w' = w := by
  have c := hid (made_no v w h)
  clear h
  go_enter Try.func26, Try.ntmps26
  go_wp2_with (go_at_call 46; refine c.out.mono ?_; rintro e w' ⟨rfl, hw⟩; subst hw)
  go_ret
  exact ⟨rfl, rfl⟩
set_option maxHeartbeats 400000 in
theorem ops_any (p : Nat) (P : Parts) (d : DS) (w : World) (h : DiskP w p P d) : Calls Try.prog 26 #[.pointer (some ⟨p, 0, none⟩)] w fun e w' => e = .returned (.int .i64 (d.ops : Int)) ∧ w' = w := by
  have c := hid (made_yes p d.room w h.c0 h.ok.r1)
  have c1 := h.c2
  clear h
  go_enter Try.func26, Try.ntmps26
  go_wp2_with (go_at_call 46; refine c.out.mono ?_; rintro e w' ⟨rfl, hw⟩; subst hw)
  go_ret
  exact ⟨rfl, rfl⟩
set_option maxHeartbeats 400000 in
theorem room_no (v : Value) (w : World) (h : NoDisk w v) : Calls Try.prog 29 #[v] w fun e w' => e = .returned (.int .i64 0) ∧ w' = w := by
  have c := hid (made_no v w h)
  clear h
  go_enter Try.func29, Try.ntmps29
  go_wp2_with (go_at_call 46; refine c.out.mono ?_; rintro e w' ⟨rfl, hw⟩; subst hw)
  go_ret
  exact ⟨rfl, rfl⟩
set_option maxHeartbeats 400000 in
theorem room_any (p : Nat) (P : Parts) (d : DS) (w : World) (h : DiskP w p P d) : Calls Try.prog 29 #[.pointer (some ⟨p, 0, none⟩)] w fun e w' => e = .returned (.int .i64 (d.room : Int)) ∧ w' = w := by
  have c := hid (made_yes p d.room w h.c0 h.ok.r1)
  have c1 := h.c0
  clear h
  go_enter Try.func29, Try.ntmps29
  go_wp2_with (go_at_call 46; refine c.out.mono ?_; rintro e w' ⟨rfl, hw⟩; subst hw)
  go_ret
  exact ⟨rfl, rfl⟩

set_option maxHeartbeats 400000 in
theorem start_no (v : Value) (w : World) (h : NoDisk w v) : Calls Try.prog 22 #[v] w fun e w' => e = .returned (.int .i64 1) ∧ w' = w := by
  have c := hid (made_no v w h)
  clear h
  go_enter Try.func22, Try.ntmps22
  go_wp2_with (go_at_call 46; refine c.out.mono ?_; rintro e w' ⟨rfl, hw⟩; subst hw)
  go_ret
  exact ⟨rfl, rfl⟩
set_option maxHeartbeats 400000 in
theorem copy_no (v : Value) (w : World) (h : NoDisk w v) : Calls Try.prog 20 #[v] w fun e w' => e = .returned (.pointer none) ∧ w' = w := by
  have c := hid (made_no v w h)
  clear h
  go_enter Try.func20, Try.ntmps20
  go_wp2_with (go_at_call 46; refine c.out.mono ?_; rintro e w' ⟨rfl, hw⟩; subst hw)
  go_ret
  exact ⟨rfl, rfl⟩
set_option maxHeartbeats 400000 in
theorem sectors_no (v : Value) (f : Int) (w : World) (h : NoDisk w v) : Calls Try.prog 19 #[v, .int .i64 f] w fun e w' => e = .returned (.int .i64 0) ∧ w' = w := by
  have c := hid (made_no v w h)
  clear h
  go_enter Try.func19, Try.ntmps19
  go_wp2_with (go_at_call 46; refine c.out.mono ?_; rintro e w' ⟨rfl, hw⟩; subst hw)
  go_ret
  exact ⟨rfl, rfl⟩
set_option maxHeartbeats 400000 in
theorem dirty_no (v : Value) (f : Int) (w : World) (h : NoDisk w v) : Calls Try.prog 23 #[v, .int .i64 f] w fun e w' => e = .returned (.int .i64 0) ∧ w' = w := by
  have c := hid (made_no v w h)
  clear h
  go_enter Try.func23, Try.ntmps23
  go_wp2_with (go_at_call 46; refine c.out.mono ?_; rintro e w' ⟨rfl, hw⟩; subst hw)
  go_ret
  exact ⟨rfl, rfl⟩
set_option maxHeartbeats 400000 in
theorem arm_no (v : Value) (n : Int) (ko : Option Addr) (kn kc : Nat) (t : Int) (w : World) (h : NoDisk w v) : Calls Try.prog 24 #[v, .int .i64 n, .agg #[.slice ko kn kc, .int .i64 t]] w fun e w' => e = .returned (.int .i64 1) ∧ Below w.heap.size w w' := by
  have hb : Below w.heap.size w (w.alloc (.cells #[.slice ko kn kc, .int .i64 t] 32)) := (Below.refl _ _).alloc (Nat.le_refl _) _
  have c := hid (made_no v _ (h.later hb))
  have HB := hid hb
  clear h hb
  go_enter Try.func24, Try.ntmps24
  go_wp2_with (go_at_call 46; refine c.out.mono ?_; rintro e w' ⟨rfl, hw⟩; subst hw)
  go_ret
  exact ⟨rfl, HB.out⟩
set_option maxHeartbeats 400000 in
theorem crash_no (v : Value) (ko : Option Addr) (kn kc : Nat) (t : Int) (w : World) (h : NoDisk w v) : Calls Try.prog 21 #[v, .agg #[.slice ko kn kc, .int .i64 t]] w fun e w' => e = .returned (.bool false) ∧ Below w.heap.size w w' := by
  have hb : Below w.heap.size w (w.alloc (.cells #[.slice ko kn kc, .int .i64 t] 32)) := (Below.refl _ _).alloc (Nat.le_refl _) _
  have c := hid (on_no v _ (h.later hb))
  have HB := hid hb
  clear h hb
  go_enter Try.func21, Try.ntmps21
  go_wp2_with (go_at_call 27; refine c.out.mono ?_; rintro e w' ⟨rfl, hw⟩; subst hw)
  go_ret
  exact ⟨rfl, HB.out⟩
set_option maxHeartbeats 400000 in
theorem read_no (v : Value) (f a n : Int) (w : World) (h : NoDisk w v) : Calls Try.prog 14 #[v, .int .i64 f, .int .i64 a, .int .i64 n] w fun e w' => e = .returned (.tuple #[.slice none 0 0, .int .i64 1]) ∧ w' = w := by
  have c := hid (fault_no v f w h)
  clear h
  go_enter Try.func14, Try.ntmps14
  go_wp2_with (go_at_call 40; refine c.out.mono ?_; rintro e w' ⟨rfl, hw⟩; subst hw)
  go_ret2
  exact ⟨rfl, rfl⟩
set_option maxHeartbeats 400000 in
theorem cut_no (v : Value) (f n : Int) (w : World) (h : NoDisk w v) : Calls Try.prog 25 #[v, .int .i64 f, .int .i64 n] w fun e w' => e = .returned (.int .i64 1) ∧ Below w.heap.size w w' := by
  have hb : Below w.heap.size w (w.alloc (.cells #[.int .i64 n] 3)) := (Below.refl _ _).alloc (Nat.le_refl _) _
  have c := hid (fault_no v f _ (h.later hb))
  have HB := hid hb
  clear h hb
  go_enter Try.func25, Try.ntmps25
  go_wp2_with (go_at_call 40; refine c.out.mono ?_; rintro e w' ⟨rfl, hw⟩; subst hw)
  go_ret
  exact ⟨rfl, HB.out⟩
set_option maxHeartbeats 400000 in
theorem sync_no (v : Value) (f : Int) (w : World) (h : NoDisk w v) : Calls Try.prog 18 #[v, .int .i64 f] w fun e w' => e = .returned (.int .i64 1) ∧ Below w.heap.size w w' := by
  have hb : Below w.heap.size w ((w.alloc (.cells #[v] 26)).alloc (.cells #[.int .i64 f] 3)) := (by repeat (first | with_reducible exact Below.refl _ _ | with_reducible assumption | with_reducible refine Below.drew ?_ | with_reducible refine below_drewN ?_ _ | with_reducible refine Below.alloc ?_ (by simp <;> omega) _ | with_reducible refine Below.setCell ?_ (by simp <;> omega) _))
  have c := hid (fault_no v f _ (h.later hb))
  have HB := hid hb
  clear hb
  rcases h with rfl | ⟨p, rfl, _⟩
  · go_enter Try.func18, Try.ntmps18
    go_wp2_with (go_at_call 40; refine c.out.mono ?_; rintro e w' ⟨rfl, hw⟩; subst hw)
    go_ret
    exact ⟨rfl, HB.out⟩
  · go_enter Try.func18, Try.ntmps18
    go_wp2_with (go_at_call 40; refine c.out.mono ?_; rintro e w' ⟨rfl, hw⟩; subst hw)
    go_ret
    exact ⟨rfl, HB.out⟩
set_option maxHeartbeats 400000 in
theorem write_no (v : Value) (f a : Int) (bo : Option Addr) (bn bc : Nat) (w : World) (h : NoDisk w v) : Calls Try.prog 16 #[v, .int .i64 f, .int .i64 a, .slice bo bn bc] w fun e w' => e = .returned (.int .i64 1) ∧ Below w.heap.size w w' := by
  have hb : Below w.heap.size w (((w.alloc (.cells #[v] 26)).alloc (.cells #[.int .i64 a] 3)).alloc (.cells #[.slice bo bn bc] 37)) := (by repeat (first | with_reducible exact Below.refl _ _ | with_reducible assumption | with_reducible refine Below.drew ?_ | with_reducible refine below_drewN ?_ _ | with_reducible refine Below.alloc ?_ (by simp <;> omega) _ | with_reducible refine Below.setCell ?_ (by simp <;> omega) _))
  have c := hid (fault_no v f _ (h.later hb))
  have HB := hid hb
  clear hb
  rcases h with rfl | ⟨p, rfl, _⟩
  · go_enter Try.func16, Try.ntmps16
    go_wp2_with (go_at_call 40; refine c.out.mono ?_; rintro e w' ⟨rfl, hw⟩; subst hw)
    go_ret
    exact ⟨rfl, HB.out⟩
  · go_enter Try.func16, Try.ntmps16
    go_wp2_with (go_at_call 40; refine c.out.mono ?_; rintro e w' ⟨rfl, hw⟩; subst hw)
    go_ret
    exact ⟨rfl, HB.out⟩

end Go.Proofs.Ytkgenmooepfhjaa
