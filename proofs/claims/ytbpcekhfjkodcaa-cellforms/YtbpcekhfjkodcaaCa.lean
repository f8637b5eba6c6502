/- What a source does, in order or not; no statement of the seat is proved here. -/
import Derived.Test.YtbpcekhfjkodcaaAl
namespace Go.Proofs.Ytbpcekhfjkodcaa
open Go.RowKit

/-- A source that an error has ended. -/
def SrcBad (W : World) (p : Nat) : Prop := ∃ e : Int, e ≠ 0 ∧ W.heap[p]? = some (.cells #[.bool true, .slice none 0 0, .int .i64 e] 102 (0, 0))
/-- A source: these bytes are left; none: an error has ended it. -/
def Src (W : World) (p : Nat) : Option (List Nat) → Prop
  | none => SrcBad W p
  | some xs => SrcAt W p xs ∧ ∀ x ∈ xs, x < 256

theorem Src.keep {W W' : World} {p : Nat} {o : Option (List Nat)} (h : Src W p o) (hb : Below W.heap.size W W') : Src W' p o := by
  cases o with
  | none => obtain ⟨e, he, hp⟩ := h; exact ⟨e, he, by rw [hb.block p (lt_of_block hp)]; exact hp⟩
  | some xs => exact ⟨h.1.keep hb, h.2⟩
theorem Src.lt {W : World} {p : Nat} {o : Option (List Nat)} (h : Src W p o) : p < W.heap.size := by
  cases o with
  | none => obtain ⟨e, he, hp⟩ := h; exact lt_of_block hp
  | some xs => obtain ⟨⟨b, off, n, cap, hp, _⟩, _⟩ := h; exact lt_of_block hp

theorem Src.block {W : World} {p : Nat} {o : Option (List Nat)} (h : Src W p o) : ∃ C, W.heap[p]? = some (.cells C 102 (0, 0)) := by
  cases o with
  | none => obtain ⟨e, he, hp⟩ := h; exact ⟨_, hp⟩
  | some xs => obtain ⟨⟨b, off, n, cap, hp, _⟩, _⟩ := h; exact ⟨_, hp⟩
theorem Src.grown5 {W W' : World} {p : Nat} {o : Option (List Nat)} (h : Src W p o) (hg : W.grownBy W' (some p)) : Five W W' := by
  obtain ⟨C, hp⟩ := h.block
  exact five_grown hp (by decide) hg
theorem Src.five {W W' : World} {p : Nat} {o : Option (List Nat)} (h : Src W p o) (k : Five W W') (hp : W'.heap[p]? = W.heap[p]?) : Src W' p o := by
  cases o with
  | none => obtain ⟨e, he, h1⟩ := h; exact ⟨e, he, hp.trans h1⟩
  | some xs =>
    obtain ⟨⟨b, off, n, cap, h1, hr, hn, h5⟩, hx⟩ := h
    exact ⟨⟨b, off, n, cap, hp.trans h1, hr.five (fun _ b' o' e => by cases e; exact h5) k, hn, h5.five k⟩, hx⟩

def numO (s : Nat) : Option (List Nat) → Nat × Option (List Nat)
  | none => (0, none)
  | some xs => if s ≤ xs.length then (psum xs s false s, some (xs.drop s)) else (0, none)
def varO (most : Nat) : Option (List Nat) → Nat × Option (List Nat)
  | none => (0, none)
  | some xs => if (asm 0 8 xs).2 = 0 ∨ (asm 0 8 xs).2 ≠ szN (asm 0 8 xs).1 ∨ most < (asm 0 8 xs).1 then (0, none) else ((asm 0 8 xs).1, some (xs.drop (asm 0 8 xs).2))
def bytesO (k : Nat) : Option (List Nat) → List Nat × Option (List Nat)
  | none => ([], none)
  | some xs => if k ≤ xs.length then (xs.take k, some (xs.drop k)) else ([], none)

theorem drop_by {xs : List Nat} (h : ∀ x ∈ xs, x < 256) (k : Nat) : ∀ x ∈ xs.drop k, x < 256 := fun x hx => h x (List.mem_of_mem_drop hx)
theorem take_by {xs : List Nat} (h : ∀ x ∈ xs, x < 256) (k : Nat) : ∀ x ∈ xs.take k, x < 256 := fun x hx => h x (List.mem_of_mem_take hx)

set_option maxHeartbeats 400000 in
theorem err_bad (p : Nat) (W : World) (h : SrcBad W p) : Calls Try.prog 58 #[.pointer (some ⟨p, 0, none⟩)] W fun e w' => (∃ z : Int, z ≠ 0 ∧ e = .returned (.int .i64 z)) ∧ W = w' := by
  obtain ⟨z, hz, hp⟩ := h
  obtain ⟨s0, s1, s2, f1, f2⟩ := src_cells hp
  have hz' := hid hz
  clear hp hz
  go_enter Try.func58, Try.ntmps58
  go_wp2
  go_ret
  exact ⟨⟨z, hz'.out, rfl⟩, rfl⟩

theorem src_set2 {W : World} {p : Nat} {a b c v : Value} (h : W.heap[p]? = some (.cells #[a, b, c] 102 (0, 0))) : (W.setCell ⟨p, 2, none⟩ v).heap[p]? = some (.cells #[a, b, v] 102 (0, 0)) := by
  rw [heap_setCell_same W p 2 _ 102 v h]; simp

set_option maxHeartbeats 400000 in
theorem fail_any (p : Nat) (xs : List Nat) (z : Int) (hz : z ≠ 0) (W : World) (h : SrcAt W p xs) : Calls Try.prog 71 #[.pointer (some ⟨p, 0, none⟩), .int .i64 z] W fun e w' => e = .returned (.tuple #[]) ∧ SrcBad w' p ∧ W.grownBy w' (some p) := by
  obtain ⟨b, off, n, cap, hp, hr, hn, hne⟩ := h
  obtain ⟨s0, s1, s2, f1, f2⟩ := src_cells hp
  have hp' := hid hp
  have hz' := hid hz
  clear hp hr hn hne hz
  go_enter Try.func71, Try.ntmps71
  go_wp2
  go_end0
  exact ⟨rfl, ⟨z, hz'.out, src_set (src_set2 hp'.out)⟩, grow_trans (grow_set _ _ _ _) (grow_set _ _ _ _)⟩

set_option maxHeartbeats 1000000 in
theorem num_k (p : Nat) (xs : List Nat) (s : Nat) (l : Bool) (W : World) (h : SrcAt W p xs) (hx : ∀ x ∈ xs, x < 256) (h1 : 1 ≤ s) (h8 : s ≤ 8) (hs : s ≤ xs.length) :
    Calls Try.prog 51 #[.pointer (some ⟨p, 0, none⟩), .int .i64 (s : Int), .bool l] W fun e w' => e = .returned (.int .u64 (psum xs s l s : Nat)) ∧ SrcAt w' p (xs.drop s) ∧ W.grownBy w' (some p) := by
  have c26 := hid (err_ok p xs W h)
  have c27 := hid (sized_any (s : Int))
  rw [show (decide ((1 : Int) ≤ (s : Int)) && decide ((s : Int) ≤ 8)) = true by simp; omega] at c27
  have c28 := hid (gather_src p xs hx s l hs h8 (On W p xs) (fun k W' hS hk => on_more W p xs k W' hS hk) W ⟨by simpa using h, World.grownBy.refl _ _⟩)
  obtain ⟨b, off, n, cap, hp, hr, hn, hne⟩ := h
  obtain ⟨s0, s1, s2, f1, f2⟩ := src_cells hp
  have hl := hr.1
  have hn8 : ¬ (n : Int) < (s : Int) := by omega
  generalize psum xs s l s = R at *
  clear hp hr hne hx hl h8 h1 hs
  go_enter Try.func51, Try.ntmps51
  go_wp2_with (first | (go_at_call 58; refine c26.out.mono ?_; rintro e w1 ⟨rfl, rfl⟩) | (go_at_call 72; refine (c27.out _).mono ?_; rintro e w2 ⟨rfl, hw2⟩; obtain rfl := hw2.symm) | (go_at_call 73; refine c28.out.mono ?_; rintro e w3 ⟨rfl, hS⟩; replace hS := hid hS))
  go_ret
  exact ⟨rfl, hS.out.1, hS.out.2⟩

set_option maxHeartbeats 1000000 in
theorem num_short (p : Nat) (xs : List Nat) (s : Nat) (l : Bool) (W : World) (h : SrcAt W p xs) (hs : xs.length < s) :
    Calls Try.prog 51 #[.pointer (some ⟨p, 0, none⟩), .int .i64 (s : Int), .bool l] W fun e w' => e = .returned (.int .u64 0) ∧ SrcBad w' p ∧ W.grownBy w' (some p) := by
  have c26 := hid (err_ok p xs W h)
  have cf := hid (fail_any p xs 8 (by decide) W h)
  obtain ⟨b, off, n, cap, hp, hr, hn, hne⟩ := h
  obtain ⟨s0, s1, s2, f1, f2⟩ := src_cells hp
  have hl := hr.1
  have hn8 : (n : Int) < (s : Int) := by omega
  clear hp hr hne hl hs
  go_enter Try.func51, Try.ntmps51
  go_wp2_with (first | (go_at_call 58; refine c26.out.mono ?_; rintro e w1 ⟨rfl, rfl⟩) | (go_at_call 71; refine cf.out.mono ?_; rintro e w2 ⟨rfl, hS, hg⟩; replace hS := hid hS; replace hg := hid hg))
  go_ret
  exact ⟨rfl, hS.out, hg.out⟩

set_option maxHeartbeats 1000000 in
theorem num_bad (p : Nat) (s : Nat) (l : Bool) (W : World) (h : SrcBad W p) :
    Calls Try.prog 51 #[.pointer (some ⟨p, 0, none⟩), .int .i64 (s : Int), .bool l] W fun e w' => e = .returned (.int .u64 0) ∧ SrcBad w' p ∧ W.grownBy w' (some p) := by
  have c26 := hid (err_bad p W h)
  have h' := hid h
  clear h
  go_enter Try.func51, Try.ntmps51
  go_wp2_with (go_at_call 58; refine c26.out.mono ?_; rintro e w1 ⟨⟨z, hz, rfl⟩, rfl⟩; have hz2 : (z == 0) = false := (by simpa using hz); have hz3 : (z != 0) = true := (by simpa using hz); clear hz)
  go_ret
  exact ⟨rfl, h'.out, World.grownBy.refl _ _⟩

theorem num_src (p : Nat) (s : Nat) (o : Option (List Nat)) (W : World) (h : Src W p o) (h1 : 1 ≤ s) (h8 : s ≤ 8) :
    Calls Try.prog 51 #[.pointer (some ⟨p, 0, none⟩), .int .i64 (s : Int), .bool false] W fun e w' => e = .returned (.int .u64 ((numO s o).1 : Nat)) ∧ Src w' p (numO s o).2 ∧ W.grownBy w' (some p) := by
  cases o with
  | none => exact num_bad p s false W h
  | some xs =>
    by_cases hs : s ≤ xs.length
    · simp only [numO, if_pos hs]
      exact (num_k p xs s false W h.1 h.2 h1 h8 hs).mono fun e w' ⟨a, b, c⟩ => ⟨a, ⟨b, drop_by h.2 s⟩, c⟩
    · simp only [numO, if_neg hs]
      exact num_short p xs s false W h.1 (by omega)

set_option maxHeartbeats 1000000 in
theorem var_bad (p : Nat) (most : Nat) (W : World) (h : SrcBad W p) :
    Calls Try.prog 52 #[.pointer (some ⟨p, 0, none⟩), .int .u64 (most : Int)] W fun e w' => e = .returned (.int .u64 0) ∧ SrcBad w' p ∧ W.grownBy w' (some p) := by
  have c26 := hid (err_bad p W h)
  have h' := hid h
  clear h
  go_enter Try.func52, Try.ntmps52
  go_wp2_with (go_at_call 58; refine c26.out.mono ?_; rintro e w1 ⟨⟨z, hz, rfl⟩, rfl⟩; have hz2 : (z == 0) = false := (by simpa using hz); have hz3 : (z != 0) = true := (by simpa using hz); clear hz)
  go_ret
  exact ⟨rfl, h'.out, World.grownBy.refl _ _⟩

set_option maxHeartbeats 1000000 in
theorem var_wrong (p : Nat) (xs : List Nat) (most : Nat) (W : World) (h : SrcAt W p xs) (hx : ∀ x ∈ xs, x < 256) (hw : (asm 0 8 xs).2 = 0 ∨ (asm 0 8 xs).2 ≠ szN (asm 0 8 xs).1 ∨ most < (asm 0 8 xs).1) :
    Calls Try.prog 52 #[.pointer (some ⟨p, 0, none⟩), .int .u64 (most : Int)] W fun e w' => e = .returned (.int .u64 0) ∧ SrcBad w' p ∧ W.grownBy w' (some p) := by
  have c26 := hid (err_ok p xs W h)
  have c30 := hid (asm_src p xs hx (On W p xs) (fun k W' hS hk => on_more W p xs k W' hS hk) (fun W' hS => on_end W p xs W' hS) W ⟨by simpa using h, World.grownBy.refl _ _⟩)
  have hb := (asm_bound 8 0 xs hx (by omega) (by simp)).1
  have c16 := hid (size_any (asm 0 8 xs).1 hb)
  have cf8 := hid (fun W' ys (hS : SrcAt W' p ys) => fail_any p ys 8 (by decide) W' hS)
  have cf9 := hid (fun W' ys (hS : SrcAt W' p ys) => fail_any p ys 9 (by decide) W' hS)
  have cf11 := hid (fun W' ys (hS : SrcAt W' p ys) => fail_any p ys 11 (by decide) W' hS)
  generalize asm 0 8 xs = R at *
  obtain ⟨v, k0⟩ := R
  simp only at *
  generalize szN v = z at *
  have hcs : k0 = 0 ∨ (((k0 : Int) == 0) = false ∧ ((k0 : Int) == (z : Int)) = false) ∨ (((k0 : Int) == 0) = false ∧ k0 = z ∧ (most : Int) < (v : Int)) := by
    by_cases h1 : k0 = 0
    · exact Or.inl h1
    · right
      by_cases h2 : k0 = z
      · right; refine ⟨by simp; omega, h2, ?_⟩; rcases hw with h | h | h <;> omega
      · left; exact ⟨by simp; omega, by simp; omega⟩
  clear hw h hx
  rcases hcs with rfl | ⟨h1, h2⟩ | ⟨h1, rfl, h2⟩
  · go_enter Try.func52, Try.ntmps52
    go_wp2_with (first | (go_at_call 58; refine c26.out.mono ?_; rintro e w1 ⟨rfl, rfl⟩) | (go_at_call 75; refine c30.out.mono ?_; rintro e w2 ⟨rfl, k, hS, _⟩; replace hS := hid hS) | (go_at_call 71; refine (cf8.out _ _ hS.out.1).mono ?_; rintro e w4 ⟨rfl, hB, hg⟩; replace hB := hid hB; replace hg := hid hg))
    go_ret
    exact ⟨rfl, hB.out, grow_trans hS.out.2 hg.out⟩
  · go_enter Try.func52, Try.ntmps52
    go_wp2_with (first | (go_at_call 58; refine c26.out.mono ?_; rintro e w1 ⟨rfl, rfl⟩) | (go_at_call 75; refine c30.out.mono ?_; rintro e w2 ⟨rfl, k, hS, hk⟩; replace hS := hid hS; clear hk) | (go_at_call 68; refine (c16.out _).mono ?_; rintro e w3 ⟨rfl, hw3⟩; obtain rfl := hw3.symm) | (go_at_call 71; refine (cf9.out _ _ hS.out.1).mono ?_; rintro e w4 ⟨rfl, hB, hg⟩; replace hB := hid hB; replace hg := hid hg))
    go_ret
    exact ⟨rfl, hB.out, grow_trans hS.out.2 hg.out⟩
  · go_enter Try.func52, Try.ntmps52
    go_wp2_with (first | (go_at_call 58; refine c26.out.mono ?_; rintro e w1 ⟨rfl, rfl⟩) | (go_at_call 75; refine c30.out.mono ?_; rintro e w2 ⟨rfl, k, hS, hk⟩; replace hS := hid hS; clear hk) | (go_at_call 68; refine (c16.out _).mono ?_; rintro e w3 ⟨rfl, hw3⟩; obtain rfl := hw3.symm) | (go_at_call 71; refine (cf11.out _ _ hS.out.1).mono ?_; rintro e w4 ⟨rfl, hB, hg⟩; replace hB := hid hB; replace hg := hid hg))
    go_ret
    exact ⟨rfl, hB.out, grow_trans hS.out.2 hg.out⟩

theorem var_src (p : Nat) (most : Nat) (o : Option (List Nat)) (W : World) (h : Src W p o) :
    Calls Try.prog 52 #[.pointer (some ⟨p, 0, none⟩), .int .u64 (most : Int)] W fun e w' => e = .returned (.int .u64 ((varO most o).1 : Nat)) ∧ Src w' p (varO most o).2 ∧ W.grownBy w' (some p) := by
  cases o with
  | none => exact var_bad p most W h
  | some xs =>
    by_cases hw : (asm 0 8 xs).2 = 0 ∨ (asm 0 8 xs).2 ≠ szN (asm 0 8 xs).1 ∨ most < (asm 0 8 xs).1
    · simp only [varO, if_pos hw]
      exact var_wrong p xs most W h.1 h.2 hw
    · simp only [varO, if_neg hw]
      have e1 : asm 0 8 xs = ((asm 0 8 xs).1, szN (asm 0 8 xs).1) := by
        have : (asm 0 8 xs).2 = szN (asm 0 8 xs).1 := by omega
        rw [← this]
      have e2 : (asm 0 8 xs).2 = szN (asm 0 8 xs).1 := by omega
      rw [e2]
      exact (var_ok p xs _ most W h.1 h.2 e1 (by omega)).mono fun e w' ⟨a, b, c⟩ => ⟨a, ⟨b, drop_by h.2 _⟩, c⟩

set_option maxHeartbeats 1000000 in
theorem bytes_bad (p : Nat) (k : Nat) (W : World) (h : SrcBad W p) :
    Calls Try.prog 53 #[.pointer (some ⟨p, 0, none⟩), .int .i64 (k : Int)] W fun e w' => e = .returned (.slice none 0 0) ∧ SrcBad w' p ∧ W.grownBy w' (some p) := by
  have c26 := hid (err_bad p W h)
  have h' := hid h
  clear h
  go_enter Try.func53, Try.ntmps53
  go_wp2_with (go_at_call 58; refine c26.out.mono ?_; rintro e w1 ⟨⟨z, hz, rfl⟩, rfl⟩; have hz2 : (z == 0) = false := (by simpa using hz); have hz3 : (z != 0) = true := (by simpa using hz); clear hz)
  go_ret
  exact ⟨rfl, h'.out, World.grownBy.refl _ _⟩

set_option maxHeartbeats 1000000 in
theorem bytes_short (p : Nat) (xs : List Nat) (k : Nat) (W : World) (h : SrcAt W p xs) (hs : xs.length < k) :
    Calls Try.prog 53 #[.pointer (some ⟨p, 0, none⟩), .int .i64 (k : Int)] W fun e w' => e = .returned (.slice none 0 0) ∧ SrcBad w' p ∧ W.grownBy w' (some p) := by
  have c26 := hid (err_ok p xs W h)
  have cf := hid (fail_any p xs 8 (by decide) W h)
  obtain ⟨b, off, n, cap, hp, hr, hn, hne⟩ := h
  obtain ⟨s0, s1, s2, f1, f2⟩ := src_cells hp
  have hl := hr.1
  have hn8 : (n : Int) < (k : Int) := by omega
  clear hp hr hne hl hs
  go_enter Try.func53, Try.ntmps53
  go_wp2_with (first | (go_at_call 58; refine c26.out.mono ?_; rintro e w1 ⟨rfl, rfl⟩) | (go_at_call 71; refine cf.out.mono ?_; rintro e w2 ⟨rfl, hS, hg⟩; replace hS := hid hS; replace hg := hid hg))
  go_ret
  exact ⟨rfl, hS.out, hg.out⟩

theorem bytes_src (p : Nat) (k : Nat) (o : Option (List Nat)) (W : World) (h : Src W p o) (hk : k ≤ 1000) :
    Calls Try.prog 53 #[.pointer (some ⟨p, 0, none⟩), .int .i64 (k : Int)] W fun e w' => ∃ ao n c, e = .returned (.slice ao n c) ∧ Rd w' ao n c (bytesO k o).1 ∧ (∀ x ∈ (bytesO k o).1, x < 256) ∧ (0 < n → ∀ b o, ao = some ⟨b, o, none⟩ → T5 w' b) ∧ Src w' p (bytesO k o).2 ∧ W.grownBy w' (some p) := by
  cases o with
  | none => exact (bytes_bad p k W h).mono fun e w' ⟨a, b, c⟩ => ⟨none, 0, 0, a, Rd.nil _, by simp [bytesO], fun h => by omega, b, c⟩
  | some xs =>
    by_cases hs : k ≤ xs.length
    · simp only [bytesO, if_pos hs]
      exact (bytes_ok p xs k W h.1 hs hk).mono fun e w' ⟨ao, c, a, b, d, g, t⟩ => ⟨ao, k, c, a, b, take_by h.2 k, fun _ => t, ⟨d, drop_by h.2 k⟩, g⟩
    · simp only [bytesO, if_neg hs]
      exact (bytes_short p xs k W h.1 (by omega)).mono fun e w' ⟨a, b, c⟩ => ⟨none, 0, 0, a, Rd.nil _, by simp, fun h => by omega, b, c⟩

theorem err_src (p : Nat) (o : Option (List Nat)) (W : World) (h : Src W p o) : Calls Try.prog 58 #[.pointer (some ⟨p, 0, none⟩)] W fun e w' => (∃ z : Int, (z = 0 ↔ o.isSome = true) ∧ e = .returned (.int .i64 z)) ∧ W = w' := by
  cases o with
  | none => exact (err_bad p W h).mono fun e w' ⟨⟨z, hz, a⟩, b⟩ => ⟨⟨z, by simp [hz], a⟩, b⟩
  | some xs => exact (err_ok p xs W h.1).mono fun e w' ⟨a, b⟩ => ⟨⟨0, by simp, a⟩, b⟩

set_option maxHeartbeats 1000000 in
theorem byte_src (p : Nat) (o : Option (List Nat)) (W : World) (h : Src W p o) :
    Calls Try.prog 54 #[.pointer (some ⟨p, 0, none⟩)] W fun e w' => e = .returned (.int .u8 ((((numO 1 o).1 % 256 : Nat)) : Int)) ∧ Src w' p (numO 1 o).2 ∧ W.grownBy w' (some p) := by
  have c := hid (num_src p 1 o W h (by omega) (by omega))
  generalize numO 1 o = R at *
  obtain ⟨v, o'⟩ := R
  simp only at *
  have hw : IntKind.u8.wrap (v : Int) = ((v % 256 : Nat) : Int) := by rw [IntKind.wrap_u8]; omega
  clear h
  go_enter Try.func54, Try.ntmps54
  go_wp2_with (go_at_call 51; refine c.out.mono ?_; rintro e w1 ⟨rfl, hS, hg⟩; replace hS := hid hS; replace hg := hid hg)
  go_ret
  exact ⟨by simp, hS.out, hg.out⟩

end Go.Proofs.Ytbpcekhfjkodcaa
