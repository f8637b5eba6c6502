/- What a source is in memory; what its next, Num and Read do; no statement of the seat is proved here. -/
import Derived.Test.YtndlogjmnbgegaaDoorAd
namespace Go.Proofs.YtndlogjmnbgegaaDoor
open Go.RowKit

theorem grow_trans {p : Nat} {a b c : World} (h : a.grownBy b (some p)) (k : b.grownBy c (some p)) : a.grownBy c (some p) :=
  ⟨k.os.trans h.os, k.tape.trans h.tape, k.output.trans h.output, Nat.le_trans h.size k.size, fun i hi hne => (k.block i (Nat.lt_of_lt_of_le hi h.size) hne).trans (h.block i hi hne)⟩

theorem grow_below {p : Nat} {a b : World} (h : Below a.heap.size a b) : a.grownBy b (some p) := ⟨h.os, h.tape, h.output, h.size, fun k hk _ => h.block k hk⟩

theorem grow_cell {p : Nat} {a b : World} (h : a.grownBy b (some p)) {x : Addr} {v : Value} (hc : a.cell? x = some v) (hne : x.block ≠ p) : b.cell? x = some v := by
  rw [World.cell?_of_block (h.block x.block (lt_cell hc) (by simpa using hne))]; exact hc

/-- A source that a call made, without an error: these bytes are left. -/
def SrcAt (W : World) (p : Nat) (xs : List Nat) : Prop :=
  ∃ b off n cap, W.heap[p]? = some (.cells #[.bool true, .slice (some ⟨b, off, none⟩) n cap, .int .i64 0] 85 (0, 0)) ∧ Rd W (some ⟨b, off, none⟩) n cap xs ∧ n ≤ 9223372036854775807 ∧ b ≠ p

theorem SrcAt.keep {W W' : World} {p : Nat} {xs : List Nat} (h : SrcAt W p xs) (hb : Below W.heap.size W W') : SrcAt W' p xs := by
  obtain ⟨b, off, n, cap, hp, hr, hn, hne⟩ := h
  exact ⟨b, off, n, cap, by rw [hb.block p (lt_of_block hp)]; exact hp, hr.keep hb, hn, hne⟩

theorem src_cells {W : World} {p : Nat} {a b c : Value} (h : W.heap[p]? = some (.cells #[a, b, c] 85 (0, 0))) :
    W.cell? ⟨p, 0, none⟩ = some a ∧ W.cell? ⟨p, 1, none⟩ = some b ∧ W.cell? ⟨p, 2, none⟩ = some c ∧ W.frozen? ⟨p, 1, none⟩ = false ∧ W.frozen? ⟨p, 2, none⟩ = false := by
  simp [World.cell?, World.frozen?, h]

theorem src_set {W : World} {p : Nat} {a b c v : Value} (h : W.heap[p]? = some (.cells #[a, b, c] 85 (0, 0))) : (W.setCell ⟨p, 1, none⟩ v).heap[p]? = some (.cells #[a, v, c] 85 (0, 0)) := by
  rw [heap_setCell_same W p 1 _ 85 v h]; simp

theorem grow_set (W : World) (p : Nat) (i : Nat) (v : Value) : W.grownBy (W.setCell ⟨p, i, none⟩ v) (some p) :=
  ⟨rfl, rfl, rfl, by simp, fun k _ hk => heap_setCell_other W ⟨p, i, none⟩ k v (fun e => hk (by simp [e]))⟩

theorem rd_set {W : World} {p i : Nat} {v : Value} {ao : Option Addr} {n cap : Nat} {xs : List Nat} (h : Rd W ao n cap xs) (hne : ∀ b off, ao = some ⟨b, off, none⟩ → b ≠ p) : Rd (W.setCell ⟨p, i, none⟩ v) ao n cap xs := by
  refine ⟨h.1, h.2.1, h.2.2.1, fun hp => ?_⟩
  obtain ⟨b, off, e, hc⟩ := h.2.2.2 hp
  exact ⟨b, off, e, fun t ht => grow_cell (grow_set W p i v) (hc t ht) (hne b off e)⟩

/-- All but the first byte. -/
theorem Rd.tail {W : World} {b off n cap c : Nat} {r : List Nat} (h : Rd W (some ⟨b, off, none⟩) n cap (c :: r)) : (cap = 1 → Rd W (some ⟨b, off, none⟩) (n - 1) (cap - 1) r) ∧ (¬ cap = 1 → Rd W (some ⟨b, off + 1, none⟩) (n - 1) (cap - 1) r) := by
  obtain ⟨hl, hc, hno, hat⟩ := h
  simp at hl
  constructor
  · intro h1
    refine ⟨by omega, by omega, fun h => (by cases h), fun hp => ?_⟩
    omega
  · intro h1
    refine ⟨by omega, by omega, fun h => (by cases h), fun hp => ⟨b, off + 1, rfl, fun t ht => ?_⟩⟩
    obtain ⟨b', off', e, hcell⟩ := hat (by omega)
    simp only [Option.some.injEq, Addr.mk.injEq, and_true] at e
    obtain ⟨rfl, rfl⟩ := e
    have := hcell (t + 1) (by omega)
    rw [show off + 1 + t = off + (t + 1) by omega, this]
    simp [List.getD]

set_option maxHeartbeats 1000000 in
theorem next_more (p c : Nat) (r : List Nat) (W : World) (h : SrcAt W p (c :: r)) :
    Calls Tryd.prog 54 #[.pointer (some ⟨p, 0, none⟩)] W fun e w' => e = .returned (.tuple #[.int .u8 (c : Int), .bool true]) ∧ SrcAt w' p r ∧ W.grownBy w' (some p) := by
  obtain ⟨b, off, n, cap, hp, hr, hn, hb⟩ := h
  have hl := hr.1
  simp at hl
  obtain ⟨b', off', e, hc⟩ := hr.2.2.2 (by omega)
  simp only [Option.some.injEq, Addr.mk.injEq, and_true] at e
  obtain ⟨rfl, rfl⟩ := e
  have hc0 := hc 0 (by omega)
  simp [List.getD] at hc0
  have hcap := hr.2.1
  obtain ⟨s0, s1, s2, f1, f2⟩ := src_cells hp
  have ht := hr.tail
  have hr' := hid hr
  have hp' := hid hp
  have h0 : ((n : Int) == 0) = false := by simp; omega
  have hn0 : (0 : Int) < (n : Int) := by omega
  have hn1 : (1 : Int) ≤ (n : Int) := by omega
  have ht' := hid ht
  have hl' : 1 ≤ n := by omega
  clear hc hr hp ht
  by_cases h1 : cap = 1
  · have ht2 := hid (ht'.out.1 h1)
    obtain rfl : n = 1 := by omega
    subst h1
    go_enter Tryd.func54, Tryd.ntmps54
    go_wp2
    go_ret2
    exact ⟨rfl, ⟨_, _, _, _, src_set hp'.out, rd_set ht2.out (fun _ _ e => by simp only [Option.some.injEq, Addr.mk.injEq, and_true] at e; rw [← e.1]; exact hb), by omega, hb⟩, grow_set _ _ _ _⟩
  · have ht2 := hid (ht'.out.2 h1)
    go_enter Tryd.func54, Tryd.ntmps54
    go_wp2
    go_ret2
    exact ⟨rfl, ⟨_, _, _, _, src_set hp'.out, rd_set ht2.out (fun _ _ e => by simp only [Option.some.injEq, Addr.mk.injEq, and_true] at e; rw [← e.1]; exact hb), by omega, hb⟩, grow_set _ _ _ _⟩

set_option maxHeartbeats 400000 in
theorem next_end (p : Nat) (W : World) (h : SrcAt W p []) : Calls Tryd.prog 54 #[.pointer (some ⟨p, 0, none⟩)] W fun e w' => e = .returned (.tuple #[.int .u8 0, .bool false]) ∧ W = w' := by
  obtain ⟨b, off, n, cap, hp, hr, hn, hne⟩ := h
  obtain rfl : n = 0 := by have := hr.1; simpa using this.symm
  obtain ⟨s0, s1, s2, f1, f2⟩ := src_cells hp
  clear hp hr hn hne
  go_enter Tryd.func54, Tryd.ntmps54
  go_wp2
  go_ret2
  exact ⟨rfl, rfl⟩

set_option maxHeartbeats 400000 in
theorem err_ok (p : Nat) (xs : List Nat) (W : World) (h : SrcAt W p xs) : Calls Tryd.prog 50 #[.pointer (some ⟨p, 0, none⟩)] W fun e w' => e = .returned (.int .i64 0) ∧ W = w' := by
  obtain ⟨b, off, n, cap, hp, hr, hn, hne⟩ := h
  obtain ⟨s0, s1, s2, f1, f2⟩ := src_cells hp
  clear hp hr hn hne
  go_enter Tryd.func50, Tryd.ntmps50
  go_wp2
  go_ret
  exact ⟨rfl, rfl⟩

/-- A source on its way through xs. -/
def On (w : World) (p : Nat) (xs : List Nat) (k : Nat) (W : World) : Prop := SrcAt W p (xs.drop k) ∧ w.grownBy W (some p)

theorem on_more (w : World) (p : Nat) (xs : List Nat) (k : Nat) (W : World) (h : On w p xs k W) (hk : k < xs.length) :
    Calls Tryd.prog 54 #[.pointer (some ⟨p, 0, none⟩)] W fun e w' => e = .returned (.tuple #[.int .u8 ((xs.getD k 0 : Nat) : Int), .bool true]) ∧ On w p xs (k + 1) w' := by
  have h1 := h.1
  rw [drop_getD xs k hk] at h1
  exact (next_more p _ _ W h1).mono fun e w' ⟨he, hs, hg⟩ => ⟨he, hs, grow_trans h.2 hg⟩

theorem on_end (w : World) (p : Nat) (xs : List Nat) (W : World) (h : On w p xs xs.length W) :
    Calls Tryd.prog 54 #[.pointer (some ⟨p, 0, none⟩)] W fun e w' => e = .returned (.tuple #[.int .u8 0, .bool false]) ∧ On w p xs xs.length w' := by
  have h1 := h.1
  rw [List.drop_length] at h1
  exact (next_end p W h1).mono fun e w' ⟨he, hs⟩ => ⟨he, hs ▸ h⟩

set_option maxHeartbeats 1000000 in
set_option maxRecDepth 20000 in
theorem gather_src (p : Nat) (xs : List Nat) (hx : ∀ x ∈ xs, x < 256) (s : Nat) (l : Bool) (hs : s ≤ xs.length) (h8 : s ≤ 8) (St : Nat → World → Prop)
    (hmore : ∀ k W, St k W → k < xs.length → Calls Tryd.prog 54 #[.pointer (some ⟨p, 0, none⟩)] W fun e w' => e = .returned (.tuple #[.int .u8 ((xs.getD k 0 : Nat) : Int), .bool true]) ∧ St (k + 1) w')
    (w : World) (h0 : St 0 w) :
    Calls Tryd.prog 53 #[.func (.func 54) #[.pointer (some ⟨p, 0, none⟩)] #[], .int .i64 s, .bool l] w fun e w' =>
      e = .returned (.int .u64 (psum xs s l s : Nat)) ∧ St s w' := by
  have hmore' := hid hmore
  have hx' := hid hx
  have h0' := hid h0
  clear hmore hx h0
  go_enter Tryd.func53, Tryd.ntmps53
  go_wp2
  go_loopw [7, 12] (fun a c W => ∃ (i : Nat), i ≤ s ∧ a = .int .u64 (psum xs s l i : Nat) ∧ c = .int .i64 (i : Int) ∧ St i W) (fun _ c _ => s - (intOf c).toNat)
  case atStart => exact ⟨0, by omega, rfl, rfl, h0'.out⟩
  case round =>
    obtain ⟨i, hi, rfl, rfl, hS⟩ := hrel
    have hS' := hid hS
    clear hS
    by_cases his : i < s
    · have c := hid (hmore'.out i wr hS'.out (by omega))
      obtain ⟨sh, q, csh, _, hshl, _⟩ := shift_named (xs.getD i 0) i s l his h8
      have hor := bits_or_u64_nat (psum xs s l i) (xs.getD i 0 * 2 ^ (8 * place l s i)) (psum_lt xs s l hx'.out hs h8 i (by omega)) (getD_term_lt xs s l hx'.out hs h8 i his)
      rw [psum_or xs s l hx'.out hs i his] at hor
      have hw : IntKind.u64.wrap ((xs.getD i 0 * 2 ^ (8 * place l s i) : Nat) : Int) = ((xs.getD i 0 * 2 ^ (8 * place l s i) : Nat) : Int) := by
        rw [IntKind.wrap_u64]; have := getD_term_lt xs s l hx'.out hs h8 i his; omega
      rw [hw] at hshl
      have hX2 := getD_lt hx'.out i (by omega)
      have csh' := hid csh
      clear hw csh
      generalize xs.getD i 0 * 2 ^ (8 * place l s i) = t at *
      obtain ⟨P1, hP1⟩ : ∃ P, P = psum xs s l (i + 1) := ⟨_, rfl⟩
      rw [← hP1] at hor
      generalize psum xs s l i = P0 at *
      generalize xs.getD i 0 = X at *
      have hP1' := hid hP1
      clear hP1
      go_wp2_with (first | (go_at_call 54; refine c.out.mono ?_; rintro e w1 ⟨rfl, hS1⟩) | (go_at_call 46; refine (csh'.out _).mono ?_; rintro e w2 ⟨rfl, hw2⟩; obtain rfl := hw2.symm))
      exact ⟨⟨i + 1, by omega, by rw [hP1'.out], by go_num, hS1⟩, by simp [intOf]; omega⟩
    · obtain rfl : i = s := by omega
      go_wp2
      go_ret
      exact ⟨rfl, hS'.out⟩

set_option maxHeartbeats 400000 in
theorem read_ok (ao : Option Addr) (n cap : Nat) (xs : List Nat) (w : World) (h : Rd w ao n cap xs) (hn : n ≤ 140737488355328) :
    Calls Tryd.prog 39 #[.slice ao n cap] w fun e w' => ∃ p, e = .returned (.pointer (some ⟨p, 0, none⟩)) ∧ w.heap.size ≤ p ∧ SrcAt w' p xs ∧ Below w.heap.size w w' := by
  have cw : Hid (Calls Tryd.prog 45 #[.slice ao n cap, .int .i64 0] w fun e w' => e = .returned (.slice (some ⟨w.heap.size, 0, none⟩) n n) ∧
      w'.ownsRow w.heap.size 5 1 (.slice (some ⟨w.heap.size, 0, none⟩) n n) n (bs xs) ∧ Below w.heap.size w w') := hid (by simpa using widened_any ao n cap 0 xs w h (by omega))
  clear h
  go_enter Tryd.func39, Tryd.ntmps39
  go_wp2_with (go_at_call 45; refine cw.out.mono ?_; rintro e w1 ⟨rfl, ho1, hb1⟩)
  go_ret
  refine ⟨w1.heap.size, rfl, hb1.size, ⟨_, _, _, _, heap_alloc_new w1 _, (rd_own ho1).keep (Below.alloc (Below.refl _ _) (Nat.le_refl _) _), by omega, ?_⟩, Below.alloc hb1 hb1.size _⟩
  have := (ho1.lt w.heap.size (by rfl)).2
  omega

set_option maxHeartbeats 1000000 in
theorem num_k (p : Nat) (xs : List Nat) (s : Nat) (l : Bool) (W : World) (h : SrcAt W p xs) (hx : ∀ x ∈ xs, x < 256) (h1 : 1 ≤ s) (h8 : s ≤ 8) (hs : s ≤ xs.length) :
    Calls Tryd.prog 40 #[.pointer (some ⟨p, 0, none⟩), .int .i64 (s : Int), .bool l] W fun e w' => e = .returned (.int .u64 (psum xs s l s : Nat)) ∧ SrcAt w' p (xs.drop s) ∧ W.grownBy w' (some p) := by
  have c26 := hid (err_ok p xs W h)
  have c27 := hid (sized_any (s : Int))
  rw [show (decide ((1 : Int) ≤ (s : Int)) && decide ((s : Int) ≤ 8)) = true by simp; omega] at c27
  have c28 := hid (gather_src p xs hx s l hs h8 (On W p xs) (fun k W' hS hk => on_more W p xs k W' hS hk) W ⟨by simpa using h, World.grownBy.refl _ _⟩)
  obtain ⟨b, off, n, cap, hp, hr, hn, hne⟩ := h
  obtain ⟨s0, s1, s2, f1, f2⟩ := src_cells hp
  have hl := hr.1
  have hn8 : ¬ (n : Int) < (s : Int) := by omega
  generalize psum xs s l s = R at *
  clear hp hr hne hx hl h8 h1 hs
  go_enter Tryd.func40, Tryd.ntmps40
  go_wp2_with (first | (go_at_call 50; refine c26.out.mono ?_; rintro e w1 ⟨rfl, rfl⟩) | (go_at_call 52; refine (c27.out _).mono ?_; rintro e w2 ⟨rfl, hw2⟩; obtain rfl := hw2.symm) | (go_at_call 53; refine c28.out.mono ?_; rintro e w3 ⟨rfl, hS⟩; replace hS := hid hS))
  go_ret
  exact ⟨rfl, hS.out.1, hS.out.2⟩

end Go.Proofs.YtndlogjmnbgegaaDoor
