/- What a source is in memory, and what its next does; no statement of the seat is proved here. -/
import Derived.Test.YtbpcekhfjkodcaaOBn
import Derived.Test.YtbpcekhfjkodcaaOBj
namespace Go.Proofs.Ytbpcekhfjkodcaa
open Go.RowKit

theorem grow_trans {p : Nat} {a b c : World} (h : a.grownBy b (some p)) (k : b.grownBy c (some p)) : a.grownBy c (some p) :=
  ⟨k.os.trans h.os, k.tape.trans h.tape, k.output.trans h.output, Nat.le_trans h.size k.size, fun i hi hne => (k.block i (Nat.lt_of_lt_of_le hi h.size) hne).trans (h.block i hi hne)⟩

theorem grow_below {p : Nat} {a b : World} (h : Below a.heap.size a b) : a.grownBy b (some p) := ⟨h.os, h.tape, h.output, h.size, fun k hk _ => h.block k hk⟩

theorem grow_cell {p : Nat} {a b : World} (h : a.grownBy b (some p)) {x : Addr} {v : Value} (hc : a.cell? x = some v) (hne : x.block ≠ p) : b.cell? x = some v := by
  rw [World.cell?_of_block (h.block x.block (lt_cell hc) (by simpa using hne))]; exact hc

/-- A block of bytes. -/
def T5 (W : World) (b : Nat) : Prop := ∃ (C : Array Value) (m : Nat × Nat), W.heap[b]? = some (.cells C 5 m)
/-- All blocks of bytes stay. -/
def Five (W W' : World) : Prop := ∀ (b : Nat) (C : Array Value) (m : Nat × Nat), W.heap[b]? = some (.cells C 5 m) → W'.heap[b]? = some (.cells C 5 m)
theorem Five.refl (W : World) : Five W W := fun _ _ _ h => h
theorem Five.trans {a b c : World} (h : Five a b) (k : Five b c) : Five a c := fun x C m hx => k x C m (h x C m hx)
theorem T5.five {W W' : World} {b : Nat} (h : T5 W b) (k : Five W W') : T5 W' b := by obtain ⟨C, m, hx⟩ := h; exact ⟨C, m, k b C m hx⟩
theorem five_below {W W' : World} (h : Below W.heap.size W W') : Five W W' := fun b C m hx => by rw [h.block b (lt_of_block hx)]; exact hx
theorem five_grown {W W' : World} {p : Nat} {C : Array Value} {t : TypeId} {m : Nat × Nat} (hp : W.heap[p]? = some (.cells C t m)) (ht : t ≠ 5) (h : W.grownBy W' (some p)) : Five W W' := fun b C' m' hx => by
  rw [h.block b (lt_of_block hx) (by intro e; cases e; rw [hp] at hx; simp only [Option.some.injEq, Obj.cells.injEq] at hx; exact ht hx.2.1)]; exact hx
theorem five_set {W : World} {p i : Nat} {v : Value} {C : Array Value} {t : TypeId} {m : Nat × Nat} (hp : W.heap[p]? = some (.cells C t m)) (ht : t ≠ 5) : Five W (W.setCell ⟨p, i, none⟩ v) := fun b C' m' hx => by
  rw [heap_setCell_other W ⟨p, i, none⟩ b v (by intro e; simp only at e; subst e; rw [hp] at hx; simp only [Option.some.injEq, Obj.cells.injEq] at hx; exact ht hx.2.1)]; exact hx
theorem T5.keep {W W' : World} {b : Nat} (h : T5 W b) (k : Below W.heap.size W W') : T5 W' b := h.five (five_below k)
theorem t5_ne {W : World} {b p : Nat} {C : Array Value} {m : Nat × Nat} (hp : W.heap[p]? = some (.cells C 102 m)) (h : T5 W b) : b ≠ p := by
  rintro rfl
  obtain ⟨C', m', hx⟩ := h
  rw [hp] at hx
  simp only [Option.some.injEq, Obj.cells.injEq] at hx
  exact absurd hx.2.1 (by decide)
theorem Rd.five {W W' : World} {ao : Option Addr} {n cap : Nat} {xs : List Nat} (h : Rd W ao n cap xs) (h5 : 0 < n → ∀ b o, ao = some ⟨b, o, none⟩ → T5 W b) (k : Five W W') : Rd W' ao n cap xs := by
  refine ⟨h.1, h.2.1, h.2.2.1, fun hp => ?_⟩
  obtain ⟨b, off, e, hc⟩ := h.2.2.2 hp
  obtain ⟨C, m, hx⟩ := h5 hp b off e
  refine ⟨b, off, e, fun t ht => ?_⟩
  rw [World.cell?_of_block ((k b C m hx).trans hx.symm)]; exact hc t ht

/-- A source that a call made, without an error: these bytes are left. -/
def SrcAt (W : World) (p : Nat) (xs : List Nat) : Prop :=
  ∃ b off n cap, W.heap[p]? = some (.cells #[.bool true, .slice (some ⟨b, off, none⟩) n cap, .int .i64 0] 102 (0, 0)) ∧ Rd W (some ⟨b, off, none⟩) n cap xs ∧ n ≤ 9223372036854775807 ∧ T5 W b

theorem SrcAt.keep {W W' : World} {p : Nat} {xs : List Nat} (h : SrcAt W p xs) (hb : Below W.heap.size W W') : SrcAt W' p xs := by
  obtain ⟨b, off, n, cap, hp, hr, hn, h5⟩ := h
  exact ⟨b, off, n, cap, by rw [hb.block p (lt_of_block hp)]; exact hp, hr.keep hb, hn, h5.keep hb⟩

theorem src_cells {W : World} {p : Nat} {a b c : Value} (h : W.heap[p]? = some (.cells #[a, b, c] 102 (0, 0))) :
    W.cell? ⟨p, 0, none⟩ = some a ∧ W.cell? ⟨p, 1, none⟩ = some b ∧ W.cell? ⟨p, 2, none⟩ = some c ∧ W.frozen? ⟨p, 1, none⟩ = false ∧ W.frozen? ⟨p, 2, none⟩ = false := by
  simp [World.cell?, World.frozen?, h]

theorem src_set {W : World} {p : Nat} {a b c v : Value} (h : W.heap[p]? = some (.cells #[a, b, c] 102 (0, 0))) : (W.setCell ⟨p, 1, none⟩ v).heap[p]? = some (.cells #[a, v, c] 102 (0, 0)) := by
  rw [heap_setCell_same W p 1 _ 102 v h]; simp

theorem grow_set (W : World) (p : Nat) (i : Nat) (v : Value) : W.grownBy (W.setCell ⟨p, i, none⟩ v) (some p) :=
  ⟨rfl, rfl, rfl, by simp, fun k _ hk => heap_setCell_other W ⟨p, i, none⟩ k v (fun e => hk (by simp [e]))⟩

theorem rd_set {W : World} {p i : Nat} {v : Value} {ao : Option Addr} {n cap : Nat} {xs : List Nat} (h : Rd W ao n cap xs) (hne : ∀ b off, ao = some ⟨b, off, none⟩ → b ≠ p) : Rd (W.setCell ⟨p, i, none⟩ v) ao n cap xs := by
  refine ⟨h.1, h.2.1, h.2.2.1, fun hp => ?_⟩
  obtain ⟨b, off, e, hc⟩ := h.2.2.2 hp
  exact ⟨b, off, e, fun t ht => grow_cell (grow_set W p i v) (hc t ht) (hne b off e)⟩

/-- All but the first byte. -/
theorem Rd.tail {W : World} {b off n cap c : Nat} {r : List Nat} (h : Rd W (some ⟨b, off, none⟩) n cap (c :: r)) : (cap = 1 → Rd W (some ⟨b, off, none⟩) (n - 1) (cap - 1) r) ∧ (¬ cap = 1 → Rd W (some ⟨b, off + 1, none⟩) (n - 1) (cap - 1) r) := by
  obtain ⟨hl, hc, hno, hat⟩ := h
  simp at hl
  constructor
  · intro h1
    refine ⟨by omega, by omega, fun h => (by cases h), fun hp => ?_⟩
    omega
  · intro h1
    refine ⟨by omega, by omega, fun h => (by cases h), fun hp => ⟨b, off + 1, rfl, fun t ht => ?_⟩⟩
    obtain ⟨b', off', e, hcell⟩ := hat (by omega)
    simp only [Option.some.injEq, Addr.mk.injEq, and_true] at e
    obtain ⟨rfl, rfl⟩ := e
    have := hcell (t + 1) (by omega)
    rw [show off + 1 + t = off + (t + 1) by omega, this]
    simp [List.getD]

set_option maxHeartbeats 1000000 in
theorem next_more (p c : Nat) (r : List Nat) (W : World) (h : SrcAt W p (c :: r)) :
    Calls Try.prog 74 #[.pointer (some ⟨p, 0, none⟩)] W fun e w' => e = .returned (.tuple #[.int .u8 (c : Int), .bool true]) ∧ SrcAt w' p r ∧ W.grownBy w' (some p) := by
  obtain ⟨b, off, n, cap, hp, hr, hn, h5⟩ := h
  have hb := t5_ne hp h5
  have h5s : Hid (∀ v, T5 (W.setCell ⟨p, 1, none⟩ v) b) := hid (fun v => h5.five (five_set hp (by decide)))
  clear h5
  have hl := hr.1
  simp at hl
  obtain ⟨b', off', e, hc⟩ := hr.2.2.2 (by omega)
  simp only [Option.some.injEq, Addr.mk.injEq, and_true] at e
  obtain ⟨rfl, rfl⟩ := e
  have hc0 := hc 0 (by omega)
  simp [List.getD] at hc0
  have hcap := hr.2.1
  obtain ⟨s0, s1, s2, f1, f2⟩ := src_cells hp
  have ht := hr.tail
  have hr' := hid hr
  have hp' := hid hp
  have h0 : ((n : Int) == 0) = false := by simp; omega
  have hn0 : (0 : Int) < (n : Int) := by omega
  have hn1 : (1 : Int) ≤ (n : Int) := by omega
  have ht' := hid ht
  have hl' : 1 ≤ n := by omega
  clear hc hr hp ht
  by_cases h1 : cap = 1
  · have ht2 := hid (ht'.out.1 h1)
    obtain rfl : n = 1 := by omega
    subst h1
    go_enter Try.func74, Try.ntmps74
    go_wp2
    go_ret2
    exact ⟨rfl, ⟨_, _, _, _, src_set hp'.out, rd_set ht2.out (fun _ _ e => by simp only [Option.some.injEq, Addr.mk.injEq, and_true] at e; rw [← e.1]; exact hb), by omega, h5s.out _⟩, grow_set _ _ _ _⟩
  · have ht2 := hid (ht'.out.2 h1)
    go_enter Try.func74, Try.ntmps74
    go_wp2
    go_ret2
    exact ⟨rfl, ⟨_, _, _, _, src_set hp'.out, rd_set ht2.out (fun _ _ e => by simp only [Option.some.injEq, Addr.mk.injEq, and_true] at e; rw [← e.1]; exact hb), by omega, h5s.out _⟩, grow_set _ _ _ _⟩

set_option maxHeartbeats 400000 in
theorem next_end (p : Nat) (W : World) (h : SrcAt W p []) : Calls Try.prog 74 #[.pointer (some ⟨p, 0, none⟩)] W fun e w' => e = .returned (.tuple #[.int .u8 0, .bool false]) ∧ W = w' := by
  obtain ⟨b, off, n, cap, hp, hr, hn, h5⟩ := h
  obtain rfl : n = 0 := by have := hr.1; simpa using this.symm
  obtain ⟨s0, s1, s2, f1, f2⟩ := src_cells hp
  clear hp hr hn h5
  go_enter Try.func74, Try.ntmps74
  go_wp2
  go_ret2
  exact ⟨rfl, rfl⟩

set_option maxHeartbeats 400000 in
theorem err_ok (p : Nat) (xs : List Nat) (W : World) (h : SrcAt W p xs) : Calls Try.prog 58 #[.pointer (some ⟨p, 0, none⟩)] W fun e w' => e = .returned (.int .i64 0) ∧ W = w' := by
  obtain ⟨b, off, n, cap, hp, hr, hn, h5⟩ := h
  obtain ⟨s0, s1, s2, f1, f2⟩ := src_cells hp
  clear hp hr hn h5
  go_enter Try.func58, Try.ntmps58
  go_wp2
  go_ret
  exact ⟨rfl, rfl⟩

/-- A source on its way through xs. -/
def On (w : World) (p : Nat) (xs : List Nat) (k : Nat) (W : World) : Prop := SrcAt W p (xs.drop k) ∧ w.grownBy W (some p)

theorem on_more (w : World) (p : Nat) (xs : List Nat) (k : Nat) (W : World) (h : On w p xs k W) (hk : k < xs.length) :
    Calls Try.prog 74 #[.pointer (some ⟨p, 0, none⟩)] W fun e w' => e = .returned (.tuple #[.int .u8 ((xs.getD k 0 : Nat) : Int), .bool true]) ∧ On w p xs (k + 1) w' := by
  have h1 := h.1
  rw [drop_getD xs k hk] at h1
  exact (next_more p _ _ W h1).mono fun e w' ⟨he, hs, hg⟩ => ⟨he, hs, grow_trans h.2 hg⟩

theorem on_end (w : World) (p : Nat) (xs : List Nat) (W : World) (h : On w p xs xs.length W) :
    Calls Try.prog 74 #[.pointer (some ⟨p, 0, none⟩)] W fun e w' => e = .returned (.tuple #[.int .u8 0, .bool false]) ∧ On w p xs xs.length w' := by
  have h1 := h.1
  rw [List.drop_length] at h1
  exact (next_end p W h1).mono fun e w' ⟨he, hs⟩ => ⟨he, hs ▸ h⟩

end Go.Proofs.Ytbpcekhfjkodcaa
