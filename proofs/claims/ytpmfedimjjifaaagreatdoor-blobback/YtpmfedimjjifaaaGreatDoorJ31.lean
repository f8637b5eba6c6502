/- The program's source of bytes, in order; no statement of the seat is proved here. -/
import Derived.Test.YtpmfedimjjifaaaGreatDoorJ16
import Derived.ProofKit
import Derived.OpenShut
import Derived.ChangeSlices
import Derived.Test.YtpmfedimjjifaaaGreatDoorJ30
import Derived.Test.YtpmfedimjjifaaaGreatDoorJ13
import Derived.Test.YtpmfedimjjifaaaGreatDoorJ23
namespace Go.Proofs.YtpmfedimjjifaaaGreatDoor
namespace Oct
open Go.RowKit

set_option maxRecDepth 100000 in
theorem grow_trans {p : Nat} {a b c : World} (h : a.grownBy b (some p)) (k : b.grownBy c (some p)) : a.grownBy c (some p) :=
  ⟨k.os.trans h.os, k.tape.trans h.tape, k.output.trans h.output, Nat.le_trans h.size k.size, fun i hi hne => (k.block i (Nat.lt_of_lt_of_le hi h.size) hne).trans (h.block i hi hne)⟩

set_option maxRecDepth 100000 in
theorem grow_below {p : Nat} {a b : World} (h : Below a.heap.size a b) : a.grownBy b (some p) := ⟨h.os, h.tape, h.output, h.size, fun k hk _ => h.block k hk⟩

set_option maxRecDepth 100000 in
theorem grow_cell {p : Nat} {a b : World} (h : a.grownBy b (some p)) {x : Addr} {v : Value} (hc : a.cell? x = some v) (hne : x.block ≠ p) : b.cell? x = some v := by
  rw [World.cell?_of_block (h.block x.block (lt_cell hc) (by simpa using hne))]; exact hc

/-- A block of bytes. -/
def T5 (W : World) (b : Nat) : Prop := ∃ (C : Array Value) (m : Nat × Nat), W.heap[b]? = some (.cells C 5 m)
/-- All blocks of bytes stay. -/
def Five (W W' : World) : Prop := ∀ (b : Nat) (C : Array Value) (m : Nat × Nat), W.heap[b]? = some (.cells C 5 m) → W'.heap[b]? = some (.cells C 5 m)
set_option maxRecDepth 100000 in
theorem Five.refl (W : World) : Five W W := fun _ _ _ h => h
set_option maxRecDepth 100000 in
theorem Five.trans {a b c : World} (h : Five a b) (k : Five b c) : Five a c := fun x C m hx => k x C m (h x C m hx)
set_option maxRecDepth 100000 in
theorem T5.five {W W' : World} {b : Nat} (h : T5 W b) (k : Five W W') : T5 W' b := by obtain ⟨C, m, hx⟩ := h; exact ⟨C, m, k b C m hx⟩
set_option maxRecDepth 100000 in
theorem five_below {W W' : World} (h : Below W.heap.size W W') : Five W W' := fun b C m hx => by rw [h.block b (lt_of_block hx)]; exact hx
set_option maxRecDepth 100000 in
theorem five_grown {W W' : World} {p : Nat} {C : Array Value} {t : TypeId} {m : Nat × Nat} (hp : W.heap[p]? = some (.cells C t m)) (ht : t ≠ 5) (h : W.grownBy W' (some p)) : Five W W' := fun b C' m' hx => by
  rw [h.block b (lt_of_block hx) (by intro e; cases e; rw [hp] at hx; simp only [Option.some.injEq, Obj.cells.injEq] at hx; exact ht hx.2.1)]; exact hx
set_option maxRecDepth 100000 in
theorem five_set {W : World} {p i : Nat} {v : Value} {C : Array Value} {t : TypeId} {m : Nat × Nat} (hp : W.heap[p]? = some (.cells C t m)) (ht : t ≠ 5) : Five W (W.setCell ⟨p, i, none⟩ v) := fun b C' m' hx => by
  rw [heap_setCell_other W ⟨p, i, none⟩ b v (by intro e; simp only at e; subst e; rw [hp] at hx; simp only [Option.some.injEq, Obj.cells.injEq] at hx; exact ht hx.2.1)]; exact hx
set_option maxRecDepth 100000 in
theorem T5.keep {W W' : World} {b : Nat} (h : T5 W b) (k : Below W.heap.size W W') : T5 W' b := h.five (five_below k)
set_option maxRecDepth 100000 in
theorem t5_ne {W : World} {b p : Nat} {C : Array Value} {m : Nat × Nat} (hp : W.heap[p]? = some (.cells C 123 m)) (h : T5 W b) : b ≠ p := by
  rintro rfl
  obtain ⟨C', m', hx⟩ := h
  rw [hp] at hx
  simp only [Option.some.injEq, Obj.cells.injEq] at hx
  exact absurd hx.2.1 (by decide)
set_option maxRecDepth 100000 in
theorem _root_.Go.Proofs.YtpmfedimjjifaaaGreatDoor.Rd.five {W W' : World} {ao : Option Addr} {n cap : Nat} {xs : List Nat} (h : Rd W ao n cap xs) (h5 : 0 < n → ∀ b o, ao = some ⟨b, o, none⟩ → T5 W b) (k : Five W W') : Rd W' ao n cap xs := by
  refine ⟨h.1, h.2.1, h.2.2.1, fun hp => ?_⟩
  obtain ⟨b, off, e, hc⟩ := h.2.2.2 hp
  obtain ⟨C, m, hx⟩ := h5 hp b off e
  refine ⟨b, off, e, fun t ht => ?_⟩
  rw [World.cell?_of_block ((k b C m hx).trans hx.symm)]; exact hc t ht

/-- A source that a call made, without an error: these bytes are left. -/
def SrcAt (W : World) (p : Nat) (xs : List Nat) : Prop :=
  ∃ b off n cap, W.heap[p]? = some (.cells #[.bool true, .slice (some ⟨b, off, none⟩) n cap, .int .i64 0] 123 (0, 0)) ∧ Rd W (some ⟨b, off, none⟩) n cap xs ∧ n ≤ 9223372036854775807 ∧ T5 W b

set_option maxRecDepth 100000 in
theorem SrcAt.keep {W W' : World} {p : Nat} {xs : List Nat} (h : SrcAt W p xs) (hb : Below W.heap.size W W') : SrcAt W' p xs := by
  obtain ⟨b, off, n, cap, hp, hr, hn, h5⟩ := h
  exact ⟨b, off, n, cap, by rw [hb.block p (lt_of_block hp)]; exact hp, hr.keep hb, hn, h5.keep hb⟩

set_option maxRecDepth 100000 in
theorem src_cells {W : World} {p : Nat} {a b c : Value} (h : W.heap[p]? = some (.cells #[a, b, c] 123 (0, 0))) :
    W.cell? ⟨p, 0, none⟩ = some a ∧ W.cell? ⟨p, 1, none⟩ = some b ∧ W.cell? ⟨p, 2, none⟩ = some c ∧ W.frozen? ⟨p, 1, none⟩ = false ∧ W.frozen? ⟨p, 2, none⟩ = false := by
  simp [World.cell?, World.frozen?, h]

set_option maxRecDepth 100000 in
theorem src_set {W : World} {p : Nat} {a b c v : Value} (h : W.heap[p]? = some (.cells #[a, b, c] 123 (0, 0))) : (W.setCell ⟨p, 1, none⟩ v).heap[p]? = some (.cells #[a, v, c] 123 (0, 0)) := by
  rw [heap_setCell_same W p 1 _ 123 v h]; simp

set_option maxRecDepth 100000 in
theorem grow_set (W : World) (p : Nat) (i : Nat) (v : Value) : W.grownBy (W.setCell ⟨p, i, none⟩ v) (some p) :=
  ⟨rfl, rfl, rfl, by simp, fun k _ hk => heap_setCell_other W ⟨p, i, none⟩ k v (fun e => hk (by simp [e]))⟩

set_option maxRecDepth 100000 in
theorem rd_set {W : World} {p i : Nat} {v : Value} {ao : Option Addr} {n cap : Nat} {xs : List Nat} (h : Rd W ao n cap xs) (hne : ∀ b off, ao = some ⟨b, off, none⟩ → b ≠ p) : Rd (W.setCell ⟨p, i, none⟩ v) ao n cap xs := by
  refine ⟨h.1, h.2.1, h.2.2.1, fun hp => ?_⟩
  obtain ⟨b, off, e, hc⟩ := h.2.2.2 hp
  exact ⟨b, off, e, fun t ht => grow_cell (grow_set W p i v) (hc t ht) (hne b off e)⟩

set_option maxRecDepth 100000 in
/-- All but the first byte. -/
theorem _root_.Go.Proofs.YtpmfedimjjifaaaGreatDoor.Rd.tail {W : World} {b off n cap c : Nat} {r : List Nat} (h : Rd W (some ⟨b, off, none⟩) n cap (c :: r)) : (cap = 1 → Rd W (some ⟨b, off, none⟩) (n - 1) (cap - 1) r) ∧ (¬ cap = 1 → Rd W (some ⟨b, off + 1, none⟩) (n - 1) (cap - 1) r) := by
  obtain ⟨hl, hc, hno, hat⟩ := h
  simp at hl
  constructor
  · intro h1
    refine ⟨by omega, by omega, fun h => (by cases h), fun hp => ?_⟩
    omega
  · intro h1
    refine ⟨by omega, by omega, fun h => (by cases h), fun hp => ⟨b, off + 1, rfl, fun t ht => ?_⟩⟩
    obtain ⟨b', off', e, hcell⟩ := hat (by omega)
    simp only [Option.some.injEq, Addr.mk.injEq, and_true] at e
    obtain ⟨rfl, rfl⟩ := e
    have := hcell (t + 1) (by omega)
    rw [show off + 1 + t = off + (t + 1) by omega, this]
    simp [List.getD]

set_option maxRecDepth 100000 in
set_option maxHeartbeats 1000000 in
theorem next_more (p c : Nat) (r : List Nat) (W : World) (h : SrcAt W p (c :: r)) :
    Calls Tryz.prog 82 #[.pointer (some ⟨p, 0, none⟩)] W fun e w' => e = .returned (.tuple #[.int .u8 (c : Int), .bool true]) ∧ SrcAt w' p r ∧ W.grownBy w' (some p) := by
  obtain ⟨b, off, n, cap, hp, hr, hn, h5⟩ := h
  have hb := t5_ne hp h5
  have h5s : Hid (∀ v, T5 (W.setCell ⟨p, 1, none⟩ v) b) := hid (fun v => h5.five (five_set hp (by decide)))
  clear h5
  have hl := hr.1
  simp at hl
  obtain ⟨b', off', e, hc⟩ := hr.2.2.2 (by omega)
  simp only [Option.some.injEq, Addr.mk.injEq, and_true] at e
  obtain ⟨rfl, rfl⟩ := e
  have hc0 := hc 0 (by omega)
  simp [List.getD] at hc0
  have hcap := hr.2.1
  obtain ⟨s0, s1, s2, f1, f2⟩ := src_cells hp
  have ht := hr.tail
  have hr' := hid hr
  have hp' := hid hp
  have h0 : ((n : Int) == 0) = false := by simp; omega
  have hn0 : (0 : Int) < (n : Int) := by omega
  have hn1 : (1 : Int) ≤ (n : Int) := by omega
  have ht' := hid ht
  have hl' : 1 ≤ n := by omega
  clear hc hr hp ht
  by_cases h1 : cap = 1
  · have ht2 := hid (ht'.out.1 h1)
    obtain rfl : n = 1 := by omega
    subst h1
    go_enter Tryz.func82, Tryz.ntmps82
    go_wp2
    go_ret2
    exact ⟨rfl, ⟨_, _, _, _, src_set hp'.out, rd_set ht2.out (fun _ _ e => by simp only [Option.some.injEq, Addr.mk.injEq, and_true] at e; rw [← e.1]; exact hb), by omega, h5s.out _⟩, grow_set _ _ _ _⟩
  · have ht2 := hid (ht'.out.2 h1)
    go_enter Tryz.func82, Tryz.ntmps82
    go_wp2
    go_ret2
    exact ⟨rfl, ⟨_, _, _, _, src_set hp'.out, rd_set ht2.out (fun _ _ e => by simp only [Option.some.injEq, Addr.mk.injEq, and_true] at e; rw [← e.1]; exact hb), by omega, h5s.out _⟩, grow_set _ _ _ _⟩

set_option maxRecDepth 100000 in
set_option maxHeartbeats 400000 in
theorem next_end (p : Nat) (W : World) (h : SrcAt W p []) : Calls Tryz.prog 82 #[.pointer (some ⟨p, 0, none⟩)] W fun e w' => e = .returned (.tuple #[.int .u8 0, .bool false]) ∧ W = w' := by
  obtain ⟨b, off, n, cap, hp, hr, hn, h5⟩ := h
  obtain rfl : n = 0 := by have := hr.1; simpa using this.symm
  obtain ⟨s0, s1, s2, f1, f2⟩ := src_cells hp
  clear hp hr hn h5
  go_enter Tryz.func82, Tryz.ntmps82
  go_wp2
  go_ret2
  exact ⟨rfl, rfl⟩

set_option maxRecDepth 100000 in
set_option maxHeartbeats 400000 in
theorem err_ok (p : Nat) (xs : List Nat) (W : World) (h : SrcAt W p xs) : Calls Tryz.prog 78 #[.pointer (some ⟨p, 0, none⟩)] W fun e w' => e = .returned (.int .i64 0) ∧ W = w' := by
  obtain ⟨b, off, n, cap, hp, hr, hn, h5⟩ := h
  obtain ⟨s0, s1, s2, f1, f2⟩ := src_cells hp
  clear hp hr hn h5
  go_enter Tryz.func78, Tryz.ntmps78
  go_wp2
  go_ret
  exact ⟨rfl, rfl⟩

/-- A source on its way through xs. -/
def On (w : World) (p : Nat) (xs : List Nat) (k : Nat) (W : World) : Prop := SrcAt W p (xs.drop k) ∧ w.grownBy W (some p)

set_option maxRecDepth 100000 in
theorem on_more (w : World) (p : Nat) (xs : List Nat) (k : Nat) (W : World) (h : On w p xs k W) (hk : k < xs.length) :
    Calls Tryz.prog 82 #[.pointer (some ⟨p, 0, none⟩)] W fun e w' => e = .returned (.tuple #[.int .u8 ((xs.getD k 0 : Nat) : Int), .bool true]) ∧ On w p xs (k + 1) w' := by
  have h1 := h.1
  rw [drop_getD xs k hk] at h1
  exact (next_more p _ _ W h1).mono fun e w' ⟨he, hs, hg⟩ => ⟨he, hs, grow_trans h.2 hg⟩

set_option maxRecDepth 100000 in
theorem on_end (w : World) (p : Nat) (xs : List Nat) (W : World) (h : On w p xs xs.length W) :
    Calls Tryz.prog 82 #[.pointer (some ⟨p, 0, none⟩)] W fun e w' => e = .returned (.tuple #[.int .u8 0, .bool false]) ∧ On w p xs xs.length w' := by
  have h1 := h.1
  rw [List.drop_length] at h1
  exact (next_end p W h1).mono fun e w' ⟨he, hs⟩ => ⟨he, hs ▸ h⟩

end Oct
end Go.Proofs.YtpmfedimjjifaaaGreatDoor
namespace Go.Proofs.YtpmfedimjjifaaaGreatDoor
namespace Oct
open Go.RowKit

set_option maxHeartbeats 1000000 in
set_option maxRecDepth 20000 in
theorem gather_src (p : Nat) (xs : List Nat) (hx : ∀ x ∈ xs, x < 256) (s : Nat) (l : Bool) (hs : s ≤ xs.length) (h8 : s ≤ 8) (St : Nat → World → Prop)
    (hmore : ∀ k W, St k W → k < xs.length → Calls Tryz.prog 82 #[.pointer (some ⟨p, 0, none⟩)] W fun e w' => e = .returned (.tuple #[.int .u8 ((xs.getD k 0 : Nat) : Int), .bool true]) ∧ St (k + 1) w')
    (w : World) (h0 : St 0 w) :
    Calls Tryz.prog 81 #[.func (.func 82) #[.pointer (some ⟨p, 0, none⟩)] #[], .int .i64 s, .bool l] w fun e w' =>
      e = .returned (.int .u64 (psum xs s l s : Nat)) ∧ St s w' := by
  have hmore' := hid hmore
  have hx' := hid hx
  have h0' := hid h0
  clear hmore hx h0
  go_enter Tryz.func81, Tryz.ntmps81
  go_wp2
  go_loopw [7, 12] (fun a c W => ∃ (i : Nat), i ≤ s ∧ a = .int .u64 (psum xs s l i : Nat) ∧ c = .int .i64 (i : Int) ∧ St i W) (fun _ c _ => s - (intOf c).toNat)
  case atStart => exact ⟨0, by omega, rfl, rfl, h0'.out⟩
  case round =>
    obtain ⟨i, hi, rfl, rfl, hS⟩ := hrel
    have hS' := hid hS
    clear hS
    by_cases his : i < s
    · have c := hid (hmore'.out i wr hS'.out (by omega))
      obtain ⟨sh, q, csh, _, hshl, _⟩ := shift_named (xs.getD i 0) i s l his h8
      have hor := bits_or_u64_nat (psum xs s l i) (xs.getD i 0 * 2 ^ (8 * place l s i)) (psum_lt xs s l hx'.out hs h8 i (by omega)) (getD_term_lt xs s l hx'.out hs h8 i his)
      rw [psum_or xs s l hx'.out hs i his] at hor
      have hw : IntKind.u64.wrap ((xs.getD i 0 * 2 ^ (8 * place l s i) : Nat) : Int) = ((xs.getD i 0 * 2 ^ (8 * place l s i) : Nat) : Int) := by
        rw [IntKind.wrap_u64]; have := getD_term_lt xs s l hx'.out hs h8 i his; omega
      rw [hw] at hshl
      have hX2 := getD_lt hx'.out i (by omega)
      have csh' := hid csh
      clear hw csh
      generalize xs.getD i 0 * 2 ^ (8 * place l s i) = t at *
      obtain ⟨P1, hP1⟩ : ∃ P, P = psum xs s l (i + 1) := ⟨_, rfl⟩
      rw [← hP1] at hor
      generalize psum xs s l i = P0 at *
      generalize xs.getD i 0 = X at *
      have hP1' := hid hP1
      clear hP1
      go_wp2_with (first | (go_at_call 82; refine c.out.mono ?_; rintro e w1 ⟨rfl, hS1⟩) | (go_at_call 96; refine (csh'.out _).mono ?_; rintro e w2 ⟨rfl, hw2⟩; obtain rfl := hw2.symm))
      exact ⟨⟨i + 1, by omega, by rw [hP1'.out], by go_num, hS1⟩, by simp [intOf]; omega⟩
    · obtain rfl : i = s := by omega
      go_wp2
      go_ret
      exact ⟨rfl, hS'.out⟩

end Oct
end Go.Proofs.YtpmfedimjjifaaaGreatDoor
namespace Go.Proofs.YtpmfedimjjifaaaGreatDoor
namespace Oct
open Go.RowKit

set_option maxRecDepth 100000 in
set_option maxHeartbeats 1000000 in
theorem num_k (p : Nat) (xs : List Nat) (k : Nat) (hk : 1 ≤ k ∧ k ≤ 8) (l : Bool) (W : World) (h : SrcAt W p xs) (hx : ∀ x ∈ xs, x < 256) (h8 : k ≤ xs.length) :
    Calls Tryz.prog 49 #[.pointer (some ⟨p, 0, none⟩), .int .i64 (k : Int), .bool l] W fun e w' => e = .returned (.int .u64 (psum xs k l k : Nat)) ∧ SrcAt w' p (xs.drop k) ∧ W.grownBy w' (some p) := by
  have c26 := hid (err_ok p xs W h)
  have c27 := hid (sized_any (k : Int))
  rw [show (decide ((1 : Int) ≤ (k : Int)) && decide ((k : Int) ≤ 8)) = true by simp; omega] at c27
  have c28 := hid (gather_src p xs hx k l h8 hk.2 (On W p xs) (fun k W' hS hk => on_more W p xs k W' hS hk) W ⟨by simpa using h, World.grownBy.refl _ _⟩)
  obtain ⟨b, off, n, cap, hp, hr, hn, h5⟩ := h
  obtain ⟨s0, s1, s2, f1, f2⟩ := src_cells hp
  have hl := hr.1
  have hn8 : ¬ (n : Int) < (k : Int) := by omega
  generalize psum xs k l k = R at *
  clear hp hr h5 hx hl h8
  go_enter Tryz.func49, Tryz.ntmps49
  go_wp2_with (first | (go_at_call 78; refine c26.out.mono ?_; rintro e w1 ⟨rfl, rfl⟩) | (go_at_call 80; refine (c27.out _).mono ?_; rintro e w2 ⟨rfl, hw2⟩; obtain rfl := hw2.symm) | (go_at_call 81; refine c28.out.mono ?_; rintro e w3 ⟨rfl, hS⟩; replace hS := hid hS))
  go_ret
  exact ⟨rfl, hS.out.1, hS.out.2⟩

set_option maxRecDepth 100000 in
theorem own_t5 {w : World} {B g n cap m : Nat} {xs : List Value} (h : w.ownsRow B 5 1 (.slice (some ⟨g, 0, none⟩) n cap) m xs) : T5 w g := by
  rcases h.2 with ⟨h', _⟩ | ⟨g', cap', cur, h', _, hg, _⟩
  · cases h'
  · simp only [Value.slice.injEq, Option.some.injEq, Addr.mk.injEq, and_true] at h'
    obtain ⟨rfl, _⟩ := h'
    exact ⟨cur, _, hg⟩

set_option maxRecDepth 100000 in
set_option maxHeartbeats 400000 in
theorem read_ok (ao : Option Addr) (n cap : Nat) (xs : List Nat) (w : World) (h : Rd w ao n cap xs) (hn : n ≤ 140737488355328) :
    Calls Tryz.prog 48 #[.slice ao n cap] w fun e w' => ∃ p, e = .returned (.pointer (some ⟨p, 0, none⟩)) ∧ w.heap.size ≤ p ∧ SrcAt w' p xs ∧ Below w.heap.size w w' := by
  have cw : Hid (Calls Tryz.prog 77 #[.slice ao n cap, .int .i64 0] w fun e w' => e = .returned (.slice (some ⟨w.heap.size, 0, none⟩) n n) ∧
      w'.ownsRow w.heap.size 5 1 (.slice (some ⟨w.heap.size, 0, none⟩) n n) n (bs xs) ∧ Below w.heap.size w w') := hid (by simpa using widened_any ao n cap 0 xs w h (by omega))
  clear h
  go_enter Tryz.func48, Tryz.ntmps48
  go_wp2_with (go_at_call 77; refine cw.out.mono ?_; rintro e w1 ⟨rfl, ho1, hb1⟩)
  go_ret
  exact ⟨w1.heap.size, rfl, hb1.size, ⟨_, _, _, _, heap_alloc_new w1 _, (rd_own ho1).keep (Below.alloc (Below.refl _ _) (Nat.le_refl _) _), by omega, (own_t5 ho1).keep (Below.alloc (Below.refl _ _) (Nat.le_refl _) _)⟩, Below.alloc hb1 hb1.size _⟩

end Oct
end Go.Proofs.YtpmfedimjjifaaaGreatDoor
namespace Go.Proofs.YtpmfedimjjifaaaGreatDoor
namespace Oct
open Go.RowKit
set_option maxRecDepth 100000 in
set_option maxHeartbeats 1000000 in
theorem int_l (p : Nat) (xs : List Nat) (l : Bool) (W : World) (h : SrcAt W p xs) (hx : ∀ x ∈ xs, x < 256) (h8 : 8 ≤ xs.length) : Calls Tryz.prog 51 #[.pointer (some ⟨p, 0, none⟩), .bool l] W fun e w' => e = .returned (.int .i64 (IntKind.i64.wrap ((psum xs 8 l 8 : Nat) : Int))) ∧ SrcAt w' p (xs.drop 8) ∧ W.grownBy w' (some p) := by
  have C := hid (num_k p xs 8 (by omega) l W h hx h8)
  clear h hx
  generalize psum xs 8 l 8 = v at *
  have cv : ∀ W, (convert 68 3 (.int .u64 (v : Int))).run Tryz.prog W = .ok (.int .i64 (IntKind.i64.wrap (v : Int))) W := fun W => by kernel_rfl
  generalize IntKind.i64.wrap (v : Int) = r at *
  go_enter Tryz.func51, Tryz.ntmps51
  go_wp2_with (go_at_call 49; refine C.out.mono ?_; rintro e w1 ⟨rfl, hS⟩; replace hS := hid hS)
  go_ret
  exact ⟨rfl, hS.out⟩
end Oct
end Go.Proofs.YtpmfedimjjifaaaGreatDoor

/- What follows a head's flags; no statement of the seat is proved here. -/
namespace Go.Proofs.YtpmfedimjjifaaaGreatDoor
open Go.RowKit Go.Maps
open Oct (SrcAt)
open Bxs (Rect noR)

theorem B9.grown {a b : World} {p c : Nat} {h : Hd} (k : B9 a c h) (g : a.grownBy b (some p)) (hc : c ≠ p) : B9 b c h := (g.block c k.lt (by simp; omega)).trans k
theorem grown_below {N p : Nat} {w a b : World} (h : Below N w a) (hw : N ≤ w.heap.size) (g : a.grownBy b (some p)) (hp : N ≤ p) : Below N w b :=
  h.trans ⟨g.os, g.tape, g.output, g.size, fun k hk => g.block k (Nat.lt_of_lt_of_le (Nat.lt_of_lt_of_le hk hw) h.size) (by simp; omega)⟩
theorem src_keep {W W' : World} {p : Nat} {xs : List Nat} (h : SrcAt W p xs) (k : Below W.heap.size W W') : SrcAt W' p xs := Oct.SrcAt.keep h k
theorem B9.srs1 {W : World} {b : Nat} {h : Hd} (k : B9 W b h) (z : Int) : B9 (W.setCell ⟨b, 0, none⟩ (.int .i64 z)) b ⟨z, h.l, h.b, h.e, h.x⟩ := (heap_setCell_same _ b 0 _ 29 _ k).trans (by simp)
theorem put5 {W : World} {b : Nat} {t : TypeId} {v0 v1 v2 v3 v4 v5 v6 v7 v8 q4 q5 q6 q7 q8 : Value} (k0 : W.heap[b]? = some (.cells #[v0, v1, v2, v3, v4, v5, v6, v7, v8] t)) : (((((W.setCell ⟨b, 4, none⟩ q4).setCell ⟨b, 5, none⟩ q5).setCell ⟨b, 6, none⟩ q6).setCell ⟨b, 7, none⟩ q7).setCell ⟨b, 8, none⟩ q8).heap[b]? = some (.cells #[v0, v1, v2, v3, q4, q5, q6, q7, q8] t) := by
  have k4 : (W.setCell ⟨b, 4, none⟩ q4).heap[b]? = some (.cells #[v0, v1, v2, v3, q4, v5, v6, v7, v8] t) := (heap_setCell_same _ b 4 _ t q4 k0).trans (by simp)
  have k5 : ((W.setCell ⟨b, 4, none⟩ q4).setCell ⟨b, 5, none⟩ q5).heap[b]? = some (.cells #[v0, v1, v2, v3, q4, q5, v6, v7, v8] t) := (heap_setCell_same _ b 5 _ t q5 k4).trans (by simp)
  have k6 : (((W.setCell ⟨b, 4, none⟩ q4).setCell ⟨b, 5, none⟩ q5).setCell ⟨b, 6, none⟩ q6).heap[b]? = some (.cells #[v0, v1, v2, v3, q4, q5, q6, v7, v8] t) := (heap_setCell_same _ b 6 _ t q6 k5).trans (by simp)
  have k7 : ((((W.setCell ⟨b, 4, none⟩ q4).setCell ⟨b, 5, none⟩ q5).setCell ⟨b, 6, none⟩ q6).setCell ⟨b, 7, none⟩ q7).heap[b]? = some (.cells #[v0, v1, v2, v3, q4, q5, q6, q7, v8] t) := (heap_setCell_same _ b 7 _ t q7 k6).trans (by simp)
  exact (heap_setCell_same _ b 8 _ t q8 k7).trans (by simp)
theorem B9.x5 {W : World} {b : Nat} {h : Hd} (k : B9 W b h) (r : Rect) : B9 (((((W.setCell ⟨b, 4, none⟩ (.bool r.n)).setCell ⟨b, 5, none⟩ (.int .i64 r.lx)).setCell ⟨b, 6, none⟩ (.int .i64 r.ly)).setCell ⟨b, 7, none⟩ (.int .i64 r.hx)).setCell ⟨b, 8, none⟩ (.int .i64 r.hy)) b ⟨h.srs, h.l, h.b, h.e, r⟩ := put5 k
theorem fr5 {N : Nat} {w W : World} {b : Nat} (h : Below N w W) (hb : N ≤ b) (r : Rect) : Below N w (((((W.setCell ⟨b, 4, none⟩ (.bool r.n)).setCell ⟨b, 5, none⟩ (.int .i64 r.lx)).setCell ⟨b, 6, none⟩ (.int .i64 r.ly)).setCell ⟨b, 7, none⟩ (.int .i64 r.hx)).setCell ⟨b, 8, none⟩ (.int .i64 r.hy)) := ((((h.setCell hb _).setCell hb _).setCell hb _).setCell hb _).setCell hb _
theorem B9.other {W : World} {b c i : Nat} {v : Value} {h : Hd} (k : B9 W c h) (hne : c ≠ b) : B9 (W.setCell ⟨b, i, none⟩ v) c h := (heap_setCell_other W ⟨b, i, none⟩ c v hne).trans k
theorem src_five {W W' : World} {p : Nat} {xs : List Nat} (h : SrcAt W p xs) (k : Oct.Five W W') (hp' : W'.heap[p]? = W.heap[p]?) : SrcAt W' p xs := by
  obtain ⟨b, off, n, cap, hp, hr, hn, ht⟩ := h
  exact ⟨b, off, n, cap, hp'.trans hp, Rd.five hr (fun _ b' o e => by simp only [Option.some.injEq, Addr.mk.injEq, and_true] at e; obtain ⟨rfl, rfl⟩ := e; exact ht) k, hn, Oct.T5.five ht k⟩
theorem five1 {W : World} {b : Nat} {h : Hd} (k : B9 W b h) (i : Nat) (v : Value) : Oct.Five W (W.setCell ⟨b, i, none⟩ v) := Oct.five_set k (by decide)
theorem five5 {W : World} {b : Nat} {h : Hd} (k : B9 W b h) (r : Rect) : Oct.Five W (((((W.setCell ⟨b, 4, none⟩ (.bool r.n)).setCell ⟨b, 5, none⟩ (.int .i64 r.lx)).setCell ⟨b, 6, none⟩ (.int .i64 r.ly)).setCell ⟨b, 7, none⟩ (.int .i64 r.hx)).setCell ⟨b, 8, none⟩ (.int .i64 r.hy)) := by
  intro c C m hc
  have hne : c ≠ b := by
    rintro rfl
    unfold B9 at k
    rw [k] at hc
    simp only [Option.some.injEq, Obj.cells.injEq] at hc
    exact absurd hc.2.1 (by decide)
  rw [heap_setCell_other _ _ _ _ hne, heap_setCell_other _ _ _ _ hne, heap_setCell_other _ _ _ _ hne, heap_setCell_other _ _ _ _ hne, heap_setCell_other _ _ _ _ hne]
  exact hc
theorem heap5 {W : World} {b c : Nat} (hne : c ≠ b) (r : Rect) : (((((W.setCell ⟨b, 4, none⟩ (.bool r.n)).setCell ⟨b, 5, none⟩ (.int .i64 r.lx)).setCell ⟨b, 6, none⟩ (.int .i64 r.ly)).setCell ⟨b, 7, none⟩ (.int .i64 r.hx)).setCell ⟨b, 8, none⟩ (.int .i64 r.hy)).heap[c]? = W.heap[c]? := by
  rw [heap_setCell_other _ _ _ _ hne, heap_setCell_other _ _ _ _ hne, heap_setCell_other _ _ _ _ hne, heap_setCell_other _ _ _ _ hne, heap_setCell_other _ _ _ _ hne]
theorem B9.not5 {W : World} {b c : Nat} {h : Hd} (k : B9 W c h) (hne : c ≠ b) (r : Rect) : B9 (((((W.setCell ⟨b, 4, none⟩ (.bool r.n)).setCell ⟨b, 5, none⟩ (.int .i64 r.lx)).setCell ⟨b, 6, none⟩ (.int .i64 r.ly)).setCell ⟨b, 7, none⟩ (.int .i64 r.hx)).setCell ⟨b, 8, none⟩ (.int .i64 r.hy)) c h := (heap5 hne r).trans k
set_option maxRecDepth 100000 in
set_option maxHeartbeats 8000000 in
theorem filled_call (h : Hd) (o : Option Addr) (m c : Nat) (ys : List Nat) (w : World) (hr : Rd w o m c ys) (hx : ∀ x ∈ ys, x < 256) (hm : m ≤ 1000) (hl : szH h.b - 4 ≤ ys.length) : Calls Tryz.prog 22 #[.agg #[.int .i64 (h).srs, .bool (h).l, .bool (h).b, .bool (h).e, .bool (h).x.n, .int .i64 (h).x.lx, .int .i64 (h).x.ly, .int .i64 (h).x.hx, .int .i64 (h).x.hy], .slice o m c] w fun e w' => e = .returned (.agg #[.int .i64 (fillV h ys).srs, .bool (fillV h ys).l, .bool (fillV h ys).b, .bool (fillV h ys).e, .bool (fillV h ys).x.n, .int .i64 (fillV h ys).x.lx, .int .i64 (fillV h ys).x.ly, .int .i64 (fillV h ys).x.hx, .int .i64 (fillV h ys).x.hy]) ∧ Below w.heap.size w w' := by
  obtain ⟨z, l, b, e, n, x0, x1, x2, x3⟩ := h
  simp only at hl
  have BH := hid ((B9.new w ⟨z, l, b, e, ⟨n, x0, x1, x2, x3⟩⟩).keep (ext1 (.cells #[.int .i64 0, .bool false, .bool false, .bool false, .bool false, .int .i64 0, .int .i64 0, .int .i64 0, .int .i64 0] 29)))
  have BZ : Hid (B9 ((w.alloc (.cells #[.int .i64 ((⟨z, l, b, e, ⟨n, x0, x1, x2, x3⟩⟩ : Hd)).srs, .bool ((⟨z, l, b, e, ⟨n, x0, x1, x2, x3⟩⟩ : Hd)).l, .bool ((⟨z, l, b, e, ⟨n, x0, x1, x2, x3⟩⟩ : Hd)).b, .bool ((⟨z, l, b, e, ⟨n, x0, x1, x2, x3⟩⟩ : Hd)).e, .bool ((⟨z, l, b, e, ⟨n, x0, x1, x2, x3⟩⟩ : Hd)).x.n, .int .i64 ((⟨z, l, b, e, ⟨n, x0, x1, x2, x3⟩⟩ : Hd)).x.lx, .int .i64 ((⟨z, l, b, e, ⟨n, x0, x1, x2, x3⟩⟩ : Hd)).x.ly, .int .i64 ((⟨z, l, b, e, ⟨n, x0, x1, x2, x3⟩⟩ : Hd)).x.hx, .int .i64 ((⟨z, l, b, e, ⟨n, x0, x1, x2, x3⟩⟩ : Hd)).x.hy] 29)).alloc (.cells #[.int .i64 0, .bool false, .bool false, .bool false, .bool false, .int .i64 0, .int .i64 0, .int .i64 0, .int .i64 0] 29)) (w.heap.size + 1) noH) := hid (by repeat (first | (refine at_new ?_; first | with_reducible rfl | (simp only [World.size_alloc]; done)) | refine at_old ?_))
  have RC := hid (Oct.read_ok o m c ys _ (hr.keep (gt (ext1 (.cells #[.int .i64 ((⟨z, l, b, e, ⟨n, x0, x1, x2, x3⟩⟩ : Hd)).srs, .bool ((⟨z, l, b, e, ⟨n, x0, x1, x2, x3⟩⟩ : Hd)).l, .bool ((⟨z, l, b, e, ⟨n, x0, x1, x2, x3⟩⟩ : Hd)).b, .bool ((⟨z, l, b, e, ⟨n, x0, x1, x2, x3⟩⟩ : Hd)).e, .bool ((⟨z, l, b, e, ⟨n, x0, x1, x2, x3⟩⟩ : Hd)).x.n, .int .i64 ((⟨z, l, b, e, ⟨n, x0, x1, x2, x3⟩⟩ : Hd)).x.lx, .int .i64 ((⟨z, l, b, e, ⟨n, x0, x1, x2, x3⟩⟩ : Hd)).x.ly, .int .i64 ((⟨z, l, b, e, ⟨n, x0, x1, x2, x3⟩⟩ : Hd)).x.hx, .int .i64 ((⟨z, l, b, e, ⟨n, x0, x1, x2, x3⟩⟩ : Hd)).x.hy] 29)) (ext1 (.cells #[.int .i64 0, .bool false, .bool false, .bool false, .bool false, .int .i64 0, .int .i64 0, .int .i64 0, .int .i64 0] 29)))) (by omega))
  have h4 : 4 ≤ ys.length := by have : 8 ≤ szH b := (by unfold szH; split <;> omega); omega
  have NU := hid (fun p W (h : SrcAt W p ys) => Oct.num_k p ys 4 (by omega) l W h hx h4)
  have NC := hid Bxs.none_call
  obtain ⟨v, hv⟩ : ∃ v, v = psum ys 4 l 4 := ⟨_, rfl⟩
  obtain ⟨sr, hsr⟩ : ∃ sr, sr = S4 v := ⟨_, rfl⟩
  have cv1 : ∀ W, (convert 68 21 (.int .u64 (v : Int))).run Tryz.prog W = .ok (.int .i32 sr) W := fun W => by rw [hsr]; unfold S4; kernel_rfl
  have cv2 : ∀ W, (convert 21 3 (.int .i32 sr)).run Tryz.prog W = .ok (.int .i64 sr) W := fun W => by
    have k : (convert 21 3 (.int .i32 sr)).run Tryz.prog W = .ok (.int .i64 (IntKind.i64.wrap sr)) W := by kernel_rfl
    rw [k, show IntKind.i64.wrap sr = sr by rw [hsr]; unfold S4; rw [IntKind.wrap_i64, IntKind.wrap_i32]; omega]
  unfold fillV
  simp only
  rw [← hv] at NU ⊢
  rw [← hsr]
  clear hv hsr hr h4
  cases b with
  | false =>
    simp only [Bool.false_eq_true, if_false]
    clear hx hl
    go_enter Tryz.func22, Tryz.ntmps22
    go_wp2_with (first | (go_at_call 48; refine RC.out.mono ?_; rintro e w1 ⟨p, rfl, hp, hS, b1⟩; have S1 := hid hS; have H1 := hid (gt (gt (ext1 _) (ext1 _)) b1); have D1 := hid (BH.out.keep b1); have Z1 := hid (BZ.out.keep b1); have hpl : w.heap.size + 1 < p := (by simp only [World.size_alloc] at hp; omega); clear hS b1 hp RC; obtain ⟨d0, d1, d2, d3, d4, d5, d6, d7, d8⟩ := D1.out.c; have df0 := D1.out.fz 0; have df1 := D1.out.fz 1; have df2 := D1.out.fz 2; have df3 := D1.out.fz 3; have df4 := D1.out.fz 4; have df5 := D1.out.fz 5; have df6 := D1.out.fz 6; have df7 := D1.out.fz 7; have df8 := D1.out.fz 8; have hlow := H1.out) | (go_at_call 49; refine (NU.out p _ S1.out).mono ?_; rintro e w2 ⟨rfl, hS, g⟩; have S2 := hid hS; have D2 := hid (D1.out.grown g (by omega)); have Z2 := hid (Z1.out.grown g (by omega)); have H2 := hid (grown_below H1.out (Nat.le_refl _) g (by omega)); clear d0 df0 d1 df1 d2 df2 d3 df3 d4 df4 d5 df5 d6 df6 d7 df7 d8 df8; clear hlow hS g NU; obtain ⟨d0, d1, d2, d3, d4, d5, d6, d7, d8⟩ := D2.out.c; have df0 := D2.out.fz 0; have df1 := D2.out.fz 1; have df2 := D2.out.fz 2; have df3 := D2.out.fz 3; have df4 := D2.out.fz 4; have df5 := D2.out.fz 5; have df6 := D2.out.fz 6; have df7 := D2.out.fz 7; have df8 := D2.out.fz 8; have hlow := H2.out) | (go_at_call 50; refine (NC.out _).mono ?_; rintro e w3 ⟨rfl, b3⟩; clear d0 df0 d1 df1 d2 df2 d3 df3 d4 df4 d5 df5 d6 df6 d7 df7 d8 df8; clear hlow; have D3 := hid (show B9 w3 w.heap.size ⟨sr, l, false, e, ⟨n, x0, x1, x2, x3⟩⟩ from (D2.out.srs1 sr).keep b3); have Z3 := hid ((Z2.out.other (by omega)).keep b3); have S3 := hid (src_keep (src_five S2.out (five1 D2.out 0 (.int .i64 sr)) (heap_setCell_other _ _ _ _ (show p ≠ w.heap.size by omega))) b3); have H3 := hid (gt (H2.out.setCell (Nat.le_refl _) _) b3); clear b3; obtain ⟨d0, d1, d2, d3, d4, d5, d6, d7, d8⟩ := D3.out.c; have df0 := D3.out.fz 0; have df1 := D3.out.fz 1; have df2 := D3.out.fz 2; have df3 := D3.out.fz 3; have df4 := D3.out.fz 4; have df5 := D3.out.fz 5; have df6 := D3.out.fz 6; have df7 := D3.out.fz 7; have df8 := D3.out.fz 8; obtain ⟨z0, z1, z2, z3, z4, z5, z6, z7, z8⟩ := Z3.out.c; have zf0 := Z3.out.fz 0; have zf1 := Z3.out.fz 1; have zf2 := Z3.out.fz 2; have zf3 := Z3.out.fz 3; have zf4 := Z3.out.fz 4; have zf5 := Z3.out.fz 5; have zf6 := Z3.out.fz 6; have zf7 := Z3.out.fz 7; have zf8 := Z3.out.fz 8; have hlow := H3.out))
    exact bodyPost_ret (ret_h1 rfl rfl ((B9.not5 (b := w.heap.size) Z3.out (by omega) ⟨true, 0, 0, 0, 0⟩).put ⟨sr, l, false, e, ⟨true, 0, 0, 0, 0⟩⟩)) rfl ⟨rfl, fr9 (fr5 H3.out (Nat.le_refl _) ⟨true, 0, 0, 0, 0⟩) (by omega) ⟨sr, l, false, e, ⟨true, 0, 0, 0, 0⟩⟩⟩
  | true =>
    simp only [if_true]
    have hl36 : 36 ≤ ys.length := by simp only [szH, if_true] at hl; omega
    obtain ⟨q0, hq0⟩ : ∃ q, q = ys.drop 4 := ⟨_, rfl⟩
    obtain ⟨q1, hq1⟩ : ∃ q, q = q0.drop 8 := ⟨_, rfl⟩
    obtain ⟨q2, hq2⟩ : ∃ q, q = q1.drop 8 := ⟨_, rfl⟩
    obtain ⟨q3, hq3⟩ : ∃ q, q = q2.drop 8 := ⟨_, rfl⟩
    have l0 : 32 ≤ q0.length := by rw [hq0, List.length_drop]; omega
    have l1 : 24 ≤ q1.length := by rw [hq1, List.length_drop]; omega
    have l2 : 16 ≤ q2.length := by rw [hq2, List.length_drop]; omega
    have l3 : 8 ≤ q3.length := by rw [hq3, List.length_drop]; omega
    have m0 : ∀ x ∈ q0, x < 256 := by rw [hq0]; exact fun x h => hx x (List.mem_of_mem_drop h)
    have m1 : ∀ x ∈ q1, x < 256 := by rw [hq1]; exact fun x h => m0 x (List.mem_of_mem_drop h)
    have m2 : ∀ x ∈ q2, x < 256 := by rw [hq2]; exact fun x h => m1 x (List.mem_of_mem_drop h)
    have m3 : ∀ x ∈ q3, x < 256 := by rw [hq3]; exact fun x h => m2 x (List.mem_of_mem_drop h)
    have I0 := hid (fun p W (h : SrcAt W p q0) => Oct.int_l p q0 l W h m0 (by omega))
    have I1 := hid (fun p W (h : SrcAt W p q1) => Oct.int_l p q1 l W h m1 (by omega))
    have I2 := hid (fun p W (h : SrcAt W p q2) => Oct.int_l p q2 l W h m2 (by omega))
    have I3 := hid (fun p W (h : SrcAt W p q3) => Oct.int_l p q3 l W h m3 (by omega))
    have ER : rdX (ys.drop 4) l = ⟨false, IntKind.i64.wrap ((psum q0 8 l 8 : Nat) : Int), IntKind.i64.wrap ((psum q2 8 l 8 : Nat) : Int), IntKind.i64.wrap ((psum q1 8 l 8 : Nat) : Int), IntKind.i64.wrap ((psum q3 8 l 8 : Nat) : Int)⟩ := by
      unfold rdX I
      rw [← hq0, hq3, hq2, hq1, List.drop_drop, List.drop_drop]
    rw [ER]
    rw [← hq0] at NU
    rw [← hq1] at I0
    rw [← hq2] at I1
    rw [← hq3] at I2
    generalize IntKind.i64.wrap ((psum q0 8 l 8 : Nat) : Int) = a0 at *
    generalize IntKind.i64.wrap ((psum q1 8 l 8 : Nat) : Int) = a1 at *
    generalize IntKind.i64.wrap ((psum q2 8 l 8 : Nat) : Int) = a2 at *
    generalize IntKind.i64.wrap ((psum q3 8 l 8 : Nat) : Int) = a3 at *
    clear hx hl ER hl36 hq0 hq1 hq2 hq3 l0 l1 l2 l3 m0 m1 m2 m3
    go_enter Tryz.func22, Tryz.ntmps22
    go_wp2_with (first | (go_at_call 48; refine RC.out.mono ?_; rintro e w1 ⟨p, rfl, hp, hS, b1⟩; have S1 := hid hS; have H1 := hid (gt (gt (ext1 _) (ext1 _)) b1); have D1 := hid (BH.out.keep b1); have Z1 := hid (BZ.out.keep b1); have hpl : w.heap.size + 1 < p := (by simp only [World.size_alloc] at hp; omega); clear hS b1 hp RC; obtain ⟨d0, d1, d2, d3, d4, d5, d6, d7, d8⟩ := D1.out.c; have df0 := D1.out.fz 0; have df1 := D1.out.fz 1; have df2 := D1.out.fz 2; have df3 := D1.out.fz 3; have df4 := D1.out.fz 4; have df5 := D1.out.fz 5; have df6 := D1.out.fz 6; have df7 := D1.out.fz 7; have df8 := D1.out.fz 8; have hlow := H1.out) | (go_at_call 49; refine (NU.out p _ S1.out).mono ?_; rintro e w2 ⟨rfl, hS, g⟩; have S2 := hid hS; have D2 := hid (D1.out.grown g (by omega)); have Z2 := hid (Z1.out.grown g (by omega)); have H2 := hid (grown_below H1.out (Nat.le_refl _) g (by omega)); clear d0 df0 d1 df1 d2 df2 d3 df3 d4 df4 d5 df5 d6 df6 d7 df7 d8 df8; clear hlow hS g NU; obtain ⟨d0, d1, d2, d3, d4, d5, d6, d7, d8⟩ := D2.out.c; have df0 := D2.out.fz 0; have df1 := D2.out.fz 1; have df2 := D2.out.fz 2; have df3 := D2.out.fz 3; have df4 := D2.out.fz 4; have df5 := D2.out.fz 5; have df6 := D2.out.fz 6; have df7 := D2.out.fz 7; have df8 := D2.out.fz 8; have hlow := H2.out) | (go_at_call 50; refine (NC.out _).mono ?_; rintro e w3 ⟨rfl, b3⟩; clear d0 df0 d1 df1 d2 df2 d3 df3 d4 df4 d5 df5 d6 df6 d7 df7 d8 df8; clear hlow; have D3 := hid (show B9 w3 w.heap.size ⟨sr, l, true, e, ⟨n, x0, x1, x2, x3⟩⟩ from (D2.out.srs1 sr).keep b3); have Z3 := hid ((Z2.out.other (by omega)).keep b3); have S3 := hid (src_keep (src_five S2.out (five1 D2.out 0 (.int .i64 sr)) (heap_setCell_other _ _ _ _ (show p ≠ w.heap.size by omega))) b3); have H3 := hid (gt (H2.out.setCell (Nat.le_refl _) _) b3); clear b3; obtain ⟨d0, d1, d2, d3, d4, d5, d6, d7, d8⟩ := D3.out.c; have df0 := D3.out.fz 0; have df1 := D3.out.fz 1; have df2 := D3.out.fz 2; have df3 := D3.out.fz 3; have df4 := D3.out.fz 4; have df5 := D3.out.fz 5; have df6 := D3.out.fz 6; have df7 := D3.out.fz 7; have df8 := D3.out.fz 8; obtain ⟨z0, z1, z2, z3, z4, z5, z6, z7, z8⟩ := Z3.out.c; have zf0 := Z3.out.fz 0; have zf1 := Z3.out.fz 1; have zf2 := Z3.out.fz 2; have zf3 := Z3.out.fz 3; have zf4 := Z3.out.fz 4; have zf5 := Z3.out.fz 5; have zf6 := Z3.out.fz 6; have zf7 := Z3.out.fz 7; have zf8 := Z3.out.fz 8; have hlow := H3.out))
    have D4 := hid (D3.out.x5 ⟨true, 0, 0, 0, 0⟩)
    have S4' := hid (src_five S3.out (five5 D3.out ⟨true, 0, 0, 0, 0⟩) (heap5 (b := w.heap.size) (by omega) ⟨true, 0, 0, 0, 0⟩))
    have S4'' := hid (src_keep S4'.out (Below.refl _ _).drew)
    have Z4 := hid (B9.not5 (b := w.heap.size) Z3.out (by omega) ⟨true, 0, 0, 0, 0⟩)
    have H4 := hid (fr5 H3.out (Nat.le_refl _) ⟨true, 0, 0, 0, 0⟩)
    refine wp_region_K (S := (fun W : World => C9 W w.heap.size ⟨sr, l, true, e, ⟨true, 0, 0, 0, 0⟩⟩ ∧ B9 W w.heap.size ⟨sr, l, true, e, ⟨true, 0, 0, 0, 0⟩⟩ ∧ B9 W (w.heap.size + 1) noH ∧ Below w.heap.size w W)) (fun _ => false) (by kernel_rfl) (by exact ⟨(D4.out.keep (Below.refl _ _).drew).c, D4.out.keep (Below.refl _ _).drew, Z4.out.keep (Below.refl _ _).drew, H4.out.drew⟩) (fun hHeld => ?_)
    refine gkp 0 ?_
    refine gkp 1 ?_
    refine gkt 2 ?_ (h := by intro W hSw; obtain ⟨⟨y0, y1, y2, y3, y4, y5, y6, y7, y8⟩, _⟩ := hSw; go_simp; first | done | with_reducible rfl)
    refine gkp 4 ?_
    refine gkp 5 ?_
    refine gkt 6 ?_ (h := by intro W hSw; obtain ⟨⟨y0, y1, y2, y3, y4, y5, y6, y7, y8⟩, _⟩ := hSw; go_simp; first | done | with_reducible rfl)
    refine gkp 8 ?_
    refine gkp 9 ?_
    refine gkt 10 ?_ (h := by intro W hSw; obtain ⟨⟨y0, y1, y2, y3, y4, y5, y6, y7, y8⟩, _⟩ := hSw; go_simp; first | done | with_reducible rfl)
    refine gkp 12 ?_
    refine gkp 13 ?_
    refine gkt 14 ?_ (h := by intro W hSw; obtain ⟨⟨y0, y1, y2, y3, y4, y5, y6, y7, y8⟩, _⟩ := hSw; go_simp; first | done | with_reducible rfl)
    refine gk1 3 (fun K hK => ?_)
    go_simp
    go_at_call 51; refine (I0.out p _ S4''.out).mono ?_; rintro e u0 ⟨rfl, hS, g⟩; have V0 := hid hS; have hR : (fun W : World => C9 W w.heap.size ⟨sr, l, true, e, ⟨true, 0, 0, 0, 0⟩⟩ ∧ B9 W w.heap.size ⟨sr, l, true, e, ⟨true, 0, 0, 0, 0⟩⟩ ∧ B9 W (w.heap.size + 1) noH ∧ Below w.heap.size w W) u0 := ⟨(hHeld.2.1.grown g (by omega)).c, hHeld.2.1.grown g (by omega), hHeld.2.2.1.grown g (by omega), grown_below hHeld.2.2.2 (Nat.le_refl _) g (by omega)⟩; clear hS g
    refine hK.out _ _ hR (fun hHeld => ?_)
    clear hK K
    (try simp only [Act.put, sA, sZ, sS])
    refine gk1 7 (fun K hK => ?_)
    go_simp
    go_at_call 51; refine (I1.out p _ V0.out).mono ?_; rintro e u1 ⟨rfl, hS, g⟩; have V1 := hid hS; have hR : (fun W : World => C9 W w.heap.size ⟨sr, l, true, e, ⟨true, 0, 0, 0, 0⟩⟩ ∧ B9 W w.heap.size ⟨sr, l, true, e, ⟨true, 0, 0, 0, 0⟩⟩ ∧ B9 W (w.heap.size + 1) noH ∧ Below w.heap.size w W) u1 := ⟨(hHeld.2.1.grown g (by omega)).c, hHeld.2.1.grown g (by omega), hHeld.2.2.1.grown g (by omega), grown_below hHeld.2.2.2 (Nat.le_refl _) g (by omega)⟩; clear hS g
    refine hK.out _ _ hR (fun hHeld => ?_)
    clear hK K
    (try simp only [Act.put, sA, sZ, sS])
    refine gk1 11 (fun K hK => ?_)
    go_simp
    go_at_call 51; refine (I2.out p _ V1.out).mono ?_; rintro e u2 ⟨rfl, hS, g⟩; have V2 := hid hS; have hR : (fun W : World => C9 W w.heap.size ⟨sr, l, true, e, ⟨true, 0, 0, 0, 0⟩⟩ ∧ B9 W w.heap.size ⟨sr, l, true, e, ⟨true, 0, 0, 0, 0⟩⟩ ∧ B9 W (w.heap.size + 1) noH ∧ Below w.heap.size w W) u2 := ⟨(hHeld.2.1.grown g (by omega)).c, hHeld.2.1.grown g (by omega), hHeld.2.2.1.grown g (by omega), grown_below hHeld.2.2.2 (Nat.le_refl _) g (by omega)⟩; clear hS g
    refine hK.out _ _ hR (fun hHeld => ?_)
    clear hK K
    (try simp only [Act.put, sA, sZ, sS])
    refine gk1 15 (fun K hK => ?_)
    go_simp
    go_at_call 51; refine (I3.out p _ V2.out).mono ?_; rintro e u3 ⟨rfl, hS, g⟩; have V3 := hid hS; have hR : (fun W : World => C9 W w.heap.size ⟨sr, l, true, e, ⟨true, 0, 0, 0, 0⟩⟩ ∧ B9 W w.heap.size ⟨sr, l, true, e, ⟨true, 0, 0, 0, 0⟩⟩ ∧ B9 W (w.heap.size + 1) noH ∧ Below w.heap.size w W) u3 := ⟨(hHeld.2.1.grown g (by omega)).c, hHeld.2.1.grown g (by omega), hHeld.2.2.1.grown g (by omega), grown_below hHeld.2.2.2 (Nat.le_refl _) g (by omega)⟩; clear hS g
    refine hK.out _ _ hR (fun hHeld => ?_)
    clear hK K
    (try simp only [Act.put, sA, sZ, sS])
    refine gkp 16 ?_
    refine gkp 17 ?_
    refine gkp 18 ?_
    refine gkp 19 ?_
    refine wpAnyK_done (by kernel_rfl) ?_ _
    have D8 := hid hHeld.2.1
    have Z8 := hid hHeld.2.2.1
    have H8 := hid hHeld.2.2.2
    clear hHeld hlow d0 df0 d1 df1 d2 df2 d3 df3 d4 df4 d5 df5 d6 df6 d7 df7 d8 df8 z0 zf0 z1 zf1 z2 zf2 z3 zf3 z4 zf4 z5 zf5 z6 zf6 z7 zf7 z8 zf8
    obtain ⟨d0, d1, d2, d3, d4, d5, d6, d7, d8⟩ := D8.out.c; have df0 := D8.out.fz 0; have df1 := D8.out.fz 1; have df2 := D8.out.fz 2; have df3 := D8.out.fz 3; have df4 := D8.out.fz 4; have df5 := D8.out.fz 5; have df6 := D8.out.fz 6; have df7 := D8.out.fz 7; have df8 := D8.out.fz 8
    obtain ⟨z0, z1, z2, z3, z4, z5, z6, z7, z8⟩ := Z8.out.c; have zf0 := Z8.out.fz 0; have zf1 := Z8.out.fz 1; have zf2 := Z8.out.fz 2; have zf3 := Z8.out.fz 3; have zf4 := Z8.out.fz 4; have zf5 := Z8.out.fz 5; have zf6 := Z8.out.fz 6; have zf7 := Z8.out.fz 7; have zf8 := Z8.out.fz 8
    have hlow := H8.out
    go_wp2
    exact bodyPost_ret (ret_h1 rfl rfl ((B9.not5 (b := w.heap.size) Z8.out (by omega) ⟨false, a0, a2, a1, a3⟩).put ⟨sr, l, true, e, ⟨false, a0, a2, a1, a3⟩⟩)) rfl ⟨rfl, fr9 (fr5 H8.out (Nat.le_refl _) ⟨false, a0, a2, a1, a3⟩) (by omega) ⟨sr, l, true, e, ⟨false, a0, a2, a1, a3⟩⟩⟩
end Go.Proofs.YtpmfedimjjifaaaGreatDoor

/- Slices of what can be read; no statement of the seat is proved here. -/
namespace Go.Proofs.YtpmfedimjjifaaaGreatDoor
open Go.RowKit Go.Maps

theorem rd_cut {W : World} {o : Option Addr} {n c : Nat} {xs : List Nat} (h : Rd W o n c xs) (lo hi : Nat) (h1 : lo ≤ hi) (h2 : hi ≤ n) : Rd W (if c = lo then o else o.map (·.add (lo * 1))) (hi - lo) (c - lo) ((xs.drop lo).take (hi - lo)) := by
  have D := h.dropk lo (by omega)
  by_cases hc : c = lo
  · rw [if_pos hc]
    exact (D.1 hc).take (hi - lo) (by omega)
  · rw [if_neg hc]
    by_cases hn : 0 < n
    · obtain ⟨b, off, rfl, -⟩ := h.2.2.2 hn
      have := (D.2 hc b off rfl).take (hi - lo) (by omega)
      simpa [Addr.add_lit] using this
    · obtain rfl : n = 0 := by omega
      obtain rfl : hi = 0 := by omega
      obtain rfl : lo = 0 := by omega
      have := (h.take 0 (by omega))
      refine ⟨by simp, by omega, ?_, fun h => by omega⟩
      intro e
      cases o with
      | none => have := h.2.2.1 rfl; omega
      | some a => cases e
theorem slice_lh {w : World} {o : Option Addr} {n c : Nat} {xs : List Nat} (h : Rd w o n c xs) (lo hi : Nat) (h1 : lo ≤ hi) (h2 : hi ≤ n) : ∃ o', (∀ W, (Instr.slice 22 (.slice o n c) (some (.int .i64 (lo : Int))) (some (.int .i64 (hi : Int))) none).run Tryz.prog W = .ok (.slice o' (hi - lo) (c - lo)) W) ∧ ∀ W, Rd W o n c xs → Rd W o' (hi - lo) (c - lo) ((xs.drop lo).take (hi - lo)) := by
  refine ⟨if c = lo then o else o.map (·.add (lo * 1)), fun W => ?_, fun W hW => rd_cut hW lo hi h1 h2⟩
  have hc := h.2.1
  rw [run_slice_lh W 22 o n c (by kernel_rfl) .i64 .i64 (lo : Int) (hi : Int) (by omega) (by omega) (by omega)]
  go_simp
theorem slice_l {w : World} {o : Option Addr} {n c : Nat} {xs : List Nat} (h : Rd w o n c xs) (lo : Nat) (h1 : lo ≤ n) : ∃ o', (∀ W, (Instr.slice 22 (.slice o n c) (some (.int .i64 (lo : Int))) none none).run Tryz.prog W = .ok (.slice o' (n - lo) (c - lo)) W) ∧ ∀ W, Rd W o n c xs → Rd W o' (n - lo) (c - lo) (xs.drop lo) := by
  refine ⟨if c = lo then o else o.map (·.add (lo * 1)), fun W => ?_, fun W hW => ?_⟩
  rotate_left
  · have := rd_cut hW lo n h1 (Nat.le_refl _)
    rw [List.take_of_length_le (by rw [List.length_drop, hW.1]; omega)] at this
    exact this
  have hc := h.2.1
  rw [run_slice_l W 22 o n c (by kernel_rfl) .i64 (lo : Int) (by omega) (by omega)]
  go_simp
end Go.Proofs.YtpmfedimjjifaaaGreatDoor
