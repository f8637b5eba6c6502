/- The numbers that bytes make; what the document's own function Get returns; no statement of the seat is proved here. -/
import Derived.Test.YtgjgkpnjchflaaaGreatDoorG02
import Derived.Laws.CopyOwn
import Derived.Deep.DeepCutAuto
import Derived.Test.YtgjgkpnjchflaaaGreatDoorG00
import Derived.WalkMore
import Derived.Laws.BitsAllLaws
import Derived.Deep.LoopGhost
namespace Go.Proofs.YtgjgkpnjchflaaaGreatDoor.Jrn
open Go.RowKit

theorem getD_lt {xs : List Nat} (h : ∀ x ∈ xs, x < 256) (i : Nat) (hi : i < xs.length) : xs.getD i 0 < 256 := by
  rw [List.getD_eq_getElem?_getD, List.getElem?_eq_getElem hi]
  exact h _ (List.getElem_mem hi)

theorem drop_getD (xs : List Nat) (i : Nat) (hi : i < xs.length) : xs.drop i = xs.getD i 0 :: xs.drop (i + 1) := by
  rw [List.drop_eq_getElem_cons hi, List.getD_eq_getElem?_getD, List.getElem?_eq_getElem hi]
  rfl

theorem wraps_u64 (n : Int) (h0 : 0 ≤ n) (h1 : n < 2 ^ 64) : IntKind.u64.wrap n = n := by rw [IntKind.wrap_u64]; omega

theorem or_join (a x k : Nat) (hx : x < 2 ^ k) (h : a * 2 ^ k + x < 18446744073709551616) : bits .or .u64 ((a : Int) * ((2 ^ k : Nat) : Int)) (x : Int) = ((a * 2 ^ k + x : Nat) : Int) := by
  have h1 := (bits_nat .u64 64 (by decide) wraps_u64 (a * 2 ^ k) x (by omega) (by omega)).2
  rw [Int.natCast_mul] at h1
  rw [h1, Nat.mul_comm a, ← Nat.two_pow_add_eq_or_of_lt hx a]

theorem or8 (a x : Nat) (hx : x < 256) (h : a < 72057594037927936) : bits .or .u64 ((a : Int) * 256) (x : Int) = ((a * 256 + x : Nat) : Int) := by
  simpa using or_join a x 8 (by omega) (by omega)

/-- The number that the first i of s bytes make, in either order. -/
def psum (xs : List Nat) (s : Nat) (l : Bool) : Nat → Nat
  | 0 => 0
  | i + 1 => psum xs s l i + xs.getD i 0 * 2 ^ (8 * place l s i)

theorem psum_big (xs : List Nat) (s : Nat) (hx : ∀ x ∈ xs, x < 256) (hs : s ≤ xs.length) : ∀ i, i ≤ s → ∃ q, q < 2 ^ (8 * i) ∧ psum xs s false i = q * 2 ^ (8 * (s - i)) := by
  intro i
  induction i with
  | zero => intro _; exact ⟨0, by simp, by simp [psum]⟩
  | succ i ih =>
    intro hi
    obtain ⟨q, hq, e⟩ := ih (by omega)
    have hc := getD_lt hx i (by omega)
    refine ⟨q * 256 + xs.getD i 0, ?_, ?_⟩
    · rw [show 8 * (i + 1) = 8 * i + 8 by omega, Nat.pow_add]; omega
    · simp only [psum, e, place]
      rw [show 8 * (s - i) = 8 + 8 * (s - (i + 1)) by omega, Nat.pow_add, show s - 1 - i = s - (i + 1) by omega, Nat.add_mul, Nat.mul_assoc]
      rfl

theorem psum_little (xs : List Nat) (s : Nat) (hx : ∀ x ∈ xs, x < 256) (hs : s ≤ xs.length) : ∀ i, i ≤ s → psum xs s true i < 2 ^ (8 * i) := by
  intro i
  induction i with
  | zero => intro _; simp [psum]
  | succ i ih =>
    intro hi
    have h := ih (by omega)
    have hc := getD_lt hx i (by omega)
    simp only [psum, place, if_true]
    rw [show 8 * (i + 1) = 8 * i + 8 by omega, Nat.pow_add]
    have h2 : xs.getD i 0 * 2 ^ (8 * i) ≤ 255 * 2 ^ (8 * i) := Nat.mul_le_mul_right _ (by omega)
    omega

theorem psum_lt (xs : List Nat) (s : Nat) (l : Bool) (hx : ∀ x ∈ xs, x < 256) (hs : s ≤ xs.length) (h8 : s ≤ 8) (i : Nat) (hi : i ≤ s) : psum xs s l i < 18446744073709551616 := by
  cases l with
  | true =>
    have h := psum_little xs s hx hs i hi
    have hp : 2 ^ (8 * i) ≤ 2 ^ 64 := Nat.pow_le_pow_right (by omega) (by omega)
    omega
  | false =>
    obtain ⟨q, hq, e⟩ := psum_big xs s hx hs i hi
    have h1 : q * 2 ^ (8 * (s - i)) < 2 ^ (8 * i) * 2 ^ (8 * (s - i)) := Nat.mul_lt_mul_of_pos_right hq (Nat.pow_pos (by omega))
    rw [← Nat.pow_add, show 8 * i + 8 * (s - i) = 8 * s by omega] at h1
    have hp : 2 ^ (8 * s) ≤ 2 ^ 64 := Nat.pow_le_pow_right (by omega) (by omega)
    omega

theorem psum_or (xs : List Nat) (s : Nat) (l : Bool) (hx : ∀ x ∈ xs, x < 256) (hs : s ≤ xs.length) (i : Nat) (hi : i < s) :
    psum xs s l i ||| xs.getD i 0 * 2 ^ (8 * place l s i) = psum xs s l (i + 1) := by
  have hc := getD_lt hx i (by omega)
  cases l with
  | true =>
    have h := psum_little xs s hx hs i (by omega)
    simp only [psum, place, if_true]
    rw [Nat.or_comm, Nat.mul_comm, ← Nat.two_pow_add_eq_or_of_lt h, Nat.add_comm]
  | false =>
    obtain ⟨q, hq, e⟩ := psum_big xs s hx hs i (by omega)
    simp only [psum, e, place]
    have hlt : xs.getD i 0 * 2 ^ (8 * (s - 1 - i)) < 2 ^ (8 * (s - i)) := by
      rw [show 8 * (s - i) = 8 + 8 * (s - 1 - i) by omega, Nat.pow_add]
      exact Nat.mul_lt_mul_of_pos_right (by omega) (Nat.pow_pos (by omega))
    rw [if_neg (by simp), Nat.mul_comm q, ← Nat.two_pow_add_eq_or_of_lt hlt]

theorem getD_term_lt (xs : List Nat) (s : Nat) (l : Bool) (hx : ∀ x ∈ xs, x < 256) (hs : s ≤ xs.length) (h8 : s ≤ 8) (i : Nat) (hi : i < s) : xs.getD i 0 * 2 ^ (8 * place l s i) < 18446744073709551616 := by
  have := psum_lt xs s l hx hs h8 (i + 1) (by omega)
  simp only [psum] at this
  omega

/-- What Get answers. -/
def getV (xs : List Nat) (s : Int) (l : Bool) : Nat × Bool := if 1 ≤ s ∧ s ≤ 8 ∧ s ≤ (xs.length : Int) then (psum xs s.toNat l s.toNat, true) else (0, false)

theorem getV_lt (xs : List Nat) (s : Int) (l : Bool) (hx : ∀ x ∈ xs, x < 256) : (getV xs s l).1 < 18446744073709551616 := by
  unfold getV
  split
  · exact psum_lt xs s.toNat l hx (by omega) (by omega) s.toNat (Nat.le_refl _)
  · simp

def hsum (xs : List Nat) (s : Nat) (l : Bool) : Nat → Nat
  | 0 => 0
  | i + 1 => hsum xs s l i * 256 + xs.getD (if l then s - 1 - i else i) 0

theorem hsum_lt (xs : List Nat) (s : Nat) (l : Bool) (hx : ∀ x ∈ xs, x < 256) (hs : s ≤ xs.length) : ∀ i, i ≤ s → hsum xs s l i < 2 ^ (8 * i) := by
  intro i
  induction i with
  | zero => intro _; simp [hsum]
  | succ i ih =>
    intro hi
    have h := ih (by omega)
    have hc := getD_lt hx (if l then s - 1 - i else i) (by split <;> omega)
    simp only [hsum]
    rw [show 8 * (i + 1) = 8 * i + 8 by omega, Nat.pow_add]
    omega

theorem hsum_eq (xs : List Nat) (s : Nat) (l : Bool) (h8 : s ≤ 8) : hsum xs s l s = psum xs s l s := by
  have e : s = 0 ∨ s = 1 ∨ s = 2 ∨ s = 3 ∨ s = 4 ∨ s = 5 ∨ s = 6 ∨ s = 7 ∨ s = 8 := by omega
  rcases e with rfl | rfl | rfl | rfl | rfl | rfl | rfl | rfl | rfl <;> cases l <;> simp [hsum, psum, place] <;> omega

end Go.Proofs.YtgjgkpnjchflaaaGreatDoor.Jrn

/- What a source is in memory; what its next, Num and Read do; no statement of the seat is proved here. -/
namespace Go.Proofs.YtgjgkpnjchflaaaGreatDoor.Jrn
open Go.RowKit

theorem grow_trans {p : Nat} {a b c : World} (h : a.grownBy b (some p)) (k : b.grownBy c (some p)) : a.grownBy c (some p) :=
  ⟨k.os.trans h.os, k.tape.trans h.tape, k.output.trans h.output, Nat.le_trans h.size k.size, fun i hi hne => (k.block i (Nat.lt_of_lt_of_le hi h.size) hne).trans (h.block i hi hne)⟩

theorem grow_below {p : Nat} {a b : World} (h : Below a.heap.size a b) : a.grownBy b (some p) := ⟨h.os, h.tape, h.output, h.size, fun k hk _ => h.block k hk⟩

theorem grow_cell {p : Nat} {a b : World} (h : a.grownBy b (some p)) {x : Addr} {v : Value} (hc : a.cell? x = some v) (hne : x.block ≠ p) : b.cell? x = some v := by
  rw [World.cell?_of_block (h.block x.block (lt_cell hc) (by simpa using hne))]; exact hc

/-- A source that a call made, without an error: these bytes are left. -/
def SrcAt (W : World) (p : Nat) (xs : List Nat) : Prop :=
  ∃ b off n cap, W.heap[p]? = some (.cells #[.bool true, .slice (some ⟨b, off, none⟩) n cap, .int .i64 0] 230 (0, 0)) ∧ Rd W (some ⟨b, off, none⟩) n cap xs ∧ n ≤ 9223372036854775807 ∧ b ≠ p

theorem SrcAt.keep {W W' : World} {p : Nat} {xs : List Nat} (h : SrcAt W p xs) (hb : Below W.heap.size W W') : SrcAt W' p xs := by
  obtain ⟨b, off, n, cap, hp, hr, hn, hne⟩ := h
  exact ⟨b, off, n, cap, by rw [hb.block p (lt_of_block hp)]; exact hp, hr.keep hb, hn, hne⟩

theorem src_cells {W : World} {p : Nat} {a b c : Value} (h : W.heap[p]? = some (.cells #[a, b, c] 230 (0, 0))) :
    W.cell? ⟨p, 0, none⟩ = some a ∧ W.cell? ⟨p, 1, none⟩ = some b ∧ W.cell? ⟨p, 2, none⟩ = some c ∧ W.frozen? ⟨p, 1, none⟩ = false ∧ W.frozen? ⟨p, 2, none⟩ = false := by
  simp [World.cell?, World.frozen?, h]

theorem src_set {W : World} {p : Nat} {a b c v : Value} (h : W.heap[p]? = some (.cells #[a, b, c] 230 (0, 0))) : (W.setCell ⟨p, 1, none⟩ v).heap[p]? = some (.cells #[a, v, c] 230 (0, 0)) := by
  rw [heap_setCell_same W p 1 _ 230 v h]; simp

theorem grow_set (W : World) (p : Nat) (i : Nat) (v : Value) : W.grownBy (W.setCell ⟨p, i, none⟩ v) (some p) :=
  ⟨rfl, rfl, rfl, by simp, fun k _ hk => heap_setCell_other W ⟨p, i, none⟩ k v (fun e => hk (by simp [e]))⟩

theorem rd_set {W : World} {p i : Nat} {v : Value} {ao : Option Addr} {n cap : Nat} {xs : List Nat} (h : Rd W ao n cap xs) (hne : ∀ b off, ao = some ⟨b, off, none⟩ → b ≠ p) : Rd (W.setCell ⟨p, i, none⟩ v) ao n cap xs := by
  refine ⟨h.1, h.2.1, h.2.2.1, fun hp => ?_⟩
  obtain ⟨b, off, e, hc⟩ := h.2.2.2 hp
  exact ⟨b, off, e, fun t ht => grow_cell (grow_set W p i v) (hc t ht) (hne b off e)⟩

/-- All but the first byte. -/
theorem Rd.tail {W : World} {b off n cap c : Nat} {r : List Nat} (h : Rd W (some ⟨b, off, none⟩) n cap (c :: r)) : (cap = 1 → Rd W (some ⟨b, off, none⟩) (n - 1) (cap - 1) r) ∧ (¬ cap = 1 → Rd W (some ⟨b, off + 1, none⟩) (n - 1) (cap - 1) r) := by
  obtain ⟨hl, hc, hno, hat⟩ := h
  simp at hl
  constructor
  · intro h1
    refine ⟨by omega, by omega, fun h => (by cases h), fun hp => ?_⟩
    omega
  · intro h1
    refine ⟨by omega, by omega, fun h => (by cases h), fun hp => ⟨b, off + 1, rfl, fun t ht => ?_⟩⟩
    obtain ⟨b', off', e, hcell⟩ := hat (by omega)
    simp only [Option.some.injEq, Addr.mk.injEq, and_true] at e
    obtain ⟨rfl, rfl⟩ := e
    have := hcell (t + 1) (by omega)
    rw [show off + 1 + t = off + (t + 1) by omega, this]
    simp [List.getD]

set_option maxHeartbeats 1000000 in
theorem next_more (p c : Nat) (r : List Nat) (W : World) (h : SrcAt W p (c :: r)) :
    Calls Tryz.prog 181 #[.pointer (some ⟨p, 0, none⟩)] W fun e w' => e = .returned (.tuple #[.int .u8 (c : Int), .bool true]) ∧ SrcAt w' p r ∧ W.grownBy w' (some p) := by
  obtain ⟨b, off, n, cap, hp, hr, hn, hb⟩ := h
  have hl := hr.1
  simp at hl
  obtain ⟨b', off', e, hc⟩ := hr.2.2.2 (by omega)
  simp only [Option.some.injEq, Addr.mk.injEq, and_true] at e
  obtain ⟨rfl, rfl⟩ := e
  have hc0 := hc 0 (by omega)
  simp [List.getD] at hc0
  have hcap := hr.2.1
  obtain ⟨s0, s1, s2, f1, f2⟩ := src_cells hp
  have ht := hr.tail
  have hr' := hid hr
  have hp' := hid hp
  have h0 : ((n : Int) == 0) = false := by simp; omega
  have hn0 : (0 : Int) < (n : Int) := by omega
  have hn1 : (1 : Int) ≤ (n : Int) := by omega
  have ht' := hid ht
  have hl' : 1 ≤ n := by omega
  clear hc hr hp ht
  by_cases h1 : cap = 1
  · have ht2 := hid (ht'.out.1 h1)
    obtain rfl : n = 1 := by omega
    subst h1
    go_enter Tryz.func181, Tryz.ntmps181
    go_wp2
    go_ret2
    exact ⟨rfl, ⟨_, _, _, _, src_set hp'.out, rd_set ht2.out (fun _ _ e => by simp only [Option.some.injEq, Addr.mk.injEq, and_true] at e; rw [← e.1]; exact hb), by omega, hb⟩, grow_set _ _ _ _⟩
  · have ht2 := hid (ht'.out.2 h1)
    go_enter Tryz.func181, Tryz.ntmps181
    go_wp2
    go_ret2
    exact ⟨rfl, ⟨_, _, _, _, src_set hp'.out, rd_set ht2.out (fun _ _ e => by simp only [Option.some.injEq, Addr.mk.injEq, and_true] at e; rw [← e.1]; exact hb), by omega, hb⟩, grow_set _ _ _ _⟩

set_option maxHeartbeats 400000 in
theorem next_end (p : Nat) (W : World) (h : SrcAt W p []) : Calls Tryz.prog 181 #[.pointer (some ⟨p, 0, none⟩)] W fun e w' => e = .returned (.tuple #[.int .u8 0, .bool false]) ∧ W = w' := by
  obtain ⟨b, off, n, cap, hp, hr, hn, hne⟩ := h
  obtain rfl : n = 0 := by have := hr.1; simpa using this.symm
  obtain ⟨s0, s1, s2, f1, f2⟩ := src_cells hp
  clear hp hr hn hne
  go_enter Tryz.func181, Tryz.ntmps181
  go_wp2
  go_ret2
  exact ⟨rfl, rfl⟩

set_option maxHeartbeats 400000 in
theorem err_ok (p : Nat) (xs : List Nat) (W : World) (h : SrcAt W p xs) : Calls Tryz.prog 179 #[.pointer (some ⟨p, 0, none⟩)] W fun e w' => e = .returned (.int .i64 0) ∧ W = w' := by
  obtain ⟨b, off, n, cap, hp, hr, hn, hne⟩ := h
  obtain ⟨s0, s1, s2, f1, f2⟩ := src_cells hp
  clear hp hr hn hne
  go_enter Tryz.func179, Tryz.ntmps179
  go_wp2
  go_ret
  exact ⟨rfl, rfl⟩

/-- A source on its way through xs. -/
def On (w : World) (p : Nat) (xs : List Nat) (k : Nat) (W : World) : Prop := SrcAt W p (xs.drop k) ∧ w.grownBy W (some p)

theorem on_more (w : World) (p : Nat) (xs : List Nat) (k : Nat) (W : World) (h : On w p xs k W) (hk : k < xs.length) :
    Calls Tryz.prog 181 #[.pointer (some ⟨p, 0, none⟩)] W fun e w' => e = .returned (.tuple #[.int .u8 ((xs.getD k 0 : Nat) : Int), .bool true]) ∧ On w p xs (k + 1) w' := by
  have h1 := h.1
  rw [drop_getD xs k hk] at h1
  exact (next_more p _ _ W h1).mono fun e w' ⟨he, hs, hg⟩ => ⟨he, hs, grow_trans h.2 hg⟩

theorem on_end (w : World) (p : Nat) (xs : List Nat) (W : World) (h : On w p xs xs.length W) :
    Calls Tryz.prog 181 #[.pointer (some ⟨p, 0, none⟩)] W fun e w' => e = .returned (.tuple #[.int .u8 0, .bool false]) ∧ On w p xs xs.length w' := by
  have h1 := h.1
  rw [List.drop_length] at h1
  exact (next_end p W h1).mono fun e w' ⟨he, hs⟩ => ⟨he, hs ▸ h⟩

set_option maxHeartbeats 1000000 in
set_option maxRecDepth 20000 in
theorem gather_src (p : Nat) (xs : List Nat) (hx : ∀ x ∈ xs, x < 256) (s : Nat) (l : Bool) (hs : s ≤ xs.length) (h8 : s ≤ 8) (St : Nat → World → Prop)
    (hmore : ∀ k W, St k W → k < xs.length → Calls Tryz.prog 181 #[.pointer (some ⟨p, 0, none⟩)] W fun e w' => e = .returned (.tuple #[.int .u8 ((xs.getD k 0 : Nat) : Int), .bool true]) ∧ St (k + 1) w')
    (w : World) (h0 : St 0 w) :
    Calls Tryz.prog 141 #[.func (.func 181) #[.pointer (some ⟨p, 0, none⟩)] #[], .int .i64 s, .bool l] w fun e w' =>
      e = .returned (.int .u64 (psum xs s l s : Nat)) ∧ St s w' := by
  have hmore' := hid hmore
  have hx' := hid hx
  have h0' := hid h0
  clear hmore hx h0
  go_enter Tryz.func141, Tryz.ntmps141
  go_wp2
  go_loopw [7, 12] (fun a c W => ∃ (i : Nat), i ≤ s ∧ a = .int .u64 (psum xs s l i : Nat) ∧ c = .int .i64 (i : Int) ∧ St i W) (fun _ c _ => s - (intOf c).toNat)
  case atStart => exact ⟨0, by omega, rfl, rfl, h0'.out⟩
  case round =>
    obtain ⟨i, hi, rfl, rfl, hS⟩ := hrel
    have hS' := hid hS
    clear hS
    by_cases his : i < s
    · have c := hid (hmore'.out i wr hS'.out (by omega))
      obtain ⟨sh, q, csh, _, hshl, _⟩ := shift_named (xs.getD i 0) i s l his h8
      have hor := bits_or_u64_nat (psum xs s l i) (xs.getD i 0 * 2 ^ (8 * place l s i)) (psum_lt xs s l hx'.out hs h8 i (by omega)) (getD_term_lt xs s l hx'.out hs h8 i his)
      rw [psum_or xs s l hx'.out hs i his] at hor
      have hw : IntKind.u64.wrap ((xs.getD i 0 * 2 ^ (8 * place l s i) : Nat) : Int) = ((xs.getD i 0 * 2 ^ (8 * place l s i) : Nat) : Int) := by
        rw [IntKind.wrap_u64]; have := getD_term_lt xs s l hx'.out hs h8 i his; omega
      rw [hw] at hshl
      have hX2 := getD_lt hx'.out i (by omega)
      have csh' := hid csh
      clear hw csh
      generalize xs.getD i 0 * 2 ^ (8 * place l s i) = t at *
      obtain ⟨P1, hP1⟩ : ∃ P, P = psum xs s l (i + 1) := ⟨_, rfl⟩
      rw [← hP1] at hor
      generalize psum xs s l i = P0 at *
      generalize xs.getD i 0 = X at *
      have hP1' := hid hP1
      clear hP1
      go_wp2_with (first | (go_at_call 181; refine c.out.mono ?_; rintro e w1 ⟨rfl, hS1⟩) | (go_at_call 160; refine (csh'.out _).mono ?_; rintro e w2 ⟨rfl, hw2⟩; obtain rfl := hw2.symm))
      exact ⟨⟨i + 1, by omega, by rw [hP1'.out], by go_num, hS1⟩, by simp [intOf]; omega⟩
    · obtain rfl : i = s := by omega
      go_wp2
      go_ret
      exact ⟨rfl, hS'.out⟩

set_option maxHeartbeats 400000 in
theorem read_ok (ao : Option Addr) (n cap : Nat) (xs : List Nat) (w : World) (h : Rd w ao n cap xs) (hn : n ≤ 140737488355328) :
    Calls Tryz.prog 146 #[.slice ao n cap] w fun e w' => ∃ p, e = .returned (.pointer (some ⟨p, 0, none⟩)) ∧ w.heap.size ≤ p ∧ SrcAt w' p xs ∧ Below w.heap.size w w' := by
  have cw : Hid (Calls Tryz.prog 159 #[.slice ao n cap, .int .i64 0] w fun e w' => e = .returned (.slice (some ⟨w.heap.size, 0, none⟩) n n) ∧
      w'.ownsRow w.heap.size 5 1 (.slice (some ⟨w.heap.size, 0, none⟩) n n) n (bs xs) ∧ Below w.heap.size w w') := hid (by simpa using widened_any ao n cap 0 xs w h (by omega))
  clear h
  go_enter Tryz.func146, Tryz.ntmps146
  go_wp2_with (go_at_call 159; refine cw.out.mono ?_; rintro e w1 ⟨rfl, ho1, hb1⟩)
  go_ret
  refine ⟨w1.heap.size, rfl, hb1.size, ⟨_, _, _, _, heap_alloc_new w1 _, (rd_own ho1).keep (Below.alloc (Below.refl _ _) (Nat.le_refl _) _), by omega, ?_⟩, Below.alloc hb1 hb1.size _⟩
  have := (ho1.lt w.heap.size (by rfl)).2
  omega

set_option maxHeartbeats 1000000 in
theorem num_k (p : Nat) (xs : List Nat) (s : Nat) (l : Bool) (W : World) (h : SrcAt W p xs) (hx : ∀ x ∈ xs, x < 256) (h1 : 1 ≤ s) (h8 : s ≤ 8) (hs : s ≤ xs.length) :
    Calls Tryz.prog 147 #[.pointer (some ⟨p, 0, none⟩), .int .i64 (s : Int), .bool l] W fun e w' => e = .returned (.int .u64 (psum xs s l s : Nat)) ∧ SrcAt w' p (xs.drop s) ∧ W.grownBy w' (some p) := by
  have c26 := hid (err_ok p xs W h)
  have c27 := hid (sized_any (s : Int))
  rw [show (decide ((1 : Int) ≤ (s : Int)) && decide ((s : Int) ≤ 8)) = true by simp; omega] at c27
  have c28 := hid (gather_src p xs hx s l hs h8 (On W p xs) (fun k W' hS hk => on_more W p xs k W' hS hk) W ⟨by simpa using h, World.grownBy.refl _ _⟩)
  obtain ⟨b, off, n, cap, hp, hr, hn, hne⟩ := h
  obtain ⟨s0, s1, s2, f1, f2⟩ := src_cells hp
  have hl := hr.1
  have hn8 : ¬ (n : Int) < (s : Int) := by omega
  generalize psum xs s l s = R at *
  clear hp hr hne hx hl h8 h1 hs
  go_enter Tryz.func147, Tryz.ntmps147
  go_wp2_with (first | (go_at_call 179; refine c26.out.mono ?_; rintro e w1 ⟨rfl, rfl⟩) | (go_at_call 140; refine (c27.out _).mono ?_; rintro e w2 ⟨rfl, hw2⟩; obtain rfl := hw2.symm) | (go_at_call 141; refine c28.out.mono ?_; rintro e w3 ⟨rfl, hS⟩; replace hS := hid hS))
  go_ret
  exact ⟨rfl, hS.out.1, hS.out.2⟩

end Go.Proofs.YtgjgkpnjchflaaaGreatDoor.Jrn

/- What (*Source).Bytes does with a source that is in order; no statement of the seat is proved here. -/
namespace Go.Proofs.YtgjgkpnjchflaaaGreatDoor.Jrn
open Go.RowKit

theorem op_at (l : List Oper) (i : Nat) (o : Oper) (h : l[i]? = some o) : l.toArray[i]? = some o := by simpa using h

/-- All but the first k bytes. -/
theorem Rd.from_ {W : World} {b off n cap : Nat} {xs : List Nat} (h : Rd W (some ⟨b, off, none⟩) n cap xs) (k : Nat) (hk : k ≤ n) :
    (cap = k → Rd W (some ⟨b, off, none⟩) (n - k) (cap - k) (xs.drop k)) ∧ (¬ cap = k → Rd W (some ⟨b, off + k, none⟩) (n - k) (cap - k) (xs.drop k)) := by
  obtain ⟨hl, hc, hno, hat⟩ := h
  constructor
  · intro h1
    refine ⟨by simp; omega, by omega, fun h => (by cases h), fun hp => ?_⟩
    omega
  · intro h1
    refine ⟨by simp; omega, by omega, fun h => (by cases h), fun hp => ⟨b, off + k, rfl, fun t ht => ?_⟩⟩
    obtain ⟨b', off', e, hcell⟩ := hat (by omega)
    simp only [Option.some.injEq, Addr.mk.injEq, and_true] at e
    obtain ⟨rfl, rfl⟩ := e
    have := hcell (k + t) (by omega)
    rw [show off + k + t = off + (k + t) by omega, this]
    simp [List.getD]

theorem bytes_hpos {W W1 : World} {b off n cap k g : Nat} {xs : List Nat} (h : Rd W (some ⟨b, off, none⟩) n cap xs) (hb : Below W.heap.size W W1) (hk : k ≤ n) : 0 < (bs (xs.take k)).length → some (⟨g, 0, none⟩ : Addr) = some ⟨g, 0, none⟩ ∧ ∃ ad, some (⟨b, off, none⟩ : Addr) = some ad ∧ ∀ j v, (bs (xs.take k))[j]? = some v → W1.cell? (ad.add j) = some v := by
  intro hp
  refine ⟨rfl, _, rfl, fun j v hv => ?_⟩
  obtain ⟨hj, rfl⟩ := bs_get' _ j v hv
  obtain ⟨hl, _, _, hat⟩ := h.keep hb
  simp at hj
  obtain ⟨b', off', e, hcell⟩ := hat (by omega)
  simp only [Option.some.injEq, Addr.mk.injEq, and_true] at e
  obtain ⟨rfl, rfl⟩ := e
  rw [Addr.add_lit, hcell j (by omega)]
  have hj2 : j < k := by omega
  simp [List.getD, hj2]

theorem bytes_hn {n k : Nat} {xs : List Nat} (hl : xs.length = n) (hk : k ≤ n) : (bs (xs.take k)).length = Nat.min n k := by
  rw [bs_length, List.length_take, hl]
  show min k n = min n k
  omega

theorem bytes_end {W w4 : World} {p b off n cap k : Nat} {xs : List Nat} {v : Value} {ao' : Addr} (hp : W.heap[p]? = some (.cells #[.bool true, .slice (some ⟨b, off, none⟩) n cap, .int .i64 0] 230 (0, 0)))
    (hr : Rd W (some ⟨b, off, none⟩) n cap xs) (hn : n ≤ 9223372036854775807) (hne : b ≠ p) (hk : k ≤ n) (hk2 : k ≤ 1000) (hb4 : Below W.heap.size (W.alloc (.cells (Array.replicate k (.int .u8 0)) 5)).drew w4)
    (hg4 : w4.heap[W.heap.size]? = some (.cells (splice (List.replicate k (.int .u8 0)) 0 (bs (xs.take k))).toArray 5 (0, 0)))
    (hv : v = .slice (some ao') (n - k) (cap - k)) (ha : (cap = k ∧ ao' = ⟨b, off, none⟩) ∨ (¬ cap = k ∧ ao' = ⟨b, off + k, none⟩)) :
    Rd (w4.setCell ⟨p, 1, none⟩ v) (some ⟨W.heap.size, 0, none⟩) k k (xs.take k) ∧ SrcAt (w4.setCell ⟨p, 1, none⟩ v) p (xs.drop k) ∧ W.grownBy (w4.setCell ⟨p, 1, none⟩ v) (some p) := by
  have hpl := lt_of_block hp
  have hl := hr.1
  have hb : Below W.heap.size W w4 := (Below.alloc (Below.refl _ _) (Nat.le_refl _) _).drew.trans hb4
  have hp4 : w4.heap[p]? = some (.cells #[.bool true, .slice (some ⟨b, off, none⟩) n cap, .int .i64 0] 230 (0, 0)) := by rw [hb.block p hpl]; exact hp
  have hlt : (xs.take k).length = k := by simp; omega
  have ho := own_of_row (B := W.heap.size) (n := k) (cap := k) (xs := xs.take k) (Nat.le_refl _) hg4 (by rw [length_splice _ _ _ (by simp [bs]; omega)]; simp) (by omega) (by simpa using splice_zero k 0 (xs.take k) hlt) hlt (Nat.le_refl _)
  refine ⟨rd_set (rd_own ho) (fun _ _ e => by simp only [Option.some.injEq, Addr.mk.injEq, and_true] at e; omega), ?_, grow_trans (grow_below hb) (grow_set _ _ _ _)⟩
  have hf := (hr.keep hb).from_ k hk
  subst hv
  rcases ha with ⟨h1, rfl⟩ | ⟨h1, rfl⟩
  · exact ⟨_, _, _, _, src_set hp4, rd_set (hf.1 h1) (fun _ _ e => by simp only [Option.some.injEq, Addr.mk.injEq, and_true] at e; rw [← e.1]; exact hne), by omega, hne⟩
  · exact ⟨_, _, _, _, src_set hp4, rd_set (hf.2 h1) (fun _ _ e => by simp only [Option.some.injEq, Addr.mk.injEq, and_true] at e; rw [← e.1]; exact hne), by omega, hne⟩

set_option maxHeartbeats 2000000 in
set_option maxRecDepth 20000 in
theorem bytes_ok (p : Nat) (xs : List Nat) (k : Nat) (W : World) (h : SrcAt W p xs) (hk : k ≤ xs.length) (hk2 : k ≤ 1000) :
    Calls Tryz.prog 148 #[.pointer (some ⟨p, 0, none⟩), .int .i64 (k : Int)] W fun e w' => ∃ ao c, e = .returned (.slice ao k c) ∧ Rd w' ao k c (xs.take k) ∧ SrcAt w' p (xs.drop k) ∧ W.grownBy w' (some p) := by
  have c26 := hid (err_ok p xs W h)
  have hmk := make_any k k (Nat.le_refl _) (by omega)
  obtain ⟨b, off, n, cap, hp, hr, hn, hne⟩ := h
  obtain ⟨s0, s1, s2, f1, f2⟩ := src_cells hp
  have hpl := lt_of_block hp
  have hl := hr.1
  have hcap := hr.2.1
  have hr' := hid hr
  have hp' := hid hp
  have hkn : k ≤ n := by omega
  have hkc : k ≤ cap := by omega
  have hk0 : ¬ (n : Int) < (k : Int) := by omega
  have hk1 : ¬ (k : Int) < 0 := by omega
  have hkc2 : (k : Int) ≤ (cap : Int) := by omega
  have hkn2 : (k : Int) ≤ (n : Int) := by omega
  clear hp hr hk hl
  have hl' := hid hr'.out.1
  have hcs : (bs (xs.take k)).length = k := by rw [bs_length]; have := hl'.out; simp; omega
  by_cases hck : cap = k
  · have hnk : n = k := by omega
    subst hck
    obtain rfl := hnk
    go_enter Tryz.func148, Tryz.ntmps148
    go_upto_region 10 with (go_at_call 179; refine c26.out.mono ?_; rintro e w1 ⟨rfl, rfl⟩)
    refine wp_region_held_drew (S := fun _ => True) (by kernel_rfl) (by trivial) (fun hHeld => ?_)
    refine ght 0 ?_
    refine ght 1 ?_
    refine ght 2 ?_
    refine ght 3 ?_
    refine ght 5 ?_
    refine ght 6 ?_
    refine ght 7 ?_
    refine ght 8 ?_
    refine wpAnyH_ready (rs := [4, 9]) (by kernel_rfl) (by simp) ?_
    refine AllReadyH.cons (op_at _ 4 _ rfl) (fun K hK => ?_) ?_
    · go_simp
      refine hK.out _ _ (by trivial) (fun hHeld => ?_)
      clear hK K
      (try simp only [Act.put, sA, sZ, sS])
      refine gh1 9 (fun K hK => ?_)
      go_simp
      refine hK.out _ _ (by trivial) (fun hHeld => ?_)
      clear hK K
      (try simp only [Act.put, sA, sZ, sS])
      refine gh1 10 (fun K hK => ?_)
      refine step_copy_splice rfl (.tmp 32) (.tmp 36) 79 79 rfl 5 Tryz.underlying79 (by kernel_rfl) _ _ _ _ _ _ rfl rfl W.heap.size 0 (List.replicate n (.int .u8 0)) 5 (copy_hg W n) (bs (xs.take n)) (bytes_hn hl'.out hkn) (bytes_hpos hr'.out (Below.alloc (Below.refl _ _) (Nat.le_refl _) _).drew hkn) (by simp [bs]; omega) (bs_one _) W.heap.size _ (Below.refl _ _) (Nat.le_refl _) ?_; intro w4 hg4 hb4; have t1 : w4.cell? ⟨p, 1, none⟩ = some (.slice (some ⟨b, off, none⟩) n n) := keep_cell hb4 (by simpa using keep_old (Below.alloc (Below.refl _ _) (Nat.le_refl _) _).drew s1) hpl; have tf : w4.frozen? ⟨p, 1, none⟩ = false := by rw [keep_frozen hb4 hpl, keep_frozen (Below.alloc (Below.refl W.heap.size W) (Nat.le_refl _) _).drew hpl]; exact f1
      refine hK.out _ _ (by trivial) (fun hHeld => ?_)
      clear hK K
      (try simp only [Act.put, sA, sZ, sS])
      refine gh1 11 (fun K hK => ?_)
      go_simp
      refine hK.out _ _ (by trivial) (fun hHeld => ?_)
      clear hK K
      (try simp only [Act.put, sA, sZ, sS])
      refine ght 12 ?_
      refine ght 13 ?_
      refine gh1 14 (fun K hK => ?_)
      go_simp
      refine hK.out _ _ (by trivial) (fun hHeld => ?_)
      clear hK K
      (try simp only [Act.put, sA, sZ, sS])
      refine wpAnyH_done (by kernel_rfl) ?_ _
      go_wp2
      go_ret
      exact ⟨_, _, rfl, bytes_end hp'.out hr'.out hn hne hkn hk2 hb4 hg4.out (by simp) (Or.inl ⟨rfl, rfl⟩)⟩
    refine AllReadyH.cons (op_at _ 9 _ rfl) (fun K hK => ?_) ?_
    · go_simp
      refine hK.out _ _ (by trivial) (fun hHeld => ?_)
      clear hK K
      (try simp only [Act.put, sA, sZ, sS])
      refine wpAnyH_ready (rs := [4, 10]) (by kernel_rfl) (by simp) ?_
      refine AllReadyH.cons (op_at _ 4 _ rfl) (fun K hK => ?_) ?_
      · go_simp
        refine hK.out _ _ (by trivial) (fun hHeld => ?_)
        clear hK K
        (try simp only [Act.put, sA, sZ, sS])
        refine gh1 10 (fun K hK => ?_)
        refine step_copy_splice rfl (.tmp 32) (.tmp 36) 79 79 rfl 5 Tryz.underlying79 (by kernel_rfl) _ _ _ _ _ _ rfl rfl W.heap.size 0 (List.replicate n (.int .u8 0)) 5 (copy_hg W n) (bs (xs.take n)) (bytes_hn hl'.out hkn) (bytes_hpos hr'.out (Below.alloc (Below.refl _ _) (Nat.le_refl _) _).drew hkn) (by simp [bs]; omega) (bs_one _) W.heap.size _ (Below.refl _ _) (Nat.le_refl _) ?_; intro w4 hg4 hb4; have t1 : w4.cell? ⟨p, 1, none⟩ = some (.slice (some ⟨b, off, none⟩) n n) := keep_cell hb4 (by simpa using keep_old (Below.alloc (Below.refl _ _) (Nat.le_refl _) _).drew s1) hpl; have tf : w4.frozen? ⟨p, 1, none⟩ = false := by rw [keep_frozen hb4 hpl, keep_frozen (Below.alloc (Below.refl W.heap.size W) (Nat.le_refl _) _).drew hpl]; exact f1
        refine hK.out _ _ (by trivial) (fun hHeld => ?_)
        clear hK K
        (try simp only [Act.put, sA, sZ, sS])
        refine gh1 11 (fun K hK => ?_)
        go_simp
        refine hK.out _ _ (by trivial) (fun hHeld => ?_)
        clear hK K
        (try simp only [Act.put, sA, sZ, sS])
        refine ght 12 ?_
        refine ght 13 ?_
        refine gh1 14 (fun K hK => ?_)
        go_simp
        refine hK.out _ _ (by trivial) (fun hHeld => ?_)
        clear hK K
        (try simp only [Act.put, sA, sZ, sS])
        refine wpAnyH_done (by kernel_rfl) ?_ _
        go_wp2
        go_ret
        exact ⟨_, _, rfl, bytes_end hp'.out hr'.out hn hne hkn hk2 hb4 hg4.out (by simp) (Or.inl ⟨rfl, rfl⟩)⟩
      refine AllReadyH.cons (op_at _ 10 _ rfl) (fun K hK => ?_) ?_
      · refine step_copy_splice rfl (.tmp 32) (.tmp 36) 79 79 rfl 5 Tryz.underlying79 (by kernel_rfl) _ _ _ _ _ _ rfl rfl W.heap.size 0 (List.replicate n (.int .u8 0)) 5 (copy_hg W n) (bs (xs.take n)) (bytes_hn hl'.out hkn) (bytes_hpos hr'.out (Below.alloc (Below.refl _ _) (Nat.le_refl _) _).drew hkn) (by simp [bs]; omega) (bs_one _) W.heap.size _ (Below.refl _ _) (Nat.le_refl _) ?_; intro w4 hg4 hb4; have t1 : w4.cell? ⟨p, 1, none⟩ = some (.slice (some ⟨b, off, none⟩) n n) := keep_cell hb4 (by simpa using keep_old (Below.alloc (Below.refl _ _) (Nat.le_refl _) _).drew s1) hpl; have tf : w4.frozen? ⟨p, 1, none⟩ = false := by rw [keep_frozen hb4 hpl, keep_frozen (Below.alloc (Below.refl W.heap.size W) (Nat.le_refl _) _).drew hpl]; exact f1
        refine hK.out _ _ (by trivial) (fun hHeld => ?_)
        clear hK K
        (try simp only [Act.put, sA, sZ, sS])
        refine gh1 4 (fun K hK => ?_)
        go_simp
        refine hK.out _ _ (by trivial) (fun hHeld => ?_)
        clear hK K
        (try simp only [Act.put, sA, sZ, sS])
        refine gh1 11 (fun K hK => ?_)
        go_simp
        refine hK.out _ _ (by trivial) (fun hHeld => ?_)
        clear hK K
        (try simp only [Act.put, sA, sZ, sS])
        refine ght 12 ?_
        refine ght 13 ?_
        refine gh1 14 (fun K hK => ?_)
        go_simp
        refine hK.out _ _ (by trivial) (fun hHeld => ?_)
        clear hK K
        (try simp only [Act.put, sA, sZ, sS])
        refine wpAnyH_done (by kernel_rfl) ?_ _
        go_wp2
        go_ret
        exact ⟨_, _, rfl, bytes_end hp'.out hr'.out hn hne hkn hk2 hb4 hg4.out (by simp) (Or.inl ⟨rfl, rfl⟩)⟩
      exact AllReadyH.nil
    exact AllReadyH.nil
  · have hck' : ¬ k = cap := fun e => hck e.symm
    go_enter Tryz.func148, Tryz.ntmps148
    go_upto_region 10 with (go_at_call 179; refine c26.out.mono ?_; rintro e w1 ⟨rfl, rfl⟩)
    refine wp_region_held_drew (S := fun _ => True) (by kernel_rfl) (by trivial) (fun hHeld => ?_)
    refine ght 0 ?_
    refine ght 1 ?_
    refine ght 2 ?_
    refine ght 3 ?_
    refine ght 5 ?_
    refine ght 6 ?_
    refine ght 7 ?_
    refine ght 8 ?_
    refine wpAnyH_ready (rs := [4, 9]) (by kernel_rfl) (by simp) ?_
    refine AllReadyH.cons (op_at _ 4 _ rfl) (fun K hK => ?_) ?_
    · go_simp
      refine hK.out _ _ (by trivial) (fun hHeld => ?_)
      clear hK K
      (try simp only [Act.put, sA, sZ, sS])
      refine gh1 9 (fun K hK => ?_)
      go_simp
      refine hK.out _ _ (by trivial) (fun hHeld => ?_)
      clear hK K
      (try simp only [Act.put, sA, sZ, sS])
      refine gh1 10 (fun K hK => ?_)
      refine step_copy_splice rfl (.tmp 32) (.tmp 36) 79 79 rfl 5 Tryz.underlying79 (by kernel_rfl) _ _ _ _ _ _ rfl rfl W.heap.size 0 (List.replicate k (.int .u8 0)) 5 (copy_hg W k) (bs (xs.take k)) (bytes_hn hl'.out hkn) (bytes_hpos hr'.out (Below.alloc (Below.refl _ _) (Nat.le_refl _) _).drew hkn) (by simp [bs]; omega) (bs_one _) W.heap.size _ (Below.refl _ _) (Nat.le_refl _) ?_; intro w4 hg4 hb4; have t1 : w4.cell? ⟨p, 1, none⟩ = some (.slice (some ⟨b, off, none⟩) n cap) := keep_cell hb4 (by simpa using keep_old (Below.alloc (Below.refl _ _) (Nat.le_refl _) _).drew s1) hpl; have tf : w4.frozen? ⟨p, 1, none⟩ = false := by rw [keep_frozen hb4 hpl, keep_frozen (Below.alloc (Below.refl W.heap.size W) (Nat.le_refl _) _).drew hpl]; exact f1
      refine hK.out _ _ (by trivial) (fun hHeld => ?_)
      clear hK K
      (try simp only [Act.put, sA, sZ, sS])
      refine gh1 11 (fun K hK => ?_)
      go_simp
      refine hK.out _ _ (by trivial) (fun hHeld => ?_)
      clear hK K
      (try simp only [Act.put, sA, sZ, sS])
      refine ght 12 ?_
      refine ght 13 ?_
      refine gh1 14 (fun K hK => ?_)
      go_simp
      refine hK.out _ _ (by trivial) (fun hHeld => ?_)
      clear hK K
      (try simp only [Act.put, sA, sZ, sS])
      refine wpAnyH_done (by kernel_rfl) ?_ _
      go_wp2
      go_ret
      exact ⟨_, _, rfl, bytes_end hp'.out hr'.out hn hne hkn hk2 hb4 hg4.out (by simp) (Or.inr ⟨hck, rfl⟩)⟩
    refine AllReadyH.cons (op_at _ 9 _ rfl) (fun K hK => ?_) ?_
    · go_simp
      refine hK.out _ _ (by trivial) (fun hHeld => ?_)
      clear hK K
      (try simp only [Act.put, sA, sZ, sS])
      refine wpAnyH_ready (rs := [4, 10]) (by kernel_rfl) (by simp) ?_
      refine AllReadyH.cons (op_at _ 4 _ rfl) (fun K hK => ?_) ?_
      · go_simp
        refine hK.out _ _ (by trivial) (fun hHeld => ?_)
        clear hK K
        (try simp only [Act.put, sA, sZ, sS])
        refine gh1 10 (fun K hK => ?_)
        refine step_copy_splice rfl (.tmp 32) (.tmp 36) 79 79 rfl 5 Tryz.underlying79 (by kernel_rfl) _ _ _ _ _ _ rfl rfl W.heap.size 0 (List.replicate k (.int .u8 0)) 5 (copy_hg W k) (bs (xs.take k)) (bytes_hn hl'.out hkn) (bytes_hpos hr'.out (Below.alloc (Below.refl _ _) (Nat.le_refl _) _).drew hkn) (by simp [bs]; omega) (bs_one _) W.heap.size _ (Below.refl _ _) (Nat.le_refl _) ?_; intro w4 hg4 hb4; have t1 : w4.cell? ⟨p, 1, none⟩ = some (.slice (some ⟨b, off, none⟩) n cap) := keep_cell hb4 (by simpa using keep_old (Below.alloc (Below.refl _ _) (Nat.le_refl _) _).drew s1) hpl; have tf : w4.frozen? ⟨p, 1, none⟩ = false := by rw [keep_frozen hb4 hpl, keep_frozen (Below.alloc (Below.refl W.heap.size W) (Nat.le_refl _) _).drew hpl]; exact f1
        refine hK.out _ _ (by trivial) (fun hHeld => ?_)
        clear hK K
        (try simp only [Act.put, sA, sZ, sS])
        refine gh1 11 (fun K hK => ?_)
        go_simp
        refine hK.out _ _ (by trivial) (fun hHeld => ?_)
        clear hK K
        (try simp only [Act.put, sA, sZ, sS])
        refine ght 12 ?_
        refine ght 13 ?_
        refine gh1 14 (fun K hK => ?_)
        go_simp
        refine hK.out _ _ (by trivial) (fun hHeld => ?_)
        clear hK K
        (try simp only [Act.put, sA, sZ, sS])
        refine wpAnyH_done (by kernel_rfl) ?_ _
        go_wp2
        go_ret
        exact ⟨_, _, rfl, bytes_end hp'.out hr'.out hn hne hkn hk2 hb4 hg4.out (by simp) (Or.inr ⟨hck, rfl⟩)⟩
      refine AllReadyH.cons (op_at _ 10 _ rfl) (fun K hK => ?_) ?_
      · refine step_copy_splice rfl (.tmp 32) (.tmp 36) 79 79 rfl 5 Tryz.underlying79 (by kernel_rfl) _ _ _ _ _ _ rfl rfl W.heap.size 0 (List.replicate k (.int .u8 0)) 5 (copy_hg W k) (bs (xs.take k)) (bytes_hn hl'.out hkn) (bytes_hpos hr'.out (Below.alloc (Below.refl _ _) (Nat.le_refl _) _).drew hkn) (by simp [bs]; omega) (bs_one _) W.heap.size _ (Below.refl _ _) (Nat.le_refl _) ?_; intro w4 hg4 hb4; have t1 : w4.cell? ⟨p, 1, none⟩ = some (.slice (some ⟨b, off, none⟩) n cap) := keep_cell hb4 (by simpa using keep_old (Below.alloc (Below.refl _ _) (Nat.le_refl _) _).drew s1) hpl; have tf : w4.frozen? ⟨p, 1, none⟩ = false := by rw [keep_frozen hb4 hpl, keep_frozen (Below.alloc (Below.refl W.heap.size W) (Nat.le_refl _) _).drew hpl]; exact f1
        refine hK.out _ _ (by trivial) (fun hHeld => ?_)
        clear hK K
        (try simp only [Act.put, sA, sZ, sS])
        refine gh1 4 (fun K hK => ?_)
        go_simp
        refine hK.out _ _ (by trivial) (fun hHeld => ?_)
        clear hK K
        (try simp only [Act.put, sA, sZ, sS])
        refine gh1 11 (fun K hK => ?_)
        go_simp
        refine hK.out _ _ (by trivial) (fun hHeld => ?_)
        clear hK K
        (try simp only [Act.put, sA, sZ, sS])
        refine ght 12 ?_
        refine ght 13 ?_
        refine gh1 14 (fun K hK => ?_)
        go_simp
        refine hK.out _ _ (by trivial) (fun hHeld => ?_)
        clear hK K
        (try simp only [Act.put, sA, sZ, sS])
        refine wpAnyH_done (by kernel_rfl) ?_ _
        go_wp2
        go_ret
        exact ⟨_, _, rfl, bytes_end hp'.out hr'.out hn hne hkn hk2 hb4 hg4.out (by simp) (Or.inr ⟨hck, rfl⟩)⟩
      exact AllReadyH.nil
    exact AllReadyH.nil

end Go.Proofs.YtgjgkpnjchflaaaGreatDoor.Jrn

/- What sum.Add, sum.Of and the document's own return; no statement of the seat is proved here. -/
namespace Go.Proofs.YtgjgkpnjchflaaaGreatDoor.Jrn
open Go.RowKit

theorem and_one (a : Nat) (h : a < 4294967296) : bits .and .u32 (a : Int) 1 = ((a % 2 : Nat) : Int) := by
  rw [show (1 : Int) = ((1 : Nat) : Int) from rfl, u32_and_nat a 1 h (by decide), nat_mask1]

theorem xor_nat (a b : Nat) (z : Int) (hz : z = (b : Int)) (ha : a < 4294967296) (hb : b < 4294967296) : bits .xor .u32 (a : Int) z = ((a ^^^ b : Nat) : Int) := by
  subst hz
  exact u32_xor_nat a b ha hb

theorem not_u32 (s : Nat) (h : s < 4294967296) : bits .xor .u32 IntKind.u32.max (s : Int) = ((s ^^^ 4294967295 : Nat) : Int) := by
  rw [show IntKind.u32.max = ((4294967295 : Nat) : Int) from rfl, u32_xor_nat 4294967295 s (by decide) h, Nat.xor_comm]

theorem drop_step (xs : List Nat) (i : Nat) (h : i < xs.length) : xs.drop i = xs.getD i 0 :: xs.drop (i + 1) := by
  rw [List.drop_eq_getElem_cons h]
  simp [List.getD, List.getElem?_eq_getElem h]

theorem get_lt {xs : List Nat} (hx : ∀ x ∈ xs, x < 256) {i : Nat} (h : i < xs.length) : xs.getD i 0 < 256 := by
  rw [List.getD_eq_getElem?_getD, List.getElem?_eq_getElem h]
  exact hx _ (List.getElem_mem h)

theorem and_15 (a : Nat) (h : a < 4294967296) : bits .and .u32 (a : Int) 15 = ((a % 16 : Nat) : Int) := by
  rw [show (15 : Int) = ((15 : Nat) : Int) from rfl, u32_and_nat a 15 h (by decide), nat_mask4]

/-- Four steps, as the walk reckons them. -/
theorem four_ex (R : Nat) (h : R < 4294967296) (w : World) (hT : Tab w) : ∃ (k : Nat) (t q : Int), k < 16 ∧ bits .and .u32 (R : Int) 15 = (k : Int) ∧ w.cell? ⟨0, k, none⟩ = some (.int .u32 t) ∧ (R : Int) / 16 = q ∧ bits .xor .u32 q t = ((txn 4 R : Nat) : Int) := by
  refine ⟨R % 16, ((txn 4 (R % 16) : Nat) : Int), ((R / 16 : Nat) : Int), by omega, and_15 R h, hT _ (by omega), by omega, ?_⟩
  rw [u32_xor_nat _ _ (by omega) (txn_lt 4 (by omega)), ← txn_four]

theorem byte_two (r c : Nat) : byte r c = txn 4 (txn 4 (r ^^^ c)) := by unfold byte; rw [← txn_add]

set_option maxHeartbeats 400000 in
theorem add_any (s : Nat) (ao : Option Addr) (n cap : Nat) (xs : List Nat) (w : World) (hs : s < 4294967296) (h : Rd w ao n cap xs) (hx : ∀ x ∈ xs, x < 256) (hn : n ≤ 9223372036854775807) (hT : Tab w) :
    Calls Tryz.prog 182 #[.int .u32 (s : Int), .slice ao n cap] w fun e w' => e = .returned (.int .u32 ((addN s xs : Nat) : Int)) ∧ w' = w := by
  have hT' := hid hT
  have hr := hid h
  have hx' := hid hx
  have sg : IntKind.u32.signed = false := rfl
  have e1 := not_u32 s hs
  have hS := xor_lt hs (show 4294967295 < 4294967296 by decide)
  obtain ⟨S, hSe⟩ : ∃ S, S = s ^^^ 4294967295 := ⟨_, rfl⟩
  have hA : addN s xs = fold S xs ^^^ 4294967295 := by rw [hSe]; rfl
  rw [hA]
  rw [← hSe] at e1 hS
  clear hT h hx hSe hA
  go_enter Tryz.func182, Tryz.ntmps182
  go_wp2
  go_loopw [5, 12] (fun r c W => ∃ (i R : Nat), i ≤ n ∧ c = .int .i64 (i : Int) ∧ r = .int .u32 (R : Int) ∧ R < 4294967296 ∧ fold R (xs.drop i) = fold S xs ∧ W = w) (fun _ c _ => n - (intOf c).toNat)
  case atStart => exact ⟨0, S, by omega, rfl, rfl, hS, by simp, rfl⟩
  case round =>
    obtain ⟨i, R, hi, rfl, rfl, hR, he, rfl⟩ := hrel
    have he' := hid he
    clear he e1
    by_cases hin : i < n
    · obtain ⟨b, off, rfl, hc⟩ := hr.out.2.2.2 (by omega)
      have hci := hc i hin
      have hl := hr.out.1
      have hc8 := get_lt hx'.out (i := i) (by omega)
      have hd := hid (drop_step xs i (by omega))
      generalize xs.getD i 0 = c at *
      have hx1 := xor_nat R c c rfl hR (by omega)
      have hR1 := xor_lt hR (show c < 4294967296 by omega)
      have hby := hid (byte_two R c)
      generalize R ^^^ c = R1 at *
      obtain ⟨k1, t1, q1, hk1, ha1, hl1, hq1, hx2⟩ := four_ex R1 hR1 wr hT'.out
      have hR2 := txn_lt 4 hR1
      generalize txn 4 R1 = R2 at *
      obtain ⟨k2, t2, q2, hk2, ha2, hl2, hq2, hx3⟩ := four_ex R2 hR2 wr hT'.out
      have hR3 := txn_lt 4 hR2
      generalize txn 4 R2 = R3 at *
      clear hc
      go_wp2
      refine ⟨⟨i + 1, R3, by omega, by go_num, rfl, hR3, ?_, trivial⟩, by simp [intOf]; omega⟩
      rw [← he'.out, hd.out, fold_cons, hby.out]
    · obtain rfl : i = n := by omega
      have e2 := not_u32 R hR
      go_wp2
      go_ret
      have := he'.out
      rw [List.drop_eq_nil_of_le (by have := hr.out.1; omega)] at this
      rw [← this]
      exact ⟨rfl, rfl⟩

theorem bit_step (R q : Nat) : tx (R ^^^ q) = (if (R ^^^ q) % 2 = 1 then R / 2 ^^^ 2197175160 else R / 2) ^^^ q / 2 := by
  unfold tx
  rw [Nat.xor_div_two]
  rcases Nat.mod_two_eq_zero_or_one (R ^^^ q) with h | h
  · rw [if_pos h, if_neg (by omega)]
  · rw [if_neg (by omega), if_pos h, Nat.xor_assoc, Nat.xor_comm (q / 2), ← Nat.xor_assoc]

set_option maxHeartbeats 400000 in
theorem of_any (ao : Option Addr) (n cap : Nat) (xs : List Nat) (w : World) (h : Rd w ao n cap xs) (hx : ∀ x ∈ xs, x < 256) (hn : n ≤ 9223372036854775807) (hT : Tab w) :
    Calls Tryz.prog 149 #[.slice ao n cap] w fun e w' => e = .returned (.int .u32 ((addN 0 xs : Nat) : Int)) ∧ w' = w := by
  have c := hid (add_any 0 ao n cap xs w (by decide) h hx hn hT)
  clear h hx hT
  go_enter Tryz.func149, Tryz.ntmps149
  go_wp2_with (go_at_call 182; refine c.out.mono ?_; rintro e w1 ⟨rfl, hw1⟩; obtain rfl := hw1.symm)
  go_ret
  exact ⟨rfl, rfl⟩

end Go.Proofs.YtgjgkpnjchflaaaGreatDoor.Jrn
