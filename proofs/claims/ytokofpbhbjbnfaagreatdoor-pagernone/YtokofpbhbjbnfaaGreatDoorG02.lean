/- The numbers that bytes make; what the document's own function Get returns; no statement of the seat is proved here. -/
import Derived.Test.YtokofpbhbjbnfaaGreatDoorG01
namespace Go.Proofs.YtokofpbhbjbnfaaGreatDoor.Jrn
open Go.RowKit

theorem getD_lt {xs : List Nat} (h : ∀ x ∈ xs, x < 256) (i : Nat) (hi : i < xs.length) : xs.getD i 0 < 256 := by
  rw [List.getD_eq_getElem?_getD, List.getElem?_eq_getElem hi]
  exact h _ (List.getElem_mem hi)

theorem drop_getD (xs : List Nat) (i : Nat) (hi : i < xs.length) : xs.drop i = xs.getD i 0 :: xs.drop (i + 1) := by
  rw [List.drop_eq_getElem_cons hi, List.getD_eq_getElem?_getD, List.getElem?_eq_getElem hi]
  rfl

theorem wraps_u64 (n : Int) (h0 : 0 ≤ n) (h1 : n < 2 ^ 64) : IntKind.u64.wrap n = n := by rw [IntKind.wrap_u64]; omega

theorem or_join (a x k : Nat) (hx : x < 2 ^ k) (h : a * 2 ^ k + x < 18446744073709551616) : bits .or .u64 ((a : Int) * ((2 ^ k : Nat) : Int)) (x : Int) = ((a * 2 ^ k + x : Nat) : Int) := by
  have h1 := (bits_nat .u64 64 (by decide) wraps_u64 (a * 2 ^ k) x (by omega) (by omega)).2
  rw [Int.natCast_mul] at h1
  rw [h1, Nat.mul_comm a, ← Nat.two_pow_add_eq_or_of_lt hx a]

theorem or8 (a x : Nat) (hx : x < 256) (h : a < 72057594037927936) : bits .or .u64 ((a : Int) * 256) (x : Int) = ((a * 256 + x : Nat) : Int) := by
  simpa using or_join a x 8 (by omega) (by omega)

/-- The number that the first i of s bytes make, in either order. -/
def psum (xs : List Nat) (s : Nat) (l : Bool) : Nat → Nat
  | 0 => 0
  | i + 1 => psum xs s l i + xs.getD i 0 * 2 ^ (8 * place l s i)

theorem psum_big (xs : List Nat) (s : Nat) (hx : ∀ x ∈ xs, x < 256) (hs : s ≤ xs.length) : ∀ i, i ≤ s → ∃ q, q < 2 ^ (8 * i) ∧ psum xs s false i = q * 2 ^ (8 * (s - i)) := by
  intro i
  induction i with
  | zero => intro _; exact ⟨0, by simp, by simp [psum]⟩
  | succ i ih =>
    intro hi
    obtain ⟨q, hq, e⟩ := ih (by omega)
    have hc := getD_lt hx i (by omega)
    refine ⟨q * 256 + xs.getD i 0, ?_, ?_⟩
    · rw [show 8 * (i + 1) = 8 * i + 8 by omega, Nat.pow_add]; omega
    · simp only [psum, e, place]
      rw [show 8 * (s - i) = 8 + 8 * (s - (i + 1)) by omega, Nat.pow_add, show s - 1 - i = s - (i + 1) by omega, Nat.add_mul, Nat.mul_assoc]
      rfl

theorem psum_little (xs : List Nat) (s : Nat) (hx : ∀ x ∈ xs, x < 256) (hs : s ≤ xs.length) : ∀ i, i ≤ s → psum xs s true i < 2 ^ (8 * i) := by
  intro i
  induction i with
  | zero => intro _; simp [psum]
  | succ i ih =>
    intro hi
    have h := ih (by omega)
    have hc := getD_lt hx i (by omega)
    simp only [psum, place, if_true]
    rw [show 8 * (i + 1) = 8 * i + 8 by omega, Nat.pow_add]
    have h2 : xs.getD i 0 * 2 ^ (8 * i) ≤ 255 * 2 ^ (8 * i) := Nat.mul_le_mul_right _ (by omega)
    omega

theorem psum_lt (xs : List Nat) (s : Nat) (l : Bool) (hx : ∀ x ∈ xs, x < 256) (hs : s ≤ xs.length) (h8 : s ≤ 8) (i : Nat) (hi : i ≤ s) : psum xs s l i < 18446744073709551616 := by
  cases l with
  | true =>
    have h := psum_little xs s hx hs i hi
    have hp : 2 ^ (8 * i) ≤ 2 ^ 64 := Nat.pow_le_pow_right (by omega) (by omega)
    omega
  | false =>
    obtain ⟨q, hq, e⟩ := psum_big xs s hx hs i hi
    have h1 : q * 2 ^ (8 * (s - i)) < 2 ^ (8 * i) * 2 ^ (8 * (s - i)) := Nat.mul_lt_mul_of_pos_right hq (Nat.pow_pos (by omega))
    rw [← Nat.pow_add, show 8 * i + 8 * (s - i) = 8 * s by omega] at h1
    have hp : 2 ^ (8 * s) ≤ 2 ^ 64 := Nat.pow_le_pow_right (by omega) (by omega)
    omega

theorem psum_or (xs : List Nat) (s : Nat) (l : Bool) (hx : ∀ x ∈ xs, x < 256) (hs : s ≤ xs.length) (i : Nat) (hi : i < s) :
    psum xs s l i ||| xs.getD i 0 * 2 ^ (8 * place l s i) = psum xs s l (i + 1) := by
  have hc := getD_lt hx i (by omega)
  cases l with
  | true =>
    have h := psum_little xs s hx hs i (by omega)
    simp only [psum, place, if_true]
    rw [Nat.or_comm, Nat.mul_comm, ← Nat.two_pow_add_eq_or_of_lt h, Nat.add_comm]
  | false =>
    obtain ⟨q, hq, e⟩ := psum_big xs s hx hs i (by omega)
    simp only [psum, e, place]
    have hlt : xs.getD i 0 * 2 ^ (8 * (s - 1 - i)) < 2 ^ (8 * (s - i)) := by
      rw [show 8 * (s - i) = 8 + 8 * (s - 1 - i) by omega, Nat.pow_add]
      exact Nat.mul_lt_mul_of_pos_right (by omega) (Nat.pow_pos (by omega))
    rw [if_neg (by simp), Nat.mul_comm q, ← Nat.two_pow_add_eq_or_of_lt hlt]

theorem getD_term_lt (xs : List Nat) (s : Nat) (l : Bool) (hx : ∀ x ∈ xs, x < 256) (hs : s ≤ xs.length) (h8 : s ≤ 8) (i : Nat) (hi : i < s) : xs.getD i 0 * 2 ^ (8 * place l s i) < 18446744073709551616 := by
  have := psum_lt xs s l hx hs h8 (i + 1) (by omega)
  simp only [psum] at this
  omega

/-- What Get answers. -/
def getV (xs : List Nat) (s : Int) (l : Bool) : Nat × Bool := if 1 ≤ s ∧ s ≤ 8 ∧ s ≤ (xs.length : Int) then (psum xs s.toNat l s.toNat, true) else (0, false)

theorem getV_lt (xs : List Nat) (s : Int) (l : Bool) (hx : ∀ x ∈ xs, x < 256) : (getV xs s l).1 < 18446744073709551616 := by
  unfold getV
  split
  · exact psum_lt xs s.toNat l hx (by omega) (by omega) s.toNat (Nat.le_refl _)
  · simp

def hsum (xs : List Nat) (s : Nat) (l : Bool) : Nat → Nat
  | 0 => 0
  | i + 1 => hsum xs s l i * 256 + xs.getD (if l then s - 1 - i else i) 0

theorem hsum_lt (xs : List Nat) (s : Nat) (l : Bool) (hx : ∀ x ∈ xs, x < 256) (hs : s ≤ xs.length) : ∀ i, i ≤ s → hsum xs s l i < 2 ^ (8 * i) := by
  intro i
  induction i with
  | zero => intro _; simp [hsum]
  | succ i ih =>
    intro hi
    have h := ih (by omega)
    have hc := getD_lt hx (if l then s - 1 - i else i) (by split <;> omega)
    simp only [hsum]
    rw [show 8 * (i + 1) = 8 * i + 8 by omega, Nat.pow_add]
    omega

theorem hsum_eq (xs : List Nat) (s : Nat) (l : Bool) (h8 : s ≤ 8) : hsum xs s l s = psum xs s l s := by
  have e : s = 0 ∨ s = 1 ∨ s = 2 ∨ s = 3 ∨ s = 4 ∨ s = 5 ∨ s = 6 ∨ s = 7 ∨ s = 8 := by omega
  rcases e with rfl | rfl | rfl | rfl | rfl | rfl | rfl | rfl | rfl <;> cases l <;> simp [hsum, psum, place] <;> omega

end Go.Proofs.YtokofpbhbjbnfaaGreatDoor.Jrn

/- What a source is in memory; what its next, Num and Read do; no statement of the seat is proved here. -/
namespace Go.Proofs.YtokofpbhbjbnfaaGreatDoor.Jrn
open Go.RowKit

theorem grow_trans {p : Nat} {a b c : World} (h : a.grownBy b (some p)) (k : b.grownBy c (some p)) : a.grownBy c (some p) :=
  ⟨k.os.trans h.os, k.tape.trans h.tape, k.output.trans h.output, Nat.le_trans h.size k.size, fun i hi hne => (k.block i (Nat.lt_of_lt_of_le hi h.size) hne).trans (h.block i hi hne)⟩

theorem grow_below {p : Nat} {a b : World} (h : Below a.heap.size a b) : a.grownBy b (some p) := ⟨h.os, h.tape, h.output, h.size, fun k hk _ => h.block k hk⟩

theorem grow_cell {p : Nat} {a b : World} (h : a.grownBy b (some p)) {x : Addr} {v : Value} (hc : a.cell? x = some v) (hne : x.block ≠ p) : b.cell? x = some v := by
  rw [World.cell?_of_block (h.block x.block (lt_cell hc) (by simpa using hne))]; exact hc

/-- A source that a call made, without an error: these bytes are left. -/
def SrcAt (W : World) (p : Nat) (xs : List Nat) : Prop :=
  ∃ b off n cap, W.heap[p]? = some (.cells #[.bool true, .slice (some ⟨b, off, none⟩) n cap, .int .i64 0] 194 (0, 0)) ∧ Rd W (some ⟨b, off, none⟩) n cap xs ∧ n ≤ 9223372036854775807 ∧ b ≠ p

theorem SrcAt.keep {W W' : World} {p : Nat} {xs : List Nat} (h : SrcAt W p xs) (hb : Below W.heap.size W W') : SrcAt W' p xs := by
  obtain ⟨b, off, n, cap, hp, hr, hn, hne⟩ := h
  exact ⟨b, off, n, cap, by rw [hb.block p (lt_of_block hp)]; exact hp, hr.keep hb, hn, hne⟩

theorem src_cells {W : World} {p : Nat} {a b c : Value} (h : W.heap[p]? = some (.cells #[a, b, c] 194 (0, 0))) :
    W.cell? ⟨p, 0, none⟩ = some a ∧ W.cell? ⟨p, 1, none⟩ = some b ∧ W.cell? ⟨p, 2, none⟩ = some c ∧ W.frozen? ⟨p, 1, none⟩ = false ∧ W.frozen? ⟨p, 2, none⟩ = false := by
  simp [World.cell?, World.frozen?, h]

theorem src_set {W : World} {p : Nat} {a b c v : Value} (h : W.heap[p]? = some (.cells #[a, b, c] 194 (0, 0))) : (W.setCell ⟨p, 1, none⟩ v).heap[p]? = some (.cells #[a, v, c] 194 (0, 0)) := by
  rw [heap_setCell_same W p 1 _ 194 v h]; simp

theorem grow_set (W : World) (p : Nat) (i : Nat) (v : Value) : W.grownBy (W.setCell ⟨p, i, none⟩ v) (some p) :=
  ⟨rfl, rfl, rfl, by simp, fun k _ hk => heap_setCell_other W ⟨p, i, none⟩ k v (fun e => hk (by simp [e]))⟩

theorem rd_set {W : World} {p i : Nat} {v : Value} {ao : Option Addr} {n cap : Nat} {xs : List Nat} (h : Rd W ao n cap xs) (hne : ∀ b off, ao = some ⟨b, off, none⟩ → b ≠ p) : Rd (W.setCell ⟨p, i, none⟩ v) ao n cap xs := by
  refine ⟨h.1, h.2.1, h.2.2.1, fun hp => ?_⟩
  obtain ⟨b, off, e, hc⟩ := h.2.2.2 hp
  exact ⟨b, off, e, fun t ht => grow_cell (grow_set W p i v) (hc t ht) (hne b off e)⟩

/-- All but the first byte. -/
theorem Rd.tail {W : World} {b off n cap c : Nat} {r : List Nat} (h : Rd W (some ⟨b, off, none⟩) n cap (c :: r)) : (cap = 1 → Rd W (some ⟨b, off, none⟩) (n - 1) (cap - 1) r) ∧ (¬ cap = 1 → Rd W (some ⟨b, off + 1, none⟩) (n - 1) (cap - 1) r) := by
  obtain ⟨hl, hc, hno, hat⟩ := h
  simp at hl
  constructor
  · intro h1
    refine ⟨by omega, by omega, fun h => (by cases h), fun hp => ?_⟩
    omega
  · intro h1
    refine ⟨by omega, by omega, fun h => (by cases h), fun hp => ⟨b, off + 1, rfl, fun t ht => ?_⟩⟩
    obtain ⟨b', off', e, hcell⟩ := hat (by omega)
    simp only [Option.some.injEq, Addr.mk.injEq, and_true] at e
    obtain ⟨rfl, rfl⟩ := e
    have := hcell (t + 1) (by omega)
    rw [show off + 1 + t = off + (t + 1) by omega, this]
    simp [List.getD]

set_option maxHeartbeats 1000000 in
theorem next_more (p c : Nat) (r : List Nat) (W : World) (h : SrcAt W p (c :: r)) :
    Calls Tryz.prog 161 #[.pointer (some ⟨p, 0, none⟩)] W fun e w' => e = .returned (.tuple #[.int .u8 (c : Int), .bool true]) ∧ SrcAt w' p r ∧ W.grownBy w' (some p) := by
  obtain ⟨b, off, n, cap, hp, hr, hn, hb⟩ := h
  have hl := hr.1
  simp at hl
  obtain ⟨b', off', e, hc⟩ := hr.2.2.2 (by omega)
  simp only [Option.some.injEq, Addr.mk.injEq, and_true] at e
  obtain ⟨rfl, rfl⟩ := e
  have hc0 := hc 0 (by omega)
  simp [List.getD] at hc0
  have hcap := hr.2.1
  obtain ⟨s0, s1, s2, f1, f2⟩ := src_cells hp
  have ht := hr.tail
  have hr' := hid hr
  have hp' := hid hp
  have h0 : ((n : Int) == 0) = false := by simp; omega
  have hn0 : (0 : Int) < (n : Int) := by omega
  have hn1 : (1 : Int) ≤ (n : Int) := by omega
  have ht' := hid ht
  have hl' : 1 ≤ n := by omega
  clear hc hr hp ht
  by_cases h1 : cap = 1
  · have ht2 := hid (ht'.out.1 h1)
    obtain rfl : n = 1 := by omega
    subst h1
    go_enter Tryz.func161, Tryz.ntmps161
    go_wp2
    go_ret2
    exact ⟨rfl, ⟨_, _, _, _, src_set hp'.out, rd_set ht2.out (fun _ _ e => by simp only [Option.some.injEq, Addr.mk.injEq, and_true] at e; rw [← e.1]; exact hb), by omega, hb⟩, grow_set _ _ _ _⟩
  · have ht2 := hid (ht'.out.2 h1)
    go_enter Tryz.func161, Tryz.ntmps161
    go_wp2
    go_ret2
    exact ⟨rfl, ⟨_, _, _, _, src_set hp'.out, rd_set ht2.out (fun _ _ e => by simp only [Option.some.injEq, Addr.mk.injEq, and_true] at e; rw [← e.1]; exact hb), by omega, hb⟩, grow_set _ _ _ _⟩

set_option maxHeartbeats 400000 in
theorem next_end (p : Nat) (W : World) (h : SrcAt W p []) : Calls Tryz.prog 161 #[.pointer (some ⟨p, 0, none⟩)] W fun e w' => e = .returned (.tuple #[.int .u8 0, .bool false]) ∧ W = w' := by
  obtain ⟨b, off, n, cap, hp, hr, hn, hne⟩ := h
  obtain rfl : n = 0 := by have := hr.1; simpa using this.symm
  obtain ⟨s0, s1, s2, f1, f2⟩ := src_cells hp
  clear hp hr hn hne
  go_enter Tryz.func161, Tryz.ntmps161
  go_wp2
  go_ret2
  exact ⟨rfl, rfl⟩

set_option maxHeartbeats 400000 in
theorem err_ok (p : Nat) (xs : List Nat) (W : World) (h : SrcAt W p xs) : Calls Tryz.prog 157 #[.pointer (some ⟨p, 0, none⟩)] W fun e w' => e = .returned (.int .i64 0) ∧ W = w' := by
  obtain ⟨b, off, n, cap, hp, hr, hn, hne⟩ := h
  obtain ⟨s0, s1, s2, f1, f2⟩ := src_cells hp
  clear hp hr hn hne
  go_enter Tryz.func157, Tryz.ntmps157
  go_wp2
  go_ret
  exact ⟨rfl, rfl⟩

/-- A source on its way through xs. -/
def On (w : World) (p : Nat) (xs : List Nat) (k : Nat) (W : World) : Prop := SrcAt W p (xs.drop k) ∧ w.grownBy W (some p)

theorem on_more (w : World) (p : Nat) (xs : List Nat) (k : Nat) (W : World) (h : On w p xs k W) (hk : k < xs.length) :
    Calls Tryz.prog 161 #[.pointer (some ⟨p, 0, none⟩)] W fun e w' => e = .returned (.tuple #[.int .u8 ((xs.getD k 0 : Nat) : Int), .bool true]) ∧ On w p xs (k + 1) w' := by
  have h1 := h.1
  rw [drop_getD xs k hk] at h1
  exact (next_more p _ _ W h1).mono fun e w' ⟨he, hs, hg⟩ => ⟨he, hs, grow_trans h.2 hg⟩

theorem on_end (w : World) (p : Nat) (xs : List Nat) (W : World) (h : On w p xs xs.length W) :
    Calls Tryz.prog 161 #[.pointer (some ⟨p, 0, none⟩)] W fun e w' => e = .returned (.tuple #[.int .u8 0, .bool false]) ∧ On w p xs xs.length w' := by
  have h1 := h.1
  rw [List.drop_length] at h1
  exact (next_end p W h1).mono fun e w' ⟨he, hs⟩ => ⟨he, hs ▸ h⟩

set_option maxHeartbeats 1000000 in
set_option maxRecDepth 20000 in
theorem gather_src (p : Nat) (xs : List Nat) (hx : ∀ x ∈ xs, x < 256) (s : Nat) (l : Bool) (hs : s ≤ xs.length) (h8 : s ≤ 8) (St : Nat → World → Prop)
    (hmore : ∀ k W, St k W → k < xs.length → Calls Tryz.prog 161 #[.pointer (some ⟨p, 0, none⟩)] W fun e w' => e = .returned (.tuple #[.int .u8 ((xs.getD k 0 : Nat) : Int), .bool true]) ∧ St (k + 1) w')
    (w : World) (h0 : St 0 w) :
    Calls Tryz.prog 160 #[.func (.func 161) #[.pointer (some ⟨p, 0, none⟩)] #[], .int .i64 s, .bool l] w fun e w' =>
      e = .returned (.int .u64 (psum xs s l s : Nat)) ∧ St s w' := by
  have hmore' := hid hmore
  have hx' := hid hx
  have h0' := hid h0
  clear hmore hx h0
  go_enter Tryz.func160, Tryz.ntmps160
  go_wp2
  go_loopw [7, 12] (fun a c W => ∃ (i : Nat), i ≤ s ∧ a = .int .u64 (psum xs s l i : Nat) ∧ c = .int .i64 (i : Int) ∧ St i W) (fun _ c _ => s - (intOf c).toNat)
  case atStart => exact ⟨0, by omega, rfl, rfl, h0'.out⟩
  case round =>
    obtain ⟨i, hi, rfl, rfl, hS⟩ := hrel
    have hS' := hid hS
    clear hS
    by_cases his : i < s
    · have c := hid (hmore'.out i wr hS'.out (by omega))
      obtain ⟨sh, q, csh, _, hshl, _⟩ := shift_named (xs.getD i 0) i s l his h8
      have hor := bits_or_u64_nat (psum xs s l i) (xs.getD i 0 * 2 ^ (8 * place l s i)) (psum_lt xs s l hx'.out hs h8 i (by omega)) (getD_term_lt xs s l hx'.out hs h8 i his)
      rw [psum_or xs s l hx'.out hs i his] at hor
      have hw : IntKind.u64.wrap ((xs.getD i 0 * 2 ^ (8 * place l s i) : Nat) : Int) = ((xs.getD i 0 * 2 ^ (8 * place l s i) : Nat) : Int) := by
        rw [IntKind.wrap_u64]; have := getD_term_lt xs s l hx'.out hs h8 i his; omega
      rw [hw] at hshl
      have hX2 := getD_lt hx'.out i (by omega)
      have csh' := hid csh
      clear hw csh
      generalize xs.getD i 0 * 2 ^ (8 * place l s i) = t at *
      obtain ⟨P1, hP1⟩ : ∃ P, P = psum xs s l (i + 1) := ⟨_, rfl⟩
      rw [← hP1] at hor
      generalize psum xs s l i = P0 at *
      generalize xs.getD i 0 = X at *
      have hP1' := hid hP1
      clear hP1
      go_wp2_with (first | (go_at_call 161; refine c.out.mono ?_; rintro e w1 ⟨rfl, hS1⟩) | (go_at_call 179; refine (csh'.out _).mono ?_; rintro e w2 ⟨rfl, hw2⟩; obtain rfl := hw2.symm))
      exact ⟨⟨i + 1, by omega, by rw [hP1'.out], by go_num, hS1⟩, by simp [intOf]; omega⟩
    · obtain rfl : i = s := by omega
      go_wp2
      go_ret
      exact ⟨rfl, hS'.out⟩

set_option maxHeartbeats 400000 in
theorem read_ok (ao : Option Addr) (n cap : Nat) (xs : List Nat) (w : World) (h : Rd w ao n cap xs) (hn : n ≤ 140737488355328) :
    Calls Tryz.prog 131 #[.slice ao n cap] w fun e w' => ∃ p, e = .returned (.pointer (some ⟨p, 0, none⟩)) ∧ w.heap.size ≤ p ∧ SrcAt w' p xs ∧ Below w.heap.size w w' := by
  have cw : Hid (Calls Tryz.prog 156 #[.slice ao n cap, .int .i64 0] w fun e w' => e = .returned (.slice (some ⟨w.heap.size, 0, none⟩) n n) ∧
      w'.ownsRow w.heap.size 5 1 (.slice (some ⟨w.heap.size, 0, none⟩) n n) n (bs xs) ∧ Below w.heap.size w w') := hid (by simpa using widened_any ao n cap 0 xs w h (by omega))
  clear h
  go_enter Tryz.func131, Tryz.ntmps131
  go_wp2_with (go_at_call 156; refine cw.out.mono ?_; rintro e w1 ⟨rfl, ho1, hb1⟩)
  go_ret
  refine ⟨w1.heap.size, rfl, hb1.size, ⟨_, _, _, _, heap_alloc_new w1 _, (rd_own ho1).keep (Below.alloc (Below.refl _ _) (Nat.le_refl _) _), by omega, ?_⟩, Below.alloc hb1 hb1.size _⟩
  have := (ho1.lt w.heap.size (by rfl)).2
  omega

set_option maxHeartbeats 1000000 in
theorem num_k (p : Nat) (xs : List Nat) (s : Nat) (l : Bool) (W : World) (h : SrcAt W p xs) (hx : ∀ x ∈ xs, x < 256) (h1 : 1 ≤ s) (h8 : s ≤ 8) (hs : s ≤ xs.length) :
    Calls Tryz.prog 132 #[.pointer (some ⟨p, 0, none⟩), .int .i64 (s : Int), .bool l] W fun e w' => e = .returned (.int .u64 (psum xs s l s : Nat)) ∧ SrcAt w' p (xs.drop s) ∧ W.grownBy w' (some p) := by
  have c26 := hid (err_ok p xs W h)
  have c27 := hid (sized_any (s : Int))
  rw [show (decide ((1 : Int) ≤ (s : Int)) && decide ((s : Int) ≤ 8)) = true by simp; omega] at c27
  have c28 := hid (gather_src p xs hx s l hs h8 (On W p xs) (fun k W' hS hk => on_more W p xs k W' hS hk) W ⟨by simpa using h, World.grownBy.refl _ _⟩)
  obtain ⟨b, off, n, cap, hp, hr, hn, hne⟩ := h
  obtain ⟨s0, s1, s2, f1, f2⟩ := src_cells hp
  have hl := hr.1
  have hn8 : ¬ (n : Int) < (s : Int) := by omega
  generalize psum xs s l s = R at *
  clear hp hr hne hx hl h8 h1 hs
  go_enter Tryz.func132, Tryz.ntmps132
  go_wp2_with (first | (go_at_call 157; refine c26.out.mono ?_; rintro e w1 ⟨rfl, rfl⟩) | (go_at_call 159; refine (c27.out _).mono ?_; rintro e w2 ⟨rfl, hw2⟩; obtain rfl := hw2.symm) | (go_at_call 160; refine c28.out.mono ?_; rintro e w3 ⟨rfl, hS⟩; replace hS := hid hS))
  go_ret
  exact ⟨rfl, hS.out.1, hS.out.2⟩

end Go.Proofs.YtokofpbhbjbnfaaGreatDoor.Jrn
