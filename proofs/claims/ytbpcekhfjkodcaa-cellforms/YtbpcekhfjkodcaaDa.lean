/- What the document's own function Take returns; no statement of the seat is proved here. -/
import Derived.Test.YtbpcekhfjkodcaaOBj
import Derived.Test.YtbpcekhfjkodcaaOBn
import Derived.Test.YtbpcekhfjkodcaaCd
namespace Go.Proofs.Ytbpcekhfjkodcaa
open Go.RowKit

theorem and127 (c : Nat) (hc : c < 256) : bits .and .u8 (c : Int) 127 = ((c % 128 : Nat) : Int) := by
  have h := (bits_nat .u8 8 (by decide) wraps_u8 c 127 (by omega) (by omega)).1
  rw [show ((127 : Int)) = ((127 : Nat) : Int) by rfl, h]
  have := Nat.and_two_pow_sub_one_eq_mod c 7
  simp at this
  rw [this]

set_option maxHeartbeats 2000000 in
set_option maxRecDepth 20000 in
theorem rtake_some (b off n cap : Nat) (xs : List Nat) (w : World) (hc : ∀ t, t < n → w.cell? ⟨b, off + t, none⟩ = some (.int .u8 ((xs.getD t 0 : Nat) : Int))) (hl : xs.length = n) (hx : ∀ x ∈ xs, x < 256) (hp : 0 < n) (hn : n ≤ 9223372036854775807) :
    Calls Try.prog 64 #[.slice (some ⟨b, off, none⟩) n cap] w fun e w' => e = .returned (.tuple #[.int .u64 ((takeN xs).1 : Nat), .int .i64 ((takeN xs).2 : Nat)]) ∧ w = w' := by
  obtain ⟨T, hT⟩ : ∃ T, T = takeN xs := ⟨_, rfl⟩
  obtain ⟨R, hR⟩ : ∃ R, R = asm 0 8 xs := ⟨_, rfl⟩
  rw [← hT]
  unfold takeN at hT
  rw [← hR] at hT
  have hT' := hid hT
  have hR' := hid hR
  have hx' := hid hx
  have hc' := hid hc
  clear hT hR hx hc
  go_enter Try.func64, Try.ntmps64
  go_wp2
  go_loopw [4, 5] (fun a s W => ∃ (i acc : Nat), i ≤ 8 ∧ i ≤ n ∧ a = .int .u64 (acc : Int) ∧ s = .int .i64 (i : Int) ∧ acc < 2 ^ (7 * i) ∧ asm acc (8 - i) (xs.drop i) = R ∧ w = W) (fun _ s _ => (9 - intOf s).toNat)
  case atStart => exact ⟨0, 0, by omega, by omega, rfl, rfl, by simp, by simpa using hR'.out.symm, rfl⟩
  case round =>
    obtain ⟨i, acc, hi, hil, rfl, rfl, hacc, he, rfl⟩ := hrel
    have he' := hid he
    have hacc' := hid hacc
    clear he hacc
    by_cases hin : i < n
    · have hcell := hc'.out i hin
      obtain ⟨X, hX⟩ : ∃ X, X = xs.getD i 0 := ⟨_, rfl⟩
      have hd : xs.drop i = X :: xs.drop (i + 1) := by rw [hX]; exact drop_getD xs i (by omega)
      have hX2 : X < 256 := by rw [hX]; exact getD_lt hx'.out i (by omega)
      rw [← hX] at hcell
      rw [hd] at he'
      clear hd hX
      have hand := and127 X hX2
      by_cases hi8 : i < 8
      · have hb : acc < 562949953421312 := Nat.lt_of_lt_of_le hacc'.out (Nat.pow_le_pow_right (by omega) (by omega : 7 * i ≤ 49))
        rw [show 8 - i = (7 - i) + 1 by omega] at he'
        have he2 := he'.out
        simp only [asm] at he2
        have hi9 : ((i : Int) == 8) = false := by simp; omega
        by_cases hX3 : X < 128
        · obtain ⟨q, hq⟩ : ∃ q, q = acc * 128 + X := ⟨_, rfl⟩
          rw [Nat.mod_eq_of_lt hX3] at hand
          have hor := or7 acc X hX3 (by omega)
          rw [← hq] at hor
          rw [if_pos hX3, ← hq, show 8 - (7 - i) = i + 1 by omega] at he2
          have hT2 := hT'.out
          rw [← he2] at hT2
          simp only at hT2
          have cs := hid (rsize_any q (by omega))
          generalize szN q = z at *
          clear he' hq hT' he2
          by_cases hz : i + 1 = z
          · rw [if_pos hz] at hT2
            subst hT2
            have hz2 : ((z : Int) == (i : Int) + 1) = true := by simp; omega
            have hz' := hid hz
            clear hz
            go_wp2_with (go_at_call 80; refine (cs.out _).mono ?_; rintro e w1 ⟨rfl, hw1⟩; obtain rfl := hw1.symm)
            all_goals (go_ret2; exact ⟨rfl, rfl⟩)
          · rw [if_neg hz] at hT2
            subst hT2
            have hz2 : ((z : Int) == (i : Int) + 1) = false := by simp; omega
            have hz' := hid hz
            clear hz
            go_wp2_with (go_at_call 80; refine (cs.out _).mono ?_; rintro e w1 ⟨rfl, hw1⟩; obtain rfl := hw1.symm)
            all_goals (go_ret2; exact ⟨rfl, rfl⟩)
        · obtain ⟨y, hy⟩ : ∃ y, y = X - 128 := ⟨_, rfl⟩
          obtain ⟨q, hq⟩ : ∃ q, q = acc * 128 + y := ⟨_, rfl⟩
          rw [show X % 128 = y by omega] at hand
          have hyb : y < 128 := by omega
          have hor := or7 acc y hyb (by omega)
          rw [← hq] at hor
          rw [if_neg hX3, ← hy, ← hq] at he2
          have he3 := hid he2
          have hq' := hid hq
          clear he' hq he2 hy
          go_wp2
          refine ⟨⟨i + 1, q, by omega, by omega, rfl, by go_num, ?_, ?_, trivial⟩, by simp [intOf]; omega⟩
          · rw [hq'.out]; exact acc_step acc y i hacc'.out (by omega)
          · rw [show 8 - (i + 1) = 7 - i by omega]; exact he3.out
      · obtain rfl : i = 8 := by omega
        have hb : acc < 72057594037927936 := by have := hacc'.out; omega
        have he2 := he'.out
        simp only [Nat.sub_self, asm] at he2
        obtain ⟨q, hq⟩ : ∃ q, q = acc * 256 + X := ⟨_, rfl⟩
        have hor := or8 acc X (by omega) (by omega)
        rw [← hq] at hor he2
        have hT2 := hT'.out
        rw [← he2] at hT2
        simp only at hT2
        have cs := hid (rsize_any q (by omega))
        generalize szN q = z at *
        clear he' hq hT' he2 hand
        by_cases hz : 9 = z
        · rw [if_pos hz] at hT2
          subst hT2
          subst hz
          go_wp2_with (go_at_call 80; refine (cs.out _).mono ?_; rintro e w1 ⟨rfl, hw1⟩; obtain rfl := hw1.symm)
          all_goals (go_ret2; exact ⟨rfl, rfl⟩)
        · rw [if_neg hz] at hT2
          subst hT2
          have hz2 : ((z : Int) == 9) = false := by simp; omega
          have hz' := hid hz
          clear hz
          go_wp2_with (go_at_call 80; refine (cs.out _).mono ?_; rintro e w1 ⟨rfl, hw1⟩; obtain rfl := hw1.symm)
          all_goals (go_ret2; exact ⟨rfl, rfl⟩)
    · obtain rfl : i = n := by omega
      have he2 := he'.out
      rw [← hl, List.drop_length] at he2
      have hR0 : R = (0, 0) := by
        rw [← he2]
        cases h8 : 8 - xs.length <;> simp [asm]
      have hT2 := hT'.out
      rw [hR0] at hT2
      have hT0 : T = (0, 0) := by rw [hT2]; split <;> rfl
      subst hT0
      have hl' := hid hl
      clear he' he2 hT2 hR0 hT' hR' hl
      go_wp2
      all_goals (go_ret2; exact ⟨rfl, rfl⟩)

set_option maxHeartbeats 400000 in
theorem rtake_none (ao : Option Addr) (cap : Nat) (w : World) : Calls Try.prog 64 #[.slice ao 0 cap] w fun e w' => e = .returned (.tuple #[.int .u64 0, .int .i64 0]) ∧ w = w' := by
  go_enter Try.func64, Try.ntmps64
  go_wp2
  refine wp_loop_rounds 1 ?_
  rw [rounds_succ]
  go_wp2
  go_ret2
  exact ⟨rfl, rfl⟩

theorem rtake_any (ao : Option Addr) (n cap : Nat) (xs : List Nat) (w : World) (h : Rd w ao n cap xs) (hx : ∀ x ∈ xs, x < 256) (hn : n ≤ 9223372036854775807) :
    Calls Try.prog 64 #[.slice ao n cap] w fun e w' => e = .returned (.tuple #[.int .u64 ((takeN xs).1 : Nat), .int .i64 ((takeN xs).2 : Nat)]) ∧ w = w' := by
  obtain ⟨hl, _, _, hat⟩ := h
  subst hl
  rcases Nat.eq_zero_or_pos xs.length with h0 | hp
  · obtain rfl : xs = [] := List.eq_nil_of_length_eq_zero h0
    have e : takeN [] = (0, 0) := by decide
    rw [e]
    exact rtake_none ao cap w
  · obtain ⟨b, off, rfl, hc⟩ := hat hp
    exact rtake_some b off xs.length cap xs w hc rfl hx hp hn

end Go.Proofs.Ytbpcekhfjkodcaa

namespace Go.Proofs.Ytbpcekhfjkodcaa
open Go.RowKit

/-- What Get answers. -/
def getV (xs : List Nat) (s : Int) (l : Bool) : Nat × Bool := if 1 ≤ s ∧ s ≤ 8 ∧ s ≤ (xs.length : Int) then (psum xs s.toNat l s.toNat, true) else (0, false)

theorem getV_lt (xs : List Nat) (s : Int) (l : Bool) (hx : ∀ x ∈ xs, x < 256) : (getV xs s l).1 < 18446744073709551616 := by
  unfold getV
  split
  · exact psum_lt xs s.toNat l hx (by omega) (by omega) s.toNat (Nat.le_refl _)
  · simp

end Go.Proofs.Ytbpcekhfjkodcaa

namespace Go.Proofs.Ytbpcekhfjkodcaa
open Go.RowKit

def hsum (xs : List Nat) (s : Nat) (l : Bool) : Nat → Nat
  | 0 => 0
  | i + 1 => hsum xs s l i * 256 + xs.getD (if l then s - 1 - i else i) 0

theorem hsum_lt (xs : List Nat) (s : Nat) (l : Bool) (hx : ∀ x ∈ xs, x < 256) (hs : s ≤ xs.length) : ∀ i, i ≤ s → hsum xs s l i < 2 ^ (8 * i) := by
  intro i
  induction i with
  | zero => intro _; simp [hsum]
  | succ i ih =>
    intro hi
    have h := ih (by omega)
    have hc := getD_lt hx (if l then s - 1 - i else i) (by split <;> omega)
    simp only [hsum]
    rw [show 8 * (i + 1) = 8 * i + 8 by omega, Nat.pow_add]
    omega

theorem hsum_eq (xs : List Nat) (s : Nat) (l : Bool) (h8 : s ≤ 8) : hsum xs s l s = psum xs s l s := by
  have e : s = 0 ∨ s = 1 ∨ s = 2 ∨ s = 3 ∨ s = 4 ∨ s = 5 ∨ s = 6 ∨ s = 7 ∨ s = 8 := by omega
  rcases e with rfl | rfl | rfl | rfl | rfl | rfl | rfl | rfl | rfl <;> cases l <;> simp [hsum, psum, place] <;> omega

set_option maxHeartbeats 1000000 in
set_option maxRecDepth 20000 in
theorem rget_ok (b off n cap : Nat) (xs : List Nat) (k : Nat) (l : Bool) (w : World) (hc : ∀ t, t < n → w.cell? ⟨b, off + t, none⟩ = some (.int .u8 ((xs.getD t 0 : Nat) : Int))) (hl : xs.length = n) (hx : ∀ x ∈ xs, x < 256) (hk : 1 ≤ k) (h8 : k ≤ 8) (hkn : k ≤ n) :
    Calls Try.prog 63 #[.slice (some ⟨b, off, none⟩) n cap, .int .i64 k, .bool l] w fun e w' => e = .returned (.tuple #[.int .u64 (hsum xs k l k : Nat), .bool true]) ∧ w = w' := by
  have hx' := hid hx
  have hc' := hid hc
  have hle : ¬ (n : Int) < (k : Int) := by omega
  clear hx hc
  go_enter Try.func63, Try.ntmps63
  go_wp2
  go_loopw [8, 9] (fun a c W => ∃ (i : Nat), i ≤ k ∧ a = .int .u64 (hsum xs k l i : Nat) ∧ c = .int .i64 (i : Int) ∧ w = W) (fun _ c _ => k - (intOf c).toNat)
  case atStart => exact ⟨0, by omega, rfl, rfl, rfl⟩
  case round =>
    obtain ⟨i, hi, rfl, rfl, rfl⟩ := hrel
    by_cases his : i < k
    · obtain ⟨j, hj⟩ : ∃ j, j = if l then k - 1 - i else i := ⟨_, rfl⟩
      have hjn : j < n := by rw [hj]; split <;> omega
      have hcell := hc'.out j hjn
      have hX2 := getD_lt hx'.out j (by omega)
      have hh := hsum_lt xs k l hx'.out (by omega) i (by omega)
      have hb : hsum xs k l i < 72057594037927936 := Nat.lt_of_lt_of_le hh (Nat.pow_le_pow_right (by omega) (by omega : 8 * i ≤ 56))
      obtain ⟨P1, hP1⟩ : ∃ P, P = hsum xs k l (i + 1) := ⟨_, rfl⟩
      have hor := or8 (hsum xs k l i) (xs.getD j 0) hX2 hb
      rw [show hsum xs k l i * 256 + xs.getD j 0 = P1 by rw [hP1, hj]; rfl] at hor
      have hP1' := hid hP1
      clear hP1 hh
      generalize hsum xs k l i = P0 at *
      generalize xs.getD j 0 = X at *
      cases l with
      | true =>
        have e1 : (k : Int) - 1 - (i : Int) = (j : Int) := by rw [hj]; simp; omega
        have e2 := hid hj
        clear hj
        go_wp2
        exact ⟨⟨i + 1, by omega, by rw [hP1'.out], by go_num, trivial⟩, by simp [intOf]; omega⟩
      | false =>
        simp only [Bool.false_eq_true, if_false] at hj
        subst hj
        go_wp2
        exact ⟨⟨j + 1, by omega, by rw [hP1'.out], by go_num, trivial⟩, by simp [intOf]; omega⟩
    · obtain rfl : i = k := by omega
      go_wp2
      go_ret2
      exact ⟨rfl, rfl⟩

set_option maxHeartbeats 400000 in
theorem rget_no (ao : Option Addr) (n cap : Nat) (s : Int) (l : Bool) (w : World) (h : ¬ (1 ≤ s ∧ s ≤ 8 ∧ s ≤ (n : Int))) :
    Calls Try.prog 63 #[.slice ao n cap, .int .i64 s, .bool l] w fun e w' => e = .returned (.tuple #[.int .u64 0, .bool false]) ∧ w = w' := by
  by_cases h1 : s < 1
  · go_enter Try.func63, Try.ntmps63
    go_wp2
    go_ret2
    exact ⟨rfl, rfl⟩
  · by_cases h2 : 8 < s
    · go_enter Try.func63, Try.ntmps63
      go_wp2
      go_ret2
      exact ⟨rfl, rfl⟩
    · have h3 : (n : Int) < s := by omega
      clear h
      go_enter Try.func63, Try.ntmps63
      go_wp2
      go_ret2
      exact ⟨rfl, rfl⟩

theorem rget_any (ao : Option Addr) (n cap : Nat) (xs : List Nat) (s : Int) (l : Bool) (w : World) (h : Rd w ao n cap xs) (hx : ∀ x ∈ xs, x < 256) :
    Calls Try.prog 63 #[.slice ao n cap, .int .i64 s, .bool l] w fun e w' => e = .returned (.tuple #[.int .u64 ((getV xs s l).1 : Nat), .bool (getV xs s l).2]) ∧ w = w' := by
  obtain ⟨hl, _, _, hat⟩ := h
  subst hl
  unfold getV
  by_cases hs : 1 ≤ s ∧ s ≤ 8 ∧ s ≤ (xs.length : Int)
  · rw [if_pos hs]
    obtain ⟨k, rfl⟩ : ∃ k : Nat, s = (k : Int) := ⟨s.toNat, by omega⟩
    obtain ⟨b, off, rfl, hc⟩ := hat (by omega)
    have := rget_ok b off xs.length cap xs k l w hc rfl hx (by omega) (by omega) (by omega)
    rw [hsum_eq xs k l (by omega)] at this
    simpa using this
  · rw [if_neg hs]
    exact rget_no ao xs.length cap s l w hs

end Go.Proofs.Ytbpcekhfjkodcaa

namespace Go.Proofs.Ytbpcekhfjkodcaa
open Go.RowKit

/-- The document's own source: these bytes are left; none: an error has ended it. -/
def RSrc (W : World) (p : Nat) : Option (List Nat) → Prop
  | none => ∃ e : Int, e ≠ 0 ∧ W.heap[p]? = some (.cells #[.slice none 0 0, .int .i64 e] 68 (0, 0))
  | some xs => (∃ b off n cap, W.heap[p]? = some (.cells #[.slice (some ⟨b, off, none⟩) n cap, .int .i64 0] 68 (0, 0)) ∧ Rd W (some ⟨b, off, none⟩) n cap xs ∧ n ≤ 1000 ∧ T5 W b) ∧ ∀ x ∈ xs, x < 256

theorem RSrc.block {W : World} {p : Nat} {o : Option (List Nat)} (h : RSrc W p o) : ∃ C, W.heap[p]? = some (.cells C 68 (0, 0)) := by
  cases o with
  | none => obtain ⟨e, he, hp⟩ := h; exact ⟨_, hp⟩
  | some xs => obtain ⟨⟨b, off, n, cap, hp, _⟩, _⟩ := h; exact ⟨_, hp⟩
theorem RSrc.lt {W : World} {p : Nat} {o : Option (List Nat)} (h : RSrc W p o) : p < W.heap.size := by obtain ⟨C, hp⟩ := h.block; exact lt_of_block hp
theorem RSrc.five {W W' : World} {p : Nat} {o : Option (List Nat)} (h : RSrc W p o) (k : Five W W') (hp : W'.heap[p]? = W.heap[p]?) : RSrc W' p o := by
  cases o with
  | none => obtain ⟨e, he, h1⟩ := h; exact ⟨e, he, hp.trans h1⟩
  | some xs =>
    obtain ⟨⟨b, off, n, cap, h1, hr, hn, h5⟩, hx⟩ := h
    exact ⟨⟨b, off, n, cap, hp.trans h1, hr.five (fun _ b' o' e => by cases e; exact h5) k, hn, h5.five k⟩, hx⟩
theorem RSrc.keep {W W' : World} {p : Nat} {o : Option (List Nat)} (h : RSrc W p o) (hb : Below W.heap.size W W') : RSrc W' p o := h.five (five_below hb) (hb.block p h.lt)
theorem RSrc.grown5 {W W' : World} {p : Nat} {o : Option (List Nat)} (h : RSrc W p o) (hg : W.grownBy W' (some p)) : Five W W' := by
  obtain ⟨C, hp⟩ := h.block
  exact five_grown hp (by decide) hg
theorem two_of {W : World} {p : Nat} {a b : Value} (h : W.heap[p]? = some (.cells #[a, b] 68 (0, 0))) : W.cell? ⟨p, 0, none⟩ = some a ∧ W.cell? ⟨p, 1, none⟩ = some b ∧ W.frozen? ⟨p, 0, none⟩ = false ∧ W.frozen? ⟨p, 1, none⟩ = false := by
  simp [World.cell?, World.frozen?, h]
theorem two_set0 {W : World} {p : Nat} {a b v : Value} (h : W.heap[p]? = some (.cells #[a, b] 68 (0, 0))) : (W.setCell ⟨p, 0, none⟩ v).heap[p]? = some (.cells #[v, b] 68 (0, 0)) := by
  rw [heap_setCell_same W p 0 _ 68 v h]; simp
theorem two_set1 {W : World} {p : Nat} {a b v : Value} (h : W.heap[p]? = some (.cells #[a, b] 68 (0, 0))) : (W.setCell ⟨p, 1, none⟩ v).heap[p]? = some (.cells #[a, v] 68 (0, 0)) := by
  rw [heap_setCell_same W p 1 _ 68 v h]; simp

theorem own_pos {w : World} {B n : Nat} {v : Value} {xs : List Value} (h : w.ownsRow B 5 1 v n xs) (h0 : 0 < n) : ∃ g c1, v = .slice (some ⟨g, 0, none⟩) n c1 := by
  rcases h.2 with ⟨_, h2⟩ | ⟨g, c1, cur, e, _⟩
  · omega
  · exact ⟨g, c1, e⟩

set_option maxHeartbeats 1000000 in
theorem rread_ok (ao : Option Addr) (n cap : Nat) (xs : List Nat) (w : World) (h : Rd w ao n cap xs) (hx : ∀ x ∈ xs, x < 256) (hn : n ≤ 1000) (h0 : 0 < n) :
    Calls Try.prog 32 #[.slice ao n cap] w fun e w' => ∃ p, e = .returned (.pointer (some ⟨p, 0, none⟩)) ∧ w.heap.size ≤ p ∧ RSrc w' p (some xs) ∧ Below w.heap.size w w' := by
  have h' := hid h
  have hx' := hid hx
  clear h hx
  go_enter Try.func32, Try.ntmps32
  go_wp2_with (at_builtin; refine wpList_append_rd rfl (.tmp 3) (.tmp 4) rfl w.heap.size _ 0 [] rfl (World.ownsRow_made w #[] 0 (Nat.le_refl _) (by decide) rfl) ao n cap xs rfl (h'.out.keep (ext1 _)) (by omega) (by simp) ?_; intro v1 w1 ho1 hb1; simp only [Nat.zero_add, List.nil_append] at ho1; obtain ⟨g, c1, hv⟩ : ∃ g c1, v1 = .slice (some ⟨g, 0, none⟩) n c1 := own_pos ho1 h0; subst hv; have O1 := hid ho1; have B1 := hid (show Below w.heap.size w w1 from (ext1 _).trans hb1); clear ho1 hb1)
  go_ret
  have hk : Below w1.heap.size w1 (w1.alloc (.cells #[.slice (some ⟨g, 0, none⟩) n c1, .int .i64 0] 68)) := ext1 _
  exact ⟨w1.heap.size, rfl, B1.out.size, ⟨⟨g, 0, n, c1, heap_alloc_new w1 _, (rd_own O1.out).keep hk, by omega, (own_t5 O1.out).keep hk⟩, hx'.out⟩, gt B1.out hk⟩

set_option maxHeartbeats 400000 in
theorem rfail_any (p : Nat) (xs : List Nat) (z : Int) (hz : z ≠ 0) (W : World) (h : RSrc W p (some xs)) : Calls Try.prog 62 #[.pointer (some ⟨p, 0, none⟩), .int .i64 z] W fun e w' => e = .returned (.tuple #[]) ∧ RSrc w' p none ∧ W.grownBy w' (some p) := by
  obtain ⟨⟨b, off, n, cap, hp, _⟩, _⟩ := h
  obtain ⟨s0, s1, f0, f1⟩ := two_of hp
  have hp' := hid hp
  have hz' := hid hz
  clear hp hz
  go_enter Try.func62, Try.ntmps62
  go_wp2
  go_end0
  exact ⟨rfl, ⟨z, hz'.out, two_set0 (two_set1 hp'.out)⟩, grow_trans (grow_set _ _ _ _) (grow_set _ _ _ _)⟩

set_option maxHeartbeats 1000000 in
theorem rbytes_none (p : Nat) (k : Nat) (W : World) (h : RSrc W p none) :
    Calls Try.prog 36 #[.pointer (some ⟨p, 0, none⟩), .int .i64 (k : Int)] W fun e w' => e = .returned (.slice none 0 0) ∧ RSrc w' p none ∧ W.grownBy w' (some p) := by
  have h' := hid h
  obtain ⟨z, hz, hp⟩ := h
  obtain ⟨s0, s1, f0, f1⟩ := two_of hp
  have hz2 : (z == 0) = false := by simpa using hz
  have hz3 : (z != 0) = true := by simpa using hz
  clear hp hz
  go_enter Try.func36, Try.ntmps36
  go_wp2
  go_ret
  exact ⟨rfl, h'.out, World.grownBy.refl _ _⟩

set_option maxHeartbeats 1000000 in
theorem rbytes_short (p : Nat) (xs : List Nat) (k : Nat) (W : World) (h : RSrc W p (some xs)) (hs : xs.length < k) :
    Calls Try.prog 36 #[.pointer (some ⟨p, 0, none⟩), .int .i64 (k : Int)] W fun e w' => e = .returned (.slice none 0 0) ∧ RSrc w' p none ∧ W.grownBy w' (some p) := by
  have cf := hid (rfail_any p xs 8 (by decide) W h)
  obtain ⟨⟨b, off, n, cap, hp, hr, hn, h5⟩, _⟩ := h
  obtain ⟨s0, s1, f0, f1⟩ := two_of hp
  have hl := hr.1
  have hnk : (n : Int) < (k : Int) := by omega
  clear hp hr h5 hl hs
  go_enter Try.func36, Try.ntmps36
  go_wp2_with (go_at_call 62; refine cf.out.mono ?_; rintro e w2 ⟨rfl, hS, hg⟩; replace hS := hid hS; replace hg := hid hg)
  go_ret
  exact ⟨rfl, hS.out, hg.out⟩

theorem own_any5 {w : World} {B n m : Nat} {ao : Option Addr} {c : Nat} {xs : List Value} (h : w.ownsRow B 5 1 (.slice ao n c) m xs) : ∀ b o, ao = some ⟨b, o, none⟩ → T5 w b := by
  intro b o e
  subst e
  rcases h.2 with ⟨h', _⟩ | ⟨g', cap', cur, h', _, hg, _⟩
  · cases h'
  · simp only [Value.slice.injEq, Option.some.injEq, Addr.mk.injEq, and_true] at h'
    obtain ⟨⟨rfl, _⟩, _⟩ := h'
    exact ⟨cur, _, hg⟩

set_option maxHeartbeats 2000000 in
theorem rbytes_ok (p : Nat) (xs : List Nat) (k : Nat) (W : World) (h : RSrc W p (some xs)) (hk : k ≤ xs.length) :
    Calls Try.prog 36 #[.pointer (some ⟨p, 0, none⟩), .int .i64 (k : Int)] W fun e w' => ∃ ao n c, e = .returned (.slice ao n c) ∧ Rd w' ao n c (xs.take k) ∧ (0 < n → ∀ b o, ao = some ⟨b, o, none⟩ → T5 w' b) ∧ RSrc w' p (some (xs.drop k)) ∧ W.grownBy w' (some p) := by
  obtain ⟨⟨b, off, n, cap, hp, hr, hn, h5⟩, hx⟩ := h
  obtain ⟨s0, s1, f0, f1⟩ := two_of hp
  have hl := hr.1
  have hcap := hr.2.1
  have hkn : k ≤ n := by omega
  have hkn2 : ¬ (n : Int) < (k : Int) := by omega
  have hkc : (k : Int) ≤ (cap : Int) := by omega
  have hlt := lt_of_block hp
  have hp' := hid hp
  have hr' := hid hr
  have h5' := hid h5
  have hx' := hid hx
  have hl' := hid hl
  clear hp hr h5 hx hk hl
  have mid : ∀ (w1 : World) (ao1 : Option Addr) (c1 : Nat), w1.ownsRow W.heap.size 5 1 (.slice ao1 k c1) k (bs (xs.take k)) → Below W.heap.size W w1 → ∀ a' , (cap = k ∧ a' = ⟨b, off, none⟩) ∨ (¬ cap = k ∧ a' = ⟨b, off + k, none⟩) →
      Rd (w1.setCell ⟨p, 0, none⟩ (.slice (some a') (n - k) (cap - k))) ao1 k c1 (xs.take k) ∧ (0 < k → ∀ b o, ao1 = some ⟨b, o, none⟩ → T5 (w1.setCell ⟨p, 0, none⟩ (.slice (some a') (n - k) (cap - k))) b) ∧ RSrc (w1.setCell ⟨p, 0, none⟩ (.slice (some a') (n - k) (cap - k))) p (some (xs.drop k)) ∧ W.grownBy (w1.setCell ⟨p, 0, none⟩ (.slice (some a') (n - k) (cap - k))) (some p) := by
    intro w1 ao1 c1 ho hb a' ha
    have hp1 : w1.heap[p]? = some (.cells #[.slice (some ⟨b, off, none⟩) n cap, .int .i64 0] 68 (0, 0)) := by rw [hb.block p hlt]; exact hp'.out
    have F := five_set (i := 0) (v := .slice (some a') (n - k) (cap - k)) hp1 (by decide)
    obtain ⟨ao2, cap2, e, hrd⟩ := rd_owned ho
    simp only [Value.slice.injEq] at e
    obtain ⟨rfl, _, rfl⟩ := e
    have hf := (hr'.out.keep hb).from_ k hkn
    refine ⟨hrd.five (fun _ => own_any5 ho) F, fun _ b o e => (own_any5 ho b o e).five F, ⟨?_, drop_by hx'.out k⟩, grow_trans (grow_below hb) (grow_set _ _ _ _)⟩
    rcases ha with ⟨h1, rfl⟩ | ⟨h1, rfl⟩
    · exact ⟨b, off, n - k, cap - k, two_set0 hp1, (hf.1 h1).five (fun _ b' o' e => by cases e; exact h5'.out.keep hb) F, by omega, (h5'.out.keep hb).five F⟩
    · exact ⟨b, off + k, n - k, cap - k, two_set0 hp1, (hf.2 h1).five (fun _ b' o' e => by cases e; exact h5'.out.keep hb) F, by omega, (h5'.out.keep hb).five F⟩
  replace mid := hid mid
  by_cases hck : cap = k
  · subst hck
    obtain rfl : n = cap := by omega
    go_enter Try.func36, Try.ntmps36
    go_wp2_with (at_builtin; refine wpList_append_rd rfl (.tmp 24) (.tmp 30) rfl W.heap.size _ 0 [] rfl (World.ownsRow_made W #[] 0 (Nat.le_refl _) (by decide) rfl) (some ⟨b, off, none⟩) n n (xs.take n) rfl (rd_take (hr'.out.keep (ext1 _)) n (Nat.le_refl _)) (by omega) (by simp) ?_; intro v1 w1 ho1 hb1; simp only [Nat.zero_add, List.nil_append] at ho1; obtain ⟨ao1, c1, hv, _⟩ := rd_owned ho1; subst hv; have O1 := hid ho1; have B1 := hid (show Below W.heap.size W w1 from (ext1 _).trans hb1); obtain ⟨t0, t1, e0, e1⟩ := two_of (show w1.heap[p]? = some (.cells #[.slice (some ⟨b, off, none⟩) n n, .int .i64 0] 68 (0, 0)) from (by rw [B1.out.block p hlt]; exact hp'.out)); clear ho1 hb1)
    go_ret
    obtain ⟨e1, e2, e3, e4⟩ := mid.out w1 ao1 c1 O1.out B1.out ⟨b, off, none⟩ (by first | exact Or.inl ⟨rfl, rfl⟩ | simp)
    simp only [Nat.sub_self] at e1 e2 e3 e4
    exact ⟨ao1, n, c1, rfl, e1, e2, e3, e4⟩
  · go_enter Try.func36, Try.ntmps36
    go_wp2_with (at_builtin; refine wpList_append_rd rfl (.tmp 24) (.tmp 30) rfl W.heap.size _ 0 [] rfl (World.ownsRow_made W #[] 0 (Nat.le_refl _) (by decide) rfl) (some ⟨b, off, none⟩) k cap (xs.take k) rfl (rd_take (hr'.out.keep (ext1 _)) k hkn) (by omega) (by simp) ?_; intro v1 w1 ho1 hb1; simp only [Nat.zero_add, List.nil_append] at ho1; obtain ⟨ao1, c1, hv, _⟩ := rd_owned ho1; subst hv; have O1 := hid ho1; have B1 := hid (show Below W.heap.size W w1 from (ext1 _).trans hb1); obtain ⟨t0, t1, e0, e1⟩ := two_of (show w1.heap[p]? = some (.cells #[.slice (some ⟨b, off, none⟩) n cap, .int .i64 0] 68 (0, 0)) from (by rw [B1.out.block p hlt]; exact hp'.out)); clear ho1 hb1)
    go_ret
    obtain ⟨e1, e2, e3, e4⟩ := mid.out w1 ao1 c1 O1.out B1.out _ (Or.inr ⟨hck, rfl⟩)
    exact ⟨ao1, k, c1, rfl, e1, e2, e3, e4⟩

theorem rbytes_src (p : Nat) (k : Nat) (o : Option (List Nat)) (W : World) (h : RSrc W p o) :
    Calls Try.prog 36 #[.pointer (some ⟨p, 0, none⟩), .int .i64 (k : Int)] W fun e w' => ∃ ao n c, e = .returned (.slice ao n c) ∧ Rd w' ao n c (bytesO k o).1 ∧ (∀ x ∈ (bytesO k o).1, x < 256) ∧ (0 < n → ∀ b o, ao = some ⟨b, o, none⟩ → T5 w' b) ∧ RSrc w' p (bytesO k o).2 ∧ W.grownBy w' (some p) := by
  cases o with
  | none => exact (rbytes_none p k W h).mono fun e w' ⟨a, b, c⟩ => ⟨none, 0, 0, a, Rd.nil _, by simp [bytesO], fun h => by omega, b, c⟩
  | some xs =>
    by_cases hs : k ≤ xs.length
    · simp only [bytesO, if_pos hs]
      exact (rbytes_ok p xs k W h hs).mono fun e w' ⟨ao, n, c, a, b, t, d, g⟩ => ⟨ao, n, c, a, b, take_by h.2 k, t, d, g⟩
    · simp only [bytesO, if_neg hs]
      exact (rbytes_short p xs k W h (by omega)).mono fun e w' ⟨a, b, c⟩ => ⟨none, 0, 0, a, Rd.nil _, by simp, fun h => by omega, b, c⟩

theorem psum_take (xs : List Nat) (s : Nat) (l : Bool) : ∀ i, i ≤ s → psum (xs.take s) s l i = psum xs s l i := by
  intro i
  induction i with
  | zero => intro _; rfl
  | succ i ih =>
    intro hi
    simp only [psum]
    rw [ih (by omega)]
    congr 2
    simp [List.getD, show i < s by omega]
theorem getV_num (s : Nat) (o : Option (List Nat)) (h1 : 1 ≤ s) (h8 : s ≤ 8) : (getV (bytesO s o).1 (s : Int) false).1 = (numO s o).1 ∧ (bytesO s o).2 = (numO s o).2 := by
  cases o with
  | none =>
    refine ⟨?_, rfl⟩
    show (getV [] (s : Int) false).1 = 0
    unfold getV
    rw [if_neg (by simp; omega)]
  | some xs =>
    by_cases hs : s ≤ xs.length
    · have e1 : bytesO s (some xs) = (xs.take s, some (xs.drop s)) := by simp only [bytesO]; rw [if_pos hs]
      have e2 : numO s (some xs) = (psum xs s false s, some (xs.drop s)) := by simp only [numO]; rw [if_pos hs]
      rw [e1, e2]
      refine ⟨?_, rfl⟩
      show (getV (xs.take s) (s : Int) false).1 = psum xs s false s
      unfold getV
      rw [if_pos (by simp; omega)]
      simp only [Int.toNat_natCast]
      exact psum_take xs s false s (Nat.le_refl _)
    · have e1 : bytesO s (some xs) = ([], none) := by simp only [bytesO]; rw [if_neg hs]
      have e2 : numO s (some xs) = (0, none) := by simp only [numO]; rw [if_neg hs]
      rw [e1, e2]
      refine ⟨?_, rfl⟩
      show (getV [] (s : Int) false).1 = 0
      unfold getV
      rw [if_neg (by simp; omega)]

set_option maxHeartbeats 1000000 in
theorem rnum_src (p : Nat) (s : Nat) (o : Option (List Nat)) (W : World) (h : RSrc W p o) (h1 : 1 ≤ s) (h8 : s ≤ 8) :
    Calls Try.prog 34 #[.pointer (some ⟨p, 0, none⟩), .int .i64 (s : Int), .bool false] W fun e w' => e = .returned (.int .u64 ((numO s o).1 : Nat)) ∧ RSrc w' p (numO s o).2 ∧ W.grownBy w' (some p) := by
  have cb := hid (rbytes_src p s o W h)
  have hg := getV_num s o h1 h8
  have cg := hid (fun w1 ao n c (hr : Rd w1 ao n c (bytesO s o).1) (hx : ∀ x ∈ (bytesO s o).1, x < 256) => rget_any ao n c (bytesO s o).1 (s : Int) false w1 hr hx)
  rw [hg.1] at cg
  rw [hg.2] at cb
  generalize (getV (bytesO s o).1 (s : Int) false).2 = ok at *
  generalize numO s o = R at *
  obtain ⟨v, o'⟩ := R
  simp only at *
  have hs1 : ¬ (s : Int) < 1 := by omega
  have hs8 : ¬ (8 : Int) < (s : Int) := by omega
  clear h hg h1 h8
  go_enter Try.func34, Try.ntmps34
  go_wp2_with (first
    | (go_at_call 36; refine cb.out.mono ?_; rintro e w1 ⟨ao, n, c, rfl, hr, hx, _, hS, hG⟩; have R1 := hid hr; have X1 := hid hx; have S1 := hid hS; have G1 := hid hG; clear hr hx hS hG)
    | (go_at_call 63; refine (cg.out _ _ _ _ R1.out X1.out).mono ?_; rintro e w2 ⟨rfl, hw⟩; obtain rfl := hw))
  go_ret
  exact ⟨rfl, S1.out, G1.out⟩

set_option maxHeartbeats 1000000 in
theorem rbyte_src (p : Nat) (o : Option (List Nat)) (W : World) (h : RSrc W p o) :
    Calls Try.prog 33 #[.pointer (some ⟨p, 0, none⟩)] W fun e w' => e = .returned (.int .u8 ((((numO 1 o).1 % 256 : Nat)) : Int)) ∧ RSrc w' p (numO 1 o).2 ∧ W.grownBy w' (some p) := by
  have c := hid (rnum_src p 1 o W h (by omega) (by omega))
  generalize numO 1 o = R at *
  obtain ⟨v, o'⟩ := R
  simp only at *
  have hw : IntKind.u8.wrap (v : Int) = ((v % 256 : Nat) : Int) := by rw [IntKind.wrap_u8]; omega
  clear h
  go_enter Try.func33, Try.ntmps33
  go_wp2_with (go_at_call 34; refine c.out.mono ?_; rintro e w1 ⟨rfl, hS, hg⟩; replace hS := hid hS; replace hg := hid hg)
  go_ret
  exact ⟨by simp, hS.out, hg.out⟩

end Go.Proofs.Ytbpcekhfjkodcaa

namespace Go.Proofs.Ytbpcekhfjkodcaa
open Go.RowKit

theorem varO_take (most : Nat) (xs : List Nat) : ((takeN xs).2 = 0 ∧ varO most (some xs) = (0, none)) ∨ ((takeN xs).2 ≠ 0 ∧ most < (takeN xs).1 ∧ varO most (some xs) = (0, none)) ∨
    ((takeN xs).2 ≠ 0 ∧ (takeN xs).1 ≤ most ∧ varO most (some xs) = ((takeN xs).1, some (xs.drop (takeN xs).2))) := by
  have hz := szN_le (asm 0 8 xs).1
  unfold takeN
  simp only [varO]
  by_cases h : (asm 0 8 xs).2 = szN (asm 0 8 xs).1
  · rw [if_pos h]
    right
    by_cases hm : most < (asm 0 8 xs).1
    · left
      exact ⟨by omega, hm, by rw [if_pos (Or.inr (Or.inr hm))]⟩
    · right
      exact ⟨by omega, by omega, by rw [if_neg (by omega)]⟩
  · rw [if_neg h]
    left
    exact ⟨rfl, by rw [if_pos (Or.inr (Or.inl h))]⟩

set_option maxHeartbeats 1000000 in
theorem rvar_none (p : Nat) (most : Nat) (W : World) (h : RSrc W p none) :
    Calls Try.prog 35 #[.pointer (some ⟨p, 0, none⟩), .int .u64 (most : Int)] W fun e w' => e = .returned (.int .u64 0) ∧ RSrc w' p none ∧ W.grownBy w' (some p) := by
  have h' := hid h
  obtain ⟨z, hz, hp⟩ := h
  obtain ⟨s0, s1, f0, f1⟩ := two_of hp
  have hz2 : (z == 0) = false := by simpa using hz
  have hz3 : (z != 0) = true := by simpa using hz
  clear hp hz
  go_enter Try.func35, Try.ntmps35
  go_wp2
  go_ret
  exact ⟨rfl, h'.out, World.grownBy.refl _ _⟩

set_option maxHeartbeats 2000000 in
theorem rvar_bad (p : Nat) (xs : List Nat) (most : Nat) (W : World) (h : RSrc W p (some xs)) (ht : (takeN xs).2 = 0) :
    Calls Try.prog 35 #[.pointer (some ⟨p, 0, none⟩), .int .u64 (most : Int)] W fun e w' => e = .returned (.int .u64 0) ∧ RSrc w' p none ∧ W.grownBy w' (some p) := by
  have cf8 := hid (rfail_any p xs 8 (by decide) W h)
  have cf9 := hid (rfail_any p xs 9 (by decide) W h)
  obtain ⟨⟨b, off, n, cap, hp, hr, hn, h5⟩, hx⟩ := h
  have ct := hid (rtake_any _ n cap xs W hr hx (by omega))
  rw [ht] at ct
  obtain ⟨s0, s1, f0, f1⟩ := two_of hp
  have hl := hr.1
  have hr' := hid hr
  have hx' := hid hx
  generalize (takeN xs).1 = v at *
  clear hp hr h5 hx ht
  go_enter Try.func35, Try.ntmps35
  go_wp2_with (go_at_call 64; refine ct.out.mono ?_; rintro e w1 ⟨rfl, hw⟩; obtain rfl := hw)
  go_loopw [7, 36] (fun s c W' => ∃ (i : Nat) (sh : Bool), i ≤ n ∧ c = .int .i64 (i : Int) ∧ s = .bool sh ∧ W' = W) (fun _ c _ => n - (intOf c).toNat)
  case atStart => exact ⟨0, _, by omega, rfl, rfl, rfl⟩
  case round =>
    obtain ⟨i, sh, hi, rfl, rfl, rfl⟩ := hrel
    by_cases hik : i < n
    · obtain ⟨b', off', e, hc⟩ := hr'.out.2.2.2 (by omega)
      simp only [Option.some.injEq, Addr.mk.injEq, and_true] at e
      obtain ⟨rfl, rfl⟩ := e
      have c0 := hc i hik
      have hX := getD_lt hx'.out i (by omega)
      generalize xs.getD i 0 = X at *
      clear hc
      cases sh with
      | false =>
        go_wp2
        exact ⟨⟨i + 1, _, by omega, by go_num, rfl, by first | rfl | trivial⟩, by simp [intOf]; omega⟩
      | true =>
        go_wp2
        exact ⟨⟨i + 1, _, by omega, by go_num, rfl, by first | rfl | trivial⟩, by simp [intOf]; omega⟩
    · obtain rfl : i = n := by omega
      cases sh with
      | false =>
        go_wp2_with (go_at_call 62; refine cf9.out.mono ?_; rintro e w2 ⟨rfl, hS, hg⟩; replace hS := hid hS; replace hg := hid hg)
        go_ret
        exact ⟨rfl, hS.out, hg.out⟩
      | true =>
        go_wp2_with (go_at_call 62; refine cf8.out.mono ?_; rintro e w2 ⟨rfl, hS, hg⟩; replace hS := hid hS; replace hg := hid hg)
        go_ret
        exact ⟨rfl, hS.out, hg.out⟩

set_option maxHeartbeats 2000000 in
theorem rvar_much (p : Nat) (xs : List Nat) (most : Nat) (W : World) (h : RSrc W p (some xs)) (ht : (takeN xs).2 ≠ 0) (hm : most < (takeN xs).1) :
    Calls Try.prog 35 #[.pointer (some ⟨p, 0, none⟩), .int .u64 (most : Int)] W fun e w' => e = .returned (.int .u64 0) ∧ RSrc w' p none ∧ W.grownBy w' (some p) := by
  have cf := hid (rfail_any p xs 11 (by decide) W h)
  obtain ⟨⟨b, off, n, cap, hp, hr, hn, h5⟩, hx⟩ := h
  have ct := hid (rtake_any _ n cap xs W hr hx (by omega))
  obtain ⟨s0, s1, f0, f1⟩ := two_of hp
  generalize takeN xs = R at *
  obtain ⟨v, k⟩ := R
  simp only at *
  have hk0 : ((k : Int) == 0) = false := by simp; omega
  have hm' : (most : Int) < (v : Int) := by omega
  clear hp hr h5 hx ht hm
  go_enter Try.func35, Try.ntmps35
  go_wp2_with (first
    | (go_at_call 64; refine ct.out.mono ?_; rintro e w1 ⟨rfl, hw⟩; obtain rfl := hw)
    | (go_at_call 62; refine cf.out.mono ?_; rintro e w2 ⟨rfl, hS, hg⟩; replace hS := hid hS; replace hg := hid hg))
  go_ret
  exact ⟨rfl, hS.out, hg.out⟩

set_option maxHeartbeats 2000000 in
theorem rvar_ok (p : Nat) (xs : List Nat) (most : Nat) (W : World) (h : RSrc W p (some xs)) (ht : (takeN xs).2 ≠ 0) (hm : (takeN xs).1 ≤ most) :
    Calls Try.prog 35 #[.pointer (some ⟨p, 0, none⟩), .int .u64 (most : Int)] W fun e w' => e = .returned (.int .u64 ((takeN xs).1 : Nat)) ∧ RSrc w' p (some (xs.drop (takeN xs).2)) ∧ W.grownBy w' (some p) := by
  obtain ⟨⟨b, off, n, cap, hp, hr, hn, h5⟩, hx⟩ := h
  have ct := hid (rtake_any _ n cap xs W hr hx (by omega))
  obtain ⟨s0, s1, f0, f1⟩ := two_of hp
  have hkn : (takeN xs).2 ≤ n := by
    rcases take_cases hx (r1 := (takeN xs).1) (r2 := (takeN xs).2) rfl with h | ⟨_, h, _⟩
    · omega
    · have := hr.1; omega
  generalize takeN xs = R at *
  obtain ⟨v, k⟩ := R
  simp only at *
  have hcap := hr.2.1
  have hk0 : ((k : Int) == 0) = false := by simp; omega
  have hm' : ¬ (most : Int) < (v : Int) := by omega
  have hkc : (k : Int) ≤ (cap : Int) := by omega
  have hkn2 : (k : Int) ≤ (n : Int) := by omega
  have fin : ∀ a', (cap = k ∧ a' = ⟨b, off, none⟩) ∨ (¬ cap = k ∧ a' = ⟨b, off + k, none⟩) → RSrc (W.setCell ⟨p, 0, none⟩ (.slice (some a') (n - k) (cap - k))) p (some (xs.drop k)) := by
    intro a' ha
    have F := five_set (i := 0) (v := .slice (some a') (n - k) (cap - k)) hp (by decide)
    have hf := hr.from_ k hkn
    refine ⟨?_, drop_by hx k⟩
    rcases ha with ⟨h1, rfl⟩ | ⟨h1, rfl⟩
    · exact ⟨b, off, n - k, cap - k, two_set0 hp, (hf.1 h1).five (fun _ b' o' e => by cases e; exact h5) F, by omega, h5.five F⟩
    · exact ⟨b, off + k, n - k, cap - k, two_set0 hp, (hf.2 h1).five (fun _ b' o' e => by cases e; exact h5) F, by omega, h5.five F⟩
  replace fin := hid fin
  clear hp hr h5 hx ht hm
  by_cases hck : cap = k
  · subst hck
    obtain rfl : n = cap := by omega
    go_enter Try.func35, Try.ntmps35
    go_wp2_with (go_at_call 64; refine ct.out.mono ?_; rintro e w1 ⟨rfl, hw⟩; obtain rfl := hw)
    go_ret
    have e := fin.out ⟨b, off, none⟩ (by first | exact Or.inl ⟨rfl, rfl⟩ | simp)
    simp only [Nat.sub_self] at e
    exact ⟨rfl, e, grow_set _ _ _ _⟩
  · go_enter Try.func35, Try.ntmps35
    go_wp2_with (go_at_call 64; refine ct.out.mono ?_; rintro e w1 ⟨rfl, hw⟩; obtain rfl := hw)
    go_ret
    exact ⟨rfl, fin.out ⟨b, off + k, none⟩ (Or.inr ⟨hck, rfl⟩), grow_set _ _ _ _⟩

theorem rvar_src (p : Nat) (most : Nat) (o : Option (List Nat)) (W : World) (h : RSrc W p o) :
    Calls Try.prog 35 #[.pointer (some ⟨p, 0, none⟩), .int .u64 (most : Int)] W fun e w' => e = .returned (.int .u64 ((varO most o).1 : Nat)) ∧ RSrc w' p (varO most o).2 ∧ W.grownBy w' (some p) := by
  cases o with
  | none => exact rvar_none p most W h
  | some xs =>
    rcases varO_take most xs with ⟨h1, h2⟩ | ⟨h1, h2, h3⟩ | ⟨h1, h2, h3⟩
    · rw [h2]; exact rvar_bad p xs most W h h1
    · rw [h3]; exact rvar_much p xs most W h h1 h2
    · rw [h3]; exact rvar_ok p xs most W h h1 h2

end Go.Proofs.Ytbpcekhfjkodcaa
