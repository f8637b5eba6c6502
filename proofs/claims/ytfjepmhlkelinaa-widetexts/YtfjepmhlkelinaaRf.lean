/- What the document's own functions Cmp and Width, and Bits of package wide, return, as contracts over numbers below 2^192; no statement of the seat is proved here. -/
import Derived.Test.YtfjepmhlkelinaaRe
namespace Go.Proofs.Ytfjepmhlkelinaa
open Go.RowKit

theorem cmp_less (m n j : Nat) (h : m / 2 ^ (j + 1) = n / 2 ^ (j + 1)) (hx : m / 2 ^ j % 2 < n / 2 ^ j % 2) : m < n := by
  have e : m / 2 ^ j / 2 = m / 2 ^ (j + 1) := by rw [Nat.pow_succ, Nat.div_div_eq_div_mul]
  have f : n / 2 ^ j / 2 = n / 2 ^ (j + 1) := by rw [Nat.pow_succ, Nat.div_div_eq_div_mul]
  have g : m / 2 ^ j < n / 2 ^ j := by omega
  rcases Nat.lt_or_ge m n with k | k
  · exact k
  · have := Nat.div_le_div_right (c := 2 ^ j) k
    omega

theorem cmp_next (m n j : Nat) (h : m / 2 ^ (j + 1) = n / 2 ^ (j + 1)) (hx : m / 2 ^ j % 2 = n / 2 ^ j % 2) : m / 2 ^ j = n / 2 ^ j := by
  have e : m / 2 ^ j / 2 = m / 2 ^ (j + 1) := by rw [Nat.pow_succ, Nat.div_div_eq_div_mul]
  have f : n / 2 ^ j / 2 = n / 2 ^ (j + 1) := by rw [Nat.pow_succ, Nat.div_div_eq_div_mul]
  omega

set_option maxHeartbeats 1000000 in
set_option maxRecDepth 100000 in
theorem rcmp_any (m n : Nat) (hm : m < 6277101735386680763835789423207666416102355444464034512896) (hn : n < 6277101735386680763835789423207666416102355444464034512896) (w : World) (r : Int) (hr : Hid (r = cmpN m n)) :
    Calls Try.prog 14 #[.agg #[.int .u64 (W0 (m)), .int .u64 (W1 (m)), .int .u64 (W2 (m))], .agg #[.int .u64 (W0 (n)), .int .u64 (W1 (n)), .int .u64 (W2 (n))]] w fun e w' => e = .returned (.int .i64 r) ∧ Below w.heap.size w w' := by
  go_enter Try.func14, Try.ntmps14
  go_wp2
  go_loopw [5] (fun i W => ∃ k : Nat, k ≤ 192 ∧ i = .int .i64 ((k : Int) - 1) ∧ m / 2 ^ k = n / 2 ^ k ∧ Has W w.heap.size m ∧ Has W (w.heap.size + 1) n ∧ Below w.heap.size w W) (fun i W => (intOf i + 1).toNat)
  case atStart =>
    refine ⟨192, by omega, rfl, ?_, ?_, ?_, (by repeat (first | with_reducible exact Below.refl _ _ | with_reducible assumption | with_reducible refine Below.drew ?_ | with_reducible refine below_drewN ?_ _ | with_reducible refine Below.alloc ?_ (by simp <;> omega) _ | with_reducible refine Below.setCell ?_ (by simp <;> omega) _))⟩
    · rw [Nat.div_eq_of_lt (show m < 2 ^ 192 from hm), Nat.div_eq_of_lt (show n < 2 ^ 192 from hn)]
    · exact (Has.new w m _ _ rfl).alloc _
    · exact Has.new _ n _ _ (by simp)
  case round =>
    obtain ⟨k, hk, rfl, hh, ha, hb, hB⟩ := hrel
    have la := ha.lt; have lb := hb.lt
    have hb' := hid hB
    generalize h1 : w.heap.size + 1 = p1 at *
    have P1 : Hid (w.heap.size + 1 = p1) := h1
    clear h1
    cases k with
    | zero =>
      obtain rfl : m = n := by simpa using hh
      obtain rfl : r = 0 := by rw [hr.out]; simp [cmpN]
      clear hr hh ha hb hB
      go_wp2
      go_ret
      exact ⟨rfl, hb'.out⟩
    | succ j =>
      rw [show ((j + 1 : Nat) : Int) - 1 = (j : Int) by omega]
      have hbm := fun w => bit_any m j (by omega) w
      have hbn := fun w => bit_any n j (by omega) w
      have xb : m / 2 ^ j % 2 < 2 := Nat.mod_lt _ (by omega)
      have yb : n / 2 ^ j % 2 < 2 := Nat.mod_lt _ (by omega)
      have c1 := hid (cmp_less m n j hh)
      have c2 := hid (cmp_less n m j hh.symm)
      have c3 := hid (cmp_next m n j hh)
      generalize m / 2 ^ j % 2 = x at *
      generalize n / 2 ^ j % 2 = y at *
      have BM := hid hbm; have BN := hid hbn
      have HA : Hid (Has wr w.heap.size m) := ha; have HB : Hid (Has wr p1 n) := hb
      obtain ⟨⟨a0, a1, a2⟩, fa⟩ := ha
      obtain ⟨⟨b0, b1, b2⟩, fb⟩ := hb
      have kk : (j : Int) < 192 := by omega
      clear hbm hbn hB hk hh
      rcases Nat.lt_trichotomy x y with h | rfl | h
      · obtain rfl : r = -1 := by rw [hr.out, cmpN, if_pos (c1.out h)]
        have h' : (x : Int) < (y : Int) := by omega
        have hne : ((x : Int) != (y : Int)) = true := by simp; omega
        clear hr
        go_wp2_with fail
        go_region_held3 (fun W => (W.cell? ⟨w.heap.size, 0, none⟩ = some (.int .u64 (W0 m)) ∧ W.cell? ⟨w.heap.size, 1, none⟩ = some (.int .u64 (W1 m)) ∧ W.cell? ⟨w.heap.size, 2, none⟩ = some (.int .u64 (W2 m))) ∧ (W.cell? ⟨p1, 0, none⟩ = some (.int .u64 (W0 n)) ∧ W.cell? ⟨p1, 1, none⟩ = some (.int .u64 (W1 n)) ∧ W.cell? ⟨p1, 2, none⟩ = some (.int .u64 (W2 n)))) (first | exact ⟨(HA.out.grown (Below.refl _ _).drew).1, (HB.out.grown (Below.refl _ _).drew).1⟩ | exact ⟨(HA.out.grown hb1).1, (HB.out.grown hb1).1⟩ | exact ⟨((HA.out.grown hb1).grown hb2).1, ((HB.out.grown hb1).grown hb2).1⟩) (first | (go_at_call_of 28 m; refine (BM.out _).mono ?_; rintro e w1 ⟨rfl, hb1⟩; replace hb1 := undrew hb1; obtain ⟨bc1, bf1⟩ := bcell hb1; have hz1 : p1 < w1.heap.size := by have := hb1.size; (try simp at this); omega) | (go_at_call_of 28 n; refine (BN.out _).mono ?_; rintro e w2 ⟨rfl, hb2⟩; obtain ⟨bc2, bf2⟩ := bcell hb2; have hz2 : p1 < w2.heap.size := by have := hb2.size; (try simp at this); omega))
        go_wp2
        go_ret
        exact ⟨rfl, gt hb'.out (gt hb1 hb2)⟩
      · have hne : ((x : Int) != (x : Int)) = false := by simp
        go_wp2_with fail
        go_region_held3 (fun W => (W.cell? ⟨w.heap.size, 0, none⟩ = some (.int .u64 (W0 m)) ∧ W.cell? ⟨w.heap.size, 1, none⟩ = some (.int .u64 (W1 m)) ∧ W.cell? ⟨w.heap.size, 2, none⟩ = some (.int .u64 (W2 m))) ∧ (W.cell? ⟨p1, 0, none⟩ = some (.int .u64 (W0 n)) ∧ W.cell? ⟨p1, 1, none⟩ = some (.int .u64 (W1 n)) ∧ W.cell? ⟨p1, 2, none⟩ = some (.int .u64 (W2 n)))) (first | exact ⟨(HA.out.grown (Below.refl _ _).drew).1, (HB.out.grown (Below.refl _ _).drew).1⟩ | exact ⟨(HA.out.grown hb1).1, (HB.out.grown hb1).1⟩ | exact ⟨((HA.out.grown hb1).grown hb2).1, ((HB.out.grown hb1).grown hb2).1⟩) (first | (go_at_call_of 28 m; refine (BM.out _).mono ?_; rintro e w1 ⟨rfl, hb1⟩; replace hb1 := undrew hb1; obtain ⟨bc1, bf1⟩ := bcell hb1; have hz1 : p1 < w1.heap.size := by have := hb1.size; (try simp at this); omega) | (go_at_call_of 28 n; refine (BN.out _).mono ?_; rintro e w2 ⟨rfl, hb2⟩; obtain ⟨bc2, bf2⟩ := bcell hb2; have hz2 : p1 < w2.heap.size := by have := hb2.size; (try simp at this); omega))
        go_wp2
        refine ⟨⟨j, by omega, rfl, c3.out (by first | rfl | trivial), HA.out.grown (gt hb1 hb2), HB.out.grown (gt hb1 hb2), gt hb'.out (gt hb1 hb2)⟩, by simp [intOf] <;> omega⟩
      · obtain rfl : r = 1 := by
          have := c2.out h
          rw [hr.out, cmpN, if_neg (by omega), if_neg (by omega)]
        have h' : ¬ (x : Int) < (y : Int) := by omega
        have hne : ((x : Int) != (y : Int)) = true := by simp; omega
        clear hr
        go_wp2_with fail
        go_region_held3 (fun W => (W.cell? ⟨w.heap.size, 0, none⟩ = some (.int .u64 (W0 m)) ∧ W.cell? ⟨w.heap.size, 1, none⟩ = some (.int .u64 (W1 m)) ∧ W.cell? ⟨w.heap.size, 2, none⟩ = some (.int .u64 (W2 m))) ∧ (W.cell? ⟨p1, 0, none⟩ = some (.int .u64 (W0 n)) ∧ W.cell? ⟨p1, 1, none⟩ = some (.int .u64 (W1 n)) ∧ W.cell? ⟨p1, 2, none⟩ = some (.int .u64 (W2 n)))) (first | exact ⟨(HA.out.grown (Below.refl _ _).drew).1, (HB.out.grown (Below.refl _ _).drew).1⟩ | exact ⟨(HA.out.grown hb1).1, (HB.out.grown hb1).1⟩ | exact ⟨((HA.out.grown hb1).grown hb2).1, ((HB.out.grown hb1).grown hb2).1⟩) (first | (go_at_call_of 28 m; refine (BM.out _).mono ?_; rintro e w1 ⟨rfl, hb1⟩; replace hb1 := undrew hb1; obtain ⟨bc1, bf1⟩ := bcell hb1; have hz1 : p1 < w1.heap.size := by have := hb1.size; (try simp at this); omega) | (go_at_call_of 28 n; refine (BN.out _).mono ?_; rintro e w2 ⟨rfl, hb2⟩; obtain ⟨bc2, bf2⟩ := bcell hb2; have hz2 : p1 < w2.heap.size := by have := hb2.size; (try simp at this); omega))
        go_wp2
        go_ret
        exact ⟨rfl, gt hb'.out (gt hb1 hb2)⟩

def blen (n : Nat) : Nat := if n = 0 then 0 else n.log2 + 1

theorem blen_of (n j : Nat) (h : 2 ^ j ≤ n) (h' : n < 2 ^ (j + 1)) : blen n = j + 1 := by
  have hp : 0 < 2 ^ j := Nat.two_pow_pos j
  unfold blen
  rw [if_neg (by omega), (Nat.log2_eq_iff (by omega)).2 ⟨h, h'⟩]

theorem wid_yes (n j : Nat) (h : n / 2 ^ (j + 1) = 0) (hx : n / 2 ^ j % 2 = 1) : blen n = j + 1 := by
  have hp : 0 < 2 ^ j := Nat.two_pow_pos j
  have hp' : 0 < 2 ^ (j + 1) := Nat.two_pow_pos (j + 1)
  refine blen_of n j ?_ ?_
  · rcases Nat.lt_or_ge n (2 ^ j) with k | k
    · rw [Nat.div_eq_of_lt k] at hx; omega
    · exact k
  · rcases Nat.lt_or_ge n (2 ^ (j + 1)) with k | k
    · exact k
    · have := Nat.div_pos k hp'; omega

theorem wid_no (n j : Nat) (h : n / 2 ^ (j + 1) = 0) (hx : n / 2 ^ j % 2 = 0) : n / 2 ^ j = 0 := by
  have e : n / 2 ^ j / 2 = n / 2 ^ (j + 1) := by rw [Nat.pow_succ, Nat.div_div_eq_div_mul]
  omega

set_option maxHeartbeats 1000000 in
set_option maxRecDepth 100000 in
theorem width_any (n : Nat) (hn : n < 6277101735386680763835789423207666416102355444464034512896) (w : World) (r : Int) (hr : Hid (r = ((blen n : Nat) : Int))) :
    Calls Try.prog 16 #[.agg #[.int .u64 (W0 (n)), .int .u64 (W1 (n)), .int .u64 (W2 (n))]] w fun e w' => e = .returned (.int .i64 r) ∧ Below w.heap.size w w' := by
  go_enter Try.func16, Try.ntmps16
  go_wp2
  go_loopw [3] (fun i W => ∃ k : Nat, k ≤ 192 ∧ i = .int .i64 ((k : Int) - 1) ∧ n / 2 ^ k = 0 ∧ Has W w.heap.size n ∧ Below w.heap.size w W) (fun i W => (intOf i + 1).toNat)
  case atStart =>
    refine ⟨192, by omega, rfl, ?_, ?_, (by repeat (first | with_reducible exact Below.refl _ _ | with_reducible assumption | with_reducible refine Below.drew ?_ | with_reducible refine below_drewN ?_ _ | with_reducible refine Below.alloc ?_ (by simp <;> omega) _ | with_reducible refine Below.setCell ?_ (by simp <;> omega) _))⟩
    · exact Nat.div_eq_of_lt (show n < 2 ^ 192 from hn)
    · exact Has.new w n _ _ rfl
  case round =>
    obtain ⟨k, hk, rfl, hh, ha, hB⟩ := hrel
    have la := ha.lt
    have hb' := hid hB
    cases k with
    | zero =>
      obtain rfl : n = 0 := by simpa using hh
      obtain rfl : r = 0 := by rw [hr.out]; rfl
      clear hr hh ha hB
      go_wp2
      go_ret
      exact ⟨rfl, hb'.out⟩
    | succ j =>
      rw [show ((j + 1 : Nat) : Int) - 1 = (j : Int) by omega]
      have hbm := fun w => bit_any n j (by omega) w
      have xb : n / 2 ^ j % 2 < 2 := Nat.mod_lt _ (by omega)
      have c1 := hid (wid_yes n j hh)
      have c2 := hid (wid_no n j hh)
      generalize n / 2 ^ j % 2 = x at *
      have BM := hid hbm
      have HA : Hid (Has wr w.heap.size n) := ha
      obtain ⟨⟨a0, a1, a2⟩, fa⟩ := ha
      have kk : (j : Int) < 192 := by omega
      clear hbm hB hk hh
      rcases (by omega : x = 0 ∨ x = 1) with rfl | rfl
      · go_wp2_with (go_at_call 28; refine (BM.out _).mono ?_; rintro e w1 ⟨rfl, hb1⟩)
        refine ⟨⟨j, by omega, rfl, c2.out (by first | rfl | trivial), HA.out.grown hb1, gt hb'.out hb1⟩, by simp [intOf] <;> omega⟩
      · obtain rfl : r = (j : Int) + 1 := by rw [hr.out, c1.out rfl]; omega
        clear hr
        go_wp2_with (go_at_call 28; refine (BM.out _).mono ?_; rintro e w1 ⟨rfl, hb1⟩)
        go_ret
        exact ⟨rfl, gt hb'.out hb1⟩

end Go.Proofs.Ytfjepmhlkelinaa
