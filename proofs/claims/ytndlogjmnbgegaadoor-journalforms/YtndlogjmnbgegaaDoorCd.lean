/- What ReadHead returns of few bytes, Hot, and HeadBytes in one form; no statement of the seat is proved here. -/
import Derived.Test.YtndlogjmnbgegaaDoorCc
import Derived.Test.YtndlogjmnbgegaaDoorBe
namespace Go.Proofs.YtndlogjmnbgegaaDoor
open Go.RowKit

set_option maxHeartbeats 400000 in
theorem rhead_short (ao : Option Addr) (n cap : Nat) (w : World) (hn : n < 128) :
    Calls Tryd.prog 21 #[.slice ao n cap] w fun e w' => e = .returned (.tuple #[.agg #[.int .i64 0, .int .i64 0, .int .u64 0], .int .i64 8]) ∧ Below w.heap.size w w' := by
  have hge : (n : Int) < 128 := by omega
  go_enter Tryd.func21, Tryd.ntmps21
  go_wp2
  (try simp only [Exit.inBlock, Exit.then])
  refine bodyPost_ret (ret_head rfl agg24 size24 rfl (HB.new 24 w 0 0 0)) rfl ?_
  exact ⟨rfl, Below.alloc (Below.refl _ _) (Nat.le_refl _) _⟩

def hotN (xs : List Nat) : Bool := decide (128 ≤ xs.length) && isHead xs

/-- The three numbers and the error that a head's bytes are read as. -/
def rdH (xs : List Nat) : (Nat × Nat × Nat) × Int := if xs.length < 128 then ((0, 0, 0), 8) else if isHead xs then ((hC xs, hP xs, hN xs), 0) else ((0, 0, 0), 9)

theorem rdH_err (xs : List Nat) : (rdH xs).2 = 0 ↔ hotN xs = true := by
  unfold rdH hotN
  split
  · simp; omega
  · split <;> simp [*] <;> omega

theorem rhead_all (ao : Option Addr) (n cap : Nat) (xs : List Nat) (w : World) (h : Rd w ao n cap xs) (hx : ∀ x ∈ xs, x < 256) (hn2 : n ≤ 140737488355328) (hT : Tab w) :
    Calls Tryd.prog 21 #[.slice ao n cap] w fun e w' => e = .returned (.tuple #[.agg #[.int .i64 ((rdH xs).1.1 : Int), .int .i64 ((rdH xs).1.2.1 : Int), .int .u64 ((rdH xs).1.2.2 : Int)], .int .i64 (rdH xs).2]) ∧ Below w.heap.size w w' := by
  have hl := h.1
  by_cases hn : n < 128
  · have e : rdH xs = ((0, 0, 0), 8) := by unfold rdH; rw [if_pos (by omega)]
    rw [e]
    exact rhead_short ao n cap w hn
  · refine (rhead_any ao n cap xs w h hx (by omega) hn2 hT).mono fun e w' ⟨c, p, m, er, he, hh, hb⟩ => ⟨?_, hb⟩
    rw [he]
    rcases hh.out with ⟨h1, rfl, rfl, rfl, rfl⟩ | ⟨h1, rfl, rfl, rfl, rfl⟩
    · have e : rdH xs = ((hC xs, hP xs, hN xs), 0) := by unfold rdH; rw [if_neg (by omega), if_pos h1]
      rw [e]
    · have e : rdH xs = ((0, 0, 0), 9) := by unfold rdH; rw [if_neg (by omega), if_neg (by rw [h1]; simp)]
      rw [e]

set_option maxHeartbeats 400000 in
theorem hot_any (ao : Option Addr) (n cap : Nat) (xs : List Nat) (w : World) (h : Rd w ao n cap xs) (hx : ∀ x ∈ xs, x < 256) (hn2 : n ≤ 140737488355328) (hT : Tab w) :
    Calls Tryd.prog 28 #[.slice ao n cap] w fun e w' => e = .returned (.bool (hotN xs)) ∧ Below w.heap.size w w' := by
  have c := hid (rhead_all ao n cap xs w h hx hn2 hT)
  have he := rdH_err xs
  generalize rdH xs = r at *
  obtain ⟨⟨c1, p1, n1⟩, er⟩ := r
  simp only at c he
  have hb : (er == 0) = hotN xs := by rw [Bool.eq_iff_iff, beq_iff_eq]; exact he
  generalize hotN xs = b at *
  clear he h hx hT
  go_enter Tryd.func28, Tryd.ntmps28
  go_wp2_with (go_at_call 21; refine c.out.mono ?_; rintro e w1 ⟨rfl, hb1⟩)
  go_ret
  exact ⟨rfl, Below.alloc hb1 hb1.size _⟩

theorem hC_head (c p n : Nat) (wh : Bool) (hc : c < 4294967296) : hC (headN c p n wh) = c := by
  unfold hC headN hd26 hd22
  simp only [List.append_assoc]
  rw [List.drop_left' (by rfl)]
  exact psum_put4 c hc _
theorem hP_head (c p n : Nat) (wh : Bool) (hp : p < 4294967296) : hP (headN c p n wh) = p := by
  unfold hP headN hd26 hd22
  simp only [List.append_assoc]
  rw [show (10 : Nat) = 6 + 4 by rfl, ← cut3, List.drop_left' (by rfl), List.drop_left' (putN_length _ _ _)]
  exact psum_put4 p hp _
theorem hN_head (c p n : Nat) (wh : Bool) (hn : n < 18446744073709551616) : hN (headN c p n wh) = n := by
  unfold hN headN hd26 hd22
  simp only [List.append_assoc]
  rw [show (14 : Nat) = 6 + 4 + 4 by rfl, ← cut3, ← cut3, List.drop_left' (by rfl), List.drop_left' (putN_length _ _ _), List.drop_left' (putN_length _ _ _)]
  exact psum_put8 n hn _

theorem isHead_app (c p n : Nat) (hc : c ≤ 4000) (hp : p ≤ 4000) (hn : n < 18446744073709551616) (r : List Nat) : isHead (headN c p n true ++ r) = true ∧ hC (headN c p n true ++ r) = c ∧ hP (headN c p n true ++ r) = p ∧ hN (headN c p n true ++ r) = n := by
  have e : (headN c p n true ++ r).take 128 = headN c p n true := List.take_left' (headN_length _ _ _ _)
  have h1 : hC (headN c p n true ++ r) = c := by rw [← hC_take, e]; exact hC_head _ _ _ _ (by omega)
  have h2 : hP (headN c p n true ++ r) = p := by rw [← hP_take, e]; exact hP_head _ _ _ _ (by omega)
  have h3 : hN (headN c p n true ++ r) = n := by rw [← hN_take, e]; exact hN_head _ _ _ _ hn
  refine ⟨?_, h1, h2, h3⟩
  unfold isHead
  rw [h1, h2, h3, e]
  simp [hc, hp]

theorem hot_head (c p n : Nat) (hc : c ≤ 4000) (hp : p ≤ 4000) (hn : n < 18446744073709551616) (r : List Nat) : hotN (headN c p n true ++ r) = true := by
  unfold hotN
  rw [(isHead_app c p n hc hp hn r).1]
  simp [headN_length]

theorem head_last (c p n : Nat) (wh : Bool) : (headN c p n wh).getD 127 0 = if wh then 165 else 0 := by
  unfold headN
  simp [List.getD, hd26_length]

theorem not_hot (xs : List Nat) (h : xs.getD 127 0 = 0) : hotN xs = false := by
  rw [Bool.eq_false_iff]
  intro hh
  unfold hotN isHead at hh
  simp only [Bool.and_eq_true, decide_eq_true_eq] at hh
  have h2 := congrArg (fun l : List Nat => l.getD 127 0) hh.2.1.1
  simp only [head_last, if_true] at h2
  simp [List.getD] at h2 h
  omega

end Go.Proofs.YtndlogjmnbgegaaDoor
