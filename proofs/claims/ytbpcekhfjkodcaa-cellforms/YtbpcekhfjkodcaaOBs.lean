/- What the document's own function Var returns; no statement of the seat is proved here. -/
import Derived.Test.YtbpcekhfjkodcaaOBr
import Derived.Test.YtbpcekhfjkodcaaOBc
namespace Go.Proofs.Ytbpcekhfjkodcaa
open Go.RowKit

set_option maxHeartbeats 2000000 in
set_option maxRecDepth 20000 in
theorem rvar_nine (ao : Option Addr) (n cap : Nat) (xs : List Nat) (v : Nat) (w : World) (h : Rd w ao n cap xs) (hv : v < 18446744073709551616) (hn : n ≤ 70368744177664) (h9 : szN v = 9) :
    Calls Try.prog 69 #[.slice ao n cap, .int .u64 v] w fun e w' => ∃ r, e = .returned r ∧ w'.ownsRow w.heap.size 5 1 r (n + szN v) (bs (xs ++ varN v)) ∧ Below w.heap.size w w' := by
  have h' := hid h
  have cs := hid (rsize_any v hv)
  have hL : lastBits v = 8 := by unfold lastBits; rw [if_pos h9]
  have hT : varN v = hd (v / 2 ^ 8) (szN v - 1) ++ [v % 2 ^ 8] := by unfold varN; rw [hL]
  obtain ⟨A, hA⟩ : ∃ A, A = v / 2 ^ 8 := ⟨_, rfl⟩
  rw [hT, ← hA]
  rw [h9] at cs ⊢
  have hA' := hid hA
  clear hT hL h h9 hA
  go_enter Try.func69, Try.ntmps69
  go_wp2_with (first | (go_at_call 80; refine (cs.out _).mono ?_; rintro e w2 ⟨rfl, hw2⟩; obtain rfl := hw2.symm) | (at_builtin; refine wpList_append_rd rfl (.tmp 9) (.tmp 10) rfl w.heap.size _ 0 [] rfl (World.ownsRow_made w #[] 0 (Nat.le_refl _) (by decide) rfl) ao n cap xs rfl (h'.out.keep (Below.alloc (Below.refl _ _) (Nat.le_refl _) _)) (by omega) (by simp) ?_; intro v1 w1 ho1 hb1))
  go_loopw [5, 7] (fun o c W => ∃ (j : Nat) (ys : List Nat), j ≤ 8 ∧ c = .int .i64 ((j : Int) - 1) ∧ ys ++ hd A j = xs ++ hd A 8 ∧ W.ownsRow w.heap.size 5 1 o (n + (8 - j)) (bs ys) ∧ Below w.heap.size w W) (fun _ c _ => (intOf c + 1).toNat)
  case atStart => exact ⟨8, xs, Nat.le_refl _, by go_num, rfl, by simpa using ho1, (Below.alloc (Below.refl _ _) (Nat.le_refl _) _).trans hb1⟩
  case round =>
    obtain ⟨j, ys, hj, rfl, he, ho, hb⟩ := hrel
    have he' := hid he
    clear he h' ho1 hb1 cs
    cases j with
    | zero =>
      rw [show hd A 0 = [] from rfl, List.append_nil] at he'
      go_wp2_with (at_builtin; refine wpList_append_rd rfl (.tmp 32) (.tmp 35) rfl w.heap.size _ (n + (8 - 0)) ys rfl (ho.alloc _) (some ⟨wr.heap.size, 0, none⟩) 1 1 [v % 2 ^ 8] rfl (rd_one wr (v % 2 ^ 8)) (by omega) (by have := hb.size; simp; omega) ?_; intro v3 w3 ho3 hb3)
      go_ret
      refine ⟨_, rfl, ?_, (Below.alloc hb hb.size _).trans hb3⟩
      rw [← List.append_assoc, ← he'.out]
      exact ho3
    | succ j =>
      have e1 : ((j + 1 : Nat) : Int) - 1 = (j : Int) := by omega
      rw [e1]
      clear e1
      obtain ⟨q, hq⟩ : ∃ q, q = A / 2 ^ (7 * j) := ⟨_, rfl⟩
      have hsh : (v : Int) / 2 ^ (8 + 7 * j) = (q : Int) := by
        rw [hq, hA'.out, Nat.div_div_eq_div_mul, ← Nat.pow_add, show 8 + 7 * j = 8 + 7 * j by omega]; simp
      obtain ⟨p, hp⟩ : ∃ p, p = q % 128 := ⟨_, rfl⟩
      obtain ⟨c, hc⟩ : ∃ c, c = q % 128 + 128 := ⟨_, rfl⟩
      have hqv : q < 18446744073709551616 := by rw [hq, hA'.out]; exact Nat.lt_of_le_of_lt (Nat.div_le_self _ _) (Nat.lt_of_le_of_lt (Nat.div_le_self _ _) hv)
      have hl := and_low q 7 (by decide) hqv
      have hl2 : bits .and .u64 (q : Int) 127 = (p : Int) := by rw [hp]; simpa using hl
      have hp8 : p < 128 := by omega
      have hor := or128 p
      rw [show p % 128 + 128 = c by omega] at hor
      have hor2 := hor
      rw [show (p : Int) % 256 = (p : Int) by omega] at hor2
      have hq' := hid hq
      have hc' := hid hc
      clear hq hc hl hp
      go_wp2_with (at_builtin; refine wpList_append_rd rfl (.tmp 20) (.tmp 30) rfl w.heap.size _ (n + (8 - (j + 1))) ys rfl (ho.alloc _) (some ⟨wr.heap.size, 0, none⟩) 1 1 [c] rfl (rd_one wr c) (by omega) (by have := hb.size; simp; omega) ?_; intro v3 w3 ho3 hb3)
      refine ⟨⟨j, ys ++ [c], by omega, by go_num, ?_, by rw [show n + (8 - j) = n + (8 - (j + 1)) + 1 by omega]; exact ho3, (Below.alloc hb hb.size _).trans hb3⟩, by simp [intOf] <;> omega⟩
      have := hd_step A j ys _ he'.out
      rw [hc'.out, hq'.out]
      exact this

set_option maxHeartbeats 2000000 in
set_option maxRecDepth 20000 in
theorem rvar_less (ao : Option Addr) (n cap : Nat) (xs : List Nat) (v : Nat) (w : World) (h : Rd w ao n cap xs) (hv : v < 18446744073709551616) (hn : n ≤ 70368744177664) (h9 : szN v ≤ 8) :
    Calls Try.prog 69 #[.slice ao n cap, .int .u64 v] w fun e w' => ∃ r, e = .returned r ∧ w'.ownsRow w.heap.size 5 1 r (n + szN v) (bs (xs ++ varN v)) ∧ Below w.heap.size w w' := by
  have h' := hid h
  have cs := hid (rsize_any v hv)
  have hL : lastBits v = 7 := by unfold lastBits; rw [if_neg (by omega)]
  have hT : varN v = hd (v / 2 ^ 7) (szN v - 1) ++ [v % 2 ^ 7] := by unfold varN; rw [hL]
  obtain ⟨A, hA⟩ : ∃ A, A = v / 2 ^ 7 := ⟨_, rfl⟩
  rw [hT, ← hA]
  have hsz := szN_le v
  obtain ⟨K, hK⟩ : ∃ K, K = szN v := ⟨_, rfl⟩
  rw [← hK] at cs h9 hsz ⊢
  obtain ⟨m, hm⟩ : ∃ m, K = m + 1 := ⟨K - 1, by omega⟩
  rw [show K - 1 = m by omega]
  have hm' := hid hm
  have hm8 : m ≤ 7 := by omega
  have hA' := hid hA
  have hk9 : ((K : Int) == 9) = false := by simp; omega
  have hk1 : (1 : Int) ≤ (K : Int) := by omega
  clear hT hL h hA hK hm
  go_enter Try.func69, Try.ntmps69
  go_wp2_with (first | (go_at_call 80; refine (cs.out _).mono ?_; rintro e w2 ⟨rfl, hw2⟩; obtain rfl := hw2.symm) | (at_builtin; refine wpList_append_rd rfl (.tmp 9) (.tmp 10) rfl w.heap.size _ 0 [] rfl (World.ownsRow_made w #[] 0 (Nat.le_refl _) (by decide) rfl) ao n cap xs rfl (h'.out.keep (Below.alloc (Below.refl _ _) (Nat.le_refl _) _)) (by omega) (by simp) ?_; intro v1 w1 ho1 hb1))
  go_loopw [5, 8] (fun o c W => ∃ (j : Nat) (ys : List Nat), j ≤ m ∧ c = .int .i64 (j : Int) ∧ ys ++ hd A j = xs ++ hd A m ∧ W.ownsRow w.heap.size 5 1 o (n + (m - j)) (bs ys) ∧ Below w.heap.size w W) (fun _ c _ => (intOf c + 1).toNat)
  case atStart => exact ⟨m, xs, Nat.le_refl _, by have := hm'.out; subst this; go_num, rfl, by simpa using ho1, (Below.alloc (Below.refl _ _) (Nat.le_refl _) _).trans hb1⟩
  case round =>
    obtain ⟨j, ys, hj, rfl, he, ho, hb⟩ := hrel
    have he' := hid he
    clear he h' ho1 hb1 cs
    cases j with
    | zero =>
      rw [show hd A 0 = [] from rfl, List.append_nil] at he'
      have hl := and_low v 7 (by decide) hv
      simp at hl
      go_wp2_with (at_builtin; refine wpList_append_rd rfl (.tmp 54) (.tmp 58) rfl w.heap.size _ (n + (m - 0)) ys rfl (ho.alloc _) (some ⟨wr.heap.size, 0, none⟩) 1 1 [v % 2 ^ 7] rfl (rd_one wr (v % 2 ^ 7)) (by omega) (by have := hb.size; simp; omega) ?_; intro v3 w3 ho3 hb3)
      go_ret
      obtain rfl := hm'.out
      refine ⟨_, rfl, ?_, (Below.alloc hb hb.size _).trans hb3⟩
      rw [← List.append_assoc, ← he'.out]
      exact ho3
    | succ j =>
      obtain ⟨q, hq⟩ : ∃ q, q = A / 2 ^ (7 * j) := ⟨_, rfl⟩
      have hsh : (v : Int) / 2 ^ (7 * (j + 1)) = (q : Int) := by
        rw [hq, hA'.out, Nat.div_div_eq_div_mul, ← Nat.pow_add, show 7 + 7 * j = 7 * (j + 1) by omega]; simp
      obtain ⟨p, hp⟩ : ∃ p, p = q % 128 := ⟨_, rfl⟩
      obtain ⟨c, hc⟩ : ∃ c, c = q % 128 + 128 := ⟨_, rfl⟩
      have hqv : q < 18446744073709551616 := by rw [hq, hA'.out]; exact Nat.lt_of_le_of_lt (Nat.div_le_self _ _) (Nat.lt_of_le_of_lt (Nat.div_le_self _ _) hv)
      have hl := and_low q 7 (by decide) hqv
      have hl2 : bits .and .u64 (q : Int) 127 = (p : Int) := by rw [hp]; simpa using hl
      have hp8 : p < 128 := by omega
      have hor := or128 p
      rw [show p % 128 + 128 = c by omega] at hor
      have hor2 := hor
      rw [show (p : Int) % 256 = (p : Int) by omega] at hor2
      have hq' := hid hq
      have hc' := hid hc
      clear hq hc hl hp
      go_wp2_with (at_builtin; refine wpList_append_rd rfl (.tmp 43) (.tmp 52) rfl w.heap.size _ (n + (m - (j + 1))) ys rfl (ho.alloc _) (some ⟨wr.heap.size, 0, none⟩) 1 1 [c] rfl (rd_one wr c) (by omega) (by have := hb.size; simp; omega) ?_; intro v3 w3 ho3 hb3)
      refine ⟨⟨j, ys ++ [c], by omega, by go_num, ?_, by rw [show n + (m - j) = n + (m - (j + 1)) + 1 by omega]; exact ho3, (Below.alloc hb hb.size _).trans hb3⟩, by simp [intOf] <;> omega⟩
      have := hd_step A j ys _ he'.out
      rw [hc'.out, hq'.out]
      exact this

theorem rvar_any (ao : Option Addr) (n cap : Nat) (xs : List Nat) (v : Nat) (w : World) (h : Rd w ao n cap xs) (hv : v < 18446744073709551616) (hn : n ≤ 70368744177664) :
    Calls Try.prog 69 #[.slice ao n cap, .int .u64 v] w fun e w' => ∃ r, e = .returned r ∧ w'.ownsRow w.heap.size 5 1 r (n + szN v) (bs (xs ++ varN v)) ∧ Below w.heap.size w w' := by
  by_cases h9 : szN v = 9
  · have := rvar_nine ao n cap xs v w h hv hn h9
    exact this
  · exact rvar_less ao n cap xs v w h hv hn (by have := szN_le v; omega)

end Go.Proofs.Ytbpcekhfjkodcaa
