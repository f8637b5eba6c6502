/- What sum.Add, sum.Of and the document's own return; no statement of the seat is proved here. -/
import Derived.Test.YtndlogjmnbgegaaDoorAa
import Derived.WalkMore
import Derived.Laws.BitsAllLaws
import Derived.Deep.LoopGhost
namespace Go.Proofs.YtndlogjmnbgegaaDoor
open Go.RowKit

theorem and_one (a : Nat) (h : a < 4294967296) : bits .and .u32 (a : Int) 1 = ((a % 2 : Nat) : Int) := by
  rw [show (1 : Int) = ((1 : Nat) : Int) from rfl, u32_and_nat a 1 h (by decide), nat_mask1]

theorem xor_nat (a b : Nat) (z : Int) (hz : z = (b : Int)) (ha : a < 4294967296) (hb : b < 4294967296) : bits .xor .u32 (a : Int) z = ((a ^^^ b : Nat) : Int) := by
  subst hz
  exact u32_xor_nat a b ha hb

theorem not_u32 (s : Nat) (h : s < 4294967296) : bits .xor .u32 IntKind.u32.max (s : Int) = ((s ^^^ 4294967295 : Nat) : Int) := by
  rw [show IntKind.u32.max = ((4294967295 : Nat) : Int) from rfl, u32_xor_nat 4294967295 s (by decide) h, Nat.xor_comm]

theorem drop_step (xs : List Nat) (i : Nat) (h : i < xs.length) : xs.drop i = xs.getD i 0 :: xs.drop (i + 1) := by
  rw [List.drop_eq_getElem_cons h]
  simp [List.getD, List.getElem?_eq_getElem h]

theorem get_lt {xs : List Nat} (hx : ∀ x ∈ xs, x < 256) {i : Nat} (h : i < xs.length) : xs.getD i 0 < 256 := by
  rw [List.getD_eq_getElem?_getD, List.getElem?_eq_getElem h]
  exact hx _ (List.getElem_mem h)

theorem and_15 (a : Nat) (h : a < 4294967296) : bits .and .u32 (a : Int) 15 = ((a % 16 : Nat) : Int) := by
  rw [show (15 : Int) = ((15 : Nat) : Int) from rfl, u32_and_nat a 15 h (by decide), nat_mask4]

/-- Four steps, as the walk reckons them. -/
theorem four_ex (R : Nat) (h : R < 4294967296) (w : World) (hT : Tab w) : ∃ (k : Nat) (t q : Int), k < 16 ∧ bits .and .u32 (R : Int) 15 = (k : Int) ∧ w.cell? ⟨0, k, none⟩ = some (.int .u32 t) ∧ (R : Int) / 16 = q ∧ bits .xor .u32 q t = ((txn 4 R : Nat) : Int) := by
  refine ⟨R % 16, ((txn 4 (R % 16) : Nat) : Int), ((R / 16 : Nat) : Int), by omega, and_15 R h, hT _ (by omega), by omega, ?_⟩
  rw [u32_xor_nat _ _ (by omega) (txn_lt 4 (by omega)), ← txn_four]

theorem byte_two (r c : Nat) : byte r c = txn 4 (txn 4 (r ^^^ c)) := by unfold byte; rw [← txn_add]

set_option maxHeartbeats 400000 in
theorem add_any (s : Nat) (ao : Option Addr) (n cap : Nat) (xs : List Nat) (w : World) (hs : s < 4294967296) (h : Rd w ao n cap xs) (hx : ∀ x ∈ xs, x < 256) (hn : n ≤ 9223372036854775807) (hT : Tab w) :
    Calls Tryd.prog 47 #[.int .u32 (s : Int), .slice ao n cap] w fun e w' => e = .returned (.int .u32 ((addN s xs : Nat) : Int)) ∧ w' = w := by
  have hT' := hid hT
  have hr := hid h
  have hx' := hid hx
  have sg : IntKind.u32.signed = false := rfl
  have e1 := not_u32 s hs
  have hS := xor_lt hs (show 4294967295 < 4294967296 by decide)
  obtain ⟨S, hSe⟩ : ∃ S, S = s ^^^ 4294967295 := ⟨_, rfl⟩
  have hA : addN s xs = fold S xs ^^^ 4294967295 := by rw [hSe]; rfl
  rw [hA]
  rw [← hSe] at e1 hS
  clear hT h hx hSe hA
  go_enter Tryd.func47, Tryd.ntmps47
  go_wp2
  go_loopw [5, 12] (fun r c W => ∃ (i R : Nat), i ≤ n ∧ c = .int .i64 (i : Int) ∧ r = .int .u32 (R : Int) ∧ R < 4294967296 ∧ fold R (xs.drop i) = fold S xs ∧ W = w) (fun _ c _ => n - (intOf c).toNat)
  case atStart => exact ⟨0, S, by omega, rfl, rfl, hS, by simp, rfl⟩
  case round =>
    obtain ⟨i, R, hi, rfl, rfl, hR, he, rfl⟩ := hrel
    have he' := hid he
    clear he e1
    by_cases hin : i < n
    · obtain ⟨b, off, rfl, hc⟩ := hr.out.2.2.2 (by omega)
      have hci := hc i hin
      have hl := hr.out.1
      have hc8 := get_lt hx'.out (i := i) (by omega)
      have hd := hid (drop_step xs i (by omega))
      generalize xs.getD i 0 = c at *
      have hx1 := xor_nat R c c rfl hR (by omega)
      have hR1 := xor_lt hR (show c < 4294967296 by omega)
      have hby := hid (byte_two R c)
      generalize R ^^^ c = R1 at *
      obtain ⟨k1, t1, q1, hk1, ha1, hl1, hq1, hx2⟩ := four_ex R1 hR1 wr hT'.out
      have hR2 := txn_lt 4 hR1
      generalize txn 4 R1 = R2 at *
      obtain ⟨k2, t2, q2, hk2, ha2, hl2, hq2, hx3⟩ := four_ex R2 hR2 wr hT'.out
      have hR3 := txn_lt 4 hR2
      generalize txn 4 R2 = R3 at *
      clear hc
      go_wp2
      refine ⟨⟨i + 1, R3, by omega, by go_num, rfl, hR3, ?_, trivial⟩, by simp [intOf]; omega⟩
      rw [← he'.out, hd.out, fold_cons, hby.out]
    · obtain rfl : i = n := by omega
      have e2 := not_u32 R hR
      go_wp2
      go_ret
      have := he'.out
      rw [List.drop_eq_nil_of_le (by have := hr.out.1; omega)] at this
      rw [← this]
      exact ⟨rfl, rfl⟩

theorem bit_step (R q : Nat) : tx (R ^^^ q) = (if (R ^^^ q) % 2 = 1 then R / 2 ^^^ 2197175160 else R / 2) ^^^ q / 2 := by
  unfold tx
  rw [Nat.xor_div_two]
  rcases Nat.mod_two_eq_zero_or_one (R ^^^ q) with h | h
  · rw [if_pos h, if_neg (by omega)]
  · rw [if_neg (by omega), if_pos h, Nat.xor_assoc, Nat.xor_comm (q / 2), ← Nat.xor_assoc]

set_option maxHeartbeats 1000000 in
theorem radd_any (s : Nat) (ao : Option Addr) (n cap : Nat) (xs : List Nat) (w : World) (hs : s < 4294967296) (h : Rd w ao n cap xs) (hx : ∀ x ∈ xs, x < 256) (hn : n ≤ 9223372036854775807) :
    Calls Tryd.prog 55 #[.int .u32 (s : Int), .slice ao n cap] w fun e w' => e = .returned (.int .u32 ((addN s xs : Nat) : Int)) ∧ w' = w := by
  have hr := hid h
  have hx' := hid hx
  have sg : IntKind.u32.signed = false := rfl
  have e1 := not_u32 s hs
  have hS := xor_lt hs (show 4294967295 < 4294967296 by decide)
  obtain ⟨S, hSe⟩ : ∃ S, S = s ^^^ 4294967295 := ⟨_, rfl⟩
  have hA : addN s xs = fold S xs ^^^ 4294967295 := by rw [hSe]; rfl
  rw [hA]
  rw [← hSe] at e1 hS
  clear h hx hSe hA
  go_enter Tryd.func55, Tryd.ntmps55
  go_wp2
  go_loopw [5, 14] (fun r c W => ∃ (i R : Nat), i ≤ n ∧ c = .int .i64 (i : Int) ∧ r = .int .u32 (R : Int) ∧ R < 4294967296 ∧ fold R (xs.drop i) = fold S xs ∧ W = w) (fun _ c _ => n - (intOf c).toNat)
  case atStart => exact ⟨0, S, by omega, rfl, rfl, hS, by simp, rfl⟩
  case round =>
    obtain ⟨i, R, hi, rfl, rfl, hR, he, rfl⟩ := hrel
    have he' := hid he
    clear he e1
    by_cases hin : i < n
    · obtain ⟨b, off, rfl, hc⟩ := hr.out.2.2.2 (by omega)
      have hci := hc i hin
      have hl := hr.out.1
      have hc8 := get_lt hx'.out (i := i) (by omega)
      have hd := hid (drop_step xs i (by omega))
      generalize xs.getD i 0 = c at *
      have hby := hid (show byte R c = txn 8 (R ^^^ c) from rfl)
      clear hc
      go_wp2
      go_loopw [5, 8] (fun r j W => ∃ (k Q : Nat), k ≤ 8 ∧ j = .int .i64 (k : Int) ∧ r = .int .u32 (Q : Int) ∧ Q < 4294967296 ∧ txn (8 - k) (Q ^^^ c / 2 ^ k) = byte R c ∧ W = wr) (fun _ j _ => 8 - (intOf j).toNat)
      case atStart => exact ⟨0, R, by omega, rfl, rfl, hR, by simp [hby.out], rfl⟩
      case round =>
        obtain ⟨k, Q, hk, rfl, rfl, hQ, heq, rfl⟩ := hrel
        have heq' := hid heq
        clear heq
        by_cases hk8 : k < 8
        · obtain ⟨q, hq⟩ : ∃ q, q = c / 2 ^ k := ⟨_, rfl⟩
          have hsh : (c : Int) / 2 ^ k = (q : Int) := by rw [hq]; simp
          have hq8 : q < 4294967296 := by rw [hq]; exact Nat.lt_of_le_of_lt (Nat.div_le_self _ _) (by omega)
          have hq2 : c / 2 ^ (k + 1) = q / 2 := by rw [hq, Nat.div_div_eq_div_mul, ← Nat.pow_succ]
          have hst := hid (bit_step Q q)
          have hy := hid (show txn (8 - k) (Q ^^^ q) = txn (8 - (k + 1)) (tx (Q ^^^ q)) by rw [show 8 - k = (8 - (k + 1)) + 1 by omega]; rfl)
          rw [← hq] at heq'
          have hq2' := hid hq2
          clear hq hq2
          have hxy := xor_nat Q q q rfl hQ hq8
          have hylt := xor_lt hQ hq8
          have hP := xor_nat (Q / 2) 2197175160 2197175160 rfl (by omega) (by decide)
          rw [show ((Q / 2 : Nat) : Int) = (Q : Int) / 2 by omega] at hP
          have hPlt := xor_lt (show Q / 2 < 4294967296 by omega) (show 2197175160 < 4294967296 by decide)
          generalize Q ^^^ q = y at *
          have hand := and_one y hylt
          rcases Nat.mod_two_eq_zero_or_one y with h0 | h0
          · rw [h0] at hand
            rw [if_neg (by omega)] at hst
            have h0' := hid h0
            clear h0
            go_wp2
            refine ⟨⟨k + 1, Q / 2, by omega, by go_num, by congr 1, by omega, ?_, trivial⟩, by simp [intOf]; omega⟩
            rw [← heq'.out, hy.out, hst.out, hq2'.out]
          · rw [h0] at hand
            rw [if_pos h0] at hst
            have h0' := hid h0
            clear h0
            generalize Q / 2 ^^^ 2197175160 = Z at *
            go_wp2
            refine ⟨⟨k + 1, Z, by omega, by go_num, rfl, hPlt, ?_, trivial⟩, by simp [intOf]; omega⟩
            rw [← heq'.out, hy.out, hst.out, hq2'.out]
        · obtain rfl : k = 8 := by omega
          go_wp2
          refine ⟨⟨i + 1, Q, by omega, by go_num, rfl, hQ, ?_, trivial⟩, by simp [intOf]; omega⟩
          have hz := heq'.out
          rw [show c / 2 ^ 8 = 0 from Nat.div_eq_of_lt hc8, Nat.xor_zero] at hz
          rw [← he'.out, hd.out, fold_cons, ← hz]
          rfl
    · obtain rfl : i = n := by omega
      have e2 := not_u32 R hR
      go_wp2
      go_ret
      have := he'.out
      rw [List.drop_eq_nil_of_le (by have := hr.out.1; omega)] at this
      rw [← this]
      exact ⟨rfl, rfl⟩

set_option maxHeartbeats 400000 in
theorem of_any (ao : Option Addr) (n cap : Nat) (xs : List Nat) (w : World) (h : Rd w ao n cap xs) (hx : ∀ x ∈ xs, x < 256) (hn : n ≤ 9223372036854775807) (hT : Tab w) :
    Calls Tryd.prog 37 #[.slice ao n cap] w fun e w' => e = .returned (.int .u32 ((addN 0 xs : Nat) : Int)) ∧ w' = w := by
  have c := hid (add_any 0 ao n cap xs w (by decide) h hx hn hT)
  clear h hx hT
  go_enter Tryd.func37, Tryd.ntmps37
  go_wp2_with (go_at_call 47; refine c.out.mono ?_; rintro e w1 ⟨rfl, hw1⟩; obtain rfl := hw1.symm)
  go_ret
  exact ⟨rfl, rfl⟩

set_option maxHeartbeats 400000 in
theorem rof_any (ao : Option Addr) (n cap : Nat) (xs : List Nat) (w : World) (h : Rd w ao n cap xs) (hx : ∀ x ∈ xs, x < 256) (hn : n ≤ 9223372036854775807) :
    Calls Tryd.prog 48 #[.slice ao n cap] w fun e w' => e = .returned (.int .u32 ((addN 0 xs : Nat) : Int)) ∧ w' = w := by
  have c := hid (radd_any 0 ao n cap xs w (by decide) h hx hn)
  clear h hx
  go_enter Tryd.func48, Tryd.ntmps48
  go_wp2_with (go_at_call 55; refine c.out.mono ?_; rintro e w1 ⟨rfl, hw1⟩; obtain rfl := hw1.symm)
  go_ret
  exact ⟨rfl, rfl⟩

end Go.Proofs.YtndlogjmnbgegaaDoor
