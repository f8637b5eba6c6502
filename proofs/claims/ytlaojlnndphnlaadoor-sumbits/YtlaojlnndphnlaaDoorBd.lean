/- What the document's own Add returns; no statement of the seat is proved here. -/
import Derived.Test.YtlaojlnndphnlaaDoorBc
namespace Go.Proofs.YtlaojlnndphnlaaDoor
open Go.RowKit

theorem bit_step (R q : Nat) : tx (R ^^^ q) = (if (R ^^^ q) % 2 = 1 then R / 2 ^^^ 2197175160 else R / 2) ^^^ q / 2 := by
  unfold tx
  rw [Nat.xor_div_two]
  rcases Nat.mod_two_eq_zero_or_one (R ^^^ q) with h | h
  · rw [if_pos h, if_neg (by omega)]
  · rw [if_neg (by omega), if_pos h, Nat.xor_assoc, Nat.xor_comm (q / 2), ← Nat.xor_assoc]

set_option maxHeartbeats 1000000 in
theorem radd_any (s : Nat) (ao : Option Addr) (n cap : Nat) (xs : List Nat) (w : World) (hs : s < 4294967296) (h : Rd w ao n cap xs) (hx : ∀ x ∈ xs, x < 256) (hn : n ≤ 9223372036854775807) :
    Calls Tryd.prog 10 #[.int .u32 (s : Int), .slice ao n cap] w fun e w' => e = .returned (.int .u32 ((addN s xs : Nat) : Int)) ∧ w' = w := by
  have hr := hid h
  have hx' := hid hx
  have sg : IntKind.u32.signed = false := rfl
  have e1 := not_u32 s hs
  have hS := xor_lt hs (show 4294967295 < 4294967296 by decide)
  obtain ⟨S, hSe⟩ : ∃ S, S = s ^^^ 4294967295 := ⟨_, rfl⟩
  have hA : addN s xs = fold S xs ^^^ 4294967295 := by rw [hSe]; rfl
  rw [hA]
  rw [← hSe] at e1 hS
  clear h hx hSe hA
  go_enter Tryd.func10, Tryd.ntmps10
  go_wp2
  go_loopw [5, 14] (fun r c W => ∃ (i R : Nat), i ≤ n ∧ c = .int .i64 (i : Int) ∧ r = .int .u32 (R : Int) ∧ R < 4294967296 ∧ fold R (xs.drop i) = fold S xs ∧ W = w) (fun _ c _ => n - (intOf c).toNat)
  case atStart => exact ⟨0, S, by omega, rfl, rfl, hS, by simp, rfl⟩
  case round =>
    obtain ⟨i, R, hi, rfl, rfl, hR, he, rfl⟩ := hrel
    have he' := hid he
    clear he e1
    by_cases hin : i < n
    · obtain ⟨b, off, rfl, hc⟩ := hr.out.2.2.2 (by omega)
      have hci := hc i hin
      have hl := hr.out.1
      have hc8 := get_lt hx'.out (i := i) (by omega)
      have hd := hid (drop_step xs i (by omega))
      generalize xs.getD i 0 = c at *
      have hby := hid (show byte R c = txn 8 (R ^^^ c) from rfl)
      clear hc
      go_wp2
      go_loopw [5, 8] (fun r j W => ∃ (k Q : Nat), k ≤ 8 ∧ j = .int .i64 (k : Int) ∧ r = .int .u32 (Q : Int) ∧ Q < 4294967296 ∧ txn (8 - k) (Q ^^^ c / 2 ^ k) = byte R c ∧ W = wr) (fun _ j _ => 8 - (intOf j).toNat)
      case atStart => exact ⟨0, R, by omega, rfl, rfl, hR, by simp [hby.out], rfl⟩
      case round =>
        obtain ⟨k, Q, hk, rfl, rfl, hQ, heq, rfl⟩ := hrel
        have heq' := hid heq
        clear heq
        by_cases hk8 : k < 8
        · obtain ⟨q, hq⟩ : ∃ q, q = c / 2 ^ k := ⟨_, rfl⟩
          have hsh : (c : Int) / 2 ^ k = (q : Int) := by rw [hq]; simp
          have hq8 : q < 4294967296 := by rw [hq]; exact Nat.lt_of_le_of_lt (Nat.div_le_self _ _) (by omega)
          have hq2 : c / 2 ^ (k + 1) = q / 2 := by rw [hq, Nat.div_div_eq_div_mul, ← Nat.pow_succ]
          have hst := hid (bit_step Q q)
          have hy := hid (show txn (8 - k) (Q ^^^ q) = txn (8 - (k + 1)) (tx (Q ^^^ q)) by rw [show 8 - k = (8 - (k + 1)) + 1 by omega]; rfl)
          rw [← hq] at heq'
          have hq2' := hid hq2
          clear hq hq2
          have hxy := xor_nat Q q q rfl hQ hq8
          have hylt := xor_lt hQ hq8
          have hP := xor_nat (Q / 2) 2197175160 2197175160 rfl (by omega) (by decide)
          rw [show ((Q / 2 : Nat) : Int) = (Q : Int) / 2 by omega] at hP
          have hPlt := xor_lt (show Q / 2 < 4294967296 by omega) (show 2197175160 < 4294967296 by decide)
          generalize Q ^^^ q = y at *
          have hand := and_one y hylt
          rcases Nat.mod_two_eq_zero_or_one y with h0 | h0
          · rw [h0] at hand
            rw [if_neg (by omega)] at hst
            have h0' := hid h0
            clear h0
            go_wp2
            refine ⟨⟨k + 1, Q / 2, by omega, by go_num, by congr 1, by omega, ?_, trivial⟩, by simp [intOf]; omega⟩
            rw [← heq'.out, hy.out, hst.out, hq2'.out]
          · rw [h0] at hand
            rw [if_pos h0] at hst
            have h0' := hid h0
            clear h0
            generalize Q / 2 ^^^ 2197175160 = Z at *
            go_wp2
            refine ⟨⟨k + 1, Z, by omega, by go_num, rfl, hPlt, ?_, trivial⟩, by simp [intOf]; omega⟩
            rw [← heq'.out, hy.out, hst.out, hq2'.out]
        · obtain rfl : k = 8 := by omega
          go_wp2
          refine ⟨⟨i + 1, Q, by omega, by go_num, rfl, hQ, ?_, trivial⟩, by simp [intOf]; omega⟩
          have hz := heq'.out
          rw [show c / 2 ^ 8 = 0 from Nat.div_eq_of_lt hc8, Nat.xor_zero] at hz
          rw [← he'.out, hd.out, fold_cons, ← hz]
          rfl
    · obtain rfl : i = n := by omega
      have e2 := not_u32 R hR
      go_wp2
      go_ret
      have := he'.out
      rw [List.drop_eq_nil_of_le (by have := hr.out.1; omega)] at this
      rw [← this]
      exact ⟨rfl, rfl⟩

end Go.Proofs.YtlaojlnndphnlaaDoor
