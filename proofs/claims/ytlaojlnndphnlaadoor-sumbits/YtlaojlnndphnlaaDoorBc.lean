/- What sum.Add returns; no statement of the seat is proved here. -/
import Derived.Test.YtlaojlnndphnlaaDoorBb
namespace Go.Proofs.YtlaojlnndphnlaaDoor
open Go.RowKit

theorem not_u32 (s : Nat) (h : s < 4294967296) : bits .xor .u32 IntKind.u32.max (s : Int) = ((s ^^^ 4294967295 : Nat) : Int) := by
  rw [show IntKind.u32.max = ((4294967295 : Nat) : Int) from rfl, u32_xor_nat 4294967295 s (by decide) h, Nat.xor_comm]

theorem drop_step (xs : List Nat) (i : Nat) (h : i < xs.length) : xs.drop i = xs.getD i 0 :: xs.drop (i + 1) := by
  rw [List.drop_eq_getElem_cons h]
  simp [List.getD, List.getElem?_eq_getElem h]

theorem get_lt {xs : List Nat} (hx : ∀ x ∈ xs, x < 256) {i : Nat} (h : i < xs.length) : xs.getD i 0 < 256 := by
  rw [List.getD_eq_getElem?_getD, List.getElem?_eq_getElem h]
  exact hx _ (List.getElem_mem h)

theorem and_15 (a : Nat) (h : a < 4294967296) : bits .and .u32 (a : Int) 15 = ((a % 16 : Nat) : Int) := by
  rw [show (15 : Int) = ((15 : Nat) : Int) from rfl, u32_and_nat a 15 h (by decide), nat_mask4]

/-- Four steps, as the walk reckons them. -/
theorem four_ex (R : Nat) (h : R < 4294967296) (w : World) (hT : Tab w) : ∃ (k : Nat) (t q : Int), k < 16 ∧ bits .and .u32 (R : Int) 15 = (k : Int) ∧ w.cell? ⟨0, k, none⟩ = some (.int .u32 t) ∧ (R : Int) / 16 = q ∧ bits .xor .u32 q t = ((txn 4 R : Nat) : Int) := by
  refine ⟨R % 16, ((txn 4 (R % 16) : Nat) : Int), ((R / 16 : Nat) : Int), by omega, and_15 R h, hT _ (by omega), by omega, ?_⟩
  rw [u32_xor_nat _ _ (by omega) (txn_lt 4 (by omega)), ← txn_four]

theorem byte_two (r c : Nat) : byte r c = txn 4 (txn 4 (r ^^^ c)) := by unfold byte; rw [← txn_add]

set_option maxHeartbeats 400000 in
theorem add_any (s : Nat) (ao : Option Addr) (n cap : Nat) (xs : List Nat) (w : World) (hs : s < 4294967296) (h : Rd w ao n cap xs) (hx : ∀ x ∈ xs, x < 256) (hn : n ≤ 9223372036854775807) (hT : Tab w) :
    Calls Tryd.prog 9 #[.int .u32 (s : Int), .slice ao n cap] w fun e w' => e = .returned (.int .u32 ((addN s xs : Nat) : Int)) ∧ w' = w := by
  have hT' := hid hT
  have hr := hid h
  have hx' := hid hx
  have sg : IntKind.u32.signed = false := rfl
  have e1 := not_u32 s hs
  have hS := xor_lt hs (show 4294967295 < 4294967296 by decide)
  obtain ⟨S, hSe⟩ : ∃ S, S = s ^^^ 4294967295 := ⟨_, rfl⟩
  have hA : addN s xs = fold S xs ^^^ 4294967295 := by rw [hSe]; rfl
  rw [hA]
  rw [← hSe] at e1 hS
  clear hT h hx hSe hA
  go_enter Tryd.func9, Tryd.ntmps9
  go_wp2
  go_loopw [5, 12] (fun r c W => ∃ (i R : Nat), i ≤ n ∧ c = .int .i64 (i : Int) ∧ r = .int .u32 (R : Int) ∧ R < 4294967296 ∧ fold R (xs.drop i) = fold S xs ∧ W = w) (fun _ c _ => n - (intOf c).toNat)
  case atStart => exact ⟨0, S, by omega, rfl, rfl, hS, by simp, rfl⟩
  case round =>
    obtain ⟨i, R, hi, rfl, rfl, hR, he, rfl⟩ := hrel
    have he' := hid he
    clear he e1
    by_cases hin : i < n
    · obtain ⟨b, off, rfl, hc⟩ := hr.out.2.2.2 (by omega)
      have hci := hc i hin
      have hl := hr.out.1
      have hc8 := get_lt hx'.out (i := i) (by omega)
      have hd := hid (drop_step xs i (by omega))
      generalize xs.getD i 0 = c at *
      have hx1 := xor_nat R c c rfl hR (by omega)
      have hR1 := xor_lt hR (show c < 4294967296 by omega)
      have hby := hid (byte_two R c)
      generalize R ^^^ c = R1 at *
      obtain ⟨k1, t1, q1, hk1, ha1, hl1, hq1, hx2⟩ := four_ex R1 hR1 wr hT'.out
      have hR2 := txn_lt 4 hR1
      generalize txn 4 R1 = R2 at *
      obtain ⟨k2, t2, q2, hk2, ha2, hl2, hq2, hx3⟩ := four_ex R2 hR2 wr hT'.out
      have hR3 := txn_lt 4 hR2
      generalize txn 4 R2 = R3 at *
      clear hc
      go_wp2
      refine ⟨⟨i + 1, R3, by omega, by go_num, rfl, hR3, ?_, trivial⟩, by simp [intOf]; omega⟩
      rw [← he'.out, hd.out, fold_cons, hby.out]
    · obtain rfl : i = n := by omega
      have e2 := not_u32 R hR
      go_wp2
      go_ret
      have := he'.out
      rw [List.drop_eq_nil_of_le (by have := hr.out.1; omega)] at this
      rw [← this]
      exact ⟨rfl, rfl⟩

end Go.Proofs.YtlaojlnndphnlaaDoor
