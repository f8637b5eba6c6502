/- What octet.Var returns, and how a slice of the call's own grows by bytes; no statement of the seat is proved here. -/
import Derived.Test.YtbpcekhfjkodcaaOBd
import Derived.Test.YtbpcekhfjkodcaaOBc
namespace Go.Proofs.Ytbpcekhfjkodcaa
open Go.RowKit

/-- The first k bytes of a Var: seven bits each, the greatest first, 128 more. -/
def hd (a : Nat) : Nat → List Nat
  | 0 => []
  | k + 1 => (a / 2 ^ (7 * k) % 128 + 128) :: hd a k

def lastBits (n : Nat) : Nat := if szN n = 9 then 8 else 7

/-- The bytes of a Var. -/
def varN (n : Nat) : List Nat := hd (n / 2 ^ lastBits n) (szN n - 1) ++ [n % 2 ^ lastBits n]

theorem hd_length (a k : Nat) : (hd a k).length = k := by
  induction k with
  | zero => rfl
  | succ k ih => simp [hd, ih]

theorem varN_length (n : Nat) : (varN n).length = szN n := by
  have := szN_le n
  simp [varN, hd_length]; omega

theorem hd_step (a j : Nat) (ys T : List Nat) (e : ys ++ hd a (j + 1) = T) : (ys ++ [a / 2 ^ (7 * j) % 128 + 128]) ++ hd a j = T := by
  rw [← e]; simp [hd]

theorem rd_one (w : World) (x : Nat) : Rd (w.alloc (.cells #[.int .u8 (x : Int)] 5)) (some ⟨w.heap.size, 0, none⟩) 1 1 [x] := by
  refine ⟨rfl, Nat.le_refl _, fun h => (by cases h), fun _ => ⟨_, _, rfl, fun t ht => ?_⟩⟩
  have : t = 0 := by omega
  subst this
  simp

theorem or128_fin : ∀ c : Fin 256, c.val ||| 128 = c.val % 128 + 128 := by decide +kernel

theorem or128 (q : Nat) : bits .or .u8 ((q : Int) % 256) 128 = ((q % 128 + 128 : Nat) : Int) := by
  have h := (bits_nat .u8 8 (by decide) wraps_u8 (q % 256) 128 (by omega) (by omega)).2
  have h2 := or128_fin ⟨q % 256, by omega⟩
  rw [show ((q : Int) % 256) = ((q % 256 : Nat) : Int) by omega]
  rw [show ((128 : Int)) = ((128 : Nat) : Int) by rfl, h, h2]
  simp only
  omega

theorem and_low (v k : Nat) (hk : k ≤ 63) (hv : v < 18446744073709551616) : bits .and .u64 (v : Int) ((2 ^ k - 1 : Nat) : Int) = ((v % 2 ^ k : Nat) : Int) := by
  have hp : 2 ^ k ≤ 2 ^ 63 := Nat.pow_le_pow_right (by decide) hk
  rw [bits_and_u64_nat v (2 ^ k - 1) hv (by omega), Nat.and_two_pow_sub_one_eq_mod]

set_option maxHeartbeats 1000000 in
theorem var_any (ao : Option Addr) (n cap : Nat) (xs : List Nat) (v : Nat) (w : World) (h : Rd w ao n cap xs) (hv : v < 18446744073709551616) (hn : n ≤ 140737488355328) :
    Calls Try.prog 83 #[.slice ao n cap, .int .u64 v] w fun e w' => e = .returned (.slice (some ⟨w.heap.size, 0, none⟩) (n + szN v) (n + szN v)) ∧
      w'.ownsRow w.heap.size 5 1 (.slice (some ⟨w.heap.size, 0, none⟩) (n + szN v) (n + szN v)) (n + szN v) (bs (xs ++ varN v)) ∧ Below w.heap.size w w' := by
  obtain ⟨L, hL⟩ : ∃ L, L = lastBits v := ⟨_, rfl⟩
  have hT : varN v = hd (v / 2 ^ L) (szN v - 1) ++ [v % 2 ^ L] := by rw [hL]; rfl
  have cs := hid (size_any v hv)
  have hsz := szN_le v
  have cw := hid (widened_any ao n cap (szN v) xs w h (by omega))
  have hA : Hid (v / 2 ^ L < 18446744073709551616) := hid (Nat.lt_of_le_of_lt (Nat.div_le_self _ _) hv)
  have e9 : (szN v = 9 ∧ L = 8) ∨ (szN v ≤ 8 ∧ L = 7) := by rw [hL]; unfold lastBits; split <;> omega
  obtain ⟨A, hAe⟩ : ∃ A, A = v / 2 ^ L := ⟨_, rfl⟩
  rw [← hAe] at hT
  obtain ⟨K, hK⟩ : ∃ K, K = szN v := ⟨_, rfl⟩
  rw [hT]
  rw [← hK] at cs cw e9 hsz ⊢
  obtain ⟨m, hm⟩ : ∃ m, K = m + 1 := ⟨K - 1, by omega⟩
  have hm' := hid hm
  rw [show K - 1 = m by omega]
  have hAe' := hid hAe
  have hm8 : m ≤ 8 := by omega
  clear hL hT hAe hA hK hsz hm
  obtain ⟨i5, hi5, hz0, hz1, hz2⟩ := info_parts Try.info5
  rcases e9 with ⟨e9, rfl⟩ | ⟨e9, rfl⟩
  · have h9 : ((K : Int) == 9) = true := by simp; omega
    have hlo : 1 ≤ K ∧ K ≤ 9 := by omega
    have e9' := hid e9
    clear e9
    have hl := and_low v 8 (by decide) hv
    simp at hl
    have hA : (v : Int) / 256 = (A : Int) := by have := hAe'.out; simp at this; omega
    go_enter Try.func83, Try.ntmps83
    go_wp2_with (first | (go_at_call 68; refine (cs.out _).mono ?_; rintro e w1 ⟨rfl, h1⟩; obtain rfl := h1.symm) | (go_at_call 70; refine cw.out.mono ?_; rintro e w2 ⟨rfl, ho1, hb1⟩))
    go_loopw [7, 9] (fun o c W => ∃ (j : Nat) (ys : List Nat), j ≤ m ∧ c = .int .i64 ((j : Int) - 1) ∧ o = .slice (some ⟨w.heap.size, 0, none⟩) (n + (m - j)) (n + K) ∧ ys ++ hd A j = xs ++ hd A m ∧
        W.ownsRow w.heap.size 5 1 (.slice (some ⟨w.heap.size, 0, none⟩) (n + (m - j)) (n + K)) (n + (m - j)) (bs ys) ∧ Below w.heap.size w W) (fun _ c _ => (intOf c + 1).toNat)
    case atStart => exact ⟨m, xs, Nat.le_refl _, by have := hm'.out; subst this; go_num, by simp, rfl, by simpa using ho1, hb1⟩
    case round =>
      obtain ⟨j, ys, hj, rfl, rfl, he, ho, hb⟩ := hrel
      have he' := hid he
      clear he h cw ho1 hb1 cs
      cases j with
      | zero =>
        simp only [hd, List.append_nil] at he'
        have hown := hid ho
        go_wp2_with (at_builtin; refine wpList_append_fits _ rfl (.tmp 35) (.tmp 42) 25 rfl w.heap.size 5 i5 1 Try.underlying25 hi5 hz1 w.heap.size (n + (m - 0)) (n + K) (bs ys) rfl (hown.out.alloc _) ⟨wr.heap.size, 0, none⟩ 1 1 (bs [v % 2 ^ 8]) rfl rfl (one_cell wr (v % 2 ^ 8)) (bs_one _) (by have := hm'.out; omega) ?_; intro w3 ho3 hg3)
        go_ret
        obtain rfl := hm'.out
        refine ⟨rfl, ?_, ?_⟩
        · rw [← List.append_assoc, bs_append, ← he'.out, ← Nat.add_assoc]; exact ho3
        · exact (Below.alloc hb hb.size _).grown hg3 (by have := hb.size; simp; omega) (fun j hj => by cases hj; exact Nat.le_refl _)
      | succ j =>
        have e1 : ((j + 1 : Nat) : Int) - 1 = (j : Int) := by omega
        rw [e1]
        obtain ⟨q, hq⟩ : ∃ q, q = A / 2 ^ (7 * j) := ⟨_, rfl⟩
        have hsh : (A : Int) / 2 ^ (7 * j) = (q : Int) := by rw [hq]; simp
        obtain ⟨c, hc⟩ : ∃ c, c = q % 128 + 128 := ⟨_, rfl⟩
        have hor := or128 q
        rw [← hc] at hor
        have hq' := hid hq
        have hc' := hid hc
        clear hq e1 hc
        go_wp2_with (at_builtin; refine wpList_append_fits _ rfl (.tmp 26) (.tmp 33) 25 rfl w.heap.size 5 i5 1 Try.underlying25 hi5 hz1 w.heap.size (n + (m - (j + 1))) (n + K) (bs ys) rfl (ho.alloc _) ⟨wr.heap.size, 0, none⟩ 1 1 (bs [c]) rfl rfl (one_cell wr c) (bs_one _) (by have := hm'.out; omega) ?_; intro w3 ho3 hg3)
        refine ⟨⟨j, ys ++ [c], by omega, by go_num, by rw [show n + (m - (j + 1)) + 1 = n + (m - j) by omega], ?_, ?_, ?_⟩, by simp [intOf] <;> omega⟩
        · have := hd_step A j ys _ he'.out
          rw [hc'.out, hq'.out]
          exact this
        · rw [bs_append, show n + (m - j) = n + (m - (j + 1)) + 1 by omega]; exact ho3
        · exact (Below.alloc hb hb.size _).grown hg3 (by have := hb.size; simp; omega) (fun j hj => by cases hj; exact Nat.le_refl _)
  · have h9 : ((K : Int) == 9) = false := by simp; omega
    have hlo : 1 ≤ K ∧ K ≤ 8 := by have := hm'.out; omega
    have e9' := hid e9
    clear e9
    have hl := and_low v 7 (by decide) hv
    simp at hl
    have hA : (v : Int) / 128 = (A : Int) := by have := hAe'.out; simp at this; omega
    go_enter Try.func83, Try.ntmps83
    go_wp2_with (first | (go_at_call 68; refine (cs.out _).mono ?_; rintro e w1 ⟨rfl, h1⟩; obtain rfl := h1.symm) | (go_at_call 70; refine cw.out.mono ?_; rintro e w2 ⟨rfl, ho1, hb1⟩))
    go_loopw [7, 9] (fun o c W => ∃ (j : Nat) (ys : List Nat), j ≤ m ∧ c = .int .i64 ((j : Int) - 1) ∧ o = .slice (some ⟨w.heap.size, 0, none⟩) (n + (m - j)) (n + K) ∧ ys ++ hd A j = xs ++ hd A m ∧
        W.ownsRow w.heap.size 5 1 (.slice (some ⟨w.heap.size, 0, none⟩) (n + (m - j)) (n + K)) (n + (m - j)) (bs ys) ∧ Below w.heap.size w W) (fun _ c _ => (intOf c + 1).toNat)
    case atStart => exact ⟨m, xs, Nat.le_refl _, by have := hm'.out; subst this; go_num, by simp, rfl, by simpa using ho1, hb1⟩
    case round =>
      obtain ⟨j, ys, hj, rfl, rfl, he, ho, hb⟩ := hrel
      have he' := hid he
      clear he h cw ho1 hb1 cs
      cases j with
      | zero =>
        simp only [hd, List.append_nil] at he'
        have hown := hid ho
        go_wp2_with (at_builtin; refine wpList_append_fits _ rfl (.tmp 35) (.tmp 42) 25 rfl w.heap.size 5 i5 1 Try.underlying25 hi5 hz1 w.heap.size (n + (m - 0)) (n + K) (bs ys) rfl (hown.out.alloc _) ⟨wr.heap.size, 0, none⟩ 1 1 (bs [v % 2 ^ 7]) rfl rfl (one_cell wr (v % 2 ^ 7)) (bs_one _) (by have := hm'.out; omega) ?_; intro w3 ho3 hg3)
        go_ret
        obtain rfl := hm'.out
        refine ⟨rfl, ?_, ?_⟩
        · rw [← List.append_assoc, bs_append, ← he'.out, ← Nat.add_assoc]; exact ho3
        · exact (Below.alloc hb hb.size _).grown hg3 (by have := hb.size; simp; omega) (fun j hj => by cases hj; exact Nat.le_refl _)
      | succ j =>
        have e1 : ((j + 1 : Nat) : Int) - 1 = (j : Int) := by omega
        rw [e1]
        obtain ⟨q, hq⟩ : ∃ q, q = A / 2 ^ (7 * j) := ⟨_, rfl⟩
        have hsh : (A : Int) / 2 ^ (7 * j) = (q : Int) := by rw [hq]; simp
        obtain ⟨c, hc⟩ : ∃ c, c = q % 128 + 128 := ⟨_, rfl⟩
        have hor := or128 q
        rw [← hc] at hor
        have hq' := hid hq
        have hc' := hid hc
        clear hq e1 hc
        go_wp2_with (at_builtin; refine wpList_append_fits _ rfl (.tmp 26) (.tmp 33) 25 rfl w.heap.size 5 i5 1 Try.underlying25 hi5 hz1 w.heap.size (n + (m - (j + 1))) (n + K) (bs ys) rfl (ho.alloc _) ⟨wr.heap.size, 0, none⟩ 1 1 (bs [c]) rfl rfl (one_cell wr c) (bs_one _) (by have := hm'.out; omega) ?_; intro w3 ho3 hg3)
        refine ⟨⟨j, ys ++ [c], by omega, by go_num, by rw [show n + (m - (j + 1)) + 1 = n + (m - j) by omega], ?_, ?_, ?_⟩, by simp [intOf] <;> omega⟩
        · have := hd_step A j ys _ he'.out
          rw [hc'.out, hq'.out]
          exact this
        · rw [bs_append, show n + (m - j) = n + (m - (j + 1)) + 1 by omega]; exact ho3
        · exact (Below.alloc hb hb.size _).grown hg3 (by have := hb.size; simp; omega) (fun j hj => by cases hj; exact Nat.le_refl _)

end Go.Proofs.Ytbpcekhfjkodcaa
