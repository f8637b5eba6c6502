/- What assemble and gather do with a function that tells bytes; no statement of the seat is proved here. -/
import Derived.Test.YtieachnejicafaaBh
namespace Go.Proofs.Ytieachnejicafaa
open Go.RowKit

/-- The Var that begins a list, be it the shortest or not, and how many bytes it has; k: how many bytes with a mark may still come. -/
def asm (acc : Nat) : Nat → List Nat → Nat × Nat
  | 0, [] => (0, 0)
  | 0, c :: _ => (acc * 256 + c, 9)
  | _ + 1, [] => (0, 0)
  | k + 1, c :: r => if c < 128 then (acc * 128 + c, 8 - k) else asm (acc * 128 + (c - 128)) k r

theorem getD_lt {xs : List Nat} (h : ∀ x ∈ xs, x < 256) (i : Nat) (hi : i < xs.length) : xs.getD i 0 < 256 := by
  rw [List.getD_eq_getElem?_getD, List.getElem?_eq_getElem hi]
  exact h _ (List.getElem_mem hi)

theorem drop_getD (xs : List Nat) (i : Nat) (hi : i < xs.length) : xs.drop i = xs.getD i 0 :: xs.drop (i + 1) := by
  rw [List.drop_eq_getElem_cons hi, List.getD_eq_getElem?_getD, List.getElem?_eq_getElem hi]
  rfl

theorem wraps_u64 (n : Int) (h0 : 0 ≤ n) (h1 : n < 2 ^ 64) : IntKind.u64.wrap n = n := by rw [IntKind.wrap_u64]; omega

theorem or_join (a x k : Nat) (hx : x < 2 ^ k) (h : a * 2 ^ k + x < 18446744073709551616) : bits .or .u64 ((a : Int) * ((2 ^ k : Nat) : Int)) (x : Int) = ((a * 2 ^ k + x : Nat) : Int) := by
  have h1 := (bits_nat .u64 64 (by decide) wraps_u64 (a * 2 ^ k) x (by omega) (by omega)).2
  rw [Int.natCast_mul] at h1
  rw [h1, Nat.mul_comm a, ← Nat.two_pow_add_eq_or_of_lt hx a]

theorem or7 (a x : Nat) (hx : x < 128) (h : a < 144115188075855872) : bits .or .u64 ((a : Int) * 128) (x : Int) = ((a * 128 + x : Nat) : Int) := by
  simpa using or_join a x 7 (by omega) (by omega)

theorem or8 (a x : Nat) (hx : x < 256) (h : a < 72057594037927936) : bits .or .u64 ((a : Int) * 256) (x : Int) = ((a * 256 + x : Nat) : Int) := by
  simpa using or_join a x 8 (by omega) (by omega)

theorem acc_step (a y i : Nat) (h : a < 2 ^ (7 * i)) (hy : y < 128) : a * 128 + y < 2 ^ (7 * (i + 1)) := by
  rw [show 7 * (i + 1) = 7 * i + 7 by omega, Nat.pow_add]
  omega

set_option maxHeartbeats 2000000 in
set_option maxRecDepth 20000 in
theorem asm_tell (pa pb : Nat) (xs : List Nat) (hx : ∀ x ∈ xs, x < 256) (St : Nat → World → Prop)
    (hmore : ∀ k W, St k W → k < xs.length → Calls Try.prog 36 #[.pointer (some ⟨pa, 0, none⟩), .pointer (some ⟨pb, 0, none⟩)] W fun e w' => e = .returned (.tuple #[.int .u8 ((xs.getD k 0 : Nat) : Int), .bool true]) ∧ St (k + 1) w')
    (hend : ∀ W, St xs.length W → Calls Try.prog 36 #[.pointer (some ⟨pa, 0, none⟩), .pointer (some ⟨pb, 0, none⟩)] W fun e w' => e = .returned (.tuple #[.int .u8 0, .bool false]) ∧ St xs.length w')
    (w : World) (h0 : St 0 w) :
    Calls Try.prog 30 #[.func (.func 36) #[] #[.pointer (some ⟨pa, 0, none⟩), .pointer (some ⟨pb, 0, none⟩)]] w fun e w' =>
      e = .returned (.tuple #[.int .u64 ((asm 0 8 xs).1 : Nat), .int .i64 ((asm 0 8 xs).2 : Nat)]) ∧ ∃ k, St k w' ∧ ((asm 0 8 xs).2 ≠ 0 → k = (asm 0 8 xs).2) := by
  obtain ⟨R, hR⟩ : ∃ R, R = asm 0 8 xs := ⟨_, rfl⟩
  rw [← hR]
  have hR' := hid hR
  clear hR
  have hmore' := hid hmore
  have hend' := hid hend
  have hx' := hid hx
  have h0' := hid h0
  clear hmore hend hx h0
  go_enter Try.func30, Try.ntmps30
  go_wp2
  go_loopw [4, 5] (fun a s W => ∃ (i acc : Nat), i ≤ 8 ∧ i ≤ xs.length ∧ a = .int .u64 (acc : Int) ∧ s = .int .i64 ((i : Int) + 1) ∧ acc < 2 ^ (7 * i) ∧ asm acc (8 - i) (xs.drop i) = R ∧ St i W) (fun _ s _ => (9 - intOf s).toNat)
  case atStart => exact ⟨0, 0, by omega, by omega, rfl, rfl, by simp, by simpa using hR'.out.symm, h0'.out⟩
  case round =>
    obtain ⟨i, acc, hi, hil, rfl, rfl, hacc, he, hS⟩ := hrel
    have he' := hid he
    have hS' := hid hS
    have hacc' := hid hacc
    clear he hS hacc
    by_cases hin : i < xs.length
    · have c := hid (hmore'.out i wr hS'.out hin)
      obtain ⟨X, hX⟩ : ∃ X, X = xs.getD i 0 := ⟨_, rfl⟩
      rw [← hX] at c
      have hX' := hid hX
      clear hX
      have hX2 : X < 256 := by rw [hX'.out]; exact getD_lt hx'.out i hin
      have hd : xs.drop i = X :: xs.drop (i + 1) := by rw [hX'.out]; exact drop_getD xs i hin
      rw [hd] at he'
      clear hd
      by_cases hi8 : i < 8
      · have hb : acc < 562949953421312 := Nat.lt_of_lt_of_le hacc'.out (Nat.pow_le_pow_right (by omega) (by omega : 7 * i ≤ 49))
        rw [show 8 - i = (7 - i) + 1 by omega] at he'
        have he2 := he'.out
        simp only [asm] at he2
        by_cases hX3 : X < 128
        · obtain ⟨q, hq⟩ : ∃ q, q = acc * 128 + X := ⟨_, rfl⟩
          have hor := or7 acc X (by omega) (by omega)
          rw [← hq] at hor
          rw [if_pos hX3, ← hq, show 8 - (7 - i) = i + 1 by omega] at he2
          subst he2
          clear he' hq
          go_wp2_with (go_at_call 36; refine c.out.mono ?_; rintro e w1 ⟨rfl, hS1⟩)
          go_ret2
          exact ⟨rfl, hS1⟩
        · obtain ⟨y, rfl⟩ : ∃ y, X = y + 128 := ⟨X - 128, by omega⟩
          obtain ⟨q, hq⟩ : ∃ q, q = acc * 128 + y := ⟨_, rfl⟩
          have hor := or7 acc y (by omega) (by omega)
          rw [← hq] at hor
          rw [if_neg hX3, Nat.add_sub_cancel, ← hq] at he2
          have he3 := hid he2
          have hq' := hid hq
          clear he' hq he2
          go_wp2_with (go_at_call 36; refine c.out.mono ?_; rintro e w1 ⟨rfl, hS1⟩)
          refine ⟨⟨i + 1, q, by omega, by omega, rfl, by go_num, ?_, ?_, hS1⟩, by simp [intOf]; omega⟩
          · rw [hq'.out]; exact acc_step acc y i hacc'.out (by omega)
          · rw [show 8 - (i + 1) = 7 - i by omega]; exact he3.out
      · obtain rfl : i = 8 := by omega
        have hb : acc < 72057594037927936 := by have := hacc'.out; omega
        have he2 := he'.out
        simp only [Nat.sub_self, asm] at he2
        obtain ⟨q, hq⟩ : ∃ q, q = acc * 256 + X := ⟨_, rfl⟩
        have hor := or8 acc X (by omega) (by omega)
        rw [← hq] at hor
        rw [← hq] at he2
        subst he2
        clear he' hq
        go_wp2_with (go_at_call 36; refine c.out.mono ?_; rintro e w1 ⟨rfl, hS1⟩)
        go_ret2
        exact ⟨rfl, hS1⟩
    · obtain rfl : i = xs.length := by omega
      have c := hid (hend'.out wr hS'.out)
      have he2 := he'.out
      rw [List.drop_length] at he2
      have hR0 : R = (0, 0) := by
        rw [← he2]
        cases h8 : 8 - xs.length <;> simp [asm]
      subst hR0
      generalize xs.length = L at *
      clear he' he2
      go_wp2_with (go_at_call 36; refine c.out.mono ?_; rintro e w1 ⟨rfl, hS1⟩)
      all_goals (go_ret2; exact ⟨rfl, _, hS1⟩)

end Go.Proofs.Ytieachnejicafaa
