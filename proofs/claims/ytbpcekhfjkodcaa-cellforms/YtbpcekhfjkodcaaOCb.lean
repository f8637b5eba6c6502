/- What assemble and gather do with a source's next; no statement of the seat is proved here. -/
import Derived.Test.YtbpcekhfjkodcaaOCa
namespace Go.Proofs.Ytbpcekhfjkodcaa
open Go.RowKit

set_option maxHeartbeats 2000000 in
set_option maxRecDepth 20000 in
theorem asm_src (p : Nat) (xs : List Nat) (hx : ∀ x ∈ xs, x < 256) (St : Nat → World → Prop)
    (hmore : ∀ k W, St k W → k < xs.length → Calls Try.prog 74 #[.pointer (some ⟨p, 0, none⟩)] W fun e w' => e = .returned (.tuple #[.int .u8 ((xs.getD k 0 : Nat) : Int), .bool true]) ∧ St (k + 1) w')
    (hend : ∀ W, St xs.length W → Calls Try.prog 74 #[.pointer (some ⟨p, 0, none⟩)] W fun e w' => e = .returned (.tuple #[.int .u8 0, .bool false]) ∧ St xs.length w')
    (w : World) (h0 : St 0 w) :
    Calls Try.prog 75 #[.func (.func 74) #[.pointer (some ⟨p, 0, none⟩)] #[]] w fun e w' =>
      e = .returned (.tuple #[.int .u64 ((asm 0 8 xs).1 : Nat), .int .i64 ((asm 0 8 xs).2 : Nat)]) ∧ ∃ k, St k w' ∧ ((asm 0 8 xs).2 ≠ 0 → k = (asm 0 8 xs).2) := by
  obtain ⟨R, hR⟩ : ∃ R, R = asm 0 8 xs := ⟨_, rfl⟩
  rw [← hR]
  have hR' := hid hR
  clear hR
  have hmore' := hid hmore
  have hend' := hid hend
  have hx' := hid hx
  have h0' := hid h0
  clear hmore hend hx h0
  go_enter Try.func75, Try.ntmps75
  go_wp2
  go_loopw [4, 5] (fun a s W => ∃ (i acc : Nat), i ≤ 8 ∧ i ≤ xs.length ∧ a = .int .u64 (acc : Int) ∧ s = .int .i64 ((i : Int) + 1) ∧ acc < 2 ^ (7 * i) ∧ asm acc (8 - i) (xs.drop i) = R ∧ St i W) (fun _ s _ => (9 - intOf s).toNat)
  case atStart => exact ⟨0, 0, by omega, by omega, rfl, rfl, by simp, by simpa using hR'.out.symm, h0'.out⟩
  case round =>
    obtain ⟨i, acc, hi, hil, rfl, rfl, hacc, he, hS⟩ := hrel
    have he' := hid he
    have hS' := hid hS
    have hacc' := hid hacc
    clear he hS hacc
    by_cases hin : i < xs.length
    · have c := hid (hmore'.out i wr hS'.out hin)
      obtain ⟨X, hX⟩ : ∃ X, X = xs.getD i 0 := ⟨_, rfl⟩
      rw [← hX] at c
      have hX' := hid hX
      clear hX
      have hX2 : X < 256 := by rw [hX'.out]; exact getD_lt hx'.out i hin
      have hd : xs.drop i = X :: xs.drop (i + 1) := by rw [hX'.out]; exact drop_getD xs i hin
      rw [hd] at he'
      clear hd
      by_cases hi8 : i < 8
      · have hb : acc < 562949953421312 := Nat.lt_of_lt_of_le hacc'.out (Nat.pow_le_pow_right (by omega) (by omega : 7 * i ≤ 49))
        rw [show 8 - i = (7 - i) + 1 by omega] at he'
        have he2 := he'.out
        simp only [asm] at he2
        by_cases hX3 : X < 128
        · obtain ⟨q, hq⟩ : ∃ q, q = acc * 128 + X := ⟨_, rfl⟩
          have hor := or7 acc X (by omega) (by omega)
          rw [← hq] at hor
          rw [if_pos hX3, ← hq, show 8 - (7 - i) = i + 1 by omega] at he2
          subst he2
          clear he' hq
          go_wp2_with (go_at_call 74; refine c.out.mono ?_; rintro e w1 ⟨rfl, hS1⟩)
          go_ret2
          exact ⟨rfl, hS1⟩
        · obtain ⟨y, rfl⟩ : ∃ y, X = y + 128 := ⟨X - 128, by omega⟩
          obtain ⟨q, hq⟩ : ∃ q, q = acc * 128 + y := ⟨_, rfl⟩
          have hor := or7 acc y (by omega) (by omega)
          rw [← hq] at hor
          rw [if_neg hX3, Nat.add_sub_cancel, ← hq] at he2
          have he3 := hid he2
          have hq' := hid hq
          clear he' hq he2
          go_wp2_with (go_at_call 74; refine c.out.mono ?_; rintro e w1 ⟨rfl, hS1⟩)
          refine ⟨⟨i + 1, q, by omega, by omega, rfl, by go_num, ?_, ?_, hS1⟩, by simp [intOf]; omega⟩
          · rw [hq'.out]; exact acc_step acc y i hacc'.out (by omega)
          · rw [show 8 - (i + 1) = 7 - i by omega]; exact he3.out
      · obtain rfl : i = 8 := by omega
        have hb : acc < 72057594037927936 := by have := hacc'.out; omega
        have he2 := he'.out
        simp only [Nat.sub_self, asm] at he2
        obtain ⟨q, hq⟩ : ∃ q, q = acc * 256 + X := ⟨_, rfl⟩
        have hor := or8 acc X (by omega) (by omega)
        rw [← hq] at hor
        rw [← hq] at he2
        subst he2
        clear he' hq
        go_wp2_with (go_at_call 74; refine c.out.mono ?_; rintro e w1 ⟨rfl, hS1⟩)
        go_ret2
        exact ⟨rfl, hS1⟩
    · obtain rfl : i = xs.length := by omega
      have c := hid (hend'.out wr hS'.out)
      have he2 := he'.out
      rw [List.drop_length] at he2
      have hR0 : R = (0, 0) := by
        rw [← he2]
        cases h8 : 8 - xs.length <;> simp [asm]
      subst hR0
      generalize xs.length = L at *
      clear he' he2
      go_wp2_with (go_at_call 74; refine c.out.mono ?_; rintro e w1 ⟨rfl, hS1⟩)
      all_goals (go_ret2; exact ⟨rfl, _, hS1⟩)

set_option maxHeartbeats 1000000 in
set_option maxRecDepth 20000 in
theorem gather_src (p : Nat) (xs : List Nat) (hx : ∀ x ∈ xs, x < 256) (s : Nat) (l : Bool) (hs : s ≤ xs.length) (h8 : s ≤ 8) (St : Nat → World → Prop)
    (hmore : ∀ k W, St k W → k < xs.length → Calls Try.prog 74 #[.pointer (some ⟨p, 0, none⟩)] W fun e w' => e = .returned (.tuple #[.int .u8 ((xs.getD k 0 : Nat) : Int), .bool true]) ∧ St (k + 1) w')
    (w : World) (h0 : St 0 w) :
    Calls Try.prog 73 #[.func (.func 74) #[.pointer (some ⟨p, 0, none⟩)] #[], .int .i64 s, .bool l] w fun e w' =>
      e = .returned (.int .u64 (psum xs s l s : Nat)) ∧ St s w' := by
  have hmore' := hid hmore
  have hx' := hid hx
  have h0' := hid h0
  clear hmore hx h0
  go_enter Try.func73, Try.ntmps73
  go_wp2
  go_loopw [7, 12] (fun a c W => ∃ (i : Nat), i ≤ s ∧ a = .int .u64 (psum xs s l i : Nat) ∧ c = .int .i64 (i : Int) ∧ St i W) (fun _ c _ => s - (intOf c).toNat)
  case atStart => exact ⟨0, by omega, rfl, rfl, h0'.out⟩
  case round =>
    obtain ⟨i, hi, rfl, rfl, hS⟩ := hrel
    have hS' := hid hS
    clear hS
    by_cases his : i < s
    · have c := hid (hmore'.out i wr hS'.out (by omega))
      obtain ⟨sh, q, csh, _, hshl, _⟩ := shift_named (xs.getD i 0) i s l his h8
      have hor := bits_or_u64_nat (psum xs s l i) (xs.getD i 0 * 2 ^ (8 * place l s i)) (psum_lt xs s l hx'.out hs h8 i (by omega)) (getD_term_lt xs s l hx'.out hs h8 i his)
      rw [psum_or xs s l hx'.out hs i his] at hor
      have hw : IntKind.u64.wrap ((xs.getD i 0 * 2 ^ (8 * place l s i) : Nat) : Int) = ((xs.getD i 0 * 2 ^ (8 * place l s i) : Nat) : Int) := by
        rw [IntKind.wrap_u64]; have := getD_term_lt xs s l hx'.out hs h8 i his; omega
      rw [hw] at hshl
      have hX2 := getD_lt hx'.out i (by omega)
      have csh' := hid csh
      clear hw csh
      generalize xs.getD i 0 * 2 ^ (8 * place l s i) = t at *
      obtain ⟨P1, hP1⟩ : ∃ P, P = psum xs s l (i + 1) := ⟨_, rfl⟩
      rw [← hP1] at hor
      generalize psum xs s l i = P0 at *
      generalize xs.getD i 0 = X at *
      have hP1' := hid hP1
      clear hP1
      go_wp2_with (first | (go_at_call 74; refine c.out.mono ?_; rintro e w1 ⟨rfl, hS1⟩) | (go_at_call 82; refine (csh'.out _).mono ?_; rintro e w2 ⟨rfl, hw2⟩; obtain rfl := hw2.symm))
      exact ⟨⟨i + 1, by omega, by rw [hP1'.out], by go_num, hS1⟩, by simp [intOf]; omega⟩
    · obtain rfl : i = s := by omega
      go_wp2
      go_ret
      exact ⟨rfl, hS'.out⟩

end Go.Proofs.Ytbpcekhfjkodcaa
