/- What was put is got: the arithmetic of it; and append onto a slice of the call's own as a step of a region; no statement of the seat is proved here. -/
import Derived.Test.YtbpcekhfjkodcaaOCd
import Derived.Test.YtbpcekhfjkodcaaOBs
import Derived.Test.YtbpcekhfjkodcaaOBl
namespace Go.Proofs.Ytbpcekhfjkodcaa
open Go.RowKit

theorem asm_hd (A : Nat) (j : Nat) : ∀ (acc m : Nat) (t : List Nat), j ≤ m → asm acc m (hd A j ++ t) = asm (acc * 2 ^ (7 * j) + A % 2 ^ (7 * j)) (m - j) t := by
  induction j with
  | zero => intro acc m t _; simp [hd, Nat.mod_one]
  | succ j ih =>
    intro acc m t hm
    obtain ⟨m', rfl⟩ : ∃ m', m = m' + 1 := ⟨m - 1, by omega⟩
    simp only [hd, List.cons_append, asm]
    rw [if_neg (by omega), Nat.add_sub_cancel, ih _ m' t (by omega), show m' + 1 - (j + 1) = m' - j by omega]
    congr 1
    rw [show 7 * (j + 1) = 7 * j + 7 by omega, Nat.pow_add, show (2 : Nat) ^ 7 = 128 from rfl, Nat.mod_mul]
    generalize 2 ^ (7 * j) = P
    rw [Nat.add_mul, show acc * (P * 128) = acc * 128 * P by rw [Nat.mul_assoc acc 128 P, Nat.mul_comm P]]
    rw [Nat.mul_comm P]
    omega

theorem asm_var (v : Nat) (hv : v < 18446744073709551616) (r : List Nat) : asm 0 8 (varN v ++ r) = (v, szN v) := by
  have hs := szN_le v
  by_cases h9 : szN v = 9
  · have hl : lastBits v = 8 := by unfold lastBits; rw [if_pos h9]
    simp only [varN, hl, h9, List.append_assoc]
    rw [asm_hd _ 8 0 8 _ (Nat.le_refl _)]
    simp [asm]
    omega
  · have hl : lastBits v = 7 := by unfold lastBits; rw [if_neg h9]
    have hb := szN_ge v (szN v) (Nat.le_refl _) (by omega)
    obtain ⟨m, hm⟩ : ∃ m, szN v = m + 1 := ⟨szN v - 1, by omega⟩
    have hA : v / 128 < 2 ^ (7 * m) := by
      rw [hm, show 7 * (m + 1) = 7 + 7 * m by omega, Nat.pow_add] at hb
      exact Nat.div_lt_of_lt_mul hb
    simp only [varN, hl, hm, List.append_assoc, Nat.add_sub_cancel]
    rw [asm_hd _ m 0 8 _ (by omega), show 8 - m = (7 - m) + 1 by omega]
    simp only [List.cons_append, List.nil_append, asm]
    rw [if_pos (by simp; omega)]
    simp only [Nat.reducePow, Nat.zero_mul, Nat.zero_add]
    rw [Nat.mod_eq_of_lt hA]
    congr 1
    · omega
    · omega

theorem psum_put (v : Nat) (hv : v < 18446744073709551616) (l : Bool) (r : List Nat) : psum (putN v 8 l ++ r) 8 l 8 = v := by
  cases l <;> simp [psum, putN, up, place] <;> omega

theorem putN_length (v s : Nat) (l : Bool) : (putN v s l).length = s := up_length _ _ _

theorem up_bytes (F : Nat → Nat) (hF : ∀ i, F i < 256) (i k : Nat) : ∀ x ∈ up F i k, x < 256 := by
  induction k generalizing i with
  | zero => intro x h; simp [up] at h
  | succ k ih =>
    intro x h
    simp only [up, List.mem_cons] at h
    rcases h with rfl | h
    · exact hF i
    · exact ih _ x h

theorem putN_bytes (v s : Nat) (l : Bool) : ∀ x ∈ putN v s l, x < 256 := up_bytes _ (fun _ => by omega) _ _

theorem own_mono {w : World} {B B' n : Nat} {v : Value} {xs : List Value} (h : w.ownsRow B' 5 1 v n xs) (hB : B ≤ B') : w.ownsRow B 5 1 v n xs := by
  refine ⟨h.1, ?_⟩
  rcases h.2 with h1 | ⟨g, cap, cur, e, hb, h2⟩
  · exact Or.inl h1
  · exact Or.inr ⟨g, cap, cur, e, by omega, h2⟩

/-- 'append' onto a slice of the call's own, of bytes that can be read, as a step of a region that draws its order. -/
theorem step_append_rd {ops : Array Oper} {o : Oper} {a : Act} {w : World} {K : Act → World → Prop} {Q : Exit → Act → World → Prop} {E : Prop} (hgd : o.guard = none) (s x : Operand)
    (ho : o.op = .call { callee := .builtin .append, args := #[s, x], argTypes := #[25, 25] }) (B : Nat) (v : Value) (n : Nat) (xs : List Nat) (hs : a.eval s = v) (hown : w.ownsRow B 5 1 v n (bs xs))
    (ao : Option Addr) (m c : Nat) (ys : List Nat) (hx : a.eval x = .slice ao m c) (hr : Rd w ao m c ys) (hb : n + m ≤ 140737488355328) (hB : B ≤ w.heap.size)
    (h : ∀ v' w', w'.ownsRow B 5 1 v' (n + m) (bs (xs ++ ys)) → Below B w w' → K (a.put o.dst v') w') : if Region.wanted o (yielded ops a.tmps) = true then Oper.wp Try.prog o a w K Q else E := by
  have hw : Region.wanted o (yielded ops a.tmps) = true := by simp [Region.wanted, hgd]
  rw [if_pos hw]
  obtain ⟨i5, hi5, hz0, hz1, hz2⟩ := info_parts Try.info5
  obtain ⟨hl, hc, hno, hat⟩ := hr
  cases ao with
  | none =>
    obtain ⟨rfl, rfl⟩ := hno rfl
    obtain rfl : ys = [] := List.eq_nil_of_length_eq_zero hl
    have hrun := run_append_owned_none (P := Try.prog) (w := w) B 25 o.type 5 i5 1 Try.underlying25 hi5 v n (bs xs) hown
    unfold Oper.wp
    simp [execOp, ho, resolve, invoke, builtin, hs, hx, hrun, Result.andThen]
    exact h v w (by simpa using hown) (Below.refl _ _)
  | some ad =>
    refine wp_append_own w s x 25 ho B 5 i5 (.int .u8 0) 1 1 Try.underlying25 hi5 hz0 hz1 hz2 rfl (by decide) v n (bs xs) hs hown ad m c (bs ys) hx (by simp [bs, hl]) ?_ (bs_one ys) (by unfold maxLen; omega) (by omega) hB ?_
    · intro j u hu
      obtain ⟨hj, rfl⟩ := bs_get' ys j u hu
      obtain ⟨b, off, e, hcell⟩ := hat (by omega)
      simp only [Option.some.injEq] at e
      subst e
      rw [Addr.add_lit]
      exact hcell j (by omega)
    · intro v' w' h1 h2 _
      exact h v' w' (by rw [bs_append]; exact h1) ((Below.refl B w).grown h2 hB fun k hk => (hown.lt k hk).1)

end Go.Proofs.Ytbpcekhfjkodcaa
