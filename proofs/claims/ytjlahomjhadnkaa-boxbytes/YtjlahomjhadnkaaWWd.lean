/- What Text of package wide returns, and that the document's example lives; no statement of the seat is proved here. -/
import Derived.Test.YtjlahomjhadnkaaWWc
import Derived.Laws.BytesArg
namespace Go.Proofs.Ytjlahomjhadnkaa
namespace Wid
open Go.RowKit

def dgs (n : Nat) : Nat → List Int
  | 0 => []
  | k + 1 => ((48 + n / 10 ^ k % 10 : Nat) : Int) :: dgs n k
set_option maxRecDepth 100000 in
theorem dgs_length (n : Nat) : ∀ k, (dgs n k).length = k
  | 0 => rfl
  | k + 1 => by simp [dgs, dgs_length n k]

set_option maxRecDepth 100000 in
theorem bcell {W w1 : World} (hb : Below W.heap.size W w1) : (∀ b o, b < W.heap.size → w1.cell? ⟨b, o, none⟩ = W.cell? ⟨b, o, none⟩) ∧ (∀ b o, b < W.heap.size → w1.frozen? ⟨b, o, none⟩ = W.frozen? ⟨b, o, none⟩) :=
  ⟨fun b o h => hb.cell (p := ⟨b, o, none⟩) h, fun b o h => hb.frozen (p := ⟨b, o, none⟩) h⟩

set_option maxRecDepth 100000 in
theorem ne_zero (n : Nat) (hn : n < 6277101735386680763835789423207666416102355444464034512896) (h : n ≠ 0) : (W0 n == 0 && W1 n == 0 && W2 n == 0) = false := by
  have := W_val n hn
  cases h0 : (W0 n == 0 && W1 n == 0 && W2 n == 0)
  · rfl
  · simp only [Bool.and_eq_true, beq_iff_eq] at h0
    omega

def TextInv (n B k : Nat) (W : World) : Prop :=
  k ≤ 58 ∧ B + 1 < W.heap.size ∧
  W.cell? ⟨B, 0, none⟩ = some (.int .u64 (W0 (n / 10 ^ k))) ∧ W.cell? ⟨B, 1, none⟩ = some (.int .u64 (W1 (n / 10 ^ k))) ∧ W.cell? ⟨B, 2, none⟩ = some (.int .u64 (W2 (n / 10 ^ k))) ∧
  (∀ j, W.frozen? ⟨B, j, none⟩ = false) ∧ (∀ j, W.frozen? ⟨B + 1, j, none⟩ = false) ∧
  ∃ f : Nat → Int, (∀ j, j < 58 → W.cell? ⟨B + 1, j, none⟩ = some (.int .u8 (f j))) ∧ ∀ i, i < k → f (58 - k + i) = (dgs n k).getD i 0

set_option maxRecDepth 100000 in
theorem text_step (n B k m : Nat) (d : Int) (W w1 : World) (hk : k < 58) (hm : n / 10 ^ k = m) (hs : n / 10 ^ (k + 1) = m / 10) (hd : ((m % 10 : Nat) : Int) = d) (h : TextInv n B k W) (hb : Below W.heap.size W w1) :
    TextInv n B (k + 1) ((((w1.setCell ⟨B, 0, none⟩ (.int .u64 (W0 (m / 10)))).setCell ⟨B, 1, none⟩ (.int .u64 (W1 (m / 10)))).setCell ⟨B, 2, none⟩ (.int .u64 (W2 (m / 10)))).setCell ⟨B + 1, 58 - k - 1, none⟩ (.int .u8 (48 + d))) := by
  obtain ⟨h1, h2, c0, c1, c2, f0, f1, f, hf, hfd⟩ := h
  obtain ⟨bc, bf⟩ := bcell hb
  have z0 := bc B 0 (by omega); have z1 := bc B 1 (by omega); have z2 := bc B 2 (by omega)
  rw [c0] at z0; rw [c1] at z1; rw [c2] at z2
  have zs := hb.size
  rw [TextInv, hs]
  refine ⟨by omega, by simp; omega, ?_, ?_, ?_, ?_, ?_, fun j => if j = 58 - k - 1 then 48 + d else f j, ?_, ?_⟩
  · rw [World.cell?_setCell_other _ _ _ _ (by simp), World.cell?_setCell_other _ _ _ _ (by simp), World.cell?_setCell_other _ _ _ _ (by simp)]
    exact World.cell?_setCell_same _ _ _ z0
  · rw [World.cell?_setCell_other _ _ _ _ (by simp), World.cell?_setCell_other _ _ _ _ (by simp)]
    exact World.cell?_setCell_same _ _ _ (u := .int .u64 (W1 (n / 10 ^ k))) (by rw [World.cell?_setCell_other _ _ _ _ (by simp)]; exact z1)
  · rw [World.cell?_setCell_other _ _ _ _ (by simp)]
    exact World.cell?_setCell_same _ _ _ (u := .int .u64 (W2 (n / 10 ^ k))) (by rw [World.cell?_setCell_other _ _ _ _ (by simp), World.cell?_setCell_other _ _ _ _ (by simp)]; exact z2)
  · intro j; simp [bf B j (by omega), f0 j]
  · intro j; simp [bf (B + 1) j (by omega), f1 j]
  · intro j hj
    have zj := bc (B + 1) j (by omega)
    rw [hf j hj] at zj
    dsimp only
    by_cases e : j = 58 - k - 1
    · subst e
      rw [if_pos rfl]
      exact World.cell?_setCell_same _ _ _ (u := .int .u8 (f (58 - k - 1))) (by rw [World.cell?_setCell_other _ _ _ _ (by simp), World.cell?_setCell_other _ _ _ _ (by simp), World.cell?_setCell_other _ _ _ _ (by simp)]; exact zj)
    · rw [if_neg e, World.cell?_setCell_other _ _ _ _ (by simp only [ne_eq, Addr.mk.injEq]; omega), World.cell?_setCell_other _ _ _ _ (by simp), World.cell?_setCell_other _ _ _ _ (by simp), World.cell?_setCell_other _ _ _ _ (by simp)]
      exact zj
  · intro i hi
    dsimp only
    cases i with
    | zero =>
      rw [if_pos (by omega), dgs, hm]
      simp; omega
    | succ i =>
      rw [if_neg (by omega), dgs]
      have := hfd i (by omega)
      rw [show 58 - (k + 1) + (i + 1) = 58 - k + i by omega, this]
      simp

set_option maxRecDepth 100000 in
theorem zeros (j : Nat) (hj : j < 58) : (Array.replicate 58 (Value.int IntKind.u8 0))[j]? = some (Value.int IntKind.u8 0) := by
  rw [Array.getElem?_replicate, if_pos hj]

set_option maxRecDepth 100000 in
theorem slice_digits (B k : Nat) (hk : 0 < k) (hk' : k ≤ 58) (W : World) :
    (Instr.sliceAt 92 (.pointer (some ⟨B, 0, none⟩)) (some (.int .i64 (58 - (k : Int)))) none none).run Try.prog W = .ok (.slice (some ⟨B, 58 - k, none⟩) k k) W := by
  have ha : Try.prog.arrayLen 92 = 58 := by kernel_rfl
  have he : Try.prog.elem 92 = 5 := by kernel_rfl
  have hsz : (sizeOf 5).run Try.prog W = .ok 1 W := by kernel_rfl
  rw [run_sliceAt_array_l W 92 ⟨B, 0, none⟩ (by kernel_rfl) .i64 (58 - (k : Int)) (by omega) (by rw [ha]; omega), he, hsz, ha]
  have e1 : (58 - (k : Int)).toNat = 58 - k := by omega
  simp only [Result.andThen_ok, slicedAt, e1]
  rw [if_neg (by omega), show 58 - (58 - k) = k by omega]
  simp [Addr.add]
  omega

set_option maxRecDepth 100000 in
theorem string_digits (n B k : Nat) (W : World) (hk : k ≤ 58) (f : Nat → Int) (hf : ∀ j, j < 58 → W.cell? ⟨B, j, none⟩ = some (.int .u8 (f j))) (hfd : ∀ i, i < k → f (58 - k + i) = (dgs n k).getD i 0) :
    (convert 51 9 (.slice (some ⟨B, 58 - k, none⟩) k k)).run Try.prog W = .ok (.string (strOfNums (dgs n k))) W :=
  run_convert_bytes_arg W 51 5 Try.underlying51 Try.underlying5 B (58 - k) k k (dgs n k) (dgs_length n k) (fun i hi => by rw [hf (58 - k + i) (by omega), hfd i hi]) 9 Try.underlying9

set_option maxRecDepth 100000 in
set_option maxHeartbeats 1000000 in
theorem text_any (n : Nat) (hn : n < 6277101735386680763835789423207666416102355444464034512896) (h0 : n ≠ 0) (K : Nat) (hK58 : K ≤ 58) (hK : n / 10 ^ K = 0) (hK' : ∀ k, k < K → n / 10 ^ k ≠ 0) (w : World) :
    Calls Try.prog 53 #[.agg #[.int .u64 (W0 (n)), .int .u64 (W1 (n)), .int .u64 (W2 (n))]] w fun e w' => e = .returned (.string (strOfNums (dgs n K))) ∧ Below w.heap.size w w' := by
  have heq := eqU 28 Try.underlying28 (W0 n) (W1 n) (W2 n) 0 0 0
  rw [ne_zero n hn h0] at heq
  have HK : Hid (n / 10 ^ K = 0) := hK
  have HK' : Hid (∀ k, k < K → n / 10 ^ k ≠ 0) := hK'
  clear hK hK'
  go_enter Try.func53, Try.ntmps53
  go_wp2
  clear heq
  go_loopw [4] (fun i W => ∃ k : Nat, k ≤ K ∧ i = .int .i64 (58 - (k : Int)) ∧ TextInv n w.heap.size k W ∧ Below w.heap.size w W) (fun i W => (intOf i).toNat)
  case atStart =>
    refine ⟨0, by omega, rfl, ⟨by omega, by simp, ?_, ?_, ?_, ?_, ?_, fun _ => 0, ?_, fun i hi => absurd hi (by omega)⟩, (by repeat (first | with_reducible exact Below.refl _ _ | with_reducible assumption | with_reducible refine Below.drew ?_ | with_reducible refine below_drewN ?_ _ | with_reducible refine Below.alloc ?_ (by simp <;> omega) _ | with_reducible refine Below.setCell ?_ (by simp <;> omega) _))⟩
    · simp [World.cell?_alloc_past]
    · simp [World.cell?_alloc_past]
    · simp [World.cell?_alloc_past]
    · intro j; simp [World.frozen?_alloc_past, World.frozen?_alloc_at]
    · intro j; simp [World.frozen?_alloc_at]
    · intro j hj
      rw [World.cell?_alloc_at _ _ _ _ (by simp)]
      exact zeros j hj
  case round =>
    obtain ⟨k, hkK, rfl, ⟨hk58, hsz, c0, c1, c2, fz0, fz1, f, hf, hfd⟩, hB⟩ := hrel
    by_cases hk : k = K
    · subst hk
      rw [HK.out] at c0 c1 c2
      simp only [W0_zero, W1_zero, W2_zero] at c0 c1 c2
      have heq := eqU 28 Try.underlying28 0 0 0 0 0 0
      rw [show ((0 : Int) == 0 && (0 : Int) == 0 && (0 : Int) == 0) = true from rfl] at heq
      have hk0 : 0 < k := by
        rcases Nat.eq_zero_or_pos k with h | h
        · subst h; have := HK.out; simp at this; omega
        · exact h
      have hsl := slice_digits (w.heap.size + 1) k hk0 hk58 wr
      have hst := string_digits n (w.heap.size + 1) k wr hk58 f hf hfd
      go_wp2
      go_ret
      exact ⟨rfl, hB⟩
    · have hm0 := HK'.out k (by omega)
      have hmn : n / 10 ^ k < 6277101735386680763835789423207666416102355444464034512896 := Nat.lt_of_le_of_lt (Nat.div_le_self _ _) hn
      have hs : n / 10 ^ (k + 1) = n / 10 ^ k / 10 := by rw [Nat.pow_succ, Nat.div_div_eq_div_mul]
      have Hs : Hid (n / 10 ^ (k + 1) = n / 10 ^ k / 10) := hs
      clear hs
      generalize hm : n / 10 ^ k = m at *
      have HM : Hid (n / 10 ^ k = m) := hm
      clear hm
      have heq := eqU 28 Try.underlying28 (W0 m) (W1 m) (W2 m) 0 0 0
      rw [ne_zero m hmn hm0] at heq
      have hcut := fun w => cut_any m hmn w
      obtain ⟨d, hd, hd0, hd9⟩ : ∃ d : Int, ((m % 10 : Nat) : Int) = d ∧ 0 ≤ d ∧ d ≤ 9 := ⟨_, rfl, by omega, by omega⟩
      simp only [hd] at hcut
      have HC : Hid _ := hcut
      have HD : Hid (((m % 10 : Nat) : Int) = d) := hd
      have hsz1 : w.heap.size < wr.heap.size := by omega
      have hcell := hf (58 - k - 1) (by omega)
      clear hcut hd
      go_wp2_with (go_at_call 70; refine (HC.out _).mono ?_; rintro e w1 ⟨rfl, hb⟩; obtain ⟨bc, bf⟩ := bcell hb)
      refine ⟨⟨k + 1, by omega, by go_num, text_step n w.heap.size k m d wr w1 (by omega) HM.out Hs.out HD.out ⟨hk58, hsz, by rw [HM.out]; exact c0, by rw [HM.out]; exact c1, by rw [HM.out]; exact c2, fz0, fz1, f, hf, hfd⟩ hb, ?_⟩, by simp [intOf]; omega⟩
      exact (((((hB.trans (hb.mono (by omega))).setCell (by simp) _).setCell (by simp) _).setCell (by simp) _).setCell (by simp) _)

def ndigF : Nat → Nat → Nat
  | 0, _ => 0
  | f + 1, n => if n = 0 then 0 else ndigF f (n / 10) + 1

set_option maxRecDepth 100000 in
theorem ndigF_le : ∀ f n, ndigF f n ≤ f
  | 0, _ => by simp [ndigF]
  | f + 1, n => by
    rw [ndigF]
    split
    · omega
    · have := ndigF_le f (n / 10); omega

set_option maxRecDepth 100000 in
theorem ndigF_zero : ∀ f n, n < 10 ^ f → n / 10 ^ ndigF f n = 0
  | 0, n, h => by simp at h; simp [ndigF, h]
  | f + 1, n, h => by
    rw [ndigF]
    split
    · rename_i h0; simp [h0]
    · rw [Nat.pow_succ, Nat.mul_comm, ← Nat.div_div_eq_div_mul]
      exact ndigF_zero f (n / 10) (by rw [Nat.pow_succ] at h; omega)

set_option maxRecDepth 100000 in
theorem ndigF_pos : ∀ f n k, k < ndigF f n → n / 10 ^ k ≠ 0
  | 0, n, k, h => by simp [ndigF] at h
  | f + 1, n, k, h => by
    rw [ndigF] at h
    split at h
    · omega
    · cases k with
      | zero => simpa using (show ¬ n = 0 by assumption)
      | succ k =>
        rw [Nat.pow_succ, Nat.mul_comm, ← Nat.div_div_eq_div_mul]
        exact ndigF_pos f (n / 10) k (by omega)

def textN (n : Nat) : ByteArray := if n = 0 then ⟨#[48]⟩ else strOfNums (dgs n (ndigF 58 n))

set_option maxRecDepth 100000 in
set_option maxHeartbeats 400000 in
theorem text_zero (w : World) :
    Calls Try.prog 53 #[.agg #[.int .u64 0, .int .u64 0, .int .u64 0]] w fun e w' => e = .returned (.string ⟨#[48]⟩) ∧ Below w.heap.size w w' := by
  have heq := eqU 28 Try.underlying28 0 0 0 0 0 0
  rw [show ((0 : Int) == 0 && (0 : Int) == 0 && (0 : Int) == 0) = true from rfl] at heq
  go_enter Try.func53, Try.ntmps53
  go_wp2
  go_ret
  exact ⟨rfl, (by repeat (first | with_reducible exact Below.refl _ _ | with_reducible assumption | with_reducible refine Below.drew ?_ | with_reducible refine below_drewN ?_ _ | with_reducible refine Below.alloc ?_ (by simp <;> omega) _ | with_reducible refine Below.setCell ?_ (by simp <;> omega) _))⟩

set_option maxRecDepth 100000 in
theorem text_of (n : Nat) (hn : n < 6277101735386680763835789423207666416102355444464034512896) (w : World) :
    Calls Try.prog 53 #[.agg #[.int .u64 (W0 (n)), .int .u64 (W1 (n)), .int .u64 (W2 (n))]] w fun e w' => e = .returned (.string (textN n)) ∧ Below w.heap.size w w' := by
  by_cases h : n = 0
  · subst h
    rw [W0_zero, W1_zero, W2_zero, textN, if_pos rfl]
    exact text_zero w
  · rw [textN, if_neg h]
    exact text_any n hn h _ (ndigF_le _ _) (ndigF_zero _ _ (Nat.lt_of_lt_of_le hn (by decide))) (ndigF_pos _ _) w

set_option maxRecDepth 100000 in
theorem text_live : textN (18446744073709551615 * 18446744073709551615) = ⟨#[51, 52, 48, 50, 56, 50, 51, 54, 54, 57, 50, 48, 57, 51, 56, 52, 54, 51, 52, 50, 54, 52, 56, 49, 49, 49, 57, 50, 56, 52, 51, 52, 57, 49, 48, 56, 50, 50, 53]⟩ := by decide +kernel

end Wid
end Go.Proofs.Ytjlahomjhadnkaa
