/- A record one bit of which is turned is none: the arithmetic of it; no statement of the seat is proved here. -/
import Derived.Test.YtndlogjmnbgegaaDoorEb
namespace Go.Proofs.YtndlogjmnbgegaaDoor
open Go.RowKit

theorem addN_ne {xs ys : List Nat} (h : fold (0 ^^^ 4294967295) xs ≠ fold (0 ^^^ 4294967295) ys) : addN 0 xs ≠ addN 0 ys := by
  intro e
  apply h
  unfold addN at e
  have h2 := congrArg (fun n => n ^^^ 4294967295) e
  simpa [Nat.xor_assoc] using h2

theorem sum_set {xs : List Nat} (hx : ∀ x ∈ xs, x < 256) (i c : Nat) (hi : i < xs.length) (hc : c < 256) (hne : c ≠ xs.getD i 0) : addN 0 (xs.set i c) ≠ addN 0 xs :=
  addN_ne (fold_set (by decide) hx i c hi hc hne)

theorem rP_rec (p n : Nat) (d : List Nat) (hp : p < 4294967296) : rP (recN p n d) = p := by
  unfold rP recN
  simp only [List.append_assoc]
  exact psum_put4 p hp _

theorem rD_rec (p n : Nat) (d : List Nat) (hd : d.length = 512) : rD (recN p n d) = d := by
  unfold rD recN
  rw [List.drop_left' (by simp [putN_length])]
  exact List.take_of_length_le (by omega)

theorem rec_self (p n : Nat) (d : List Nat) (hp : p < 4294967296) (hd : d.length = 512) (hx : ∀ x ∈ d, x < 256) :
    ((recN p n d).drop 8).take 120 = List.replicate 120 0 ∧ psum ((recN p n d).drop 4) 4 false 4 = chkN p n d := by
  have h := rec_whole (recN p n d) n (by rw [recN_length, hd]) (recN_bytes p n hx)
  rw [rP_rec p n d hp, rD_rec p n d hd] at h
  exact h.1 rfl

theorem set_bytes {xs : List Nat} (hx : ∀ x ∈ xs, x < 256) (q c : Nat) (hc : c < 256) : ∀ x ∈ xs.set q c, x < 256 := by
  intro x h
  rcases List.mem_or_eq_of_mem_set h with h | rfl
  · exact hx x h
  · exact hc

theorem getD_set (xs : List Nat) (q c : Nat) (h : q < xs.length) : (xs.set q c).getD q 0 = c := by
  simp [List.getD, h]

theorem flip_no (p n : Nat) (d : List Nat) (hp : p < 4294967296) (hd : d.length = 512) (hx : ∀ x ∈ d, x < 256) (q c : Nat) (hq : q < 640) (hc : c < 256) (hne : c ≠ (recN p n d).getD q 0) : isRec ((recN p n d).set q c) n = false := by
  obtain ⟨X, hX⟩ : ∃ X, X = recN p n d := ⟨_, rfl⟩
  obtain ⟨hz, hs⟩ := rec_self p n d hp hd hx
  have hP := rP_rec p n d hp
  have hD := rD_rec p n d hd
  have hXb : ∀ x ∈ X, x < 256 := by rw [hX]; exact recN_bytes p n hx
  have hXl : X.length = 640 := by rw [hX, recN_length, hd]
  rw [← hX] at hz hs hP hD hne ⊢
  rw [Bool.eq_false_iff]
  intro h
  unfold isRec at h
  simp only [Bool.and_eq_true, decide_eq_true_eq] at h
  have h1 := h.1.1
  have hYl : (X.set q c).length = 640 := by simp [hXl]
  have hYb := set_bytes hXb q c hc
  rw [List.take_of_length_le (by omega)] at h1
  obtain ⟨h2, h3⟩ := (rec_whole (X.set q c) n hYl hYb).1 h1
  have p4 : ∀ Z : List Nat, rP Z = psum (Z.take 4) 4 false 4 := fun Z => (psum_take Z 4 4 false 4 (by omega)).symm
  have s4 : ∀ Z : List Nat, psum Z 4 false 4 = psum (Z.take 4) 4 false 4 := fun Z => (psum_take Z 4 4 false 4 (by omega)).symm
  rcases (show q < 4 ∨ (4 ≤ q ∧ q < 8) ∨ (8 ≤ q ∧ q < 128) ∨ 128 ≤ q by omega) with a | ⟨a, b⟩ | ⟨a, b⟩ | a
  · have e1 : (X.set q c).drop 4 = X.drop 4 := List.drop_set_of_lt (by omega)
    have e2 : rD (X.set q c) = d := by rw [← hD]; unfold rD; rw [List.drop_set_of_lt (by omega)]
    rw [e1, hs, e2] at h3
    unfold chkN rec12 at h3
    have e3 : putN (rP (X.set q c)) 4 false = (X.take 4).set q c := by
      unfold rP
      rw [put_psum4 _ hYb (by omega), List.take_set]
    have e4 : putN p 4 false = X.take 4 := by
      rw [← hP]; unfold rP
      exact put_psum4 _ hXb (by omega)
    rw [e3, e4] at h3
    have l4 : (X.take 4).length = 4 := by simp; omega
    have e5 : (X.take 4).set q c ++ putN n 8 false ++ d = (X.take 4 ++ putN n 8 false ++ d).set q c := by
      rw [List.set_append_left _ _ (by simp [l4]; omega), List.set_append_left _ _ (by omega)]
    rw [e5] at h3
    refine sum_set (app_bytes (app_bytes (take_bytes hXb 4) (putN_bytes _ _ _)) hx) q c (by simp [l4]; omega) hc ?_ h3.symm
    have : (X.take 4 ++ putN n 8 false ++ d).getD q 0 = X.getD q 0 := by
      simp only [List.getD]
      rw [List.append_assoc, List.getElem?_append_left (by omega), List.getElem?_take, if_pos a]
    rw [this]
    exact hne
  · have e1 : rP (X.set q c) = p := by rw [p4, List.take_set_of_le (by omega), ← p4]; exact hP
    have e2 : rD (X.set q c) = d := by rw [← hD]; unfold rD; rw [List.drop_set_of_lt (by omega)]
    rw [e1, e2, ← hs] at h3
    have h5 := put_psum4 _ (drop_bytes hYb 4) (by simp; omega)
    have h6 := put_psum4 _ (drop_bytes hXb 4) (by simp; omega)
    rw [h3, h6] at h5
    apply hne
    have h7 := congrArg (fun l : List Nat => l.getD (q - 4) 0) h5
    simp only [List.getD, List.getElem?_take, show q - 4 < 4 by omega, if_true, List.getElem?_drop, show 4 + (q - 4) = q by omega] at h7
    simp only [List.getElem?_set, if_true, show q < X.length by omega] at h7
    simpa [List.getD] using h7.symm
  · apply hne
    have h7 := congrArg (fun l : List Nat => l.getD (q - 8) 0) (h2.trans hz.symm)
    simp only [List.getD, List.getElem?_take, show q - 8 < 120 by omega, if_true, List.getElem?_drop, show 8 + (q - 8) = q by omega] at h7
    simp only [List.getElem?_set, if_true, show q < X.length by omega] at h7
    simpa [List.getD] using h7
  · have e1 : rP (X.set q c) = p := by rw [p4, List.take_set_of_le (by omega), ← p4]; exact hP
    have e2 : psum ((X.set q c).drop 4) 4 false 4 = chkN p n d := by
      rw [← hs, s4, s4 (X.drop 4), List.drop_set, if_neg (by omega), List.take_set_of_le (by omega)]
    have e3 : rD (X.set q c) = d.set (q - 128) c := by
      rw [← hD]; unfold rD
      rw [List.drop_set, if_neg (by omega), List.take_set]
    rw [e1, e2, e3] at h3
    unfold chkN at h3
    have e5 : rec12 p n ++ d.set (q - 128) c = (rec12 p n ++ d).set (12 + (q - 128)) c := by
      rw [List.set_append_right _ _ (by rw [rec12_length]; omega), rec12_length, show 12 + (q - 128) - 12 = q - 128 by omega]
    rw [e5] at h3
    refine sum_set (app_bytes (rec12_bytes _ _) hx) _ c (by simp [rec12_length]; omega) hc ?_ h3.symm
    have : (rec12 p n ++ d).getD (12 + (q - 128)) 0 = X.getD q 0 := by
      simp only [List.getD]
      rw [List.getElem?_append_right (by rw [rec12_length]; omega), rec12_length, ← hD]
      unfold rD
      rw [List.getElem?_take, if_pos (by omega), List.getElem?_drop, show 128 + (12 + (q - 128) - 12) = q by omega]
    rw [this]
    exact hne

theorem pow_bytes : ∀ t : Fin 64, ∀ j : Fin 8, 2 ^ t.val / 2 ^ (8 * j.val) % 256 = if t.val / 8 = j.val then 2 ^ (t.val % 8) else 0 := by decide +kernel

theorem byte_xor (n m j : Nat) : (n ^^^ m) / 2 ^ (8 * j) % 256 = (n / 2 ^ (8 * j) % 256) ^^^ (m / 2 ^ (8 * j) % 256) := by
  rw [← Nat.shiftRight_eq_div_pow, ← Nat.shiftRight_eq_div_pow, ← Nat.shiftRight_eq_div_pow, Nat.shiftRight_xor_distrib]
  exact Nat.xor_mod_two_pow (n := 8)

theorem put8_list (n : Nat) : putN n 8 false = [n / 2 ^ (8 * 7) % 256, n / 2 ^ (8 * 6) % 256, n / 2 ^ (8 * 5) % 256, n / 2 ^ (8 * 4) % 256, n / 2 ^ (8 * 3) % 256, n / 2 ^ (8 * 2) % 256, n / 2 ^ (8 * 1) % 256, n / 2 ^ (8 * 0) % 256] := rfl

theorem put_turn (n t : Nat) (ht : t < 64) : ∃ i c, i < 8 ∧ c < 256 ∧ c ≠ (putN n 8 false).getD i 0 ∧ putN (n ^^^ 2 ^ t) 8 false = (putN n 8 false).set i c := by
  have hb := fun j hj => pow_bytes ⟨t, ht⟩ ⟨j, hj⟩
  simp only at hb
  have hr : t % 8 < 8 := by omega
  have hp : 2 ^ (t % 8) < 256 := Nat.lt_of_lt_of_le (Nat.pow_lt_pow_right (by omega) hr) (by decide)
  have hp0 : 2 ^ (t % 8) ≠ 0 := Nat.pos_iff_ne_zero.1 (Nat.pow_pos (by omega))
  generalize 2 ^ (t % 8) = P at *
  have ne : ∀ a : Nat, a ^^^ P ≠ a := fun a e => hp0 (by
    have h2 := congrArg (fun n => a ^^^ n) e
    simp only [xor_cancel, Nat.xor_self] at h2
    exact h2)
  have lt : ∀ a : Nat, a % 256 ^^^ P < 256 := fun a => Nat.xor_lt_two_pow (n := 8) (by omega) hp
  rw [put8_list, put8_list]
  have e := fun j hj => (byte_xor n (2 ^ t) j).trans (by rw [hb j hj])
  rw [e 0 (by omega), e 1 (by omega), e 2 (by omega), e 3 (by omega), e 4 (by omega), e 5 (by omega), e 6 (by omega), e 7 (by omega)]
  have hq : t / 8 = 0 ∨ t / 8 = 1 ∨ t / 8 = 2 ∨ t / 8 = 3 ∨ t / 8 = 4 ∨ t / 8 = 5 ∨ t / 8 = 6 ∨ t / 8 = 7 := by omega
  rcases hq with h | h | h | h | h | h | h | h <;> rw [h]
  · exact ⟨7, n / 2 ^ (8 * 0) % 256 ^^^ P, by omega, lt _, ne _, by simp⟩
  · exact ⟨6, n / 2 ^ (8 * 1) % 256 ^^^ P, by omega, lt _, ne _, by simp⟩
  · exact ⟨5, n / 2 ^ (8 * 2) % 256 ^^^ P, by omega, lt _, ne _, by simp⟩
  · exact ⟨4, n / 2 ^ (8 * 3) % 256 ^^^ P, by omega, lt _, ne _, by simp⟩
  · exact ⟨3, n / 2 ^ (8 * 4) % 256 ^^^ P, by omega, lt _, ne _, by simp⟩
  · exact ⟨2, n / 2 ^ (8 * 5) % 256 ^^^ P, by omega, lt _, ne _, by simp⟩
  · exact ⟨1, n / 2 ^ (8 * 6) % 256 ^^^ P, by omega, lt _, ne _, by simp⟩
  · exact ⟨0, n / 2 ^ (8 * 7) % 256 ^^^ P, by omega, lt _, ne _, by simp⟩

theorem nonce_no (p n t : Nat) (d : List Nat) (hp : p < 4294967296) (hd : d.length = 512) (hx : ∀ x ∈ d, x < 256) (ht : t < 64) : isRec (recN p n d) (n ^^^ 2 ^ t) = false := by
  obtain ⟨hz, hs⟩ := rec_self p n d hp hd hx
  rw [Bool.eq_false_iff]
  intro h
  unfold isRec at h
  simp only [Bool.and_eq_true, decide_eq_true_eq] at h
  have h1 := h.1.1
  have hl : (recN p n d).length = 640 := by rw [recN_length, hd]
  rw [List.take_of_length_le (by omega)] at h1
  obtain ⟨_, h3⟩ := (rec_whole (recN p n d) (n ^^^ 2 ^ t) hl (recN_bytes p n hx)).1 h1
  rw [rP_rec p n d hp, rD_rec p n d hd, hs] at h3
  obtain ⟨i, c, hi, hc, hne, he⟩ := put_turn n t ht
  unfold chkN rec12 at h3
  rw [he] at h3
  have e5 : putN p 4 false ++ (putN n 8 false).set i c ++ d = (putN p 4 false ++ putN n 8 false ++ d).set (4 + i) c := by
    rw [List.set_append_left _ _ (by simp [putN_length]; omega), List.set_append_right _ _ (by rw [putN_length]; omega), putN_length]
    congr 3
    omega
  rw [e5] at h3
  refine sum_set (app_bytes (app_bytes (putN_bytes _ _ _) (putN_bytes _ _ _)) hx) _ c (by simp [putN_length]; omega) hc ?_ h3.symm
  have : (putN p 4 false ++ putN n 8 false ++ d).getD (4 + i) 0 = (putN n 8 false).getD i 0 := by
    simp only [List.getD]
    rw [List.append_assoc, List.getElem?_append_right (by rw [putN_length]; omega), putN_length, List.getElem?_append_left (by rw [putN_length]; omega)]
    congr 2
    omega
  rw [this]
  exact hne

end Go.Proofs.YtndlogjmnbgegaaDoor
