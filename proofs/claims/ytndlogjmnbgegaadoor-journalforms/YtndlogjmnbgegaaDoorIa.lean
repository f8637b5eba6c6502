/- A journal comes back from its bytes: the arithmetic of it; no statement of the seat is proved here. -/
import Derived.Test.YtndlogjmnbgegaaDoorHe
import Derived.Test.YtndlogjmnbgegaaDoorGa
namespace Go.Proofs.YtndlogjmnbgegaaDoor
open Go.RowKit

theorem goodFrom_congr {P P' : Nat → Int} {D D' : Nat → List Nat} {pg : Int} (k : Nat) : ∀ {last i}, (∀ j, i ≤ j → j < i + k → P j = P' j ∧ D j = D' j) → goodFrom P D pg last i k = goodFrom P' D' pg last i k := by
  induction k with
  | zero => intro last i _; rfl
  | succ k ih =>
    intro last i h
    obtain ⟨h1, h2⟩ := h i (by omega) (by omega)
    simp only [goodFrom]
    rw [h1, h2, ih (fun j a b => h j (by omega) (by omega))]

theorem Recs.congr {W : World} {ao : Option Addr} {L : Nat} {P P' : Nat → Int} {D D' : Nat → List Nat} (h : Recs W ao L P D) (he : ∀ j, j < L → P j = P' j ∧ D j = D' j) : Recs W ao L P' D' := by
  intro hL
  obtain ⟨b, off, e, hc⟩ := h hL
  refine ⟨b, off, e, fun i hi => ?_⟩
  obtain ⟨a, n, c, h0, h1, h2⟩ := hc i hi
  obtain ⟨e1, e2⟩ := he i hi
  rw [e1] at h0
  rw [e2] at h2
  exact ⟨a, n, c, h0, h1, h2⟩

theorem recs_drop {P : Nat → Int} {D : Nat → List Nat} {n : Nat} (more : List Nat) (k : Nat) : ∀ i L, i + k = L → (∀ j, j < L → (D j).length = 512) → (recsN P D n 0 L ++ more).drop (i * 640) = recsN P D n i k ++ more := by
  intro i
  induction i generalizing k with
  | zero => intro L h _; rw [show k = L by omega]; simp
  | succ i ih =>
    intro L h hd
    have := ih (k + 1) L (by omega) hd
    rw [show (i + 1) * 640 = i * 640 + 640 by omega, ← cut3, this]
    simp only [recsN, List.append_assoc]
    rw [List.drop_left' (by rw [recN_length, hd i (by omega)])]

theorem isRec_app (p n : Nat) (d r : List Nat) (hp1 : 1 ≤ p) (hp2 : p ≤ 4000) (hd : d.length = 512) : isRec (recN p n d ++ r) n = true ∧ rP (recN p n d ++ r) = p ∧ rD (recN p n d ++ r) = d := by
  have e : (recN p n d ++ r).take 640 = recN p n d := List.take_left' (by rw [recN_length, hd])
  have h1 : rP (recN p n d ++ r) = p := by rw [← rP_take, e]; exact rP_rec p n d (by omega)
  have h2 : rD (recN p n d ++ r) = d := by rw [← rD_take, e]; exact rD_rec p n d hd
  refine ⟨?_, h1, h2⟩
  unfold isRec
  rw [h1, h2, e]
  simp [hp1, hp2]

/-- What stands where the record i begins. -/
theorem at_rec {P : Nat → Int} {D : Nat → List Nat} {c pg : Int} {n L : Nat} (wh : Bool) (more : List Nat) (hall : ∀ j, j < L → (1 ≤ P j ∧ P j ≤ 4000) ∧ (D j).length = 512) (i : Nat) (hi : i < L) :
    ∃ r, (bytesN c pg n wh L P D ++ more).drop (128 + i * 640) = recN (P i).toNat n (D i) ++ r := by
  unfold bytesN
  rw [List.append_assoc, ← cut3, List.drop_left' (headN_length _ _ _ _), recs_drop more (L - i) i L (by omega) (fun j hj => (hall j hj).2)]
  rw [show L - i = (L - (i + 1)) + 1 by omega]
  simp only [recsN, List.append_assoc]
  exact ⟨_, rfl⟩

theorem back_recs {P : Nat → Int} {D : Nat → List Nat} {c pg : Int} {n L : Nat} (wh : Bool) (more : List Nat) (hall : ∀ j, j < L → (1 ≤ P j ∧ P j ≤ 4000) ∧ (D j).length = 512) :
    ∀ j, j < L → isRec ((bytesN c pg n wh L P D ++ more).drop (128 + j * 640)) n = true ∧ pP (bytesN c pg n wh L P D ++ more) j = P j ∧ pD (bytesN c pg n wh L P D ++ more) j = D j := by
  intro j hj
  obtain ⟨r, hr⟩ := at_rec (c := c) (pg := pg) (n := n) wh more hall j hj
  obtain ⟨⟨h1, h2⟩, h3⟩ := hall j hj
  obtain ⟨e1, e2, e3⟩ := isRec_app (P j).toNat n (D j) r (by omega) (by omega) h3
  unfold pP pD
  rw [hr]
  exact ⟨e1, by rw [e2]; omega, e3⟩

theorem allR_of {xs : List Nat} {n : Nat} (k : Nat) : ∀ i, (∀ j, i ≤ j → j < i + k → isRec (xs.drop (128 + j * 640)) n = true) → allR xs n i k = true := by
  induction k with
  | zero => intro i _; rfl
  | succ k ih =>
    intro i h
    simp only [allR]
    rw [h i (by omega) (by omega), ih (i + 1) (fun j a b => h j (by omega) (by omega))]
    rfl

theorem back_J {P : Nat → Int} {D : Nat → List Nat} {c pg : Int} {n L : Nat} (more : List Nat) (hn : n < 18446744073709551616) (hg : goodL c pg L P D = true) :
    rdJ (bytesN c pg n true L P D ++ more) = ((c.toNat, pg.toNat, n), L, 0) := by
  obtain ⟨hcp, hLc, hall⟩ := goodL_all hg
  have hrec := back_recs (c := c) (pg := pg) (n := n) true more hall
  obtain ⟨X, hX⟩ : ∃ X, X = bytesN c pg n true L P D ++ more := ⟨_, rfl⟩
  have hX2 : X = headN c.toNat pg.toNat n true ++ (recsN P D n 0 L ++ more) := by rw [hX]; unfold bytesN; rw [List.append_assoc]
  obtain ⟨i1, i2, i3, i4⟩ := isHead_app c.toNat pg.toNat n (by omega) (by omega) hn (recsN P D n 0 L ++ more)
  rw [← hX2] at i1 i2 i3 i4
  rw [← hX] at hrec ⊢
  have hlen : 128 + L * 640 ≤ X.length := by
    rw [hX2, List.length_append, List.length_append, headN_length, recsN_length L 0 (fun j a b => (hall j (by omega)).2)]
    omega
  have hH : (rdH X).2 = 0 := by
    unfold rdH
    rw [if_neg (by omega), if_pos i1]
  have hLn : c.toNat = L := by omega
  unfold rdJ
  rw [if_neg (by simp [hH]), i2, i3, i4, hLn, if_neg (by omega)]
  have h1 : allR X n 0 L = true := allR_of L 0 (fun j _ b => (hrec j (by omega)).1)
  have h2 : goodL ((L : Nat) : Int) ((pg.toNat : Nat) : Int) L (pP X) (pD X) = true := by
    rw [show ((L : Nat) : Int) = c by omega, show ((pg.toNat : Nat) : Int) = pg by omega, ← hg]
    unfold goodL
    rw [goodFrom_congr L (fun j _ b => (hrec j (by omega)).2)]
  rw [h1, h2]
  rfl

theorem back_cold (c pg : Int) (n L : Nat) (P : Nat → Int) (D : Nat → List Nat) : hotN (bytesN c pg n false L P D) = false := by
  apply not_hot
  unfold bytesN
  simp only [List.getD]
  rw [List.getElem?_append_left (by rw [headN_length]; omega)]
  exact head_last _ _ _ _

end Go.Proofs.YtndlogjmnbgegaaDoor
