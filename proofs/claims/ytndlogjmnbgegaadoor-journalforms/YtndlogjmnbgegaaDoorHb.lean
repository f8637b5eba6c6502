/- What Bytes returns; no statement of the seat is proved here. -/
import Derived.Test.YtndlogjmnbgegaaDoorHa
import Derived.Test.YtndlogjmnbgegaaDoorBe
namespace Go.Proofs.YtndlogjmnbgegaaDoor
open Go.RowKit

/-- The bytes of the records from i on, k of them. -/
def recsN (P : Nat → Int) (D : Nat → List Nat) (n : Nat) : Nat → Nat → List Nat
  | _, 0 => []
  | i, k + 1 => recN (P i).toNat n (D i) ++ recsN P D n (i + 1) k

def bytesN (c pg : Int) (n : Nat) (wh : Bool) (L : Nat) (P : Nat → Int) (D : Nat → List Nat) : List Nat := headN c.toNat pg.toNat n wh ++ recsN P D n 0 L

theorem recsN_bytes (P : Nat → Int) (D : Nat → List Nat) (n : Nat) (k : Nat) : ∀ i, (∀ j, j < i + k → ∀ x ∈ D j, x < 256) → ∀ x ∈ recsN P D n i k, x < 256 := by
  induction k with
  | zero => intro i _ x h; cases h
  | succ k ih =>
    intro i hd
    exact app_bytes (recN_bytes _ _ (hd i (by omega))) (ih (i + 1) (fun j hj => hd j (by omega)))

theorem bytesN_bytes (c pg : Int) (n : Nat) (wh : Bool) (L : Nat) (P : Nat → Int) (D : Nat → List Nat) (hd : ∀ j, j < L → ∀ x ∈ D j, x < 256) : ∀ x ∈ bytesN c pg n wh L P D, x < 256 :=
  app_bytes (headN_bytes _ _ _ _) (recsN_bytes P D n L 0 (by simpa using hd))

theorem goodFrom_all {P : Nat → Int} {D : Nat → List Nat} {pg : Int} (k : Nat) : ∀ {last i}, goodFrom P D pg last i k = true → ∀ j, i ≤ j → j < i + k → (1 ≤ P j ∧ P j ≤ 4000) ∧ (D j).length = 512 := by
  induction k with
  | zero => intro last i _ j h1 h2; omega
  | succ k ih =>
    intro last i h j h1 h2
    simp only [goodFrom, Bool.and_eq_true] at h
    rcases Nat.eq_or_lt_of_le h1 with rfl | h3
    · exact (rgood_iff _ _).1 h.1.1.1
    · exact ih h.2 j (by omega) (by omega)

theorem goodL_all {c pg : Int} {L : Nat} {P : Nat → Int} {D : Nat → List Nat} (h : goodL c pg L P D = true) : ((0 ≤ c ∧ c ≤ 4000) ∧ 0 ≤ pg ∧ pg ≤ 4000) ∧ (L : Int) = c ∧ ∀ j, j < L → (1 ≤ P j ∧ P j ≤ 4000) ∧ (D j).length = 512 := by
  simp only [goodL, Bool.and_eq_true, decide_eq_true_eq] at h
  exact ⟨(hgood_iff _ _).1 h.1.1, h.1.2, fun j hj => goodFrom_all L h.2 j (by omega) (by omega)⟩

theorem recsN_length {P : Nat → Int} {D : Nat → List Nat} {n : Nat} (k : Nat) : ∀ i, (∀ j, i ≤ j → j < i + k → (D j).length = 512) → (recsN P D n i k).length = k * 640 := by
  induction k with
  | zero => intro i _; rfl
  | succ k ih =>
    intro i h
    simp only [recsN, List.length_append, recN_length, h i (by omega) (by omega)]
    rw [ih (i + 1) (fun j h1 h2 => h j (by omega) (by omega))]
    omega

theorem recsN_step {P : Nat → Int} {D : Nat → List Nat} {n i L : Nat} (hi : i < L) {ys T : List Nat} (e : ys ++ recsN P D n i (L - i) = T) : (ys ++ recN (P i).toNat n (D i)) ++ recsN P D n (i + 1) (L - (i + 1)) = T := by
  rw [← e, show L - i = (L - (i + 1)) + 1 by omega]
  simp [recsN]

set_option maxHeartbeats 1000000 in
theorem bytes_no (c pg : Int) (m : Nat) (ao : Option Addr) (L cap : Nat) (P : Nat → Int) (D : Nat → List Nat) (wh : Bool) (w : World) (h : Recs w ao L P D) (hL : L ≤ 100000) (hg : goodL c pg L P D = false) :
    Calls Tryd.prog 15 #[.agg #[.int .i64 c, .int .i64 pg, .int .u64 (m : Int)], .slice ao L cap, .bool wh] w fun e w' => e = .returned (.slice none 0 0) ∧ Below w.heap.size w w' := by
  have cg := hid (good_any c pg m ao L cap P D _ (h.keep (Below.alloc (Below.refl _ _) (Nat.le_refl _) (.cells #[.int .i64 c, .int .i64 pg, .int .u64 (m : Int)] 24))) hL)
  rw [hg] at cg
  clear h hg
  go_enter Tryd.func15, Tryd.ntmps15
  go_wp2_with (go_at_call 17; refine cg.out.mono ?_; rintro e w1 ⟨rfl, hb1⟩)
  go_ret
  exact ⟨rfl, gt (Below.alloc (Below.refl _ _) (Nat.le_refl _) _) hb1⟩

set_option maxHeartbeats 4000000 in
theorem bytes_yes (c pg : Int) (m : Nat) (ao : Option Addr) (L cap : Nat) (P : Nat → Int) (D : Nat → List Nat) (wh : Bool) (w : World) (h : Recs w ao L P D) (hd : ∀ j, j < L → ∀ x ∈ D j, x < 256) (hg : goodL c pg L P D = true) (hT : Tab w) :
    Calls Tryd.prog 15 #[.agg #[.int .i64 c, .int .i64 pg, .int .u64 (m : Int)], .slice ao L cap, .bool wh] w fun e w' => ∃ v, e = .returned v ∧ w'.ownsRow w.heap.size 5 1 v (128 + L * 640) (bs (bytesN c pg m wh L P D)) ∧ Below w.heap.size w w' := by
  obtain ⟨hcp, hLc, hall⟩ := goodL_all hg
  have hL : L ≤ 4000 := by omega
  have A0 : Below w.heap.size w (w.alloc (.cells #[.int .i64 c, .int .i64 pg, .int .u64 (m : Int)] 24)) := Below.alloc (Below.refl _ _) (Nat.le_refl _) _
  have cg := hid (good_any c pg m ao L cap P D _ (h.keep A0) (by omega))
  rw [hg] at cg
  have q0 := hid (HB.new 24 w c pg m)
  obtain ⟨c', rfl⟩ : ∃ k : Nat, c = (k : Int) := ⟨c.toNat, by omega⟩
  obtain ⟨p', rfl⟩ : ∃ k : Nat, pg = (k : Int) := ⟨pg.toNat, by omega⟩
  obtain ⟨T, hTv⟩ : ∃ T, T = bytesN c' p' m wh L P D := ⟨_, rfl⟩
  have hT0 : Hid (headN c' p' m wh ++ recsN P D m 0 L = T) := hid (by rw [hTv]; rfl)
  rw [← hTv]
  have hc4 : c' ≤ 4000 := by omega
  have hp4 : p' ≤ 4000 := by omega
  have hall' := hid hall
  have h' := hid h
  have hd' := hid hd
  have hT' := hid hT
  have hA0 := hid A0
  obtain ⟨K, hw640, hK⟩ : ∃ K : Nat, (L : Int) * 640 = (K : Int) ∧ K = L * 640 := ⟨L * 640, by omega, rfl⟩
  have hK' := hid hK
  have hKb : K ≤ 2560000 := by omega
  clear hK
  clear h hd hT hall hTv A0 hg hcp hLc
  obtain ⟨B, hB⟩ : ∃ B, B = w.heap.size + 1 := ⟨_, rfl⟩
  have hB' := hid hB
  clear hB
  go_enter Tryd.func15, Tryd.ntmps15
  go_wp2_with (first
    | (go_at_call 17; refine cg.out.mono ?_; rintro e w1 ⟨rfl, hb1⟩; have Q1 := hid (q0.out.keep hb1); have B1 := hid (gt hA0.out hb1); clear hb1; obtain ⟨a0, a1, a2, _, _, _⟩ := Q1.out.cells)
    | (go_at_call 13; refine (head_yes c' p' m wh _ hc4 hp4 (hT'.out.keep B1.out)).mono ?_; rintro e w2 ⟨g2, rfl, ho2, hb2⟩; have hBs : B ≤ w1.heap.size := (by have := Q1.out.lt; have := hB'.out; omega); have hBs2 : B ≤ w2.heap.size := Nat.le_trans hBs hb2.size; have Q2 := hid (Q1.out.keep hb2); have B2 := hid (gt B1.out hb2); have O2 := hid (own_base ho2 hBs); clear hb2 ho2 a0 a1 a2)
    | (go_at_call 38; refine (grow_any B g2 128 K _ _ O2.out (by omega) hBs2).mono ?_; rintro e w3 ⟨v3, rfl, ho3, hb3⟩; have Q3 := hid (Q2.out.under hb3 (by have := hB'.out; omega)); have B3 := hid (B2.out.trans (hb3.mono (by have := hB'.out; omega))); have O3 := hid ho3; have hBs3 : B ≤ w3.heap.size := Nat.le_trans hBs2 hb3.size; clear hb3 ho3))
  go_loopw [7, 23] (fun o cc W => ∃ (i : Nat) (ys : List Nat), i ≤ L ∧ cc = .int .i64 (i : Int) ∧ Hid (ys ++ recsN P D m i (L - i) = T) ∧ Hid (W.ownsRow B 5 1 o (128 + i * 640) (bs ys)) ∧ Hid (HB 24 W w.heap.size c' p' m) ∧ Hid (Below w.heap.size w W)) (fun _ cc _ => L - (intOf cc).toNat)
  case atStart => exact ⟨0, _, by omega, rfl, hT0, O3, Q3, B3⟩
  case round =>
    obtain ⟨i, ys, hi, rfl, E, O, Q, BW⟩ := hrel
    clear Q1 Q2 Q3 O2 O3 B1 B2 B3
    by_cases hiL : i < L
    · obtain ⟨b0, off, rfl, hc⟩ := h'.out (by omega)
      obtain ⟨a, n, c1, k0, k1, rd⟩ := hc i hiL
      obtain ⟨hp, hdl⟩ := hall'.out i hiL
      obtain ⟨p, hpv⟩ : ∃ p : Nat, P i = (p : Int) := ⟨(P i).toNat, by omega⟩
      have hn : n = 512 := by rw [← rd.1]; exact hdl
      subst hn
      have k0' := keep_old BW.out k0
      have k1' := keep_old BW.out k1
      rw [hpv] at k0' hp
      have rd' := hid (rd.keep BW.out)
      have hp1 : 1 ≤ p := by omega
      have hp2 : p ≤ 4000 := by omega
      have E2 := hid (recsN_step hiL E.out)
      have hpv' := hid hpv
      obtain ⟨a0, a1, a2, _, _, _⟩ := Q.out.cells
      have hlt := Q.out.lt
      have hne : ¬ w.heap.size = wr.heap.size := by omega
      have hBr : B ≤ wr.heap.size := by have := hB'.out; omega
      have hBr2 : w.heap.size ≤ B := by have := hB'.out; omega
      clear k0 k1 rd hc hpv hp hdl E
      go_wp2_with (first
        | (go_at_call 10; refine (rec_yes p m a c1 _ _ (hT'.out.keep (Below.alloc BW.out BW.out.size _)) (rd'.out.keep (Below.alloc (Below.refl _ _) (Nat.le_refl _) _)) (hd'.out i hiL) hp1 hp2).mono ?_; rintro e w5 ⟨g5, rfl, ho5, hb5⟩; have Q5 := hid (Q.out.keep2 hb5); have B5 := hid (gt2 BW.out hb5); have R5 := hid (rd_own ho5); have O5 := hid (row_later (O.out.alloc _) hb5); have hBr5 : B ≤ w5.heap.size := (by have := hb5.size; simp at this; omega); clear hb5 ho5 a0 a1 a2)
        | ((with_reducible refine here_op 32 ?_); refine wpList_append_rd rfl (.tmp 27) (.tmp 31) rfl B _ (128 + i * 640) ys rfl O5.out (some ⟨g5, 0, none⟩) 640 640 _ rfl R5.out (by omega) hBr5 ?_; intro v6 w6 ho6 hb6; have Q6 := hid (Q5.out.under hb6 (by have := hB'.out; omega)); have B6 := hid (B5.out.trans (hb6.mono hBr2)); have O6 := hid ho6; clear ho6 hb6))
      refine ⟨⟨i + 1, ys ++ recN p m (D i), by omega, by go_num, hid ?_, hid ?_, Q6, B6⟩, by simp [intOf]; omega⟩
      · have := E2.out
        rw [hpv'.out, Int.toNat_natCast] at this
        exact this
      · rw [show 128 + (i + 1) * 640 = 128 + i * 640 + 640 by omega]
        exact O6.out
    · obtain rfl : i = L := by omega
      have hy : ys = T := by rw [← E.out, Nat.sub_self]; simp [recsN]
      subst hy
      go_wp2
      go_ret
      exact ⟨_, rfl, own_base O.out (by have := hB'.out; omega), BW.out⟩

end Go.Proofs.YtndlogjmnbgegaaDoor
