/- What the document's own Bytes returns, and all forms in one form each; no statement of the seat is proved here. -/
import Derived.Test.YtndlogjmnbgegaaDoorJh
namespace Go.Proofs.YtndlogjmnbgegaaDoor
open Go.RowKit

set_option maxHeartbeats 1000000 in
theorem rbytes_no (c pg : Int) (m : Nat) (ao : Option Addr) (L cap : Nat) (P : Nat → Int) (D : Nat → List Nat) (wh : Bool) (w : World) (h : Recs w ao L P D) (hL : L ≤ 100000) (hg : goodL c pg L P D = false) :
    Calls Tryd.prog 16 #[.agg #[.int .i64 c, .int .i64 pg, .int .u64 (m : Int)], .slice ao L cap, .bool wh] w fun e w' => e = .returned (.slice none 0 0) ∧ Below w.heap.size w w' := by
  have cg := hid (rgoodL_any c pg m ao L cap P D _ (h.keep (Below.alloc (Below.refl _ _) (Nat.le_refl _) (.cells #[.int .i64 c, .int .i64 pg, .int .u64 (m : Int)] 29))) hL)
  rw [hg] at cg
  clear h hg
  go_enter Tryd.func16, Tryd.ntmps16
  go_wp2_with (go_at_call 18; refine cg.out.mono ?_; rintro e w1 ⟨rfl, hb1⟩)
  go_ret
  exact ⟨rfl, gt (Below.alloc (Below.refl _ _) (Nat.le_refl _) _) hb1⟩

set_option maxHeartbeats 4000000 in
theorem rbytes_yes (c pg : Int) (m : Nat) (ao : Option Addr) (L cap : Nat) (P : Nat → Int) (D : Nat → List Nat) (wh : Bool) (w : World) (h : Recs w ao L P D) (hd : ∀ j, j < L → ∀ x ∈ D j, x < 256) (hg : goodL c pg L P D = true) :
    Calls Tryd.prog 16 #[.agg #[.int .i64 c, .int .i64 pg, .int .u64 (m : Int)], .slice ao L cap, .bool wh] w fun e w' => ∃ v, e = .returned v ∧ w'.ownsRow w.heap.size 5 1 v (128 + L * 640) (bs (bytesN c pg m wh L P D)) ∧ Below w.heap.size w w' := by
  obtain ⟨hcp, hLc, hall⟩ := goodL_all hg
  have hL : L ≤ 4000 := by omega
  have A0 : Below w.heap.size w (w.alloc (.cells #[.int .i64 c, .int .i64 pg, .int .u64 (m : Int)] 29)) := Below.alloc (Below.refl _ _) (Nat.le_refl _) _
  have cg := hid (rgoodL_any c pg m ao L cap P D _ (h.keep A0) (by omega))
  rw [hg] at cg
  have q0 := hid (HB.new 29 w c pg m)
  obtain ⟨c', rfl⟩ : ∃ k : Nat, c = (k : Int) := ⟨c.toNat, by omega⟩
  obtain ⟨p', rfl⟩ : ∃ k : Nat, pg = (k : Int) := ⟨pg.toNat, by omega⟩
  obtain ⟨T, hTv⟩ : ∃ T, T = bytesN c' p' m wh L P D := ⟨_, rfl⟩
  have hT0 : Hid (headN c' p' m wh ++ recsN P D m 0 L = T) := hid (by rw [hTv]; rfl)
  rw [← hTv]
  have hc4 : c' ≤ 4000 := by omega
  have hp4 : p' ≤ 4000 := by omega
  have hall' := hid hall
  have h' := hid h
  have hd' := hid hd
  have hA0 := hid A0
  clear h hd hall hTv A0 hg hcp hLc
  obtain ⟨B, hB⟩ : ∃ B, B = w.heap.size + 1 := ⟨_, rfl⟩
  have hB' := hid hB
  clear hB
  go_enter Tryd.func16, Tryd.ntmps16
  go_wp2_with (first
    | (go_at_call 18; refine cg.out.mono ?_; rintro e w1 ⟨rfl, hb1⟩; have Q1 := hid (q0.out.keep hb1); have B1 := hid (gt hA0.out hb1); clear hb1; obtain ⟨a0, a1, a2, _, _, _⟩ := Q1.out.cells)
    | (go_at_call 14; refine (rhb_yes c' p' m wh _ hc4 hp4).mono ?_; rintro e w2 ⟨⟨ao2, cap2, rfl, ho2, _⟩, hb2⟩; have hBs : B ≤ w1.heap.size := (by have := Q1.out.lt; have := hB'.out; omega); have Q2 := hid (Q1.out.keep hb2); have B2 := hid (gt B1.out hb2); have O2 := hid (own_base ho2 hBs); clear hb2 ho2 a0 a1 a2))
  go_loopw [7, 19] (fun o cc W => ∃ (i : Nat) (ys : List Nat), i ≤ L ∧ cc = .int .i64 (i : Int) ∧ Hid (ys ++ recsN P D m i (L - i) = T) ∧ Hid (W.ownsRow B 5 1 o (128 + i * 640) (bs ys)) ∧ Hid (HB 29 W w.heap.size c' p' m) ∧ Hid (Below w.heap.size w W)) (fun _ cc _ => L - (intOf cc).toNat)
  case atStart => exact ⟨0, _, by omega, rfl, hT0, O2, Q2, B2⟩
  case round =>
    obtain ⟨i, ys, hi, rfl, E, O, Q, BW⟩ := hrel
    clear Q1 Q2 O2 B1 B2
    by_cases hiL : i < L
    · obtain ⟨b0, off, rfl, hc⟩ := h'.out (by omega)
      obtain ⟨a, n, c1, k0, k1, rd⟩ := hc i hiL
      obtain ⟨hp, hdl⟩ := hall'.out i hiL
      obtain ⟨p, hpv⟩ : ∃ p : Nat, P i = (p : Int) := ⟨(P i).toNat, by omega⟩
      have hn : n = 512 := by rw [← rd.1]; exact hdl
      subst hn
      have k0' := keep_old BW.out k0
      have k1' := keep_old BW.out k1
      rw [hpv] at k0' hp
      have rd' := hid (rd.keep BW.out)
      have hp1 : 1 ≤ p := by omega
      have hp2 : p ≤ 4000 := by omega
      have E2 := hid (recsN_step hiL E.out)
      have hpv' := hid hpv
      obtain ⟨a0, a1, a2, _, _, _⟩ := Q.out.cells
      have hlt := Q.out.lt
      have hne : ¬ w.heap.size = wr.heap.size := by omega
      have hBr : B ≤ wr.heap.size := by have := hB'.out; omega
      have hBr2 : w.heap.size ≤ B := by have := hB'.out; omega
      clear k0 k1 rd hc hpv hp hdl E
      go_wp2_with (first
        | (go_at_call 11; refine (rrecb_yes p m a c1 _ _ (rd'.out.keep (Below.alloc (Below.refl _ _) (Nat.le_refl _) _)) (hd'.out i hiL) hp1 hp2).mono ?_; rintro e w5 ⟨⟨a5, c5, rfl, _, r5⟩, hb5⟩; have Q5 := hid (Q.out.keep2 hb5); have B5 := hid (gt2 BW.out hb5); have R5 := hid r5; have O5 := hid (row_later (O.out.alloc _) hb5); have hBr5 : B ≤ w5.heap.size := (by have := hb5.size; simp at this; omega); clear hb5 r5 a0 a1 a2)
        | ((with_reducible refine here_op 28 ?_); refine wpList_append_rd rfl (.tmp 23) (.tmp 27) rfl B _ (128 + i * 640) ys rfl O5.out a5 640 c5 _ rfl R5.out (by omega) hBr5 ?_; intro v6 w6 ho6 hb6; have Q6 := hid (Q5.out.under hb6 (by have := hB'.out; omega)); have B6 := hid (B5.out.trans (hb6.mono hBr2)); have O6 := hid ho6; clear ho6 hb6))
      refine ⟨⟨i + 1, ys ++ recN p m (D i), by omega, by go_num, hid ?_, hid ?_, Q6, B6⟩, by simp [intOf]; omega⟩
      · have := E2.out
        rw [hpv'.out, Int.toNat_natCast] at this
        exact this
      · rw [show 128 + (i + 1) * 640 = 128 + i * 640 + 640 by omega]
        exact O6.out
    · obtain rfl : i = L := by omega
      have hy : ys = T := by rw [← E.out, Nat.sub_self]; simp [recsN]
      subst hy
      go_wp2
      go_ret
      exact ⟨_, rfl, own_base O.out (by have := hB'.out; omega), BW.out⟩

/-- What HeadBytes, RecordBytes and Bytes answer, as bytes. -/
def fH (c p : Int) (n : Nat) (wh : Bool) : List Nat := if hgood c p then headN c.toNat p.toNat n wh else []
def fR (p : Int) (n : Nat) (d : List Nat) : List Nat := if rgood p d.length then recN p.toNat n d else []
def fB (c p : Int) (n : Nat) (wh : Bool) (L : Nat) (P : Nat → Int) (D : Nat → List Nat) : List Nat := if goodL c p L P D then bytesN c p n wh L P D else []

/-- A slice that was returned and is these bytes. -/
def Ret (e : Ending) (w w' : World) (xs : List Nat) : Prop := ∃ ao k cap, e = .returned (.slice ao k cap) ∧ Rd w' ao k cap xs ∧ Below w.heap.size w w'

theorem fH_any (c p : Int) (n : Nat) (wh : Bool) (w : World) (hT : Tab w) : Calls Tryd.prog 13 #[.agg #[.int .i64 c, .int .i64 p, .int .u64 (n : Int)], .bool wh] w fun e w' => Ret e w w' (fH c p n wh) := by
  unfold fH
  cases hg : hgood c p with
  | false => exact (head_no c p n wh w hg).mono fun e w' ⟨he, hb⟩ => ⟨none, 0, 0, he, Rd.nil _, hb⟩
  | true =>
    have := (hgood_iff c p).1 hg
    obtain ⟨c, rfl⟩ := Int.eq_ofNat_of_zero_le this.1.1
    obtain ⟨p, rfl⟩ := Int.eq_ofNat_of_zero_le this.2.1
    exact (head_yes c p n wh w (by omega) (by omega) hT).mono fun e w' ⟨g, he, ho, hb⟩ => ⟨_, _, _, he, rd_own ho, hb⟩

theorem rfH_any (c p : Int) (n : Nat) (wh : Bool) (w : World) : Calls Tryd.prog 14 #[.agg #[.int .i64 c, .int .i64 p, .int .u64 (n : Int)], .bool wh] w fun e w' => Ret e w w' (fH c p n wh) := by
  unfold fH
  cases hg : hgood c p with
  | false => exact (rhb_no c p n wh w hg).mono fun e w' ⟨he, hb⟩ => ⟨none, 0, 0, he, Rd.nil _, hb⟩
  | true =>
    have := (hgood_iff c p).1 hg
    obtain ⟨c, rfl⟩ := Int.eq_ofNat_of_zero_le this.1.1
    obtain ⟨p, rfl⟩ := Int.eq_ofNat_of_zero_le this.2.1
    exact (rhb_yes c p n wh w (by omega) (by omega)).mono fun e w' ⟨⟨ao, cap, he, _, hr⟩, hb⟩ => ⟨_, _, _, he, hr, hb⟩

theorem fR_any (p : Int) (n : Nat) (ao : Option Addr) (k cap : Nat) (d : List Nat) (w : World) (hT : Tab w) (h : Rd w ao k cap d) (hd : ∀ x ∈ d, x < 256) :
    Calls Tryd.prog 10 #[.agg #[.int .i64 p, .slice ao k cap], .int .u64 (n : Int)] w fun e w' => Ret e w w' (fR p n d) := by
  unfold fR
  rw [h.1]
  cases hg : rgood p k with
  | false => exact (rec_no p n ao k cap w hg).mono fun e w' ⟨he, hb⟩ => ⟨none, 0, 0, he, Rd.nil _, hb⟩
  | true =>
    have := (rgood_iff p k).1 hg
    obtain ⟨p, rfl⟩ := Int.eq_ofNat_of_zero_le (show 0 ≤ p by omega)
    obtain rfl : k = 512 := this.2
    exact (rec_yes p n ao cap d w hT h hd (by omega) (by omega)).mono fun e w' ⟨g, he, ho, hb⟩ => ⟨_, _, _, he, rd_own ho, hb⟩

theorem rfR_any (p : Int) (n : Nat) (ao : Option Addr) (k cap : Nat) (d : List Nat) (w : World) (h : Rd w ao k cap d) (hd : ∀ x ∈ d, x < 256) :
    Calls Tryd.prog 11 #[.agg #[.int .i64 p, .slice ao k cap], .int .u64 (n : Int)] w fun e w' => Ret e w w' (fR p n d) := by
  unfold fR
  rw [h.1]
  cases hg : rgood p k with
  | false => exact (rrecb_no p n ao k cap w hg).mono fun e w' ⟨he, hb⟩ => ⟨none, 0, 0, he, Rd.nil _, hb⟩
  | true =>
    have := (rgood_iff p k).1 hg
    obtain ⟨p, rfl⟩ := Int.eq_ofNat_of_zero_le (show 0 ≤ p by omega)
    obtain rfl : k = 512 := this.2
    exact (rrecb_yes p n ao cap d w h hd (by omega) (by omega)).mono fun e w' ⟨⟨ao, cap, he, _, hr⟩, hb⟩ => ⟨_, _, _, he, hr, hb⟩

theorem fB_any (c pg : Int) (m : Nat) (ao : Option Addr) (L cap : Nat) (P : Nat → Int) (D : Nat → List Nat) (wh : Bool) (w : World) (h : Recs w ao L P D) (hL : L ≤ 100000) (hd : ∀ j, j < L → ∀ x ∈ D j, x < 256) (hT : Tab w) :
    Calls Tryd.prog 15 #[.agg #[.int .i64 c, .int .i64 pg, .int .u64 (m : Int)], .slice ao L cap, .bool wh] w fun e w' => Ret e w w' (fB c pg m wh L P D) := by
  unfold fB
  cases hg : goodL c pg L P D with
  | false => exact (bytes_no c pg m ao L cap P D wh w h hL hg).mono fun e w' ⟨he, hb⟩ => ⟨none, 0, 0, he, Rd.nil _, hb⟩
  | true =>
    refine (bytes_yes c pg m ao L cap P D wh w h hd hg hT).mono fun e w' ⟨v, he, ho, hb⟩ => ?_
    obtain ⟨ao, cap, rfl, hr⟩ := rd_owned ho
    exact ⟨_, _, _, he, hr, hb⟩

theorem rfB_any (c pg : Int) (m : Nat) (ao : Option Addr) (L cap : Nat) (P : Nat → Int) (D : Nat → List Nat) (wh : Bool) (w : World) (h : Recs w ao L P D) (hL : L ≤ 100000) (hd : ∀ j, j < L → ∀ x ∈ D j, x < 256) :
    Calls Tryd.prog 16 #[.agg #[.int .i64 c, .int .i64 pg, .int .u64 (m : Int)], .slice ao L cap, .bool wh] w fun e w' => Ret e w w' (fB c pg m wh L P D) := by
  unfold fB
  cases hg : goodL c pg L P D with
  | false => exact (rbytes_no c pg m ao L cap P D wh w h hL hg).mono fun e w' ⟨he, hb⟩ => ⟨none, 0, 0, he, Rd.nil _, hb⟩
  | true =>
    refine (rbytes_yes c pg m ao L cap P D wh w h hd hg).mono fun e w' ⟨v, he, ho, hb⟩ => ?_
    obtain ⟨ao, cap, rfl, hr⟩ := rd_owned ho
    exact ⟨_, _, _, he, hr, hb⟩

end Go.Proofs.YtndlogjmnbgegaaDoor
