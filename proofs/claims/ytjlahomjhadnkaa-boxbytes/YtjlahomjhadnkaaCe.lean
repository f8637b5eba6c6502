/- What boxes are as numbers, and the program's Growth; no statement of the seat is proved here. -/
import Derived.Test.YtjlahomjhadnkaaCd
import Derived.Test.YtjlahomjhadnkaaWRd
namespace Go.Proofs.Ytjlahomjhadnkaa
open Go.RowKit Go.Maps Wid

theorem good_no : goodR noR = true := by decide
theorem or_good (r : Rect) : goodR (orR r) = true := by
  unfold orR
  split
  · assumption
  · exact good_no
theorem or_of {r : Rect} (h : goodR r = true) : orR r = r := by unfold orR; rw [if_pos h]
theorem or_or (r : Rect) : orR (orR r) = orR r := or_of (or_good r)
theorem or_none {r : Rect} (h : (orR r).n = true) : orR r = noR := by
  have := or_good r
  unfold goodR at this
  rw [if_pos h] at this
  exact eqR_iff.1 this
theorem or_has {r : Rect} (h : (orR r).n = false) : (orR r).lx ≤ (orR r).hx ∧ (orR r).ly ≤ (orR r).hy := by
  have := or_good r
  unfold goodR at this
  rw [if_neg (by rw [h]; decide)] at this
  simpa using this
theorem uni_has {a b : Rect} (ha : (orR a).n = false) (hb : (orR b).n = false) : uniR a b = ⟨false, min (orR a).lx (orR b).lx, min (orR a).ly (orR b).ly, max (orR a).hx (orR b).hx, max (orR a).hy (orR b).hy⟩ := by
  unfold uniR
  rw [ha, hb]
  rfl
theorem good_uni (a b : Rect) : goodR (uniR a b) = true := by
  cases ha : (orR a).n with
  | true => unfold uniR; rw [if_pos ha]; exact or_good b
  | false =>
    cases hb : (orR b).n with
    | true => unfold uniR; rw [if_neg (by rw [ha]; decide), if_pos hb]; exact or_good a
    | false =>
      rw [uni_has ha hb]
      have h1 := or_has ha
      have h2 := or_has hb
      simp [goodR]
      omega
theorem or_uni (a b : Rect) : orR (uniR a b) = uniR a b := or_of (good_uni a b)
theorem area_le (a b : Rect) : areaN a ≤ areaN (uniR a b) := by
  unfold areaN
  rw [or_uni]
  cases ha : (orR a).n with
  | true => rw [or_none ha]; exact Nat.zero_le _
  | false =>
    cases hb : (orR b).n with
    | true => rw [show uniR a b = orR a by unfold uniR; rw [if_neg (by rw [ha]; decide), if_pos hb]]; exact Nat.le_refl _
    | false =>
      rw [uni_has ha hb]
      refine Nat.mul_le_mul ?_ ?_ <;> simp only [spanN] <;> omega
def growN (a b : Rect) : Nat := areaN (uniR a b) - areaN a
theorem u192 {n : Nat} (h : n < 340282366920938463463374607431768211456) : n < 6277101735386680763835789423207666416102355444464034512896 := Nat.lt_trans h (by decide)

set_option maxRecDepth 100000 in
set_option maxHeartbeats 8000000 in
theorem growth_call (a b : Rect) (ha : Bd a) (hb : Bd b) (w : World) : Calls Try.prog 23 #[.agg #[.bool (a).n, .int .i64 (a).lx, .int .i64 (a).ly, .int .i64 (a).hx, .int .i64 (a).hy], .agg #[.bool (b).n, .int .i64 (b).lx, .int .i64 (b).ly, .int .i64 (b).hx, .int .i64 (b).hy]] w fun e w' => e = .returned (.agg #[.int .u64 (W0 (growN a b)), .int .u64 (W1 (growN a b)), .int .u64 (W2 (growN a b))]) ∧ Below w.heap.size w w' := by
  have UC := hid (union_call a b)
  have AU := hid (area_call (uniR a b) (bd_uni ha hb))
  have AA := hid (area_call a ha)
  have SC := hid (fun W => sub_any (areaN (uniR a b)) (areaN a) (u192 (area_lt (bd_uni ha hb))) (u192 (area_lt ha)) W (area_le a b))
  rw [show growN a b = areaN (uniR a b) - areaN a from rfl]
  generalize areaN (uniR a b) - areaN a = gg at *
  generalize areaN (uniR a b) = nu at *
  generalize areaN a = na at *
  generalize uniR a b = U at *
  clear ha hb
  go_enter Try.func23, Try.ntmps23
  go_wp2
  refine wp_region_K (S := (fun W : World => C5 W (w.heap.size) a ∧ C5 W (w.heap.size + 1) b ∧ B3 W (w.heap.size + 1 + 1) 0 ∧ Below w.heap.size w W)) (fun i => i == 11) (by kernel_rfl) (⟨by exact C5.of (by repeat (first | (refine at_new ?_; first | with_reducible rfl | (simp only [World.size_alloc]; done)) | refine at_old ?_)), by exact C5.of (by repeat (first | (refine at_new ?_; first | with_reducible rfl | (simp only [World.size_alloc]; done)) | refine at_old ?_)), by exact B3.zero (by repeat (first | (refine at_new ?_; first | with_reducible rfl | (simp only [World.size_alloc]; done)) | refine at_old ?_)), (by repeat (first | with_reducible exact Below.refl _ _ | with_reducible assumption | with_reducible refine Below.drew ?_ | with_reducible refine below_drewN ?_ _ | with_reducible refine Below.alloc ?_ (by simp <;> omega) _ | with_reducible refine Below.setCell ?_ (by simp <;> omega) _))⟩) (fun hHeld => ?_)
  refine gkt 0 ?_ (h := by intro W hSw; obtain ⟨⟨y0, y1, y2, y3, y4⟩, ⟨y5, y6, y7, y8, y9⟩, _, _⟩ := hSw; go_simp; first | done | with_reducible rfl)
  refine gkt 1 ?_ (h := by intro W hSw; obtain ⟨⟨y0, y1, y2, y3, y4⟩, ⟨y5, y6, y7, y8, y9⟩, _, _⟩ := hSw; go_simp; first | done | with_reducible rfl)
  refine gkt 4 ?_ (h := by intro W hSw; obtain ⟨⟨y0, y1, y2, y3, y4⟩, ⟨y5, y6, y7, y8, y9⟩, _, _⟩ := hSw; go_simp; first | done | with_reducible rfl)
  refine wpAnyK_ready (rs := [2, 10]) (by kernel_rfl) (by simp) ?_
  refine AllReadyK.cons (at_op _ _ _ rfl) (fun K hK => ?_) ?_
  · as_aux_lemma =>
      go_simp
      go_at_call 12; refine (UC.out _).mono ?_; rintro e v1 ⟨rfl, h1⟩; have hR : (fun W : World => C5 W (w.heap.size) a ∧ C5 W (w.heap.size + 1) b ∧ B3 W (w.heap.size + 1 + 1) 0 ∧ Below w.heap.size w W) v1 := ⟨hHeld.1.keep h1, hHeld.2.1.keep h1, hHeld.2.2.1.keep h1, gt hHeld.2.2.2 h1⟩; clear h1
      refine hK.out _ _ hR (fun hHeld => ?_)
      clear hK K
      (try simp only [Act.put, sA, sZ, sS])
      refine wpAnyK_ready (rs := [3, 10]) (by kernel_rfl) (by simp) ?_
      refine AllReadyK.cons (at_op _ _ _ rfl) (fun K hK => ?_) ?_
      · as_aux_lemma =>
          go_simp
          go_at_call 21; refine (AU.out _).mono ?_; rintro e v2 ⟨rfl, h2⟩; have hR : (fun W : World => C5 W (w.heap.size) a ∧ C5 W (w.heap.size + 1) b ∧ B3 W (w.heap.size + 1 + 1) 0 ∧ Below w.heap.size w W) v2 := ⟨hHeld.1.keep h2, hHeld.2.1.keep h2, hHeld.2.2.1.keep h2, gt hHeld.2.2.2 h2⟩; clear h2
          refine hK.out _ _ hR (fun hHeld => ?_)
          clear hK K
          (try simp only [Act.put, sA, sZ, sS])
          refine wpAnyK_ready (rs := [5, 10]) (by kernel_rfl) (by simp) ?_
          refine AllReadyK.cons (at_op _ _ _ rfl) (fun K hK => ?_) ?_
          · as_aux_lemma =>
              go_simp
              go_at_call 21; refine (AA.out _).mono ?_; rintro e v3 ⟨rfl, h3⟩; have hR : (fun W : World => C5 W (w.heap.size) a ∧ C5 W (w.heap.size + 1) b ∧ B3 W (w.heap.size + 1 + 1) 0 ∧ Below w.heap.size w W) v3 := ⟨hHeld.1.keep h3, hHeld.2.1.keep h3, hHeld.2.2.1.keep h3, gt hHeld.2.2.2 h3⟩; clear h3
              refine hK.out _ _ hR (fun hHeld => ?_)
              clear hK K
              (try simp only [Act.put, sA, sZ, sS])
              refine wpAnyK_ready (rs := [6, 10]) (by kernel_rfl) (by simp) ?_
              refine AllReadyK.cons (at_op _ _ _ rfl) (fun K hK => ?_) ?_
              · as_aux_lemma =>
                  go_simp
                  go_at_call 38; refine (SC.out _).mono ?_; rintro e v4 ⟨rfl, h4⟩; have hR : (fun W : World => C5 W (w.heap.size) a ∧ C5 W (w.heap.size + 1) b ∧ B3 W (w.heap.size + 1 + 1) 0 ∧ Below w.heap.size w W) v4 := ⟨hHeld.1.keep h4, hHeld.2.1.keep h4, hHeld.2.2.1.keep h4, gt hHeld.2.2.2 h4⟩; clear h4
                  refine hK.out _ _ hR (fun hHeld => ?_)
                  clear hK K
                  (try simp only [Act.put, sA, sZ, sS])
                  refine gkp 7 ?_
                  refine gkp 8 ?_
                  refine gkp 9 ?_
                  refine gk1 10 (fun K hK => ?_)
                  have hlt := (hHeld.2.2.1).lt
                  go_simp
                  refine hK.out _ _ (by exact ⟨hHeld.1.keep (ext1 _), hHeld.2.1.keep (ext1 _), hHeld.2.2.1.keep (ext1 _), gt hHeld.2.2.2 (ext1 _)⟩) (fun hHeld => ?_)
                  clear hK K
                  (try simp only [Act.put, sA, sZ, sS])
                  refine wpAnyK_more (S' := (fun W : World => B3 W (v4.heap.size) 0 ∧ C5 W (w.heap.size) a ∧ C5 W (w.heap.size + 1) b ∧ B3 W (w.heap.size + 1 + 1) 0 ∧ Below w.heap.size w W)) (fun W h => h.2) ?_
                  replace hHeld : (fun W : World => B3 W (v4.heap.size) 0 ∧ C5 W (w.heap.size) a ∧ C5 W (w.heap.size + 1) b ∧ B3 W (w.heap.size + 1 + 1) 0 ∧ Below w.heap.size w W) _ := ⟨by exact B3.zero (by repeat (first | (refine at_new ?_; first | with_reducible rfl | (simp only [World.size_alloc]; done)) | refine at_old ?_)), hHeld⟩
                  obtain ⟨va1, hva1⟩ : ∃ W : World, W = (v4).alloc (.cells #[.int .u64 0, .int .u64 0, .int .u64 0] 28) := ⟨_, rfl⟩
                  rw [← hva1] at hHeld ⊢
                  clear hva1
                  refine gkl 11 (fun K hK => ?_)
                  have Z := hHeld.1; obtain ⟨u0, u1, u2⟩ := Z.c; have g0 := Z.fz 0; have g1 := Z.fz 1; have g2 := Z.fz 2; have hc := hHeld.2.2.2.2
                  go_simp
                  refine hK.out _ _ ?_
                  clear hK K
                  (try simp only [Act.put, sA, sZ, sS])
                  refine gkp 12 ?_
                  refine wpAnyK_done (by kernel_rfl) ?_ _
                  have Z1 := Z.set gg
                  have Z0 := (hHeld.2.2.2.1).far3 (show w.heap.size + 1 + 1 ≠ v4.heap.size by omega) (.int .u64 (W0 gg)) (.int .u64 (W1 gg)) (.int .u64 (W2 gg))
                  have hd := show Below w.heap.size w ((((va1).setCell ⟨v4.heap.size, 0, none⟩ (.int .u64 (W0 gg))).setCell ⟨v4.heap.size, 1, none⟩ (.int .u64 (W1 gg))).setCell ⟨v4.heap.size, 2, none⟩ (.int .u64 (W2 gg))) from (by repeat (first | with_reducible exact Below.refl _ _ | with_reducible assumption | with_reducible refine Below.drew ?_ | with_reducible refine below_drewN ?_ _ | with_reducible refine Below.alloc ?_ (by simp <;> omega) _ | with_reducible refine Below.setCell ?_ (by simp <;> omega) _))
                  clear hHeld hc hlt u0 u1 u2 g0 g1 g2 Z
                  obtain ⟨w9, hw9⟩ : ∃ W : World, W = (((va1).setCell ⟨v4.heap.size, 0, none⟩ (.int .u64 (W0 gg))).setCell ⟨v4.heap.size, 1, none⟩ (.int .u64 (W1 gg))).setCell ⟨v4.heap.size, 2, none⟩ (.int .u64 (W2 gg)) := ⟨_, rfl⟩
                  rw [← hw9] at Z1 Z0 hd ⊢
                  clear hw9
                  obtain ⟨t0, t1, t2⟩ := Z1.c
                  obtain ⟨q0, q1, q2⟩ := Z0.c
                  have k0 := Z0.fz 0; have k1 := Z0.fz 1; have k2 := Z0.fz 2
                  clear Z1
                  go_wp2
                  obtain ⟨z0, z1, z2⟩ := (Z0.set gg).c
                  exact bodyPost_ret (v := .agg #[.int .u64 (W0 (gg)), .int .u64 (W1 (gg)), .int .u64 (W2 (gg))]) (by simp [results, Try.results23, go_sem, z0, z1, z2]) rfl ⟨rfl, (by repeat (first | with_reducible exact Below.refl _ _ | with_reducible assumption | with_reducible refine Below.drew ?_ | with_reducible refine below_drewN ?_ _ | with_reducible refine Below.alloc ?_ (by simp <;> omega) _ | with_reducible refine Below.setCell ?_ (by simp <;> omega) _))⟩
              refine AllReadyK.cons (at_op _ _ _ rfl) (fun K hK => ?_) ?_
              · as_aux_lemma =>
                  have hlt := (hHeld.2.2.1).lt
                  go_simp
                  refine hK.out _ _ (by exact ⟨hHeld.1.keep (ext1 _), hHeld.2.1.keep (ext1 _), hHeld.2.2.1.keep (ext1 _), gt hHeld.2.2.2 (ext1 _)⟩) (fun hHeld => ?_)
                  clear hK K
                  (try simp only [Act.put, sA, sZ, sS])
                  refine wpAnyK_more (S' := (fun W : World => B3 W (v3.heap.size) 0 ∧ C5 W (w.heap.size) a ∧ C5 W (w.heap.size + 1) b ∧ B3 W (w.heap.size + 1 + 1) 0 ∧ Below w.heap.size w W)) (fun W h => h.2) ?_
                  replace hHeld : (fun W : World => B3 W (v3.heap.size) 0 ∧ C5 W (w.heap.size) a ∧ C5 W (w.heap.size + 1) b ∧ B3 W (w.heap.size + 1 + 1) 0 ∧ Below w.heap.size w W) _ := ⟨by exact B3.zero (by repeat (first | (refine at_new ?_; first | with_reducible rfl | (simp only [World.size_alloc]; done)) | refine at_old ?_)), hHeld⟩
                  obtain ⟨va1, hva1⟩ : ∃ W : World, W = (v3).alloc (.cells #[.int .u64 0, .int .u64 0, .int .u64 0] 28) := ⟨_, rfl⟩
                  rw [← hva1] at hHeld ⊢
                  clear hva1
                  refine gk1 6 (fun K hK => ?_)
                  go_simp
                  go_at_call 38; refine (SC.out _).mono ?_; rintro e v4 ⟨rfl, h4⟩; have hR : (fun W : World => B3 W (v3.heap.size) 0 ∧ C5 W (w.heap.size) a ∧ C5 W (w.heap.size + 1) b ∧ B3 W (w.heap.size + 1 + 1) 0 ∧ Below w.heap.size w W) v4 := ⟨hHeld.1.keep h4, hHeld.2.1.keep h4, hHeld.2.2.1.keep h4, hHeld.2.2.2.1.keep h4, gt hHeld.2.2.2.2 h4⟩; clear h4
                  refine hK.out _ _ hR (fun hHeld => ?_)
                  clear hK K
                  (try simp only [Act.put, sA, sZ, sS])
                  refine gkp 7 ?_
                  refine gkp 8 ?_
                  refine gkp 9 ?_
                  refine gkl 11 (fun K hK => ?_)
                  have Z := hHeld.1; obtain ⟨u0, u1, u2⟩ := Z.c; have g0 := Z.fz 0; have g1 := Z.fz 1; have g2 := Z.fz 2; have hc := hHeld.2.2.2.2
                  go_simp
                  refine hK.out _ _ ?_
                  clear hK K
                  (try simp only [Act.put, sA, sZ, sS])
                  refine gkp 12 ?_
                  refine wpAnyK_done (by kernel_rfl) ?_ _
                  have Z1 := Z.set gg
                  have Z0 := (hHeld.2.2.2.1).far3 (show w.heap.size + 1 + 1 ≠ v3.heap.size by omega) (.int .u64 (W0 gg)) (.int .u64 (W1 gg)) (.int .u64 (W2 gg))
                  have hd := show Below w.heap.size w ((((v4).setCell ⟨v3.heap.size, 0, none⟩ (.int .u64 (W0 gg))).setCell ⟨v3.heap.size, 1, none⟩ (.int .u64 (W1 gg))).setCell ⟨v3.heap.size, 2, none⟩ (.int .u64 (W2 gg))) from (by repeat (first | with_reducible exact Below.refl _ _ | with_reducible assumption | with_reducible refine Below.drew ?_ | with_reducible refine below_drewN ?_ _ | with_reducible refine Below.alloc ?_ (by simp <;> omega) _ | with_reducible refine Below.setCell ?_ (by simp <;> omega) _))
                  clear hHeld hc hlt u0 u1 u2 g0 g1 g2 Z
                  obtain ⟨w9, hw9⟩ : ∃ W : World, W = (((v4).setCell ⟨v3.heap.size, 0, none⟩ (.int .u64 (W0 gg))).setCell ⟨v3.heap.size, 1, none⟩ (.int .u64 (W1 gg))).setCell ⟨v3.heap.size, 2, none⟩ (.int .u64 (W2 gg)) := ⟨_, rfl⟩
                  rw [← hw9] at Z1 Z0 hd ⊢
                  clear hw9
                  obtain ⟨t0, t1, t2⟩ := Z1.c
                  obtain ⟨q0, q1, q2⟩ := Z0.c
                  have k0 := Z0.fz 0; have k1 := Z0.fz 1; have k2 := Z0.fz 2
                  clear Z1
                  go_wp2
                  obtain ⟨z0, z1, z2⟩ := (Z0.set gg).c
                  exact bodyPost_ret (v := .agg #[.int .u64 (W0 (gg)), .int .u64 (W1 (gg)), .int .u64 (W2 (gg))]) (by simp [results, Try.results23, go_sem, z0, z1, z2]) rfl ⟨rfl, (by repeat (first | with_reducible exact Below.refl _ _ | with_reducible assumption | with_reducible refine Below.drew ?_ | with_reducible refine below_drewN ?_ _ | with_reducible refine Below.alloc ?_ (by simp <;> omega) _ | with_reducible refine Below.setCell ?_ (by simp <;> omega) _))⟩
              exact AllReadyK.nil
          refine AllReadyK.cons (at_op _ _ _ rfl) (fun K hK => ?_) ?_
          · as_aux_lemma =>
              have hlt := (hHeld.2.2.1).lt
              go_simp
              refine hK.out _ _ (by exact ⟨hHeld.1.keep (ext1 _), hHeld.2.1.keep (ext1 _), hHeld.2.2.1.keep (ext1 _), gt hHeld.2.2.2 (ext1 _)⟩) (fun hHeld => ?_)
              clear hK K
              (try simp only [Act.put, sA, sZ, sS])
              refine wpAnyK_more (S' := (fun W : World => B3 W (v2.heap.size) 0 ∧ C5 W (w.heap.size) a ∧ C5 W (w.heap.size + 1) b ∧ B3 W (w.heap.size + 1 + 1) 0 ∧ Below w.heap.size w W)) (fun W h => h.2) ?_
              replace hHeld : (fun W : World => B3 W (v2.heap.size) 0 ∧ C5 W (w.heap.size) a ∧ C5 W (w.heap.size + 1) b ∧ B3 W (w.heap.size + 1 + 1) 0 ∧ Below w.heap.size w W) _ := ⟨by exact B3.zero (by repeat (first | (refine at_new ?_; first | with_reducible rfl | (simp only [World.size_alloc]; done)) | refine at_old ?_)), hHeld⟩
              obtain ⟨va1, hva1⟩ : ∃ W : World, W = (v2).alloc (.cells #[.int .u64 0, .int .u64 0, .int .u64 0] 28) := ⟨_, rfl⟩
              rw [← hva1] at hHeld ⊢
              clear hva1
              refine gk1 5 (fun K hK => ?_)
              go_simp
              go_at_call 21; refine (AA.out _).mono ?_; rintro e v3 ⟨rfl, h3⟩; have hR : (fun W : World => B3 W (v2.heap.size) 0 ∧ C5 W (w.heap.size) a ∧ C5 W (w.heap.size + 1) b ∧ B3 W (w.heap.size + 1 + 1) 0 ∧ Below w.heap.size w W) v3 := ⟨hHeld.1.keep h3, hHeld.2.1.keep h3, hHeld.2.2.1.keep h3, hHeld.2.2.2.1.keep h3, gt hHeld.2.2.2.2 h3⟩; clear h3
              refine hK.out _ _ hR (fun hHeld => ?_)
              clear hK K
              (try simp only [Act.put, sA, sZ, sS])
              refine gk1 6 (fun K hK => ?_)
              go_simp
              go_at_call 38; refine (SC.out _).mono ?_; rintro e v4 ⟨rfl, h4⟩; have hR : (fun W : World => B3 W (v2.heap.size) 0 ∧ C5 W (w.heap.size) a ∧ C5 W (w.heap.size + 1) b ∧ B3 W (w.heap.size + 1 + 1) 0 ∧ Below w.heap.size w W) v4 := ⟨hHeld.1.keep h4, hHeld.2.1.keep h4, hHeld.2.2.1.keep h4, hHeld.2.2.2.1.keep h4, gt hHeld.2.2.2.2 h4⟩; clear h4
              refine hK.out _ _ hR (fun hHeld => ?_)
              clear hK K
              (try simp only [Act.put, sA, sZ, sS])
              refine gkp 7 ?_
              refine gkp 8 ?_
              refine gkp 9 ?_
              refine gkl 11 (fun K hK => ?_)
              have Z := hHeld.1; obtain ⟨u0, u1, u2⟩ := Z.c; have g0 := Z.fz 0; have g1 := Z.fz 1; have g2 := Z.fz 2; have hc := hHeld.2.2.2.2
              go_simp
              refine hK.out _ _ ?_
              clear hK K
              (try simp only [Act.put, sA, sZ, sS])
              refine gkp 12 ?_
              refine wpAnyK_done (by kernel_rfl) ?_ _
              have Z1 := Z.set gg
              have Z0 := (hHeld.2.2.2.1).far3 (show w.heap.size + 1 + 1 ≠ v2.heap.size by omega) (.int .u64 (W0 gg)) (.int .u64 (W1 gg)) (.int .u64 (W2 gg))
              have hd := show Below w.heap.size w ((((v4).setCell ⟨v2.heap.size, 0, none⟩ (.int .u64 (W0 gg))).setCell ⟨v2.heap.size, 1, none⟩ (.int .u64 (W1 gg))).setCell ⟨v2.heap.size, 2, none⟩ (.int .u64 (W2 gg))) from (by repeat (first | with_reducible exact Below.refl _ _ | with_reducible assumption | with_reducible refine Below.drew ?_ | with_reducible refine below_drewN ?_ _ | with_reducible refine Below.alloc ?_ (by simp <;> omega) _ | with_reducible refine Below.setCell ?_ (by simp <;> omega) _))
              clear hHeld hc hlt u0 u1 u2 g0 g1 g2 Z
              obtain ⟨w9, hw9⟩ : ∃ W : World, W = (((v4).setCell ⟨v2.heap.size, 0, none⟩ (.int .u64 (W0 gg))).setCell ⟨v2.heap.size, 1, none⟩ (.int .u64 (W1 gg))).setCell ⟨v2.heap.size, 2, none⟩ (.int .u64 (W2 gg)) := ⟨_, rfl⟩
              rw [← hw9] at Z1 Z0 hd ⊢
              clear hw9
              obtain ⟨t0, t1, t2⟩ := Z1.c
              obtain ⟨q0, q1, q2⟩ := Z0.c
              have k0 := Z0.fz 0; have k1 := Z0.fz 1; have k2 := Z0.fz 2
              clear Z1
              go_wp2
              obtain ⟨z0, z1, z2⟩ := (Z0.set gg).c
              exact bodyPost_ret (v := .agg #[.int .u64 (W0 (gg)), .int .u64 (W1 (gg)), .int .u64 (W2 (gg))]) (by simp [results, Try.results23, go_sem, z0, z1, z2]) rfl ⟨rfl, (by repeat (first | with_reducible exact Below.refl _ _ | with_reducible assumption | with_reducible refine Below.drew ?_ | with_reducible refine below_drewN ?_ _ | with_reducible refine Below.alloc ?_ (by simp <;> omega) _ | with_reducible refine Below.setCell ?_ (by simp <;> omega) _))⟩
          exact AllReadyK.nil
      refine AllReadyK.cons (at_op _ _ _ rfl) (fun K hK => ?_) ?_
      · as_aux_lemma =>
          have hlt := (hHeld.2.2.1).lt
          go_simp
          refine hK.out _ _ (by exact ⟨hHeld.1.keep (ext1 _), hHeld.2.1.keep (ext1 _), hHeld.2.2.1.keep (ext1 _), gt hHeld.2.2.2 (ext1 _)⟩) (fun hHeld => ?_)
          clear hK K
          (try simp only [Act.put, sA, sZ, sS])
          refine wpAnyK_more (S' := (fun W : World => B3 W (v1.heap.size) 0 ∧ C5 W (w.heap.size) a ∧ C5 W (w.heap.size + 1) b ∧ B3 W (w.heap.size + 1 + 1) 0 ∧ Below w.heap.size w W)) (fun W h => h.2) ?_
          replace hHeld : (fun W : World => B3 W (v1.heap.size) 0 ∧ C5 W (w.heap.size) a ∧ C5 W (w.heap.size + 1) b ∧ B3 W (w.heap.size + 1 + 1) 0 ∧ Below w.heap.size w W) _ := ⟨by exact B3.zero (by repeat (first | (refine at_new ?_; first | with_reducible rfl | (simp only [World.size_alloc]; done)) | refine at_old ?_)), hHeld⟩
          obtain ⟨va1, hva1⟩ : ∃ W : World, W = (v1).alloc (.cells #[.int .u64 0, .int .u64 0, .int .u64 0] 28) := ⟨_, rfl⟩
          rw [← hva1] at hHeld ⊢
          clear hva1
          refine gk1 3 (fun K hK => ?_)
          go_simp
          go_at_call 21; refine (AU.out _).mono ?_; rintro e v2 ⟨rfl, h2⟩; have hR : (fun W : World => B3 W (v1.heap.size) 0 ∧ C5 W (w.heap.size) a ∧ C5 W (w.heap.size + 1) b ∧ B3 W (w.heap.size + 1 + 1) 0 ∧ Below w.heap.size w W) v2 := ⟨hHeld.1.keep h2, hHeld.2.1.keep h2, hHeld.2.2.1.keep h2, hHeld.2.2.2.1.keep h2, gt hHeld.2.2.2.2 h2⟩; clear h2
          refine hK.out _ _ hR (fun hHeld => ?_)
          clear hK K
          (try simp only [Act.put, sA, sZ, sS])
          refine gk1 5 (fun K hK => ?_)
          go_simp
          go_at_call 21; refine (AA.out _).mono ?_; rintro e v3 ⟨rfl, h3⟩; have hR : (fun W : World => B3 W (v1.heap.size) 0 ∧ C5 W (w.heap.size) a ∧ C5 W (w.heap.size + 1) b ∧ B3 W (w.heap.size + 1 + 1) 0 ∧ Below w.heap.size w W) v3 := ⟨hHeld.1.keep h3, hHeld.2.1.keep h3, hHeld.2.2.1.keep h3, hHeld.2.2.2.1.keep h3, gt hHeld.2.2.2.2 h3⟩; clear h3
          refine hK.out _ _ hR (fun hHeld => ?_)
          clear hK K
          (try simp only [Act.put, sA, sZ, sS])
          refine gk1 6 (fun K hK => ?_)
          go_simp
          go_at_call 38; refine (SC.out _).mono ?_; rintro e v4 ⟨rfl, h4⟩; have hR : (fun W : World => B3 W (v1.heap.size) 0 ∧ C5 W (w.heap.size) a ∧ C5 W (w.heap.size + 1) b ∧ B3 W (w.heap.size + 1 + 1) 0 ∧ Below w.heap.size w W) v4 := ⟨hHeld.1.keep h4, hHeld.2.1.keep h4, hHeld.2.2.1.keep h4, hHeld.2.2.2.1.keep h4, gt hHeld.2.2.2.2 h4⟩; clear h4
          refine hK.out _ _ hR (fun hHeld => ?_)
          clear hK K
          (try simp only [Act.put, sA, sZ, sS])
          refine gkp 7 ?_
          refine gkp 8 ?_
          refine gkp 9 ?_
          refine gkl 11 (fun K hK => ?_)
          have Z := hHeld.1; obtain ⟨u0, u1, u2⟩ := Z.c; have g0 := Z.fz 0; have g1 := Z.fz 1; have g2 := Z.fz 2; have hc := hHeld.2.2.2.2
          go_simp
          refine hK.out _ _ ?_
          clear hK K
          (try simp only [Act.put, sA, sZ, sS])
          refine gkp 12 ?_
          refine wpAnyK_done (by kernel_rfl) ?_ _
          have Z1 := Z.set gg
          have Z0 := (hHeld.2.2.2.1).far3 (show w.heap.size + 1 + 1 ≠ v1.heap.size by omega) (.int .u64 (W0 gg)) (.int .u64 (W1 gg)) (.int .u64 (W2 gg))
          have hd := show Below w.heap.size w ((((v4).setCell ⟨v1.heap.size, 0, none⟩ (.int .u64 (W0 gg))).setCell ⟨v1.heap.size, 1, none⟩ (.int .u64 (W1 gg))).setCell ⟨v1.heap.size, 2, none⟩ (.int .u64 (W2 gg))) from (by repeat (first | with_reducible exact Below.refl _ _ | with_reducible assumption | with_reducible refine Below.drew ?_ | with_reducible refine below_drewN ?_ _ | with_reducible refine Below.alloc ?_ (by simp <;> omega) _ | with_reducible refine Below.setCell ?_ (by simp <;> omega) _))
          clear hHeld hc hlt u0 u1 u2 g0 g1 g2 Z
          obtain ⟨w9, hw9⟩ : ∃ W : World, W = (((v4).setCell ⟨v1.heap.size, 0, none⟩ (.int .u64 (W0 gg))).setCell ⟨v1.heap.size, 1, none⟩ (.int .u64 (W1 gg))).setCell ⟨v1.heap.size, 2, none⟩ (.int .u64 (W2 gg)) := ⟨_, rfl⟩
          rw [← hw9] at Z1 Z0 hd ⊢
          clear hw9
          obtain ⟨t0, t1, t2⟩ := Z1.c
          obtain ⟨q0, q1, q2⟩ := Z0.c
          have k0 := Z0.fz 0; have k1 := Z0.fz 1; have k2 := Z0.fz 2
          clear Z1
          go_wp2
          obtain ⟨z0, z1, z2⟩ := (Z0.set gg).c
          exact bodyPost_ret (v := .agg #[.int .u64 (W0 (gg)), .int .u64 (W1 (gg)), .int .u64 (W2 (gg))]) (by simp [results, Try.results23, go_sem, z0, z1, z2]) rfl ⟨rfl, (by repeat (first | with_reducible exact Below.refl _ _ | with_reducible assumption | with_reducible refine Below.drew ?_ | with_reducible refine below_drewN ?_ _ | with_reducible refine Below.alloc ?_ (by simp <;> omega) _ | with_reducible refine Below.setCell ?_ (by simp <;> omega) _))⟩
      exact AllReadyK.nil
  refine AllReadyK.cons (at_op _ _ _ rfl) (fun K hK => ?_) ?_
  · as_aux_lemma =>
      have hlt : w.heap.size + 1 + 1 < w.heap.size + 1 + 1 + 1 := by omega
      go_simp
      refine hK.out _ _ (by exact ⟨hHeld.1.keep (ext1 _), hHeld.2.1.keep (ext1 _), hHeld.2.2.1.keep (ext1 _), gt hHeld.2.2.2 (ext1 _)⟩) (fun hHeld => ?_)
      clear hK K
      (try simp only [Act.put, sA, sZ, sS])
      refine wpAnyK_more (S' := (fun W : World => B3 W (w.heap.size + 1 + 1 + 1) 0 ∧ C5 W (w.heap.size) a ∧ C5 W (w.heap.size + 1) b ∧ B3 W (w.heap.size + 1 + 1) 0 ∧ Below w.heap.size w W)) (fun W h => h.2) ?_
      replace hHeld : (fun W : World => B3 W (w.heap.size + 1 + 1 + 1) 0 ∧ C5 W (w.heap.size) a ∧ C5 W (w.heap.size + 1) b ∧ B3 W (w.heap.size + 1 + 1) 0 ∧ Below w.heap.size w W) _ := ⟨by exact B3.zero (by repeat (first | (refine at_new ?_; first | with_reducible rfl | (simp only [World.size_alloc]; done)) | refine at_old ?_)), hHeld⟩
      obtain ⟨va1, hva1⟩ : ∃ W : World, W = World.drew ((((w.alloc (.cells #[.bool (a).n, .int .i64 (a).lx, .int .i64 (a).ly, .int .i64 (a).hx, .int .i64 (a).hy] 25)).alloc (.cells #[.bool (b).n, .int .i64 (b).lx, .int .i64 (b).ly, .int .i64 (b).hx, .int .i64 (b).hy] 25)).alloc (.cells #[.int .u64 0, .int .u64 0, .int .u64 0] 28)).alloc (.cells #[.int .u64 0, .int .u64 0, .int .u64 0] 28)) := ⟨_, rfl⟩
      rw [← hva1] at hHeld ⊢
      clear hva1
      refine gk1 2 (fun K hK => ?_)
      go_simp
      go_at_call 12; refine (UC.out _).mono ?_; rintro e v1 ⟨rfl, h1⟩; have hR : (fun W : World => B3 W (w.heap.size + 1 + 1 + 1) 0 ∧ C5 W (w.heap.size) a ∧ C5 W (w.heap.size + 1) b ∧ B3 W (w.heap.size + 1 + 1) 0 ∧ Below w.heap.size w W) v1 := ⟨hHeld.1.keep h1, hHeld.2.1.keep h1, hHeld.2.2.1.keep h1, hHeld.2.2.2.1.keep h1, gt hHeld.2.2.2.2 h1⟩; clear h1
      refine hK.out _ _ hR (fun hHeld => ?_)
      clear hK K
      (try simp only [Act.put, sA, sZ, sS])
      refine gk1 3 (fun K hK => ?_)
      go_simp
      go_at_call 21; refine (AU.out _).mono ?_; rintro e v2 ⟨rfl, h2⟩; have hR : (fun W : World => B3 W (w.heap.size + 1 + 1 + 1) 0 ∧ C5 W (w.heap.size) a ∧ C5 W (w.heap.size + 1) b ∧ B3 W (w.heap.size + 1 + 1) 0 ∧ Below w.heap.size w W) v2 := ⟨hHeld.1.keep h2, hHeld.2.1.keep h2, hHeld.2.2.1.keep h2, hHeld.2.2.2.1.keep h2, gt hHeld.2.2.2.2 h2⟩; clear h2
      refine hK.out _ _ hR (fun hHeld => ?_)
      clear hK K
      (try simp only [Act.put, sA, sZ, sS])
      refine gk1 5 (fun K hK => ?_)
      go_simp
      go_at_call 21; refine (AA.out _).mono ?_; rintro e v3 ⟨rfl, h3⟩; have hR : (fun W : World => B3 W (w.heap.size + 1 + 1 + 1) 0 ∧ C5 W (w.heap.size) a ∧ C5 W (w.heap.size + 1) b ∧ B3 W (w.heap.size + 1 + 1) 0 ∧ Below w.heap.size w W) v3 := ⟨hHeld.1.keep h3, hHeld.2.1.keep h3, hHeld.2.2.1.keep h3, hHeld.2.2.2.1.keep h3, gt hHeld.2.2.2.2 h3⟩; clear h3
      refine hK.out _ _ hR (fun hHeld => ?_)
      clear hK K
      (try simp only [Act.put, sA, sZ, sS])
      refine gk1 6 (fun K hK => ?_)
      go_simp
      go_at_call 38; refine (SC.out _).mono ?_; rintro e v4 ⟨rfl, h4⟩; have hR : (fun W : World => B3 W (w.heap.size + 1 + 1 + 1) 0 ∧ C5 W (w.heap.size) a ∧ C5 W (w.heap.size + 1) b ∧ B3 W (w.heap.size + 1 + 1) 0 ∧ Below w.heap.size w W) v4 := ⟨hHeld.1.keep h4, hHeld.2.1.keep h4, hHeld.2.2.1.keep h4, hHeld.2.2.2.1.keep h4, gt hHeld.2.2.2.2 h4⟩; clear h4
      refine hK.out _ _ hR (fun hHeld => ?_)
      clear hK K
      (try simp only [Act.put, sA, sZ, sS])
      refine gkp 7 ?_
      refine gkp 8 ?_
      refine gkp 9 ?_
      refine gkl 11 (fun K hK => ?_)
      have Z := hHeld.1; obtain ⟨u0, u1, u2⟩ := Z.c; have g0 := Z.fz 0; have g1 := Z.fz 1; have g2 := Z.fz 2; have hc := hHeld.2.2.2.2
      go_simp
      refine hK.out _ _ ?_
      clear hK K
      (try simp only [Act.put, sA, sZ, sS])
      refine gkp 12 ?_
      refine wpAnyK_done (by kernel_rfl) ?_ _
      have Z1 := Z.set gg
      have Z0 := (hHeld.2.2.2.1).far3 (show w.heap.size + 1 + 1 ≠ w.heap.size + 1 + 1 + 1 by omega) (.int .u64 (W0 gg)) (.int .u64 (W1 gg)) (.int .u64 (W2 gg))
      have hd := show Below w.heap.size w ((((v4).setCell ⟨w.heap.size + 1 + 1 + 1, 0, none⟩ (.int .u64 (W0 gg))).setCell ⟨w.heap.size + 1 + 1 + 1, 1, none⟩ (.int .u64 (W1 gg))).setCell ⟨w.heap.size + 1 + 1 + 1, 2, none⟩ (.int .u64 (W2 gg))) from (by repeat (first | with_reducible exact Below.refl _ _ | with_reducible assumption | with_reducible refine Below.drew ?_ | with_reducible refine below_drewN ?_ _ | with_reducible refine Below.alloc ?_ (by simp <;> omega) _ | with_reducible refine Below.setCell ?_ (by simp <;> omega) _))
      clear hHeld hc hlt u0 u1 u2 g0 g1 g2 Z
      obtain ⟨w9, hw9⟩ : ∃ W : World, W = (((v4).setCell ⟨w.heap.size + 1 + 1 + 1, 0, none⟩ (.int .u64 (W0 gg))).setCell ⟨w.heap.size + 1 + 1 + 1, 1, none⟩ (.int .u64 (W1 gg))).setCell ⟨w.heap.size + 1 + 1 + 1, 2, none⟩ (.int .u64 (W2 gg)) := ⟨_, rfl⟩
      rw [← hw9] at Z1 Z0 hd ⊢
      clear hw9
      obtain ⟨t0, t1, t2⟩ := Z1.c
      obtain ⟨q0, q1, q2⟩ := Z0.c
      have k0 := Z0.fz 0; have k1 := Z0.fz 1; have k2 := Z0.fz 2
      clear Z1
      go_wp2
      obtain ⟨z0, z1, z2⟩ := (Z0.set gg).c
      exact bodyPost_ret (v := .agg #[.int .u64 (W0 (gg)), .int .u64 (W1 (gg)), .int .u64 (W2 (gg))]) (by simp [results, Try.results23, go_sem, z0, z1, z2]) rfl ⟨rfl, (by repeat (first | with_reducible exact Below.refl _ _ | with_reducible assumption | with_reducible refine Below.drew ?_ | with_reducible refine below_drewN ?_ _ | with_reducible refine Below.alloc ?_ (by simp <;> omega) _ | with_reducible refine Below.setCell ?_ (by simp <;> omega) _))⟩
  exact AllReadyK.nil
end Go.Proofs.Ytjlahomjhadnkaa
