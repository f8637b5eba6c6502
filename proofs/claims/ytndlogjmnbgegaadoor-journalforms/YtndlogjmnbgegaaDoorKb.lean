/- The law JournalForms, walked; no statement of the seat is proved here. -/
import Derived.Test.YtndlogjmnbgegaaDoorKa
import Derived.Test.YtndlogjmnbgegaaDoorIb
import Derived.Test.YtndlogjmnbgegaaDoorKl
namespace Go.Proofs.YtndlogjmnbgegaaDoor
open Go.RowKit

set_option maxHeartbeats 1000000 in
theorem forms_long (c pg : Int) (m : Nat) (lo : Option Addr) (L C : Nat) (wh : Bool) (w : World) (h : 20 < L) :
    Calls Tryd.prog 3 #[.agg #[.int .i64 c, .int .i64 pg, .int .u64 (m : Int)], .slice lo L C, .bool wh] w fun e w' => e = .returned (.bool true) ∧ Below w.heap.size w w' := by
  have lv := hid lives_any
  have h1 : (20 : Int) < (L : Int) := by omega
  clear h
  go_enter Tryd.func3, Tryd.ntmps3
  go_wp2_with (go_at_call 8; refine (lv.out _).mono ?_; rintro e w3 ⟨rfl, h3⟩; obtain rfl := h3.symm)
  go_ret
  exact ⟨rfl, Below.alloc (Below.refl _ _) (Nat.le_refl _) _⟩

set_option maxHeartbeats 20000000 in
set_option maxRecDepth 20000 in
theorem forms_law (c pg : Int) (m : Nat) (lo : Option Addr) (L C : Nat) (X : Nat → Int × Nat × Bool) (wh : Bool) (w : World) (hT : Tab w) (hs : Seeds w lo L X) (hL : L ≤ 20) :
    Calls Tryd.prog 3 #[.agg #[.int .i64 c, .int .i64 pg, .int .u64 (m : Int)], .slice lo L C, .bool wh] w fun e w' => e = .returned (.bool true) ∧ Below w.heap.size w w' := by
  have lv := hid lives_any
  have g1 : ¬ (20 : Int) < (L : Int) := by omega
  have hdb := hs.bytes
  have A0 : Below w.heap.size w (w.alloc (.cells #[.int .i64 c, .int .i64 pg, .int .u64 (m : Int)] 24)) := Below.alloc (Below.refl _ _) (Nat.le_refl _) _
  have cr := hid (records_any lo L C X _ (hs.keep A0) hL)
  have q0 := hid (HB.new 24 w c pg m)
  have hT' := hid hT
  have A0' := hid A0
  obtain ⟨P, hP⟩ : ∃ P : Nat → Int, P = fun i => (X i).1 := ⟨_, rfl⟩
  obtain ⟨D, hD⟩ : ∃ D : Nat → List Nat, D = fun i => seedD (X i) := ⟨_, rfl⟩
  rw [← hP, ← hD] at cr
  have hdb2 : Hid (∀ j, j < L → ∀ x ∈ D j, x < 256) := hid (by rw [hD]; exact hdb)
  clear hT hs A0 hP hD hdb
  go_enter Tryd.func3, Tryd.ntmps3
  go_wp2_with (go_at_call 9; refine cr.out.mono ?_; rintro e w1 ⟨ao, cap, rfl, hr, hb1⟩; have R1 := hid hr; have Q1 := hid (q0.out.keep hb1); have B1 := hid (gt A0'.out hb1); obtain ⟨a0, a1, a2, _, _, _⟩ := Q1.out.cells; clear hr hb1)
  clear a0 a1 a2
  obtain ⟨W2, hW2⟩ : ∃ W2, W2 = w1.alloc (.cells #[.int .i64 c, .int .i64 pg, .int .u64 (m : Int)] 29) := ⟨_, rfl⟩
  rw [← hW2]
  have A2 : Below w1.heap.size w1 W2 := by rw [hW2]; exact Below.alloc (Below.refl _ _) (Nat.le_refl _) _
  have Q2 := hid (Q1.out.keep A2)
  have Z2 : Hid (HB 29 W2 w1.heap.size c pg m) := hid (by rw [hW2]; exact HB.new 29 w1 c pg m)
  have R2 := hid (R1.out.keep A2)
  have B2 := hid (gt B1.out A2)
  generalize w1.heap.size = g at *
  clear A2 hW2 R1 Q1 B1
  go_loopw [20] (fun cc W => ∃ (i : Nat), i ≤ L ∧ cc = .int .i64 (i : Int) ∧ Hid (Below W2.heap.size W2 W)) (fun cc _ => L - (intOf cc).toNat)
  case atStart => exact ⟨0, by omega, rfl, hid (Below.refl _ _)⟩
  case round =>
    obtain ⟨i, hi, rfl, F⟩ := hrel
    have Q := hid (Q2.out.keep F.out)
    have Z := hid (Z2.out.keep F.out)
    have R := hid (R2.out.keep F.out)
    have B := hid (gt B2.out F.out)
    by_cases hiL : i < L
    · have R0 := R
      obtain ⟨b0, off, rfl, hc⟩ := R.out (by omega)
      obtain ⟨a, n, c1, k0, k1, rd⟩ := hc i hiL
      obtain ⟨p, hp⟩ : ∃ p, p = P i := ⟨_, rfl⟩
      obtain ⟨d, hd⟩ : ∃ d, d = D i := ⟨_, rfl⟩
      rw [← hp] at k0
      rw [← hd] at rd
      have hdx : Hid (∀ x ∈ d, x < 256) := hid (by rw [hd]; exact hdb2.out i hiL)
      have rd' := hid rd
      have hp' := hid hp
      have hd' := hid hd
      have hiI : (i : Int) < (L : Int) := by omega
      have hi0 : (0 : Int) ≤ (i : Int) := by omega
      clear rd hc hp hd
      go_upto_region 8 with fail
      obtain ⟨r, hr⟩ : ∃ r, r = wr.heap.size := ⟨_, rfl⟩
      obtain ⟨W3, hW3⟩ : ∃ W3, W3 = wr.alloc (.cells #[.int .i64 p, .slice a n c1] 32) := ⟨_, rfl⟩
      have A3 : Below wr.heap.size wr W3 := by rw [hW3]; exact Below.alloc (Below.refl _ _) (Nat.le_refl _) _
      have Y3 : Hid (RB 32 W3 r p a n c1) := hid (by rw [hW3, hr]; exact RB.new 32 wr p a n c1)
      have Q3 := hid (Q.out.keep A3)
      have R3 := hid (R0.out.keep A3)
      have rd3 := hid (rd'.out.keep A3)
      have B3 := hid (gt B.out A3)
      have F3 := hid (gt F.out A3)
      rw [← hW3, ← hr]
      clear hW3 hr A3 k0 k1
      have YY : Hid (RB 32 W3.drew r p a n c1) := hid (Y3.out.keep (Below.refl _ _).drew)
      have QQ : Hid (HB 24 W3.drew w.heap.size c pg m) := hid (Q3.out.keep (Below.refl _ _).drew)
      have RR : Hid (Recs W3.drew (some ⟨b0, off, none⟩) L P D) := hid (R3.out.keep (Below.refl _ _).drew)
      have FF : Hid (Below W2.heap.size W2 W3.drew) := hid F3.out.drew
      have hT3 : Hid (Tab W3.drew) := hid (hT'.out.keep B3.out.drew)
      have rd3d : Hid (Rd W3.drew a n c1 d) := hid (rd3.out.keep (Below.refl _ _).drew)
      clear Q3 R3 Y3 rd3 B3
      refine wp_region_K (S := Gr W3.drew) (fun _ => false) (by kernel_rfl) (Below.refl _ _) (fun hHeld => ?_)
      refine wpAnyK_take (i := 0) (v := ?_) (op_at _ 0 _ rfl) (by kernel_rfl) (by kernel_rfl) (by kernel_rfl) (by kernel_rfl) (fun _ _ _ h => h) (Or.inl ⟨by rfl, ?_⟩) (by assumption) ?_
      rotate_left 1
      focus (intro W hSw; obtain ⟨a0, a1, _⟩ := (YY.out.keep hSw).cells; go_simp; first | done | with_reducible rfl)
      (try simp only [Act.put, List.setIfInBounds_toArray, List.set_cons_zero, List.set_cons_succ])
      refine wpAnyK_pure (i := 1) (v := ?_) (op_at _ 1 _ rfl) (by kernel_rfl) (by kernel_rfl) (by kernel_rfl) (by kernel_rfl) (fun _ _ _ h => h) (Or.inl ⟨by rfl, ?_⟩) (Or.inl (by assumption)) ?_
      rotate_left 1
      focus (intro W hSw; go_simp; first | done | with_reducible rfl)
      (try simp only [Act.put, List.setIfInBounds_toArray, List.set_cons_zero, List.set_cons_succ])
      refine wpAnyK_take (i := 2) (v := ?_) (op_at _ 2 _ rfl) (by kernel_rfl) (by kernel_rfl) (by kernel_rfl) (by kernel_rfl) (fun _ _ _ h => h) (Or.inl ⟨by rfl, ?_⟩) (by assumption) ?_
      rotate_left 1
      focus (intro W hSw; obtain ⟨a0, a1, a2, _, _, _⟩ := (QQ.out.keep hSw).cells; go_simp; first | done | with_reducible rfl)
      (try simp only [Act.put, List.setIfInBounds_toArray, List.set_cons_zero, List.set_cons_succ])
      refine wpAnyK_pure (i := 5) (v := ?_) (op_at _ 5 _ rfl) (by kernel_rfl) (by kernel_rfl) (by kernel_rfl) (by kernel_rfl) (fun _ _ _ h => h) (Or.inl ⟨by rfl, ?_⟩) (Or.inl (by assumption)) ?_
      rotate_left 1
      focus (intro W hSw; go_simp; first | done | with_reducible rfl)
      (try simp only [Act.put, List.setIfInBounds_toArray, List.set_cons_zero, List.set_cons_succ])
      refine wpAnyK_pure (i := 7) (v := ?_) (op_at _ 7 _ rfl) (by kernel_rfl) (by kernel_rfl) (by kernel_rfl) (by kernel_rfl) (fun _ _ _ h => h) (Or.inl ⟨by rfl, ?_⟩) (Or.inl (by assumption)) ?_
      rotate_left 1
      focus (intro W hSw; go_simp; first | done | with_reducible rfl)
      (try simp only [Act.put, List.setIfInBounds_toArray, List.set_cons_zero, List.set_cons_succ])
      refine wpAnyK_pure (i := 10) (v := ?_) (op_at _ 10 _ rfl) (by kernel_rfl) (by kernel_rfl) (by kernel_rfl) (by kernel_rfl) (fun _ _ _ h => h) (Or.inl ⟨by rfl, ?_⟩) (Or.inl (by assumption)) ?_
      rotate_left 1
      focus (intro W hSw; go_simp; first | done | with_reducible rfl)
      (try simp only [Act.put, List.setIfInBounds_toArray, List.set_cons_zero, List.set_cons_succ])
      refine wpAnyK_take (i := 11) (v := ?_) (op_at _ 11 _ rfl) (by kernel_rfl) (by kernel_rfl) (by kernel_rfl) (by kernel_rfl) (fun _ _ _ h => h) (Or.inl ⟨by rfl, ?_⟩) (by assumption) ?_
      rotate_left 1
      focus (intro W hSw; obtain ⟨a0, a1, a2, _, _, _⟩ := (QQ.out.keep hSw).cells; go_simp; first | done | with_reducible rfl)
      (try simp only [Act.put, List.setIfInBounds_toArray, List.set_cons_zero, List.set_cons_succ])
      refine wpAnyK_ready (rs := [3]) (by kernel_rfl) (by simp) ?_
      refine AllReadyK.cons (op_at _ 3 _ rfl) (fun K hK => ?_) AllReadyK.nil
      go_simp
      go_at_call 10; refine (fR_any p m a n c1 d W3.drew hT3.out rd3d.out hdx.out).mono ?_; rintro e w4 ⟨a4, n4, c4, rfl, r4, hR⟩; replace hR : Gr W3.drew w4 := hR; replace QQ := hid (QQ.out.keep hR); replace RR := hid (RR.out.keep hR); replace FF := hid (gt FF.out hR); have r4' := hid r4; clear r4
      refine hK.out _ _ hR (fun hHeld => ?_)
      clear hK K
      (try simp only [Act.put, List.setIfInBounds_toArray, List.set_cons_zero, List.set_cons_succ])
      clear hHeld
      refine wpAnyK_more (S' := Gr w4) (fun W h => gt hR h) ?_
      have hHeld : Gr w4 w4 := Below.refl _ _
      clear hR
      refine wpAnyK_take (i := 4) (v := ?_) (op_at _ 4 _ rfl) (by kernel_rfl) (by kernel_rfl) (by kernel_rfl) (by kernel_rfl) (fun _ _ _ h => h) (Or.inl ⟨by rfl, ?_⟩) (by assumption) ?_
      rotate_left 1
      focus (intro W hSw; have cv := conv_str (r4'.out.keep hSw); go_simp; first | done | with_reducible rfl)
      (try simp only [Act.put, List.setIfInBounds_toArray, List.set_cons_zero, List.set_cons_succ])
      refine wpAnyK_ready (rs := [6]) (by kernel_rfl) (by simp) ?_
      refine AllReadyK.cons (op_at _ 6 _ rfl) (fun K hK => ?_) AllReadyK.nil
      go_simp
      go_at_call 12; refine (plain_any (some ⟨b0, off, none⟩) L cap P D w4 RR.out (by omega)).mono ?_; rintro e w5 ⟨ao5, c5, rfl, r5, hR⟩; replace hR : Gr w4 w5 := hR; replace QQ := hid (QQ.out.keep hR); replace RR := hid (RR.out.keep hR); replace FF := hid (gt FF.out hR); replace r4' := hid (r4'.out.keep hR); obtain ⟨b5, o5, rfl, hc5⟩ := r5 (by omega); obtain ⟨a5, n5, e5, k0, k1, rd5⟩ := hc5 i hiL; rw [← hp'.out] at k0; rw [← hd'.out] at rd5; have rd5' := hid rd5; have K0 := hid k0; have K1 := hid k1; clear hc5 rd5 r5 k0 k1
      refine hK.out _ _ hR (fun hHeld => ?_)
      clear hK K
      (try simp only [Act.put, List.setIfInBounds_toArray, List.set_cons_zero, List.set_cons_succ])
      clear hHeld
      refine wpAnyK_more (S' := Gr w5) (fun W h => gt hR h) ?_
      have hHeld : Gr w5 w5 := Below.refl _ _
      clear hR
      refine wpAnyK_pure (i := 8) (v := ?_) (op_at _ 8 _ rfl) (by kernel_rfl) (by kernel_rfl) (by kernel_rfl) (by kernel_rfl) (fun _ _ _ h => h) (Or.inl ⟨by rfl, ?_⟩) (Or.inl (by assumption)) ?_
      rotate_left 1
      focus (intro W hSw; go_simp; first | done | with_reducible rfl)
      (try simp only [Act.put, List.setIfInBounds_toArray, List.set_cons_zero, List.set_cons_succ])
      refine wpAnyK_take (i := 9) (v := ?_) (op_at _ 9 _ rfl) (by kernel_rfl) (by kernel_rfl) (by kernel_rfl) (by kernel_rfl) (fun _ _ _ h => h) (Or.inl ⟨by rfl, ?_⟩) (by assumption) ?_
      rotate_left 1
      focus (intro W hSw; have k0 := keep_old hSw K0.out; have k1 := keep_old hSw K1.out; go_simp; first | done | with_reducible rfl)
      (try simp only [Act.put, List.setIfInBounds_toArray, List.set_cons_zero, List.set_cons_succ])
      refine wpAnyK_ready (rs := [12]) (by kernel_rfl) (by simp) ?_
      refine AllReadyK.cons (op_at _ 12 _ rfl) (fun K hK => ?_) AllReadyK.nil
      go_simp
      go_at_call 11; refine (rfR_any p m a5 n5 e5 d w5 rd5'.out hdx.out).mono ?_; rintro e w6 ⟨a6, n6, c6, rfl, r6, hR⟩; replace hR : Gr w5 w6 := hR; replace QQ := hid (QQ.out.keep hR); replace RR := hid (RR.out.keep hR); replace FF := hid (gt FF.out hR); have r6' := hid r6; clear r6
      refine hK.out _ _ hR (fun hHeld => ?_)
      clear hK K
      (try simp only [Act.put, List.setIfInBounds_toArray, List.set_cons_zero, List.set_cons_succ])
      clear hHeld
      refine wpAnyK_more (S' := Gr w6) (fun W h => gt hR h) ?_
      have hHeld : Gr w6 w6 := Below.refl _ _
      clear hR
      refine wpAnyK_take (i := 13) (v := ?_) (op_at _ 13 _ rfl) (by kernel_rfl) (by kernel_rfl) (by kernel_rfl) (by kernel_rfl) (fun _ _ _ h => h) (Or.inl ⟨by rfl, ?_⟩) (by assumption) ?_
      rotate_left 1
      focus (intro W hSw; have cv := conv_str (r6'.out.keep hSw); go_simp; first | done | with_reducible rfl)
      (try simp only [Act.put, List.setIfInBounds_toArray, List.set_cons_zero, List.set_cons_succ])
      refine wpAnyK_pure (i := 14) (v := .bool false) (op_at _ 14 _ rfl) (by kernel_rfl) (by kernel_rfl) (by kernel_rfl) (by kernel_rfl) (fun _ _ _ h => h) (Or.inl ⟨by rfl, ?_⟩) (Or.inl (by assumption)) ?_
      focus (intro W hSw; go_simp; first | done | with_reducible rfl | simp)
      (try simp only [Act.put, List.setIfInBounds_toArray, List.set_cons_zero, List.set_cons_succ])
      refine wpAnyK_done (by kernel_rfl) ?_ _
      go_wp2
      exact ⟨⟨i + 1, by omega, by go_num, hid FF.out⟩, by simp [intOf]; omega⟩
    · obtain rfl : i = L := by omega
      obtain ⟨A, hA⟩ : ∃ A, fH c pg m wh = A := ⟨_, rfl⟩
      obtain ⟨E, hE⟩ : ∃ E, fB c pg m wh i P D = E := ⟨_, rfl⟩
      obtain ⟨G, hG⟩ : ∃ G, goodL c pg i P D = G := ⟨_, rfl⟩
      obtain ⟨N, hN⟩ : ∃ N, secN c = N := ⟨_, rfl⟩
      have hA' := hid hA
      have hE' := hid hE
      have hG' := hid hG
      have c19 := hid (sectors_any c)
      have c20 := hid (rsectors_any c)
      rw [hN] at c19 c20
      clear hA hE hG hN Q2 Z2 R2 B2 F
      go_upto_region 11 with fail
      have QQ : Hid (HB 24 wr.drew w.heap.size c pg m) := hid (Q.out.keep (Below.refl _ _).drew)
      have ZZ : Hid (HB 29 wr.drew g c pg m) := hid (Z.out.keep (Below.refl _ _).drew)
      have RR : Hid (Recs wr.drew ao i P D) := hid (R.out.keep (Below.refl _ _).drew)
      have BB : Hid (Below w.heap.size w wr.drew) := hid B.out.drew
      clear Q Z R B
      refine wp_region_K (S := Gr wr.drew) (fun _ => false) (by kernel_rfl) (Below.refl _ _) (fun hHeld => ?_)
      refine wpAnyK_take (i := 0) (v := ?_) (op_at _ 0 _ rfl) (by kernel_rfl) (by kernel_rfl) (by kernel_rfl) (by kernel_rfl) (fun _ _ _ h => h) (Or.inl ⟨by rfl, ?_⟩) (by assumption) ?_
      rotate_left 1
      focus (intro W hSw; obtain ⟨a0, a1, a2, _, _, _⟩ := (QQ.out.keep hSw).cells; go_simp; first | done | with_reducible rfl)
      (try simp only [Act.put, List.setIfInBounds_toArray, List.set_cons_zero, List.set_cons_succ])
      refine wpAnyK_pure (i := 1) (v := ?_) (op_at _ 1 _ rfl) (by kernel_rfl) (by kernel_rfl) (by kernel_rfl) (by kernel_rfl) (fun _ _ _ h => h) (Or.inl ⟨by rfl, ?_⟩) (Or.inl (by assumption)) ?_
      rotate_left 1
      focus (intro W hSw; go_simp; first | done | with_reducible rfl)
      (try simp only [Act.put, List.setIfInBounds_toArray, List.set_cons_zero, List.set_cons_succ])
      refine wpAnyK_take (i := 4) (v := ?_) (op_at _ 4 _ rfl) (by kernel_rfl) (by kernel_rfl) (by kernel_rfl) (by kernel_rfl) (fun _ _ _ h => h) (Or.inl ⟨by rfl, ?_⟩) (by assumption) ?_
      rotate_left 1
      focus (intro W hSw; obtain ⟨a0, a1, a2, _, _, _⟩ := (ZZ.out.keep hSw).cells; go_simp; first | done | with_reducible rfl)
      (try simp only [Act.put, List.setIfInBounds_toArray, List.set_cons_zero, List.set_cons_succ])
      refine wpAnyK_pure (i := 5) (v := ?_) (op_at _ 5 _ rfl) (by kernel_rfl) (by kernel_rfl) (by kernel_rfl) (by kernel_rfl) (fun _ _ _ h => h) (Or.inl ⟨by rfl, ?_⟩) (Or.inl (by assumption)) ?_
      rotate_left 1
      focus (intro W hSw; go_simp; first | done | with_reducible rfl)
      (try simp only [Act.put, List.setIfInBounds_toArray, List.set_cons_zero, List.set_cons_succ])
      refine wpAnyK_ready (rs := [2]) (by kernel_rfl) (by simp) ?_
      refine AllReadyK.cons (op_at _ 2 _ rfl) (fun K hK => ?_) AllReadyK.nil
      go_simp
      go_at_call 13; refine (fH_any c pg m wh wr.drew (hT'.out.keep BB.out)).mono ?_; rw [hA'.out]; rintro e w1 ⟨a1, n1, c1, rfl, r1, hR⟩; replace hR : Gr wr.drew w1 := hR; replace QQ := hid (QQ.out.keep hR); replace ZZ := hid (ZZ.out.keep hR); replace RR := hid (RR.out.keep hR); replace BB := hid (gt BB.out hR); have r1' := hid r1; clear r1
      refine hK.out _ _ hR (fun hHeld => ?_)
      clear hK K
      (try simp only [Act.put, List.setIfInBounds_toArray, List.set_cons_zero, List.set_cons_succ])
      clear hHeld
      refine wpAnyK_more (S' := Gr w1) (fun W h => gt hR h) ?_
      have hHeld : Gr w1 w1 := Below.refl _ _
      clear hR
      refine wpAnyK_take (i := 3) (v := ?_) (op_at _ 3 _ rfl) (by kernel_rfl) (by kernel_rfl) (by kernel_rfl) (by kernel_rfl) (fun _ _ _ h => h) (Or.inl ⟨by rfl, ?_⟩) (by assumption) ?_
      rotate_left 1
      focus (intro W hSw; have cv := conv_str (r1'.out.keep hSw); go_simp; first | done | with_reducible rfl)
      (try simp only [Act.put, List.setIfInBounds_toArray, List.set_cons_zero, List.set_cons_succ])
      refine wpAnyK_ready (rs := [6]) (by kernel_rfl) (by simp) ?_
      refine AllReadyK.cons (op_at _ 6 _ rfl) (fun K hK => ?_) AllReadyK.nil
      go_simp
      go_at_call 14; refine (rfH_any c pg m wh w1).mono ?_; rw [hA'.out]; rintro e w2 ⟨a2, n2, c2, rfl, r2, hR⟩; replace hR : Gr w1 w2 := hR; replace QQ := hid (QQ.out.keep hR); replace ZZ := hid (ZZ.out.keep hR); replace RR := hid (RR.out.keep hR); replace BB := hid (gt BB.out hR); have r2' := hid r2; clear r2
      refine hK.out _ _ hR (fun hHeld => ?_)
      clear hK K
      (try simp only [Act.put, List.setIfInBounds_toArray, List.set_cons_zero, List.set_cons_succ])
      clear hHeld
      refine wpAnyK_more (S' := Gr w2) (fun W h => gt hR h) ?_
      have hHeld : Gr w2 w2 := Below.refl _ _
      clear hR
      refine wpAnyK_take (i := 7) (v := ?_) (op_at _ 7 _ rfl) (by kernel_rfl) (by kernel_rfl) (by kernel_rfl) (by kernel_rfl) (fun _ _ _ h => h) (Or.inl ⟨by rfl, ?_⟩) (by assumption) ?_
      rotate_left 1
      focus (intro W hSw; have cv := conv_str (r2'.out.keep hSw); go_simp; first | done | with_reducible rfl)
      (try simp only [Act.put, List.setIfInBounds_toArray, List.set_cons_zero, List.set_cons_succ])
      refine wpAnyK_pure (i := 8) (v := .bool true) (op_at _ 8 _ rfl) (by kernel_rfl) (by kernel_rfl) (by kernel_rfl) (by kernel_rfl) (fun _ _ _ h => h) (Or.inl ⟨by rfl, ?_⟩) (Or.inl (by assumption)) ?_
      focus (intro W hSw; go_simp; first | done | with_reducible rfl | simp)
      (try simp only [Act.put, List.setIfInBounds_toArray, List.set_cons_zero, List.set_cons_succ])
      refine wpAnyK_pure (i := 9) (v := ?_) (op_at _ 9 _ rfl) (by kernel_rfl) (by kernel_rfl) (by kernel_rfl) (by kernel_rfl) (fun _ _ _ h => h) (Or.inl ⟨by rfl, ?_⟩) (Or.inl (by assumption)) ?_
      rotate_left 1
      focus (intro W hSw; go_simp; first | done | with_reducible rfl)
      (try simp only [Act.put, List.setIfInBounds_toArray, List.set_cons_zero, List.set_cons_succ])
      refine wpAnyK_take (i := 10) (v := ?_) (op_at _ 10 _ rfl) (by kernel_rfl) (by kernel_rfl) (by kernel_rfl) (by kernel_rfl) (fun _ _ _ h => h) (Or.inl ⟨by rfl, ?_⟩) (by assumption) ?_
      rotate_left 1
      focus (intro W hSw; obtain ⟨a0, a1, a2, _, _, _⟩ := (QQ.out.keep hSw).cells; go_simp; first | done | with_reducible rfl)
      (try simp only [Act.put, List.setIfInBounds_toArray, List.set_cons_zero, List.set_cons_succ])
      refine wpAnyK_pure (i := 11) (v := ?_) (op_at _ 11 _ rfl) (by kernel_rfl) (by kernel_rfl) (by kernel_rfl) (by kernel_rfl) (fun _ _ _ h => h) (Or.inl ⟨by rfl, ?_⟩) (Or.inl (by assumption)) ?_
      rotate_left 1
      focus (intro W hSw; go_simp; first | done | with_reducible rfl)
      (try simp only [Act.put, List.setIfInBounds_toArray, List.set_cons_zero, List.set_cons_succ])
      refine wpAnyK_pure (i := 12) (v := ?_) (op_at _ 12 _ rfl) (by kernel_rfl) (by kernel_rfl) (by kernel_rfl) (by kernel_rfl) (fun _ _ _ h => h) (Or.inl ⟨by rfl, ?_⟩) (Or.inl (by assumption)) ?_
      rotate_left 1
      focus (intro W hSw; go_simp; first | done | with_reducible rfl)
      (try simp only [Act.put, List.setIfInBounds_toArray, List.set_cons_zero, List.set_cons_succ])
      refine wpAnyK_take (i := 15) (v := ?_) (op_at _ 15 _ rfl) (by kernel_rfl) (by kernel_rfl) (by kernel_rfl) (by kernel_rfl) (fun _ _ _ h => h) (Or.inl ⟨by rfl, ?_⟩) (by assumption) ?_
      rotate_left 1
      focus (intro W hSw; obtain ⟨a0, a1, a2, _, _, _⟩ := (ZZ.out.keep hSw).cells; go_simp; first | done | with_reducible rfl)
      (try simp only [Act.put, List.setIfInBounds_toArray, List.set_cons_zero, List.set_cons_succ])
      refine wpAnyK_pure (i := 16) (v := ?_) (op_at _ 16 _ rfl) (by kernel_rfl) (by kernel_rfl) (by kernel_rfl) (by kernel_rfl) (fun _ _ _ h => h) (Or.inl ⟨by rfl, ?_⟩) (Or.inl (by assumption)) ?_
      rotate_left 1
      focus (intro W hSw; go_simp; first | done | with_reducible rfl)
      (try simp only [Act.put, List.setIfInBounds_toArray, List.set_cons_zero, List.set_cons_succ])
      refine wpAnyK_pure (i := 18) (v := ?_) (op_at _ 18 _ rfl) (by kernel_rfl) (by kernel_rfl) (by kernel_rfl) (by kernel_rfl) (fun _ _ _ h => h) (Or.inl ⟨by rfl, ?_⟩) (Or.inl (by assumption)) ?_
      rotate_left 1
      focus (intro W hSw; go_simp; first | done | with_reducible rfl)
      (try simp only [Act.put, List.setIfInBounds_toArray, List.set_cons_zero, List.set_cons_succ])
      refine wpAnyK_ready (rs := [13]) (by kernel_rfl) (by simp) ?_
      refine AllReadyK.cons (op_at _ 13 _ rfl) (fun K hK => ?_) AllReadyK.nil
      go_simp
      go_at_call 15; refine (fB_any c pg m ao i cap P D wh w2 RR.out (by omega) hdb2.out (hT'.out.keep BB.out)).mono ?_; rw [hE'.out]; rintro e w3 ⟨a3, n3, c3, rfl, r3, hR⟩; replace hR : Gr w2 w3 := hR; replace QQ := hid (QQ.out.keep hR); replace ZZ := hid (ZZ.out.keep hR); replace RR := hid (RR.out.keep hR); replace BB := hid (gt BB.out hR); have r3' := hid r3; clear r3
      refine hK.out _ _ hR (fun hHeld => ?_)
      clear hK K
      (try simp only [Act.put, List.setIfInBounds_toArray, List.set_cons_zero, List.set_cons_succ])
      clear hHeld
      refine wpAnyK_more (S' := Gr w3) (fun W h => gt hR h) ?_
      have hHeld : Gr w3 w3 := Below.refl _ _
      clear hR
      refine wpAnyK_take (i := 14) (v := ?_) (op_at _ 14 _ rfl) (by kernel_rfl) (by kernel_rfl) (by kernel_rfl) (by kernel_rfl) (fun _ _ _ h => h) (Or.inl ⟨by rfl, ?_⟩) (by assumption) ?_
      rotate_left 1
      focus (intro W hSw; have cv := conv_str (r3'.out.keep hSw); go_simp; first | done | with_reducible rfl)
      (try simp only [Act.put, List.setIfInBounds_toArray, List.set_cons_zero, List.set_cons_succ])
      refine wpAnyK_ready (rs := [17]) (by kernel_rfl) (by simp) ?_
      refine AllReadyK.cons (op_at _ 17 _ rfl) (fun K hK => ?_) AllReadyK.nil
      go_simp
      go_at_call 12; refine (plain_any ao i cap P D w3 RR.out (by omega)).mono ?_; rintro e w4 ⟨a4, c4, rfl, r4, hR⟩; replace hR : Gr w3 w4 := hR; replace QQ := hid (QQ.out.keep hR); replace ZZ := hid (ZZ.out.keep hR); replace RR := hid (RR.out.keep hR); replace BB := hid (gt BB.out hR); have R4 := hid r4; clear r4
      refine hK.out _ _ hR (fun hHeld => ?_)
      clear hK K
      (try simp only [Act.put, List.setIfInBounds_toArray, List.set_cons_zero, List.set_cons_succ])
      clear hHeld
      refine wpAnyK_more (S' := Gr w4) (fun W h => gt hR h) ?_
      have hHeld : Gr w4 w4 := Below.refl _ _
      clear hR
      refine wpAnyK_ready (rs := [19]) (by kernel_rfl) (by simp) ?_
      refine AllReadyK.cons (op_at _ 19 _ rfl) (fun K hK => ?_) AllReadyK.nil
      go_simp
      go_at_call 16; refine (rfB_any c pg m a4 i c4 P D wh w4 R4.out (by omega) hdb2.out).mono ?_; rw [hE'.out]; rintro e w5 ⟨a5, n5, c5, rfl, r5, hR⟩; replace hR : Gr w4 w5 := hR; replace QQ := hid (QQ.out.keep hR); replace ZZ := hid (ZZ.out.keep hR); replace RR := hid (RR.out.keep hR); replace BB := hid (gt BB.out hR); have r5' := hid r5; clear r5
      refine hK.out _ _ hR (fun hHeld => ?_)
      clear hK K
      (try simp only [Act.put, List.setIfInBounds_toArray, List.set_cons_zero, List.set_cons_succ])
      clear hHeld
      refine wpAnyK_more (S' := Gr w5) (fun W h => gt hR h) ?_
      have hHeld : Gr w5 w5 := Below.refl _ _
      clear hR
      refine wpAnyK_take (i := 20) (v := ?_) (op_at _ 20 _ rfl) (by kernel_rfl) (by kernel_rfl) (by kernel_rfl) (by kernel_rfl) (fun _ _ _ h => h) (Or.inl ⟨by rfl, ?_⟩) (by assumption) ?_
      rotate_left 1
      focus (intro W hSw; have cv := conv_str (r5'.out.keep hSw); go_simp; first | done | with_reducible rfl)
      (try simp only [Act.put, List.setIfInBounds_toArray, List.set_cons_zero, List.set_cons_succ])
      refine wpAnyK_pure (i := 21) (v := .bool true) (op_at _ 21 _ rfl) (by kernel_rfl) (by kernel_rfl) (by kernel_rfl) (by kernel_rfl) (fun _ _ _ h => h) (Or.inl ⟨by rfl, ?_⟩) (Or.inl (by assumption)) ?_
      focus (intro W hSw; go_simp; first | done | with_reducible rfl | simp)
      (try simp only [Act.put, List.setIfInBounds_toArray, List.set_cons_zero, List.set_cons_succ])
      refine wpAnyK_pure (i := 22) (v := ?_) (op_at _ 22 _ rfl) (by kernel_rfl) (by kernel_rfl) (by kernel_rfl) (by kernel_rfl) (fun _ _ _ h => h) (Or.inl ⟨by rfl, ?_⟩) (Or.inl (by assumption)) ?_
      rotate_left 1
      focus (intro W hSw; go_simp; first | done | with_reducible rfl)
      (try simp only [Act.put, List.setIfInBounds_toArray, List.set_cons_zero, List.set_cons_succ])
      refine wpAnyK_pure (i := 23) (v := ?_) (op_at _ 23 _ rfl) (by kernel_rfl) (by kernel_rfl) (by kernel_rfl) (by kernel_rfl) (fun _ _ _ h => h) (Or.inl ⟨by rfl, ?_⟩) (Or.inl (by assumption)) ?_
      rotate_left 1
      focus (intro W hSw; go_simp; first | done | with_reducible rfl)
      (try simp only [Act.put, List.setIfInBounds_toArray, List.set_cons_zero, List.set_cons_succ])
      refine wpAnyK_take (i := 24) (v := ?_) (op_at _ 24 _ rfl) (by kernel_rfl) (by kernel_rfl) (by kernel_rfl) (by kernel_rfl) (fun _ _ _ h => h) (Or.inl ⟨by rfl, ?_⟩) (by assumption) ?_
      rotate_left 1
      focus (intro W hSw; obtain ⟨a0, a1, a2, _, _, _⟩ := (QQ.out.keep hSw).cells; go_simp; first | done | with_reducible rfl)
      (try simp only [Act.put, List.setIfInBounds_toArray, List.set_cons_zero, List.set_cons_succ])
      refine wpAnyK_pure (i := 25) (v := ?_) (op_at _ 25 _ rfl) (by kernel_rfl) (by kernel_rfl) (by kernel_rfl) (by kernel_rfl) (fun _ _ _ h => h) (Or.inl ⟨by rfl, ?_⟩) (Or.inl (by assumption)) ?_
      rotate_left 1
      focus (intro W hSw; go_simp; first | done | with_reducible rfl)
      (try simp only [Act.put, List.setIfInBounds_toArray, List.set_cons_zero, List.set_cons_succ])
      refine wpAnyK_take (i := 27) (v := ?_) (op_at _ 27 _ rfl) (by kernel_rfl) (by kernel_rfl) (by kernel_rfl) (by kernel_rfl) (fun _ _ _ h => h) (Or.inl ⟨by rfl, ?_⟩) (by assumption) ?_
      rotate_left 1
      focus (intro W hSw; obtain ⟨a0, a1, a2, _, _, _⟩ := (ZZ.out.keep hSw).cells; go_simp; first | done | with_reducible rfl)
      (try simp only [Act.put, List.setIfInBounds_toArray, List.set_cons_zero, List.set_cons_succ])
      refine wpAnyK_pure (i := 28) (v := ?_) (op_at _ 28 _ rfl) (by kernel_rfl) (by kernel_rfl) (by kernel_rfl) (by kernel_rfl) (fun _ _ _ h => h) (Or.inl ⟨by rfl, ?_⟩) (Or.inl (by assumption)) ?_
      rotate_left 1
      focus (intro W hSw; go_simp; first | done | with_reducible rfl)
      (try simp only [Act.put, List.setIfInBounds_toArray, List.set_cons_zero, List.set_cons_succ])
      refine wpAnyK_ready (rs := [26]) (by kernel_rfl) (by simp) ?_
      refine AllReadyK.cons (op_at _ 26 _ rfl) (fun K hK => ?_) AllReadyK.nil
      go_simp
      go_at_call 17; refine (good_any c pg m ao i cap P D w5 RR.out (by omega)).mono ?_; rw [hG'.out]; rintro e w6 ⟨rfl, hR⟩; replace hR : Gr w5 w6 := hR; replace QQ := hid (QQ.out.keep hR); replace ZZ := hid (ZZ.out.keep hR); replace RR := hid (RR.out.keep hR); replace BB := hid (gt BB.out hR)
      refine hK.out _ _ hR (fun hHeld => ?_)
      clear hK K
      (try simp only [Act.put, List.setIfInBounds_toArray, List.set_cons_zero, List.set_cons_succ])
      clear hHeld
      refine wpAnyK_more (S' := Gr w6) (fun W h => gt hR h) ?_
      have hHeld : Gr w6 w6 := Below.refl _ _
      clear hR
      refine wpAnyK_ready (rs := [29]) (by kernel_rfl) (by simp) ?_
      refine AllReadyK.cons (op_at _ 29 _ rfl) (fun K hK => ?_) AllReadyK.nil
      go_simp
      go_at_call 12; refine (plain_any ao i cap P D w6 RR.out (by omega)).mono ?_; rintro e w7 ⟨a7, c7, rfl, r7, hR⟩; replace hR : Gr w6 w7 := hR; replace QQ := hid (QQ.out.keep hR); replace ZZ := hid (ZZ.out.keep hR); replace RR := hid (RR.out.keep hR); replace BB := hid (gt BB.out hR); have R7 := hid r7; clear r7
      refine hK.out _ _ hR (fun hHeld => ?_)
      clear hK K
      (try simp only [Act.put, List.setIfInBounds_toArray, List.set_cons_zero, List.set_cons_succ])
      clear hHeld
      refine wpAnyK_more (S' := Gr w7) (fun W h => gt hR h) ?_
      have hHeld : Gr w7 w7 := Below.refl _ _
      clear hR
      refine wpAnyK_ready (rs := [30]) (by kernel_rfl) (by simp) ?_
      refine AllReadyK.cons (op_at _ 30 _ rfl) (fun K hK => ?_) AllReadyK.nil
      go_simp
      go_at_call 18; refine (rgoodL_any c pg m a7 i c7 P D w7 R7.out (by omega)).mono ?_; rw [hG'.out]; rintro e w8 ⟨rfl, hR⟩; replace hR : Gr w7 w8 := hR; replace QQ := hid (QQ.out.keep hR); replace ZZ := hid (ZZ.out.keep hR); replace RR := hid (RR.out.keep hR); replace BB := hid (gt BB.out hR)
      refine hK.out _ _ hR (fun hHeld => ?_)
      clear hK K
      (try simp only [Act.put, List.setIfInBounds_toArray, List.set_cons_zero, List.set_cons_succ])
      clear hHeld
      refine wpAnyK_more (S' := Gr w8) (fun W h => gt hR h) ?_
      have hHeld : Gr w8 w8 := Below.refl _ _
      clear hR
      refine wpAnyK_pure (i := 31) (v := .bool true) (op_at _ 31 _ rfl) (by kernel_rfl) (by kernel_rfl) (by kernel_rfl) (by kernel_rfl) (fun _ _ _ h => h) (Or.inl ⟨by rfl, ?_⟩) (Or.inl (by assumption)) ?_
      focus (intro W hSw; go_simp; first | done | with_reducible rfl | simp)
      (try simp only [Act.put, List.setIfInBounds_toArray, List.set_cons_zero, List.set_cons_succ])
      refine wpAnyK_pure (i := 32) (v := ?_) (op_at _ 32 _ rfl) (by kernel_rfl) (by kernel_rfl) (by kernel_rfl) (by kernel_rfl) (fun _ _ _ h => h) (Or.inl ⟨by rfl, ?_⟩) (Or.inl (by assumption)) ?_
      rotate_left 1
      focus (intro W hSw; go_simp; first | done | with_reducible rfl)
      (try simp only [Act.put, List.setIfInBounds_toArray, List.set_cons_zero, List.set_cons_succ])
      refine wpAnyK_pure (i := 33) (v := ?_) (op_at _ 33 _ rfl) (by kernel_rfl) (by kernel_rfl) (by kernel_rfl) (by kernel_rfl) (fun _ _ _ h => h) (Or.inl ⟨by rfl, ?_⟩) (Or.inl (by assumption)) ?_
      rotate_left 1
      focus (intro W hSw; go_simp; first | done | with_reducible rfl)
      (try simp only [Act.put, List.setIfInBounds_toArray, List.set_cons_zero, List.set_cons_succ])
      refine wpAnyK_pure (i := 34) (v := ?_) (op_at _ 34 _ rfl) (by kernel_rfl) (by kernel_rfl) (by kernel_rfl) (by kernel_rfl) (fun _ _ _ h => h) (Or.inl ⟨by rfl, ?_⟩) (Or.inl (by assumption)) ?_
      rotate_left 1
      focus (intro W hSw; go_simp; first | done | with_reducible rfl)
      (try simp only [Act.put, List.setIfInBounds_toArray, List.set_cons_zero, List.set_cons_succ])
      refine wpAnyK_take (i := 35) (v := ?_) (op_at _ 35 _ rfl) (by kernel_rfl) (by kernel_rfl) (by kernel_rfl) (by kernel_rfl) (fun _ _ _ h => h) (Or.inl ⟨by rfl, ?_⟩) (by assumption) ?_
      rotate_left 1
      focus (intro W hSw; obtain ⟨a0, a1, a2, _, _, _⟩ := (QQ.out.keep hSw).cells; go_simp; first | done | with_reducible rfl)
      (try simp only [Act.put, List.setIfInBounds_toArray, List.set_cons_zero, List.set_cons_succ])
      refine wpAnyK_pure (i := 37) (v := ?_) (op_at _ 37 _ rfl) (by kernel_rfl) (by kernel_rfl) (by kernel_rfl) (by kernel_rfl) (fun _ _ _ h => h) (Or.inl ⟨by rfl, ?_⟩) (Or.inl (by assumption)) ?_
      rotate_left 1
      focus (intro W hSw; go_simp; first | done | with_reducible rfl)
      (try simp only [Act.put, List.setIfInBounds_toArray, List.set_cons_zero, List.set_cons_succ])
      refine wpAnyK_take (i := 38) (v := ?_) (op_at _ 38 _ rfl) (by kernel_rfl) (by kernel_rfl) (by kernel_rfl) (by kernel_rfl) (fun _ _ _ h => h) (Or.inl ⟨by rfl, ?_⟩) (by assumption) ?_
      rotate_left 1
      focus (intro W hSw; obtain ⟨a0, a1, a2, _, _, _⟩ := (QQ.out.keep hSw).cells; go_simp; first | done | with_reducible rfl)
      (try simp only [Act.put, List.setIfInBounds_toArray, List.set_cons_zero, List.set_cons_succ])
      refine wpAnyK_ready (rs := [36]) (by kernel_rfl) (by simp) ?_
      refine AllReadyK.cons (op_at _ 36 _ rfl) (fun K hK => ?_) AllReadyK.nil
      go_simp
      go_at_call 19; refine (c19.out _).mono ?_; rintro e w9 ⟨rfl, hw9⟩; have hR : Gr w8 w9 := (by rw [hw9]; exact Below.refl _ _); replace QQ := hid (QQ.out.keep hR); replace ZZ := hid (ZZ.out.keep hR); replace RR := hid (RR.out.keep hR); replace BB := hid (gt BB.out hR); clear hw9
      refine hK.out _ _ hR (fun hHeld => ?_)
      clear hK K
      (try simp only [Act.put, List.setIfInBounds_toArray, List.set_cons_zero, List.set_cons_succ])
      clear hHeld
      refine wpAnyK_more (S' := Gr w9) (fun W h => gt hR h) ?_
      have hHeld : Gr w9 w9 := Below.refl _ _
      clear hR
      refine wpAnyK_ready (rs := [39]) (by kernel_rfl) (by simp) ?_
      refine AllReadyK.cons (op_at _ 39 _ rfl) (fun K hK => ?_) AllReadyK.nil
      go_simp
      go_at_call 20; refine (c20.out _).mono ?_; rintro e w10 ⟨rfl, hw9⟩; have hR : Gr w9 w10 := (by rw [hw9]; exact Below.refl _ _); replace QQ := hid (QQ.out.keep hR); replace ZZ := hid (ZZ.out.keep hR); replace RR := hid (RR.out.keep hR); replace BB := hid (gt BB.out hR); clear hw9
      refine hK.out _ _ hR (fun hHeld => ?_)
      clear hK K
      (try simp only [Act.put, List.setIfInBounds_toArray, List.set_cons_zero, List.set_cons_succ])
      clear hHeld
      refine wpAnyK_more (S' := Gr w10) (fun W h => gt hR h) ?_
      have hHeld : Gr w10 w10 := Below.refl _ _
      clear hR
      refine wpAnyK_pure (i := 40) (v := .bool true) (op_at _ 40 _ rfl) (by kernel_rfl) (by kernel_rfl) (by kernel_rfl) (by kernel_rfl) (fun _ _ _ h => h) (Or.inl ⟨by rfl, ?_⟩) (Or.inl (by assumption)) ?_
      focus (intro W hSw; go_simp; first | done | with_reducible rfl | simp)
      (try simp only [Act.put, List.setIfInBounds_toArray, List.set_cons_zero, List.set_cons_succ])
      refine wpAnyK_pure (i := 41) (v := ?_) (op_at _ 41 _ rfl) (by kernel_rfl) (by kernel_rfl) (by kernel_rfl) (by kernel_rfl) (fun _ _ _ h => h) (Or.inl ⟨by rfl, ?_⟩) (Or.inl (by assumption)) ?_
      rotate_left 1
      focus (intro W hSw; go_simp; first | done | with_reducible rfl)
      (try simp only [Act.put, List.setIfInBounds_toArray, List.set_cons_zero, List.set_cons_succ])
      refine wpAnyK_pure (i := 42) (v := ?_) (op_at _ 42 _ rfl) (by kernel_rfl) (by kernel_rfl) (by kernel_rfl) (by kernel_rfl) (fun _ _ _ h => h) (Or.inl ⟨by rfl, ?_⟩) (Or.inl (by assumption)) ?_
      rotate_left 1
      focus (intro W hSw; go_simp; first | done | with_reducible rfl)
      (try simp only [Act.put, List.setIfInBounds_toArray, List.set_cons_zero, List.set_cons_succ])
      refine wpAnyK_ready (rs := [43]) (by kernel_rfl) (by simp) ?_
      refine AllReadyK.cons (op_at _ 43 _ rfl) (fun K hK => ?_) AllReadyK.nil
      go_simp
      go_at_call 8; refine (lv.out _).mono ?_; rintro e w11 ⟨rfl, hw9⟩; have hR : Gr w10 w11 := (by rw [hw9]; exact Below.refl _ _); replace QQ := hid (QQ.out.keep hR); replace ZZ := hid (ZZ.out.keep hR); replace RR := hid (RR.out.keep hR); replace BB := hid (gt BB.out hR); clear hw9
      refine hK.out _ _ hR (fun hHeld => ?_)
      clear hK K
      (try simp only [Act.put, List.setIfInBounds_toArray, List.set_cons_zero, List.set_cons_succ])
      clear hHeld
      refine wpAnyK_more (S' := Gr w11) (fun W h => gt hR h) ?_
      have hHeld : Gr w11 w11 := Below.refl _ _
      clear hR
      refine wpAnyK_pure (i := 44) (v := ?_) (op_at _ 44 _ rfl) (by kernel_rfl) (by kernel_rfl) (by kernel_rfl) (by kernel_rfl) (fun _ _ _ h => h) (Or.inl ⟨by rfl, ?_⟩) (Or.inl (by assumption)) ?_
      rotate_left 1
      focus (intro W hSw; go_simp; first | done | with_reducible rfl)
      (try simp only [Act.put, List.setIfInBounds_toArray, List.set_cons_zero, List.set_cons_succ])
      refine wpAnyK_pure (i := 45) (v := ?_) (op_at _ 45 _ rfl) (by kernel_rfl) (by kernel_rfl) (by kernel_rfl) (by kernel_rfl) (fun _ _ _ h => h) (Or.inl ⟨by rfl, ?_⟩) (Or.inl (by assumption)) ?_
      rotate_left 1
      focus (intro W hSw; go_simp; first | done | with_reducible rfl)
      (try simp only [Act.put, List.setIfInBounds_toArray, List.set_cons_zero, List.set_cons_succ])
      refine wpAnyK_done (by kernel_rfl) ?_ _
      go_wp2
      go_ret
      exact ⟨rfl, BB.out⟩

end Go.Proofs.YtndlogjmnbgegaaDoor
