/- The steps that make a journal sure, and then hot; no statement of the seat is proved here. -/
import Derived.Test.YtokofpbhbjbnfaaGreatDoorG33
import Derived.Test.YtokofpbhbjbnfaaGreatDoorG04
namespace Go.Proofs.YtokofpbhbjbnfaaGreatDoor
open Go.RowKit Go.Maps
open Dsk (gt hid undrew keep_old keep_cell lt_cell Rd DS FS Sec DiskP DFrame Grew From op_at)
open Cch (CS CP Fr wpAnyK wpAnyK_take wpAnyK_pure wpAnyK_ready wpAnyK_done wp_region_K AllReadyK.cons AllReadyK.nil)

/-- What recorded does. -/
def recL (L T m : Nat) (P : Nat → Int) (D : Nat → List Nat) : List Stp :=
  [.wr 1 0 (chunks (1 + 5 * L) (Jrn.bytesN (L : Int) (T : Int) m false L P D)), .sy 1, .wr 1 0 (chunks 1 (Jrn.headN L T m true)), .sy 1]

/-- A row of steps that was written out. -/
theorem steps_lit {w : World} {q B : Nat} {N : Nat → Prop} {us : List Value} {l : List Stp} (e : TypeId) (hN : ∀ k, N k → k < B) (hB : B ≤ w.heap.size) (hs : ∀ (i : Nat) (s : Stp), l[i]? = some s → ∃ u, us[i]? = some u ∧ StepAt (w.alloc (.cells us.toArray e)) q N u s) :
    StepsAt (w.alloc (.cells us.toArray e)) q N (some ⟨w.heap.size, 0, none⟩) l := fun _ =>
  ⟨w.heap.size, 0, rfl, ⟨by simp, fun hk => by have := hN _ hk; omega⟩, fun i s hi => by
    obtain ⟨u, h1, h2⟩ := hs i s hi
    exact ⟨u, by rw [World.cell?_alloc_at _ _ _ _ rfl]; simpa using h1, h2⟩⟩

set_option maxHeartbeats 8000000 in
set_option maxRecDepth 20000 in
theorem recorded_make (p : Nat) (x : PC) (L T m : Nat) (lo : Option Addr) (cap : Nat) (P : Nat → Int) (D : Nat → List Nat) (N : Nat → Prop) (w : World) (hP : PgAt w p x) (hN : ∀ k, N k → k < w.heap.size) (hr : Jrn.Recs w lo L P D)
    (hd : ∀ j, j < L → ∀ b ∈ D j, b < 256) (hg : Jrn.goodL (L : Int) (T : Int) L P D = true) (hT : Jrn.Tab w) (hL : L ≤ 150) (hTb : T ≤ 4000) :
    Calls Tryz.prog 91 #[.pointer (some ⟨p, 0, none⟩), .agg #[.int .i64 (L : Int), .int .i64 (T : Int), .int .u64 (m : Int)], .slice lo L cap] w fun e w' => ∃ ao, e = .returned (.slice ao 4 4) ∧ StepsAt w' x.q N ao (recL L T m P D) ∧ Below w.heap.size w w' := by
  obtain ⟨W1, hW1⟩ : ∃ W1, W1 = w.alloc (.cells #[.int .i64 (L : Int), .int .i64 (T : Int), .int .u64 (m : Int)] 122) := ⟨_, rfl⟩
  have hb1 : Below w.heap.size w W1.drew := by rw [hW1]; exact (Below.alloc (Below.refl _ _) (Nat.le_refl _) _).drew
  have HP := hid (hP.later hb1); have HN := hid hN; have HRc := hid (hr.keep hb1); have HD := hid hd; have HG := hid hg; have HT := hid hT
  have HZ : Hid (Jrn.HB 122 W1.drew w.heap.size L T m) := hid (by rw [hW1]; exact (Jrn.HB.new 122 w L T m).keep (Below.refl _ _).drew)
  have BB := hid hb1
  have HTb := hid (hT.keep hb1)
  clear hP hN hr hd hg hT hb1
  go_enter Tryz.func91, Tryz.ntmps91
  go_upto_region 1 with fail
  rw [← hW1]
  clear hW1
  refine wp_region_K (S := Gr W1.drew) (fun _ => false) (by kernel_rfl) (Below.refl _ _) (fun hHeld => ?_)
  refine wpAnyK_pure (i := 0) (v := ?_) (op_at _ 0 _ rfl) (by kernel_rfl) (by kernel_rfl) (by kernel_rfl) (by kernel_rfl) (fun _ _ _ h => h) (Or.inl ⟨by rfl, ?_⟩) (Or.inl (by assumption)) ?_
  rotate_left 1
  focus (intro W hSw; go_simp; first | done | with_reducible rfl)
  (try simp only [Act.put, List.setIfInBounds_toArray, List.set_cons_zero, List.set_cons_succ])
  refine wpAnyK_pure (i := 1) (v := ?_) (op_at _ 1 _ rfl) (by kernel_rfl) (by kernel_rfl) (by kernel_rfl) (by kernel_rfl) (fun _ _ _ h => h) (Or.inl ⟨by rfl, ?_⟩) (Or.inl (by assumption)) ?_
  rotate_left 1
  focus (intro W hSw; go_simp; first | done | with_reducible rfl)
  (try simp only [Act.put, List.setIfInBounds_toArray, List.set_cons_zero, List.set_cons_succ])
  refine wpAnyK_pure (i := 2) (v := ?_) (op_at _ 2 _ rfl) (by kernel_rfl) (by kernel_rfl) (by kernel_rfl) (by kernel_rfl) (fun _ _ _ h => h) (Or.inl ⟨by rfl, ?_⟩) (Or.inl (by assumption)) ?_
  rotate_left 1
  focus (intro W hSw; go_simp; first | done | with_reducible rfl)
  (try simp only [Act.put, List.setIfInBounds_toArray, List.set_cons_zero, List.set_cons_succ])
  refine wpAnyK_take (i := 3) (v := ?_) (op_at _ 3 _ rfl) (by kernel_rfl) (by kernel_rfl) (by kernel_rfl) (by kernel_rfl) (fun _ _ _ h => h) (Or.inl ⟨by rfl, ?_⟩) (by assumption) ?_
  rotate_left 1
  focus (intro W hSw; obtain ⟨a0, a1, a2, a3, a4, a5, a6, a7, a8, a9, a10, a11⟩ := (HP.out.later hSw).cells; go_simp; first | done | with_reducible rfl)
  (try simp only [Act.put, List.setIfInBounds_toArray, List.set_cons_zero, List.set_cons_succ])
  refine wpAnyK_take (i := 4) (v := ?_) (op_at _ 4 _ rfl) (by kernel_rfl) (by kernel_rfl) (by kernel_rfl) (by kernel_rfl) (fun _ _ _ h => h) (Or.inl ⟨by rfl, ?_⟩) (by assumption) ?_
  rotate_left 1
  focus (intro W hSw; obtain ⟨z0, z1, z2, _, _, _⟩ := (HZ.out.keep hSw).cells; go_simp; first | done | with_reducible rfl)
  (try simp only [Act.put, List.setIfInBounds_toArray, List.set_cons_zero, List.set_cons_succ])
  refine wpAnyK_pure (i := 5) (v := ?_) (op_at _ 5 _ rfl) (by kernel_rfl) (by kernel_rfl) (by kernel_rfl) (by kernel_rfl) (fun _ _ _ h => h) (Or.inl ⟨by rfl, ?_⟩) (Or.inl (by assumption)) ?_
  rotate_left 1
  focus (intro W hSw; go_simp; first | done | with_reducible rfl)
  (try simp only [Act.put, List.setIfInBounds_toArray, List.set_cons_zero, List.set_cons_succ])
  refine wpAnyK_pure (i := 8) (v := ?_) (op_at _ 8 _ rfl) (by kernel_rfl) (by kernel_rfl) (by kernel_rfl) (by kernel_rfl) (fun _ _ _ h => h) (Or.inl ⟨by rfl, ?_⟩) (Or.inl (by assumption)) ?_
  rotate_left 1
  focus (intro W hSw; go_simp; first | done | with_reducible rfl)
  (try simp only [Act.put, List.setIfInBounds_toArray, List.set_cons_zero, List.set_cons_succ])
  refine wpAnyK_pure (i := 9) (v := ?_) (op_at _ 9 _ rfl) (by kernel_rfl) (by kernel_rfl) (by kernel_rfl) (by kernel_rfl) (fun _ _ _ h => h) (Or.inl ⟨by rfl, ?_⟩) (Or.inl (by assumption)) ?_
  rotate_left 1
  focus (intro W hSw; go_simp; first | done | with_reducible rfl)
  (try simp only [Act.put, List.setIfInBounds_toArray, List.set_cons_zero, List.set_cons_succ])
  refine wpAnyK_pure (i := 10) (v := ?_) (op_at _ 10 _ rfl) (by kernel_rfl) (by kernel_rfl) (by kernel_rfl) (by kernel_rfl) (fun _ _ _ h => h) (Or.inl ⟨by rfl, ?_⟩) (Or.inl (by assumption)) ?_
  rotate_left 1
  focus (intro W hSw; go_simp; first | done | with_reducible rfl)
  (try simp only [Act.put, List.setIfInBounds_toArray, List.set_cons_zero, List.set_cons_succ])
  refine wpAnyK_take (i := 11) (v := ?_) (op_at _ 11 _ rfl) (by kernel_rfl) (by kernel_rfl) (by kernel_rfl) (by kernel_rfl) (fun _ _ _ h => h) (Or.inl ⟨by rfl, ?_⟩) (by assumption) ?_
  rotate_left 1
  focus (intro W hSw; obtain ⟨a0, a1, a2, a3, a4, a5, a6, a7, a8, a9, a10, a11⟩ := (HP.out.later hSw).cells; go_simp; first | done | with_reducible rfl)
  (try simp only [Act.put, List.setIfInBounds_toArray, List.set_cons_zero, List.set_cons_succ])
  refine wpAnyK_pure (i := 13) (v := ?_) (op_at _ 13 _ rfl) (by kernel_rfl) (by kernel_rfl) (by kernel_rfl) (by kernel_rfl) (fun _ _ _ h => h) (Or.inl ⟨by rfl, ?_⟩) (Or.inl (by assumption)) ?_
  rotate_left 1
  focus (intro W hSw; go_simp; first | done | with_reducible rfl)
  (try simp only [Act.put, List.setIfInBounds_toArray, List.set_cons_zero, List.set_cons_succ])
  refine wpAnyK_pure (i := 14) (v := ?_) (op_at _ 14 _ rfl) (by kernel_rfl) (by kernel_rfl) (by kernel_rfl) (by kernel_rfl) (fun _ _ _ h => h) (Or.inl ⟨by rfl, ?_⟩) (Or.inl (by assumption)) ?_
  rotate_left 1
  focus (intro W hSw; go_simp; first | done | with_reducible rfl)
  (try simp only [Act.put, List.setIfInBounds_toArray, List.set_cons_zero, List.set_cons_succ])
  refine wpAnyK_pure (i := 15) (v := ?_) (op_at _ 15 _ rfl) (by kernel_rfl) (by kernel_rfl) (by kernel_rfl) (by kernel_rfl) (fun _ _ _ h => h) (Or.inl ⟨by rfl, ?_⟩) (Or.inl (by assumption)) ?_
  rotate_left 1
  focus (intro W hSw; go_simp; first | done | with_reducible rfl)
  (try simp only [Act.put, List.setIfInBounds_toArray, List.set_cons_zero, List.set_cons_succ])
  refine wpAnyK_take (i := 16) (v := ?_) (op_at _ 16 _ rfl) (by kernel_rfl) (by kernel_rfl) (by kernel_rfl) (by kernel_rfl) (fun _ _ _ h => h) (Or.inl ⟨by rfl, ?_⟩) (by assumption) ?_
  rotate_left 1
  focus (intro W hSw; obtain ⟨a0, a1, a2, a3, a4, a5, a6, a7, a8, a9, a10, a11⟩ := (HP.out.later hSw).cells; go_simp; first | done | with_reducible rfl)
  (try simp only [Act.put, List.setIfInBounds_toArray, List.set_cons_zero, List.set_cons_succ])
  refine wpAnyK_take (i := 17) (v := ?_) (op_at _ 17 _ rfl) (by kernel_rfl) (by kernel_rfl) (by kernel_rfl) (by kernel_rfl) (fun _ _ _ h => h) (Or.inl ⟨by rfl, ?_⟩) (by assumption) ?_
  rotate_left 1
  focus (intro W hSw; obtain ⟨z0, z1, z2, _, _, _⟩ := (HZ.out.keep hSw).cells; go_simp; first | done | with_reducible rfl)
  (try simp only [Act.put, List.setIfInBounds_toArray, List.set_cons_zero, List.set_cons_succ])
  refine wpAnyK_pure (i := 20) (v := ?_) (op_at _ 20 _ rfl) (by kernel_rfl) (by kernel_rfl) (by kernel_rfl) (by kernel_rfl) (fun _ _ _ h => h) (Or.inl ⟨by rfl, ?_⟩) (Or.inl (by assumption)) ?_
  rotate_left 1
  focus (intro W hSw; go_simp; first | done | with_reducible rfl)
  (try simp only [Act.put, List.setIfInBounds_toArray, List.set_cons_zero, List.set_cons_succ])
  refine wpAnyK_pure (i := 21) (v := ?_) (op_at _ 21 _ rfl) (by kernel_rfl) (by kernel_rfl) (by kernel_rfl) (by kernel_rfl) (fun _ _ _ h => h) (Or.inl ⟨by rfl, ?_⟩) (Or.inl (by assumption)) ?_
  rotate_left 1
  focus (intro W hSw; go_simp; first | done | with_reducible rfl)
  (try simp only [Act.put, List.setIfInBounds_toArray, List.set_cons_zero, List.set_cons_succ])
  refine wpAnyK_pure (i := 22) (v := ?_) (op_at _ 22 _ rfl) (by kernel_rfl) (by kernel_rfl) (by kernel_rfl) (by kernel_rfl) (fun _ _ _ h => h) (Or.inl ⟨by rfl, ?_⟩) (Or.inl (by assumption)) ?_
  rotate_left 1
  focus (intro W hSw; go_simp; first | done | with_reducible rfl)
  (try simp only [Act.put, List.setIfInBounds_toArray, List.set_cons_zero, List.set_cons_succ])
  refine wpAnyK_take (i := 23) (v := ?_) (op_at _ 23 _ rfl) (by kernel_rfl) (by kernel_rfl) (by kernel_rfl) (by kernel_rfl) (fun _ _ _ h => h) (Or.inl ⟨by rfl, ?_⟩) (by assumption) ?_
  rotate_left 1
  focus (intro W hSw; obtain ⟨a0, a1, a2, a3, a4, a5, a6, a7, a8, a9, a10, a11⟩ := (HP.out.later hSw).cells; go_simp; first | done | with_reducible rfl)
  (try simp only [Act.put, List.setIfInBounds_toArray, List.set_cons_zero, List.set_cons_succ])
  refine wpAnyK_ready (rs := [6]) (by kernel_rfl) (by simp) ?_
  refine AllReadyK.cons (op_at _ 6 _ rfl) (fun K hK => ?_) AllReadyK.nil
  go_simp
  go_at_call 118; refine (Jrn.bytes_yes (L : Int) (T : Int) m lo L cap P D false W1.drew HRc.out HD.out HG.out HTb.out).mono ?_; rintro e w1 ⟨v1, rfl, o1, hR⟩; replace hR : Gr W1.drew w1 := hR; obtain ⟨g1, c1, rfl, hg1, hl1⟩ := o1.form (by omega); have R1 : Hid (Rd w1 (some ⟨g1, 0, none⟩) (128 + L * 640) c1 (Jrn.bytesN (L : Int) (T : Int) m false L P D)) := hid (Jrn.rd_own o1); have A1 : Hid (w.heap.size ≤ g1) := hid (Nat.le_trans BB.out.size hg1); have Q1 : Hid (g1 < w1.heap.size) := hid hl1; replace HP := hid (HP.out.later hR); replace HZ := hid (HZ.out.keep hR); replace BB := hid (gt BB.out hR); clear o1 hg1 hl1
  refine hK.out _ _ hR (fun hHeld => ?_)
  clear hK K
  (try simp only [Act.put, List.setIfInBounds_toArray, List.set_cons_zero, List.set_cons_succ])
  clear hHeld
  refine wpAnyK_more (S' := Gr w1) (fun W h => gt hR h) ?_
  have hHeld : Gr w1 w1 := Below.refl _ _
  clear hR
  refine wpAnyK_ready (rs := [7]) (by kernel_rfl) (by simp) ?_
  refine AllReadyK.cons (op_at _ 7 _ rfl) (fun K hK => ?_) AllReadyK.nil
  go_simp
  go_at_call 109; refine (write_make x.q 1 0 (some ⟨g1, 0, none⟩) (128 + L * 640) c1 (chunks (1 + 5 * L) (Jrn.bytesN (L : Int) (T : Int) m false L P D)) N w1 (fun k hk => Nat.lt_of_lt_of_le (HN.out k hk) BB.out.size) (by rw [chunks_flatten _ _ (by rw [R1.out.1]; omega)]; exact R1.out) (fun _ a ha => (by obtain rfl := Option.some.inj ha; exact ⟨Q1.out, fun hk => (by have h1 : g1 < w.heap.size := HN.out _ hk; have := A1.out; omega)⟩)) (by rw [chunks_length]; omega) (chunks_each _ _ (by rw [R1.out.1]; omega)) (by rw [chunks_length]; omega)).mono ?_; rintro e w2 ⟨x1, rfl, s1, hR⟩; replace hR : Gr w1 w2 := hR; obtain ⟨n1, cs1, rfl⟩ := step_func s1; have S1 := hid s1; replace HP := hid (HP.out.later hR); replace HZ := hid (HZ.out.keep hR); replace BB := hid (gt BB.out hR); clear s1 R1 A1 Q1
  refine hK.out _ _ hR (fun hHeld => ?_)
  clear hK K
  (try simp only [Act.put, List.setIfInBounds_toArray, List.set_cons_zero, List.set_cons_succ])
  clear hHeld
  refine wpAnyK_more (S' := Gr w2) (fun W h => gt hR h) ?_
  have hHeld : Gr w2 w2 := Below.refl _ _
  clear hR
  refine wpAnyK_ready (rs := [12]) (by kernel_rfl) (by simp) ?_
  refine AllReadyK.cons (op_at _ 12 _ rfl) (fun K hK => ?_) AllReadyK.nil
  go_simp
  go_at_call 110; refine (sync_make x.q 1 N w2 (fun k hk => Nat.lt_of_lt_of_le (HN.out k hk) BB.out.size)).mono ?_; rintro e w3 ⟨x2, rfl, s2, hR⟩; replace hR : Gr w2 w3 := hR; obtain ⟨n2, cs2, rfl⟩ := step_func s2; have S2 := hid s2; replace S1 := hid (S1.out.later hR); replace HP := hid (HP.out.later hR); replace HZ := hid (HZ.out.keep hR); replace BB := hid (gt BB.out hR); clear s2
  refine hK.out _ _ hR (fun hHeld => ?_)
  clear hK K
  (try simp only [Act.put, List.setIfInBounds_toArray, List.set_cons_zero, List.set_cons_succ])
  clear hHeld
  refine wpAnyK_more (S' := Gr w3) (fun W h => gt hR h) ?_
  have hHeld : Gr w3 w3 := Below.refl _ _
  clear hR
  refine wpAnyK_ready (rs := [18]) (by kernel_rfl) (by simp) ?_
  refine AllReadyK.cons (op_at _ 18 _ rfl) (fun K hK => ?_) AllReadyK.nil
  go_simp
  go_at_call 119; refine (Jrn.head_yes L T m true w3 (by omega) (by omega) (HT.out.keep BB.out)).mono ?_; rintro e w4 ⟨g4, rfl, o4, hR⟩; replace hR : Gr w3 w4 := hR; have R4 : Hid (Rd w4 (some ⟨g4, 0, none⟩) 128 128 (Jrn.headN L T m true)) := hid (Jrn.rd_own o4); have A4 : Hid (w.heap.size ≤ g4) := hid (Nat.le_trans BB.out.size (own_blk o4 rfl)); have Q4 : Hid (g4 < w4.heap.size) := hid (own_bound (ownsRow_base_a o4 (Nat.zero_le _)) rfl); replace S1 := hid (S1.out.later hR); replace S2 := hid (S2.out.later hR); replace HP := hid (HP.out.later hR); replace HZ := hid (HZ.out.keep hR); replace BB := hid (gt BB.out hR); clear o4
  refine hK.out _ _ hR (fun hHeld => ?_)
  clear hK K
  (try simp only [Act.put, List.setIfInBounds_toArray, List.set_cons_zero, List.set_cons_succ])
  clear hHeld
  refine wpAnyK_more (S' := Gr w4) (fun W h => gt hR h) ?_
  have hHeld : Gr w4 w4 := Below.refl _ _
  clear hR
  refine wpAnyK_ready (rs := [19]) (by kernel_rfl) (by simp) ?_
  refine AllReadyK.cons (op_at _ 19 _ rfl) (fun K hK => ?_) AllReadyK.nil
  go_simp
  go_at_call 109; refine (write_make x.q 1 0 (some ⟨g4, 0, none⟩) 128 128 (chunks 1 (Jrn.headN L T m true)) N w4 (fun k hk => Nat.lt_of_lt_of_le (HN.out k hk) BB.out.size) (by rw [chunks_flatten _ _ (by rw [R4.out.1])]; exact R4.out) (fun _ a ha => (by obtain rfl := Option.some.inj ha; exact ⟨Q4.out, fun hk => (by have h1 : g4 < w.heap.size := HN.out _ hk; have := A4.out; omega)⟩)) (by rw [chunks_length]) (chunks_each _ _ (by rw [R4.out.1])) (by rw [chunks_length]; omega)).mono ?_; rintro e w5 ⟨x3, rfl, s3, hR⟩; replace hR : Gr w4 w5 := hR; obtain ⟨n3, cs3, rfl⟩ := step_func s3; have S3 := hid s3; replace S1 := hid (S1.out.later hR); replace S2 := hid (S2.out.later hR); replace HP := hid (HP.out.later hR); replace HZ := hid (HZ.out.keep hR); replace BB := hid (gt BB.out hR); clear s3 R4 A4 Q4
  refine hK.out _ _ hR (fun hHeld => ?_)
  clear hK K
  (try simp only [Act.put, List.setIfInBounds_toArray, List.set_cons_zero, List.set_cons_succ])
  clear hHeld
  refine wpAnyK_more (S' := Gr w5) (fun W h => gt hR h) ?_
  have hHeld : Gr w5 w5 := Below.refl _ _
  clear hR
  refine wpAnyK_ready (rs := [24]) (by kernel_rfl) (by simp) ?_
  refine AllReadyK.cons (op_at _ 24 _ rfl) (fun K hK => ?_) AllReadyK.nil
  go_simp
  go_at_call 110; refine (sync_make x.q 1 N w5 (fun k hk => Nat.lt_of_lt_of_le (HN.out k hk) BB.out.size)).mono ?_; rintro e w6 ⟨x4, rfl, s4, hR⟩; replace hR : Gr w5 w6 := hR; obtain ⟨n4, cs4, rfl⟩ := step_func s4; have S4 := hid s4; replace S1 := hid (S1.out.later hR); replace S2 := hid (S2.out.later hR); replace S3 := hid (S3.out.later hR); replace HP := hid (HP.out.later hR); replace HZ := hid (HZ.out.keep hR); replace BB := hid (gt BB.out hR); clear s4
  refine hK.out _ _ hR (fun hHeld => ?_)
  clear hK K
  (try simp only [Act.put, List.setIfInBounds_toArray, List.set_cons_zero, List.set_cons_succ])
  clear hHeld
  refine wpAnyK_more (S' := Gr w6) (fun W h => gt hR h) ?_
  have hHeld : Gr w6 w6 := Below.refl _ _
  clear hR
  refine wpAnyK_ready (rs := [25]) (by kernel_rfl) (by simp) ?_
  refine AllReadyK.cons (op_at _ 25 _ rfl) (fun K hK => ?_) AllReadyK.nil
  go_simp
  have hR : Gr w6 (w6.alloc (.cells #[.func (.func n1) #[] cs1, .func (.func n2) #[] cs2, .func (.func n3) #[] cs3, .func (.func n4) #[] cs4] 115)) := Below.alloc (Below.refl _ _) (Nat.le_refl _) _; replace S1 := hid (S1.out.later hR); replace S2 := hid (S2.out.later hR); replace S3 := hid (S3.out.later hR); replace S4 := hid (S4.out.later hR); have HS6 : Hid (w.heap.size ≤ w6.heap.size) := hid BB.out.size; replace HP := hid (HP.out.later hR); replace HZ := hid (HZ.out.keep hR); replace BB := hid (gt BB.out hR)
  refine hK.out _ _ hR (fun hHeld => ?_)
  clear hK K
  (try simp only [Act.put, List.setIfInBounds_toArray, List.set_cons_zero, List.set_cons_succ])
  clear hHeld
  refine wpAnyK_more (S' := Gr (w6.alloc (.cells #[.func (.func n1) #[] cs1, .func (.func n2) #[] cs2, .func (.func n3) #[] cs3, .func (.func n4) #[] cs4] 115))) (fun W h => gt hR h) ?_
  have hHeld : Gr (w6.alloc (.cells #[.func (.func n1) #[] cs1, .func (.func n2) #[] cs2, .func (.func n3) #[] cs3, .func (.func n4) #[] cs4] 115)) (w6.alloc (.cells #[.func (.func n1) #[] cs1, .func (.func n2) #[] cs2, .func (.func n3) #[] cs3, .func (.func n4) #[] cs4] 115)) := Below.refl _ _
  clear hR
  refine wpAnyK_pure (i := 26) (v := ?_) (op_at _ 26 _ rfl) (by kernel_rfl) (by kernel_rfl) (by kernel_rfl) (by kernel_rfl) (fun _ _ _ h => h) (Or.inl ⟨by rfl, ?_⟩) (Or.inl (by assumption)) ?_
  rotate_left 1
  focus (intro W hSw; go_simp; first | done | with_reducible rfl)
  (try simp only [Act.put, List.setIfInBounds_toArray, List.set_cons_zero, List.set_cons_succ])
  refine wpAnyK_done (by kernel_rfl) ?_ _
  go_wp2
  go_ret
  refine ⟨_, rfl, ?_, BB.out⟩
  refine steps_lit (us := [.func (.func n1) #[] cs1, .func (.func n2) #[] cs2, .func (.func n3) #[] cs3, .func (.func n4) #[] cs4]) 115 HN.out HS6.out (fun i s hs => ?_)
  match i with
  | 0 => simp [recL] at hs; subst hs; exact ⟨_, rfl, S1.out⟩
  | 1 => simp [recL] at hs; subst hs; exact ⟨_, rfl, S2.out⟩
  | 2 => simp [recL] at hs; subst hs; exact ⟨_, rfl, S3.out⟩
  | 3 => simp [recL] at hs; subst hs; exact ⟨_, rfl, S4.out⟩
  | i + 4 => simp [recL] at hs

end Go.Proofs.YtokofpbhbjbnfaaGreatDoor
