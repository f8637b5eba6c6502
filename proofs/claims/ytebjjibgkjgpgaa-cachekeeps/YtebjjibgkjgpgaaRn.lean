/- The document's cache: Put of a page that is not there; no statement of the seat is proved here. -/
import Derived.Test.YtebjjibgkjgpgaaRm
namespace Go.Proofs.Ytebjjibgkjgpgaa
open Go.RowKit Go.Maps

set_option maxRecDepth 20000 in
set_option maxHeartbeats 4000000 in
theorem rput_none (m sb so cap0 n4 : Nat) (R4 : RParts) (s : CS) (k : Int) (b : List Nat) (w : World) (h : RP w m R4 s) (h1 : 1 ≤ k) (hr : Rd w (some ⟨sb, so, none⟩) 512 cap0 b) (hn : n4 < 1000000) (hn4 : n4 = R4.ps.length) (hnd : (s.l.map Row.page).Nodup) (ho : idx s.l k = none) :
    Calls Try.prog 32 #[.pointer (some ⟨m, 0, none⟩), .int .i64 k, .slice (some ⟨sb, so, none⟩) 512 cap0] w fun e w' => e = .returned (.int .i64 0) ∧ ∃ R', RStep w w' m R4 R' (s.put k b) := by
  have k1 := hid (fun w1 (hb : Below w.heap.size w w1) => rfind_any m R4 s k w1 (h.later hb) (by omega))
  rw [ho] at k1
  have hk1 : ¬ k < 1 := by omega
  obtain ⟨l4, hl4⟩ : ∃ l4, l4 = s.l := ⟨_, rfl⟩
  have HPL := hid (putL_idx (b := b) ho).symm
  have HH := hid (show RP w m R4 { s with l := l4 } from hl4 ▸ h)
  rw [← hl4] at HPL
  have HND := hid hnd; have HR := hid hr; have HN4 := hid hn4
  obtain ⟨r0, hr0⟩ : ∃ r0, r0 = zeroR k := ⟨_, rfl⟩
  rw [← hr0] at HPL
  have HR0 := hid hr0
  have hml := h.mlt
  have FRESH := hid (Nat.le_refl w.heap.size)
  have S4 := hid (show ¬ R4.S m w.heap.size from fun hS => by have := h.lt (Or.inl hS); omega)
  clear h hr hnd ho hr0 hl4 hn4
  go_enter Try.func32, Try.ntmps32
  go_wp2_with (first
    | (go_at_call 57; refine (k1.out _ ((Below.refl _ _).alloc (Nat.le_refl _) _)).mono ?_; rintro e w4 ⟨rfl, h4⟩; have hb4 : Below w.heap.size w w4 := gt ((Below.refl _ _).alloc (Nat.le_refl _) _) h4; have B4 := hid (show w4.heap[w.heap.size]? = some (.cells #[.int .i64 r0.page, .slice none 0 0, .int .i64 (r0.pins : Int), .bool r0.dirty] 81 (0, 0)) from by rw [h4.block _ (by simp), HR0.out]; exact heap_alloc_new w _); have G4 := hid (RStep.later HH.out hb4); have HRD := hid (HR.out.keep hb4); clear hb4 h4; simp only [idV]; have y4 : w4.cell? ⟨w.heap.size, 1, none⟩ = some (.slice none 0 0) := hd_cell B4.out 1; have z4 : w4.frozen? ⟨w.heap.size, 1, none⟩ = false := hd_frozen B4.out 1; have hrl : w.heap.size < w4.heap.size := lt_cell y4; have hrn : ¬ w.heap.size = w4.heap.size := (by omega))
    | ((with_reducible refine here_op 36 ?_); refine wpList_append_rd rfl (.tmp 34) (.tmp 35) rfl w4.heap.size _ 0 [] rfl (World.ownsRow_made w4 #[] 0 (Nat.le_refl _) (by decide) rfl) _ 512 cap0 b rfl (HRD.out.keep ((Below.refl _ _).alloc (Nat.le_refl _) _)) (by omega) (by simp) ?_; intro v5 w5 ho5 hb5; simp only [Nat.zero_add, List.nil_append] at ho5; obtain ⟨ao5, c5, e5, _, _⟩ := rd_owned ho5; subst e5; have hb45 : Below w4.heap.size w4 w5 := ((Below.refl _ _).alloc (Nat.le_refl _) _).trans hb5; have y5 := keep_old hb45 y4; have z5 := (keep_frozen hb45 (a := ⟨w.heap.size, 1, none⟩) hrl).trans z4; have HO5 := hid ho5; have HB5 := hid hb45; clear ho5 hb5 hb45))
  obtain ⟨W6, hW6⟩ : ∃ W6, W6 = w5.setCell ⟨w.heap.size, 1, none⟩ (.slice ao5 512 c5) := ⟨_, rfl⟩
  have B5 := (HB5.out.block w.heap.size hrl).trans B4.out
  have G5 := G4.out.and_later HB5.out
  have hR6 : RP W6 m R4 { s with l := l4 } := by rw [hW6]; exact RP.apart_set G5.rp _ B5 S4.out _
  have G6 : RStep w W6 m R4 R4 { s with l := l4 } := ⟨hR6, by rw [hW6]; exact G5.fr.set (Or.inr FRESH.out) _, G5.gr⟩
  have B6 : W6.heap[w.heap.size]? = some (.cells (rv (({ r0 with bytes := b } : Row), (⟨ao5, c5⟩ : RB))).toArray 81 (0, 0)) := by rw [hW6]; exact blk_set B5
  have HP6 := hid (show PS m w.heap.size (.slice R4.ao n4 R4.cap) (({ r0 with bytes := b } : Row), (⟨ao5, c5⟩ : RB)) W6 from ⟨HN4.out ▸ hR6.c1, B6⟩)
  have HF6 := hid (show W6.frozen? ⟨m, 1, none⟩ = false from hd_frozen hR6.hd 1)
  have HSRC := hid (show ∀ X, Below W6.heap.size W6 X → Src4 X R4.ao n4 R4.cap R4.ps from fun X hX => HN4.out ▸ (hR6.later hX).src)
  have HQ6 := hid (show W6.ownsRow 0 5 1 (.slice ao5 512 c5) 512 (bs b) from by rw [hW6]; exact row4_stay (own4_base HO5.out (Nat.zero_le _)) (fun a ha => set_heap _ _ _ _ _ (fun h0 => by obtain ⟨cur, hg, _⟩ := row4_blk (own4_base HO5.out (Nat.zero_le _)) ha; rw [h0, B5] at hg; simp at hg)))
  have HG6 := hid G6
  rw [← hW6]
  clear hW6 B5 G5 hR6 G6 B6 y4 z4 y5 z5 hrn
  refine wp_region_K (S := PS m w.heap.size (.slice R4.ao n4 R4.cap) (({ r0 with bytes := b } : Row), (⟨ao5, c5⟩ : RB))) (fun i => i == 12) (by kernel_rfl) HP6.out (fun hHeld => ?_)
  refine wpAnyK_pure (i := 0) (v := ?_) (op_at _ 0 _ rfl) (by kernel_rfl) (by kernel_rfl) (by kernel_rfl) (by kernel_rfl) (fun _ _ _ h => h) (Or.inl ⟨by rfl, ?_⟩) (Or.inl (by assumption)) ?_
  rotate_left 1
  focus (intro W hSw; go_simp; first | done | with_reducible rfl)
  (try simp only [Act.put, List.setIfInBounds_toArray, List.set_cons_zero, List.set_cons_succ])
  refine wpAnyK_pure (i := 2) (v := ?_) (op_at _ 2 _ rfl) (by kernel_rfl) (by kernel_rfl) (by kernel_rfl) (by kernel_rfl) (fun _ _ _ h => h) (Or.inl ⟨by rfl, ?_⟩) (Or.inl (by assumption)) ?_
  rotate_left 1
  focus (intro W hSw; go_simp; first | done | with_reducible rfl)
  (try simp only [Act.put, List.setIfInBounds_toArray, List.set_cons_zero, List.set_cons_succ])
  refine wpAnyK_pure (i := 3) (v := ?_) (op_at _ 3 _ rfl) (by kernel_rfl) (by kernel_rfl) (by kernel_rfl) (by kernel_rfl) (fun _ _ _ h => h) (Or.inl ⟨by rfl, ?_⟩) (Or.inl (by assumption)) ?_
  rotate_left 1
  focus (intro W hSw; go_simp; first | done | with_reducible rfl)
  (try simp only [Act.put, List.setIfInBounds_toArray, List.set_cons_zero, List.set_cons_succ])
  refine wpAnyK_pure (i := 4) (v := ?_) (op_at _ 4 _ rfl) (by kernel_rfl) (by kernel_rfl) (by kernel_rfl) (by kernel_rfl) (fun _ _ _ h => h) (Or.inl ⟨by rfl, ?_⟩) (Or.inl (by assumption)) ?_
  rotate_left 1
  focus (intro W hSw; go_simp; first | done | with_reducible rfl)
  (try simp only [Act.put, List.setIfInBounds_toArray, List.set_cons_zero, List.set_cons_succ])
  refine wpAnyK_take (i := 5) (v := ?_) (op_at _ 5 _ rfl) (by kernel_rfl) (by kernel_rfl) (by kernel_rfl) (by kernel_rfl) (fun _ _ _ h => h) (Or.inl ⟨by rfl, ?_⟩) (by assumption) ?_
  rotate_left 1
  focus (intro W hSw; have q1 := hSw.1; go_simp; first | done | with_reducible rfl)
  (try simp only [Act.put, List.setIfInBounds_toArray, List.set_cons_zero, List.set_cons_succ])
  refine wpAnyK_take (i := 7) (v := ?_) (op_at _ 7 _ rfl) (by kernel_rfl) (by kernel_rfl) (by kernel_rfl) (by kernel_rfl) (fun _ _ _ h => h) (Or.inl ⟨by rfl, ?_⟩) (by assumption) ?_
  rotate_left 1
  focus (intro W hSw; obtain ⟨q1, q2, q3, q4⟩ := PS.cells hSw; go_simp; first | done | with_reducible rfl)
  (try simp only [Act.put, List.setIfInBounds_toArray, List.set_cons_zero, List.set_cons_succ])
  refine wpAnyK_ready (rs := [1, 8]) (by kernel_rfl) (by simp) ?_
  refine AllReadyK.cons (op_at _ 1 _ rfl) (fun K hK => ?_) ?_
  · go_simp
    obtain ⟨X1, hX1⟩ : ∃ X1, X1 = (W6.alloc (.cells #[] 81)).drew := ⟨_, rfl⟩; rw [← hX1]; have hb1 : Below W6.heap.size W6 X1 := (by rw [hX1]; exact ((Below.refl _ W6).alloc (Nat.le_refl _) _).drew); have hz1 : X1.heap.size = W6.heap.size + 1 := (by rw [hX1]; simp [World.drew]); have HO := hid (show X1.ownsRow 0 81 4 (.slice (some ⟨W6.heap.size, 0, none⟩) 0 0) 0 (rvs []) from (by rw [hX1]; exact own4_made W6)); have hc1 : Below W6.heap.size W6 X1 := hb1; have hR : PS m w.heap.size (.slice R4.ao n4 R4.cap) (({ r0 with bytes := b } : Row), (⟨ao5, c5⟩ : RB)) X1 := PS.keep HP6.out hc1; have HC1 := hid hc1; have HZ1 := hid hz1; clear hb1 hz1 hc1 hX1
    refine hK.out _ _ hR (fun hHeld => ?_)
    clear hK K
    (try simp only [Act.put, List.setIfInBounds_toArray, List.set_cons_zero, List.set_cons_succ])
    refine wpAnyK_ready (rs := [6, 8]) (by kernel_rfl) (by simp) ?_
    refine AllReadyK.cons (op_at _ 6 _ rfl) (fun K hK => ?_) ?_
    · refine step_fresh W6.heap.size rfl (.tmp 39) (.tmp 43) rfl (.slice (some ⟨W6.heap.size, 0, none⟩) 0 0) 0 [] rfl HO.out _ n4 R4.cap R4.ps rfl (HSRC.out X1 HC1.out) (by omega) (fun k hk => by have q9 : W6.heap.size = k := (by simpa [Value.ownBlock] using hk); omega) HC1.out.size ?_; simp only [Nat.zero_add, List.nil_append]; intro a7 c7 X2 ho7 hb7 ha7 hg7; have HO := hid ho7; have HA7 := hid ha7; have hsz7 := hg7.size; have hc2 : Below W6.heap.size W6 X2 := HC1.out.trans hb7; have hR : PS m w.heap.size (.slice R4.ao n4 R4.cap) (({ r0 with bytes := b } : Row), (⟨ao5, c5⟩ : RB)) X2 := PS.keep HP6.out hc2; have HC2 := hid hc2; clear hc2 ho7 hb7 ha7 hg7
      refine hK.out _ _ hR (fun hHeld => ?_)
      clear hK K
      (try simp only [Act.put, List.setIfInBounds_toArray, List.set_cons_zero, List.set_cons_succ])
      refine wpAnyK_ready (rs := [8]) (by kernel_rfl) (by simp) ?_
      refine AllReadyK.cons (op_at _ 8 _ rfl) (fun K hK => ?_) AllReadyK.nil
      go_simp
      obtain ⟨X3, hX3⟩ : ∃ X3, X3 = X2.alloc (.cells #[.int .i64 r0.page, .slice ao5 512 c5, .int .i64 (r0.pins : Int), .bool r0.dirty] 81) := ⟨_, rfl⟩; rw [← hX3]; have hb3 : Below X2.heap.size X2 X3 := (by rw [hX3]; exact (Below.refl _ X2).alloc (Nat.le_refl _) _); have hz3 : X3.heap.size = X2.heap.size + 1 := (by rw [hX3]; simp); have HQS := hid (show Src4 X3 (some ⟨X2.heap.size, 0, none⟩) 1 1 [(({ r0 with bytes := b } : Row), (⟨ao5, c5⟩ : RB))] from (by rw [hX3]; exact one_src X2 (({ r0 with bytes := b } : Row), (⟨ao5, c5⟩ : RB)))); replace HO := hid (own4_later HO.out hb3); have hc3 : Below W6.heap.size W6 X3 := gt HC2.out hb3; have hR : PS m w.heap.size (.slice R4.ao n4 R4.cap) (({ r0 with bytes := b } : Row), (⟨ao5, c5⟩ : RB)) X3 := PS.keep HP6.out hc3; have HC3 := hid hc3; have HZ3 := hid hz3; clear hb3 hz3 hc3 hX3
      refine hK.out _ _ hR (fun hHeld => ?_)
      clear hK K
      (try simp only [Act.put, List.setIfInBounds_toArray, List.set_cons_zero, List.set_cons_succ])
      refine wpAnyK_ready (rs := [9]) (by kernel_rfl) (by simp) ?_
      refine AllReadyK.cons (op_at _ 9 _ rfl) (fun K hK => ?_) AllReadyK.nil
      refine step_fresh W6.heap.size rfl (.tmp 44) (.tmp 46) rfl (.slice a7 n4 c7) n4 R4.ps rfl HO.out _ 1 1 [(({ r0 with bytes := b } : Row), (⟨ao5, c5⟩ : RB))] rfl HQS.out (by omega) (fun k hk => by obtain ⟨a, ha, rfl⟩ := slice_own4 hk; exact HA7.out a ha) HC3.out.size ?_; intro a8 c8 w8 ho8 hb8 ha8 hg8; have hc8 : Below W6.heap.size W6 w8 := HC3.out.trans hb8; have hR : PS m w.heap.size (.slice R4.ao n4 R4.cap) (({ r0 with bytes := b } : Row), (⟨ao5, c5⟩ : RB)) w8 := PS.keep HP6.out hc8; have HO8 := hid ho8; have HA8 := hid ha8; have HC8 := hid hc8; have d8 := hR.1; have f8 := PS.fz HP6.out hc8 HF6.out; clear ho8 hb8 ha8 hg8 hc8
      refine hK.out _ _ hR (fun hHeld => ?_)
      clear hK K
      (try simp only [Act.put, List.setIfInBounds_toArray, List.set_cons_zero, List.set_cons_succ])
      refine wpAnyK_pure (i := 10) (v := ?_) (op_at _ 10 _ rfl) (by kernel_rfl) (by kernel_rfl) (by kernel_rfl) (by kernel_rfl) (fun _ _ _ h => h) (Or.inl ⟨by rfl, ?_⟩) (Or.inl (by assumption)) ?_
      rotate_left 1
      focus (intro W hSw; go_simp; first | done | with_reducible rfl)
      (try simp only [Act.put, List.setIfInBounds_toArray, List.set_cons_zero, List.set_cons_succ])
      refine wpAnyK_pure (i := 11) (v := ?_) (op_at _ 11 _ rfl) (by kernel_rfl) (by kernel_rfl) (by kernel_rfl) (by kernel_rfl) (fun _ _ _ h => h) (Or.inl ⟨by rfl, ?_⟩) (Or.inl (by assumption)) ?_
      rotate_left 1
      focus (intro W hSw; go_simp; first | done | with_reducible rfl)
      (try simp only [Act.put, List.setIfInBounds_toArray, List.set_cons_zero, List.set_cons_succ])
      refine wpAnyK_ready (rs := [12]) (by kernel_rfl) (by simp) ?_
      refine AllReadyK.late (op_at _ 12 _ rfl) (by kernel_rfl) (fun K hK => ?_) AllReadyK.nil
      go_simp
      refine hK.out _ _ ?_
      clear hK K
      (try simp only [Act.put, List.setIfInBounds_toArray, List.set_cons_zero, List.set_cons_succ])
      refine wpAnyK_done (by kernel_rfl) ?_ _
      have hlaid := rp_laid (q := (({ r0 with bytes := b } : Row), (⟨ao5, c5⟩ : RB))) HG6.out (HN4.out ▸ HO8.out) HC8.out HA8.out HQ6.out
      rw [← HN4.out] at hlaid
      obtain ⟨W9, hW9⟩ : ∃ W9, W9 = w8.setCell ⟨m, 1, none⟩ (.slice a8 (n4 + 1) c8) := ⟨_, rfl⟩
      rw [← hW9] at hlaid ⊢
      have hPI : ∃ R', PI w m R4 s k (s.put k b).l 0 (n4 + 1) R' (s.putL k b) W9 := by
        obtain ⟨R', st⟩ := hlaid
        rw [show ({ s with l := l4 } : CS).l ++ [({ r0 with bytes := b } : Row)] = s.putL k b from HPL.out] at st
        refine ⟨R', st, ?_, goal_zero, ⟨s.others k, _, rfl, rowFor_page s k⟩, put_nodup HND.out (rowFor_page s k), by omega⟩
        rw [← st.rp.len]
        simp only
        rw [← HPL.out, HN4.out, ← HG6.out.rp.len]; simp
      have HPI := hid hPI
      clear hW9 hlaid hPI HO8 HA8 HC8 d8 f8 HP6 HF6 HSRC HQ6 HG6 HO HA7
      go_wp2
      go_loopg [9] (n4 + 1) (fun q c W => ∃ (i nn : Nat) (R' : RParts) (cur : List Row), i + q = nn ∧ c = .int .i64 (i : Int) ∧ nn ≤ n4 + 1 ∧ Hid (PI w m R4 s k (s.put k b).l i nn R' cur W))
      case atStart => obtain ⟨R7, h7⟩ := HPI.out; exact ⟨0, n4 + 1, R7, _, by omega, rfl, Nat.le_refl _, hid h7⟩
      case round =>
        obtain ⟨i, nn, R7, cur, hik, rfl, hnb, HI⟩ := hrel
        have c0 := HI.out.st.rp.c0; have c1 := HI.out.st.rp.c1
        rw [← HI.out.nl] at c1
        simp only at c0
        obtain ⟨rm, hrm⟩ : ∃ rm, rm = s.room := ⟨_, rfl⟩
        rw [← hrm] at c0
        have hil := HI.out.il
        have hw : IntKind.i64.wrap ((nn : Int) - 1) = (nn : Int) - 1 := by rw [IntWalk.i64_in _ ⟨by omega, by omega⟩]
        have HRM := hid hrm
        clear hrm
        by_cases g1 : i + 1 < nn
        · by_cases g2 : rm < nn
          · have g3 : (i : Int) < (nn : Int) - 1 := by omega
            have g4 : (rm : Int) < (nn : Int) := by omega
            have g5 : i < R7.ps.length := by rw [← HI.out.nl]; omega
            have g6 : i < cur.length := by rw [HI.out.len]; omega
            obtain ⟨g, ha, hcap, hgm, hgl, t0, t1, t2, t3, _⟩ := HI.out.st.rp.cells (i := i) g5
            have hpi : R7.ps[i].1 = cur[i] := by have := HI.out.st.rp.ls; simp only at this; simp only [this, List.getElem_map]
            have hpg : cur[i].page ≠ k := HI.out.page g1 g6
            have hps : R7.ps.length = nn := HI.out.nl.symm
            rw [ha] at c1
            rw [hps] at hcap
            rw [hpi] at t2 t3
            obtain ⟨pn, hpn⟩ : ∃ pn, pn = cur[i].pins := ⟨_, rfl⟩
            obtain ⟨di, hdi⟩ : ∃ di, di = cur[i].dirty := ⟨_, rfl⟩
            rw [← hpn] at t2; rw [← hdi] at t3
            have i0 : (i : Int) < (nn : Int) := by omega
            have i1 : ¬ (i : Int) < 0 := by omega
            have HA := hid ha; have HPN := hid hpn; have HDI := hid hdi; have HPG := hid hpg; have HPS := hid hps
            clear ha hpn hdi hpg hps hpi t0 t1 g5
            go_wp2
            refine wp_region_K (S := fun W => W.cell? ⟨m, 0, none⟩ = some (.int .i64 (rm : Int)) ∧ W.cell? ⟨m, 1, none⟩ = some (.slice (some ⟨g, 0, none⟩) nn R7.cap)) (fun i => false) (by kernel_rfl) ⟨c0, c1⟩ (fun hHeld => ?_)
            refine wpAnyK_pure (i := 0) (v := ?_) (op_at _ 0 _ rfl) (by kernel_rfl) (by kernel_rfl) (by kernel_rfl) (by kernel_rfl) (fun _ _ _ h => h) (Or.inl ⟨by rfl, ?_⟩) (Or.inl (by assumption)) ?_
            rotate_left 1
            focus (intro W hSw; go_simp; first | done | with_reducible rfl)
            (try simp only [Act.put, List.setIfInBounds_toArray, List.set_cons_zero, List.set_cons_succ])
            refine wpAnyK_pure (i := 1) (v := ?_) (op_at _ 1 _ rfl) (by kernel_rfl) (by kernel_rfl) (by kernel_rfl) (by kernel_rfl) (fun _ _ _ h => h) (Or.inl ⟨by rfl, ?_⟩) (Or.inl (by assumption)) ?_
            rotate_left 1
            focus (intro W hSw; go_simp; first | done | with_reducible rfl)
            (try simp only [Act.put, List.setIfInBounds_toArray, List.set_cons_zero, List.set_cons_succ])
            refine wpAnyK_pure (i := 2) (v := ?_) (op_at _ 2 _ rfl) (by kernel_rfl) (by kernel_rfl) (by kernel_rfl) (by kernel_rfl) (fun _ _ _ h => h) (Or.inl ⟨by rfl, ?_⟩) (Or.inl (by assumption)) ?_
            rotate_left 1
            focus (intro W hSw; go_simp; first | done | with_reducible rfl)
            (try simp only [Act.put, List.setIfInBounds_toArray, List.set_cons_zero, List.set_cons_succ])
            refine wpAnyK_pure (i := 3) (v := ?_) (op_at _ 3 _ rfl) (by kernel_rfl) (by kernel_rfl) (by kernel_rfl) (by kernel_rfl) (fun _ _ _ h => h) (Or.inl ⟨by rfl, ?_⟩) (Or.inl (by assumption)) ?_
            rotate_left 1
            focus (intro W hSw; go_simp; first | done | with_reducible rfl)
            (try simp only [Act.put, List.setIfInBounds_toArray, List.set_cons_zero, List.set_cons_succ])
            refine wpAnyK_take (i := 4) (v := ?_) (op_at _ 4 _ rfl) (by kernel_rfl) (by kernel_rfl) (by kernel_rfl) (by kernel_rfl) (fun _ _ _ h => h) (Or.inl ⟨by rfl, ?_⟩) (by assumption) ?_
            rotate_left 1
            focus (intro W hSw; obtain ⟨q1, q2⟩ := hSw; go_simp; first | done | with_reducible rfl)
            (try simp only [Act.put, List.setIfInBounds_toArray, List.set_cons_zero, List.set_cons_succ])
            refine wpAnyK_pure (i := 5) (v := ?_) (op_at _ 5 _ rfl) (by kernel_rfl) (by kernel_rfl) (by kernel_rfl) (by kernel_rfl) (fun _ _ _ h => h) (Or.inl ⟨by rfl, ?_⟩) (Or.inl (by assumption)) ?_
            rotate_left 1
            focus (intro W hSw; go_simp; first | done | with_reducible rfl)
            (try simp only [Act.put, List.setIfInBounds_toArray, List.set_cons_zero, List.set_cons_succ])
            refine wpAnyK_pure (i := 6) (v := ?_) (op_at _ 6 _ rfl) (by kernel_rfl) (by kernel_rfl) (by kernel_rfl) (by kernel_rfl) (fun _ _ _ h => h) (Or.inl ⟨by rfl, ?_⟩) (Or.inl (by assumption)) ?_
            rotate_left 1
            focus (intro W hSw; go_simp; first | done | with_reducible rfl)
            (try simp only [Act.put, List.setIfInBounds_toArray, List.set_cons_zero, List.set_cons_succ])
            refine wpAnyK_pure (i := 7) (v := ?_) (op_at _ 7 _ rfl) (by kernel_rfl) (by kernel_rfl) (by kernel_rfl) (by kernel_rfl) (fun _ _ _ h => h) (Or.inl ⟨by rfl, ?_⟩) (Or.inl (by assumption)) ?_
            rotate_left 1
            focus (intro W hSw; go_simp; first | done | with_reducible rfl)
            (try simp only [Act.put, List.setIfInBounds_toArray, List.set_cons_zero, List.set_cons_succ])
            refine wpAnyK_pure (i := 8) (v := ?_) (op_at _ 8 _ rfl) (by kernel_rfl) (by kernel_rfl) (by kernel_rfl) (by kernel_rfl) (fun _ _ _ h => h) (Or.inl ⟨by rfl, ?_⟩) (Or.inl (by assumption)) ?_
            rotate_left 1
            focus (intro W hSw; go_simp; first | done | with_reducible rfl)
            (try simp only [Act.put, List.setIfInBounds_toArray, List.set_cons_zero, List.set_cons_succ])
            refine wpAnyK_pure (i := 9) (v := ?_) (op_at _ 9 _ rfl) (by kernel_rfl) (by kernel_rfl) (by kernel_rfl) (by kernel_rfl) (fun _ _ _ h => h) (Or.inl ⟨by rfl, ?_⟩) (Or.inl (by assumption)) ?_
            rotate_left 1
            focus (intro W hSw; go_simp; first | done | with_reducible rfl)
            (try simp only [Act.put, List.setIfInBounds_toArray, List.set_cons_zero, List.set_cons_succ])
            refine wpAnyK_pure (i := 10) (v := ?_) (op_at _ 10 _ rfl) (by kernel_rfl) (by kernel_rfl) (by kernel_rfl) (by kernel_rfl) (fun _ _ _ h => h) (Or.inl ⟨by rfl, ?_⟩) (Or.inl (by assumption)) ?_
            rotate_left 1
            focus (intro W hSw; go_simp; first | done | with_reducible rfl)
            (try simp only [Act.put, List.setIfInBounds_toArray, List.set_cons_zero, List.set_cons_succ])
            refine wpAnyK_pure (i := 11) (v := ?_) (op_at _ 11 _ rfl) (by kernel_rfl) (by kernel_rfl) (by kernel_rfl) (by kernel_rfl) (fun _ _ _ h => h) (Or.inl ⟨by rfl, ?_⟩) (Or.inl (by assumption)) ?_
            rotate_left 1
            focus (intro W hSw; go_simp; first | done | with_reducible rfl)
            (try simp only [Act.put, List.setIfInBounds_toArray, List.set_cons_zero, List.set_cons_succ])
            refine wpAnyK_take (i := 12) (v := ?_) (op_at _ 12 _ rfl) (by kernel_rfl) (by kernel_rfl) (by kernel_rfl) (by kernel_rfl) (fun _ _ _ h => h) (Or.inl ⟨by rfl, ?_⟩) (by assumption) ?_
            rotate_left 1
            focus (intro W hSw; obtain ⟨q1, q2⟩ := hSw; go_simp; first | done | with_reducible rfl)
            (try simp only [Act.put, List.setIfInBounds_toArray, List.set_cons_zero, List.set_cons_succ])
            refine wpAnyK_pure (i := 13) (v := ?_) (op_at _ 13 _ rfl) (by kernel_rfl) (by kernel_rfl) (by kernel_rfl) (by kernel_rfl) (fun _ _ _ h => h) (Or.inl ⟨by rfl, ?_⟩) (Or.inl (by assumption)) ?_
            rotate_left 1
            focus (intro W hSw; go_simp; first | done | with_reducible rfl)
            (try simp only [Act.put, List.setIfInBounds_toArray, List.set_cons_zero, List.set_cons_succ])
            refine wpAnyK_pure (i := 14) (v := ?_) (op_at _ 14 _ rfl) (by kernel_rfl) (by kernel_rfl) (by kernel_rfl) (by kernel_rfl) (fun _ _ _ h => h) (Or.inl ⟨by rfl, ?_⟩) (Or.inl (by assumption)) ?_
            rotate_left 1
            focus (intro W hSw; go_simp; first | done | with_reducible rfl)
            (try simp only [Act.put, List.setIfInBounds_toArray, List.set_cons_zero, List.set_cons_succ])
            refine wpAnyK_pure (i := 15) (v := ?_) (op_at _ 15 _ rfl) (by kernel_rfl) (by kernel_rfl) (by kernel_rfl) (by kernel_rfl) (fun _ _ _ h => h) (Or.inl ⟨by rfl, ?_⟩) (Or.inl (by assumption)) ?_
            rotate_left 1
            focus (intro W hSw; go_simp; first | done | with_reducible rfl)
            (try simp only [Act.put, List.setIfInBounds_toArray, List.set_cons_zero, List.set_cons_succ])
            refine wpAnyK_pure (i := 16) (v := ?_) (op_at _ 16 _ rfl) (by kernel_rfl) (by kernel_rfl) (by kernel_rfl) (by kernel_rfl) (fun _ _ _ h => h) (Or.inl ⟨by rfl, ?_⟩) (Or.inl (by assumption)) ?_
            rotate_left 1
            focus (intro W hSw; go_simp; first | done | with_reducible rfl)
            (try simp only [Act.put, List.setIfInBounds_toArray, List.set_cons_zero, List.set_cons_succ])
            refine wpAnyK_take (i := 17) (v := ?_) (op_at _ 17 _ rfl) (by kernel_rfl) (by kernel_rfl) (by kernel_rfl) (by kernel_rfl) (fun _ _ _ h => h) (Or.inl ⟨by rfl, ?_⟩) (by assumption) ?_
            rotate_left 1
            focus (intro W hSw; obtain ⟨q1, q2⟩ := hSw; go_simp; first | done | with_reducible rfl)
            (try simp only [Act.put, List.setIfInBounds_toArray, List.set_cons_zero, List.set_cons_succ])
            refine wpAnyK_pure (i := 18) (v := ?_) (op_at _ 18 _ rfl) (by kernel_rfl) (by kernel_rfl) (by kernel_rfl) (by kernel_rfl) (fun _ _ _ h => h) (Or.inl ⟨by rfl, ?_⟩) (Or.inl (by assumption)) ?_
            rotate_left 1
            focus (intro W hSw; go_simp; first | done | with_reducible rfl)
            (try simp only [Act.put, List.setIfInBounds_toArray, List.set_cons_zero, List.set_cons_succ])
            refine wpAnyK_pure (i := 19) (v := ?_) (op_at _ 19 _ rfl) (by kernel_rfl) (by kernel_rfl) (by kernel_rfl) (by kernel_rfl) (fun _ _ _ h => h) (Or.inl ⟨by rfl, ?_⟩) (Or.inl (by assumption)) ?_
            rotate_left 1
            focus (intro W hSw; go_simp; first | done | with_reducible rfl)
            (try simp only [Act.put, List.setIfInBounds_toArray, List.set_cons_zero, List.set_cons_succ])
            refine wpAnyK_done (by kernel_rfl) ?_ _
            by_cases z1 : pn = 0
            · have z2 : ((pn : Int) == 0) = true := by simp [z1]
              cases di with
              | false =>
                have k2 : Hid (Calls Try.prog 58 #[.pointer (some ⟨m, 0, none⟩), .int .i64 (i : Int)] wr.drew fun e w' => e = .returned (.tuple #[]) ∧ ∃ R2, PI w m R4 s k (s.put k b).l i (nn - 1) R2 (cur.eraseIdx i) w') := hid (by
                  have hx := HI.out.stay ((Below.refl _ _).drew)
                  have he : R7 = ⟨some ⟨g, 0, none⟩, R7.cap, R7.ps⟩ := by rw [← HA.out]
                  refine (rout_any m g R7.cap i nn R7.ps _ wr.drew (he ▸ hx.st.rp) (by omega) (by omega) HPS.out.symm).mono ?_
                  rintro e w' ⟨rfl, R2, st⟩
                  rw [← he] at st
                  refine ⟨rfl, R2, hx.out g1 (by rw [← HRM.out]; exact g2) g6 ?_ st⟩
                  unfold p52
                  rw [← HPN.out, ← HDI.out]
                  simp [z1, HPG.out])
                go_wp2_with (go_at_call 58; refine k2.out.mono ?_; rintro e w10 ⟨rfl, R10, h10⟩; have H10 := hid h10; clear h10)
                go_roundg (gk - 1)
                case measure => omega
                case rel => exact ⟨i, nn - 1, R10, _, by omega, rfl, by omega, H10⟩
              | true =>
                have hx := hid ((HI.out.stay ((Below.refl _ _).drew)).next g1 (by rw [← HRM.out]; exact g2) g6 (by unfold p52; rw [← HPN.out, ← HDI.out]; simp))
                go_wp2
                go_roundg (gk - 1)
                case measure => omega
                case rel => exact ⟨i + 1, nn, R7, _, by omega, by simp, by omega, hx⟩
            · have z2 : ((pn : Int) == 0) = false := by simpa using z1
              have hx := hid ((HI.out.stay ((Below.refl _ _).drew)).next g1 (by rw [← HRM.out]; exact g2) g6 (by unfold p52; rw [← HPN.out]; simp [z1]))
              go_wp2
              go_roundg (gk - 1)
              case measure => omega
              case rel => exact ⟨i + 1, nn, R7, _, by omega, by simp, by omega, hx⟩
          · have g3 : (i : Int) < (nn : Int) - 1 := by omega
            have g4 : ¬ (rm : Int) < (nn : Int) := by omega
            have HD := hid (HI.out.done (by rw [← HRM.out]; omega))
            go_wp2
            refine wp_region_K (S := fun W => W.cell? ⟨m, 0, none⟩ = some (.int .i64 (rm : Int)) ∧ W.cell? ⟨m, 1, none⟩ = some (.slice R7.ao nn R7.cap)) (fun i => false) (by kernel_rfl) ⟨c0, c1⟩ (fun hHeld => ?_)
            refine wpAnyK_pure (i := 0) (v := ?_) (op_at _ 0 _ rfl) (by kernel_rfl) (by kernel_rfl) (by kernel_rfl) (by kernel_rfl) (fun _ _ _ h => h) (Or.inl ⟨by rfl, ?_⟩) (Or.inl (by assumption)) ?_
            rotate_left 1
            focus (intro W hSw; go_simp; first | done | with_reducible rfl)
            (try simp only [Act.put, List.setIfInBounds_toArray, List.set_cons_zero, List.set_cons_succ])
            refine wpAnyK_pure (i := 1) (v := ?_) (op_at _ 1 _ rfl) (by kernel_rfl) (by kernel_rfl) (by kernel_rfl) (by kernel_rfl) (fun _ _ _ h => h) (Or.inl ⟨by rfl, ?_⟩) (Or.inl (by assumption)) ?_
            rotate_left 1
            focus (intro W hSw; go_simp; first | done | with_reducible rfl)
            (try simp only [Act.put, List.setIfInBounds_toArray, List.set_cons_zero, List.set_cons_succ])
            refine wpAnyK_pure (i := 2) (v := ?_) (op_at _ 2 _ rfl) (by kernel_rfl) (by kernel_rfl) (by kernel_rfl) (by kernel_rfl) (fun _ _ _ h => h) (Or.inl ⟨by rfl, ?_⟩) (Or.inl (by assumption)) ?_
            rotate_left 1
            focus (intro W hSw; go_simp; first | done | with_reducible rfl)
            (try simp only [Act.put, List.setIfInBounds_toArray, List.set_cons_zero, List.set_cons_succ])
            refine wpAnyK_pure (i := 3) (v := ?_) (op_at _ 3 _ rfl) (by kernel_rfl) (by kernel_rfl) (by kernel_rfl) (by kernel_rfl) (fun _ _ _ h => h) (Or.inl ⟨by rfl, ?_⟩) (Or.inl (by assumption)) ?_
            rotate_left 1
            focus (intro W hSw; go_simp; first | done | with_reducible rfl)
            (try simp only [Act.put, List.setIfInBounds_toArray, List.set_cons_zero, List.set_cons_succ])
            refine wpAnyK_take (i := 4) (v := ?_) (op_at _ 4 _ rfl) (by kernel_rfl) (by kernel_rfl) (by kernel_rfl) (by kernel_rfl) (fun _ _ _ h => h) (Or.inl ⟨by rfl, ?_⟩) (by assumption) ?_
            rotate_left 1
            focus (intro W hSw; obtain ⟨q1, q2⟩ := hSw; go_simp; first | done | with_reducible rfl)
            (try simp only [Act.put, List.setIfInBounds_toArray, List.set_cons_zero, List.set_cons_succ])
            refine wpAnyK_pure (i := 5) (v := ?_) (op_at _ 5 _ rfl) (by kernel_rfl) (by kernel_rfl) (by kernel_rfl) (by kernel_rfl) (fun _ _ _ h => h) (Or.inl ⟨by rfl, ?_⟩) (Or.inl (by assumption)) ?_
            rotate_left 1
            focus (intro W hSw; go_simp; first | done | with_reducible rfl)
            (try simp only [Act.put, List.setIfInBounds_toArray, List.set_cons_zero, List.set_cons_succ])
            refine wpAnyK_pure (i := 6) (v := ?_) (op_at _ 6 _ rfl) (by kernel_rfl) (by kernel_rfl) (by kernel_rfl) (by kernel_rfl) (fun _ _ _ h => h) (Or.inl ⟨by rfl, ?_⟩) (Or.inl (by assumption)) ?_
            rotate_left 1
            focus (intro W hSw; go_simp; first | done | with_reducible rfl)
            (try simp only [Act.put, List.setIfInBounds_toArray, List.set_cons_zero, List.set_cons_succ])
            refine wpAnyK_pure (i := 7) (v := ?_) (op_at _ 7 _ rfl) (by kernel_rfl) (by kernel_rfl) (by kernel_rfl) (by kernel_rfl) (fun _ _ _ h => h) (Or.inl ⟨by rfl, ?_⟩) (Or.inl (by assumption)) ?_
            rotate_left 1
            focus (intro W hSw; go_simp; first | done | with_reducible rfl)
            (try simp only [Act.put, List.setIfInBounds_toArray, List.set_cons_zero, List.set_cons_succ])
            refine wpAnyK_pure (i := 8) (v := ?_) (op_at _ 8 _ rfl) (by kernel_rfl) (by kernel_rfl) (by kernel_rfl) (by kernel_rfl) (fun _ _ _ h => h) (Or.inl ⟨by rfl, ?_⟩) (Or.inl (by assumption)) ?_
            rotate_left 1
            focus (intro W hSw; go_simp; first | done | with_reducible rfl)
            (try simp only [Act.put, List.setIfInBounds_toArray, List.set_cons_zero, List.set_cons_succ])
            refine wpAnyK_pure (i := 9) (v := ?_) (op_at _ 9 _ rfl) (by kernel_rfl) (by kernel_rfl) (by kernel_rfl) (by kernel_rfl) (fun _ _ _ h => h) (Or.inl ⟨by rfl, ?_⟩) (Or.inl (by assumption)) ?_
            rotate_left 1
            focus (intro W hSw; go_simp; first | done | with_reducible rfl)
            (try simp only [Act.put, List.setIfInBounds_toArray, List.set_cons_zero, List.set_cons_succ])
            refine wpAnyK_pure (i := 10) (v := ?_) (op_at _ 10 _ rfl) (by kernel_rfl) (by kernel_rfl) (by kernel_rfl) (by kernel_rfl) (fun _ _ _ h => h) (Or.inl ⟨by rfl, ?_⟩) (Or.inl (by assumption)) ?_
            rotate_left 1
            focus (intro W hSw; go_simp; first | done | with_reducible rfl)
            (try simp only [Act.put, List.setIfInBounds_toArray, List.set_cons_zero, List.set_cons_succ])
            refine wpAnyK_pure (i := 11) (v := ?_) (op_at _ 11 _ rfl) (by kernel_rfl) (by kernel_rfl) (by kernel_rfl) (by kernel_rfl) (fun _ _ _ h => h) (Or.inl ⟨by rfl, ?_⟩) (Or.inl (by assumption)) ?_
            rotate_left 1
            focus (intro W hSw; go_simp; first | done | with_reducible rfl)
            (try simp only [Act.put, List.setIfInBounds_toArray, List.set_cons_zero, List.set_cons_succ])
            refine wpAnyK_take (i := 12) (v := ?_) (op_at _ 12 _ rfl) (by kernel_rfl) (by kernel_rfl) (by kernel_rfl) (by kernel_rfl) (fun _ _ _ h => h) (Or.inl ⟨by rfl, ?_⟩) (by assumption) ?_
            rotate_left 1
            focus (intro W hSw; obtain ⟨q1, q2⟩ := hSw; go_simp; first | done | with_reducible rfl)
            (try simp only [Act.put, List.setIfInBounds_toArray, List.set_cons_zero, List.set_cons_succ])
            refine wpAnyK_pure (i := 13) (v := ?_) (op_at _ 13 _ rfl) (by kernel_rfl) (by kernel_rfl) (by kernel_rfl) (by kernel_rfl) (fun _ _ _ h => h) (Or.inl ⟨by rfl, ?_⟩) (Or.inl (by assumption)) ?_
            rotate_left 1
            focus (intro W hSw; go_simp; first | done | with_reducible rfl)
            (try simp only [Act.put, List.setIfInBounds_toArray, List.set_cons_zero, List.set_cons_succ])
            refine wpAnyK_pure (i := 14) (v := ?_) (op_at _ 14 _ rfl) (by kernel_rfl) (by kernel_rfl) (by kernel_rfl) (by kernel_rfl) (fun _ _ _ h => h) (Or.inl ⟨by rfl, ?_⟩) (Or.inl (by assumption)) ?_
            rotate_left 1
            focus (intro W hSw; go_simp; first | done | with_reducible rfl)
            (try simp only [Act.put, List.setIfInBounds_toArray, List.set_cons_zero, List.set_cons_succ])
            refine wpAnyK_pure (i := 15) (v := ?_) (op_at _ 15 _ rfl) (by kernel_rfl) (by kernel_rfl) (by kernel_rfl) (by kernel_rfl) (fun _ _ _ h => h) (Or.inl ⟨by rfl, ?_⟩) (Or.inl (by assumption)) ?_
            rotate_left 1
            focus (intro W hSw; go_simp; first | done | with_reducible rfl)
            (try simp only [Act.put, List.setIfInBounds_toArray, List.set_cons_zero, List.set_cons_succ])
            refine wpAnyK_pure (i := 16) (v := ?_) (op_at _ 16 _ rfl) (by kernel_rfl) (by kernel_rfl) (by kernel_rfl) (by kernel_rfl) (fun _ _ _ h => h) (Or.inl ⟨by rfl, ?_⟩) (Or.inl (by assumption)) ?_
            rotate_left 1
            focus (intro W hSw; go_simp; first | done | with_reducible rfl)
            (try simp only [Act.put, List.setIfInBounds_toArray, List.set_cons_zero, List.set_cons_succ])
            refine wpAnyK_take (i := 17) (v := ?_) (op_at _ 17 _ rfl) (by kernel_rfl) (by kernel_rfl) (by kernel_rfl) (by kernel_rfl) (fun _ _ _ h => h) (Or.inl ⟨by rfl, ?_⟩) (by assumption) ?_
            rotate_left 1
            focus (intro W hSw; obtain ⟨q1, q2⟩ := hSw; go_simp; first | done | with_reducible rfl)
            (try simp only [Act.put, List.setIfInBounds_toArray, List.set_cons_zero, List.set_cons_succ])
            refine wpAnyK_pure (i := 18) (v := ?_) (op_at _ 18 _ rfl) (by kernel_rfl) (by kernel_rfl) (by kernel_rfl) (by kernel_rfl) (fun _ _ _ h => h) (Or.inl ⟨by rfl, ?_⟩) (Or.inl (by assumption)) ?_
            rotate_left 1
            focus (intro W hSw; go_simp; first | done | with_reducible rfl)
            (try simp only [Act.put, List.setIfInBounds_toArray, List.set_cons_zero, List.set_cons_succ])
            refine wpAnyK_pure (i := 19) (v := ?_) (op_at _ 19 _ rfl) (by kernel_rfl) (by kernel_rfl) (by kernel_rfl) (by kernel_rfl) (fun _ _ _ h => h) (Or.inl ⟨by rfl, ?_⟩) (Or.inl (by assumption)) ?_
            rotate_left 1
            focus (intro W hSw; go_simp; first | done | with_reducible rfl)
            (try simp only [Act.put, List.setIfInBounds_toArray, List.set_cons_zero, List.set_cons_succ])
            refine wpAnyK_done (by kernel_rfl) ?_ _
            go_wp2
            go_ret
            exact ⟨rfl, R7, HD.out.and_later ((Below.refl _ _).drew)⟩
        · have g3 : ¬ (i : Int) < (nn : Int) - 1 := by omega
          have HD := hid (HI.out.done (by omega))
          go_wp2
          refine wp_region_K (S := fun W => W.cell? ⟨m, 0, none⟩ = some (.int .i64 (rm : Int)) ∧ W.cell? ⟨m, 1, none⟩ = some (.slice R7.ao nn R7.cap)) (fun i => false) (by kernel_rfl) ⟨c0, c1⟩ (fun hHeld => ?_)
          refine wpAnyK_pure (i := 0) (v := ?_) (op_at _ 0 _ rfl) (by kernel_rfl) (by kernel_rfl) (by kernel_rfl) (by kernel_rfl) (fun _ _ _ h => h) (Or.inl ⟨by rfl, ?_⟩) (Or.inl (by assumption)) ?_
          rotate_left 1
          focus (intro W hSw; go_simp; first | done | with_reducible rfl)
          (try simp only [Act.put, List.setIfInBounds_toArray, List.set_cons_zero, List.set_cons_succ])
          refine wpAnyK_pure (i := 1) (v := ?_) (op_at _ 1 _ rfl) (by kernel_rfl) (by kernel_rfl) (by kernel_rfl) (by kernel_rfl) (fun _ _ _ h => h) (Or.inl ⟨by rfl, ?_⟩) (Or.inl (by assumption)) ?_
          rotate_left 1
          focus (intro W hSw; go_simp; first | done | with_reducible rfl)
          (try simp only [Act.put, List.setIfInBounds_toArray, List.set_cons_zero, List.set_cons_succ])
          refine wpAnyK_pure (i := 2) (v := ?_) (op_at _ 2 _ rfl) (by kernel_rfl) (by kernel_rfl) (by kernel_rfl) (by kernel_rfl) (fun _ _ _ h => h) (Or.inl ⟨by rfl, ?_⟩) (Or.inl (by assumption)) ?_
          rotate_left 1
          focus (intro W hSw; go_simp; first | done | with_reducible rfl)
          (try simp only [Act.put, List.setIfInBounds_toArray, List.set_cons_zero, List.set_cons_succ])
          refine wpAnyK_pure (i := 3) (v := ?_) (op_at _ 3 _ rfl) (by kernel_rfl) (by kernel_rfl) (by kernel_rfl) (by kernel_rfl) (fun _ _ _ h => h) (Or.inl ⟨by rfl, ?_⟩) (Or.inl (by assumption)) ?_
          rotate_left 1
          focus (intro W hSw; go_simp; first | done | with_reducible rfl)
          (try simp only [Act.put, List.setIfInBounds_toArray, List.set_cons_zero, List.set_cons_succ])
          refine wpAnyK_take (i := 4) (v := ?_) (op_at _ 4 _ rfl) (by kernel_rfl) (by kernel_rfl) (by kernel_rfl) (by kernel_rfl) (fun _ _ _ h => h) (Or.inl ⟨by rfl, ?_⟩) (by assumption) ?_
          rotate_left 1
          focus (intro W hSw; obtain ⟨q1, q2⟩ := hSw; go_simp; first | done | with_reducible rfl)
          (try simp only [Act.put, List.setIfInBounds_toArray, List.set_cons_zero, List.set_cons_succ])
          refine wpAnyK_pure (i := 5) (v := ?_) (op_at _ 5 _ rfl) (by kernel_rfl) (by kernel_rfl) (by kernel_rfl) (by kernel_rfl) (fun _ _ _ h => h) (Or.inl ⟨by rfl, ?_⟩) (Or.inl (by assumption)) ?_
          rotate_left 1
          focus (intro W hSw; go_simp; first | done | with_reducible rfl)
          (try simp only [Act.put, List.setIfInBounds_toArray, List.set_cons_zero, List.set_cons_succ])
          refine wpAnyK_pure (i := 6) (v := ?_) (op_at _ 6 _ rfl) (by kernel_rfl) (by kernel_rfl) (by kernel_rfl) (by kernel_rfl) (fun _ _ _ h => h) (Or.inl ⟨by rfl, ?_⟩) (Or.inl (by assumption)) ?_
          rotate_left 1
          focus (intro W hSw; go_simp; first | done | with_reducible rfl)
          (try simp only [Act.put, List.setIfInBounds_toArray, List.set_cons_zero, List.set_cons_succ])
          refine wpAnyK_pure (i := 7) (v := (.bool false)) (op_at _ 7 _ rfl) (by kernel_rfl) (by kernel_rfl) (by kernel_rfl) (by kernel_rfl) (fun _ _ _ h => h) (Or.inl ⟨by rfl, ?_⟩) (Or.inl (by assumption)) ?_
          focus (intro W hSw; go_simp; first | done | with_reducible rfl | (simp; omega))
          (try simp only [Act.put, List.setIfInBounds_toArray, List.set_cons_zero, List.set_cons_succ])
          refine wpAnyK_pure (i := 8) (v := ?_) (op_at _ 8 _ rfl) (by kernel_rfl) (by kernel_rfl) (by kernel_rfl) (by kernel_rfl) (fun _ _ _ h => h) (Or.inl ⟨by rfl, ?_⟩) (Or.inl (by assumption)) ?_
          rotate_left 1
          focus (intro W hSw; go_simp; first | done | with_reducible rfl)
          (try simp only [Act.put, List.setIfInBounds_toArray, List.set_cons_zero, List.set_cons_succ])
          refine wpAnyK_pure (i := 9) (v := undef) (op_at _ 9 _ rfl) (by kernel_rfl) (by kernel_rfl) (by kernel_rfl) (by kernel_rfl) (fun _ _ _ h => h) (Or.inr ⟨by kernel_rfl, rfl⟩) (Or.inl (by assumption)) ?_
          (try simp only [Act.put, List.setIfInBounds_toArray, List.set_cons_zero, List.set_cons_succ])
          refine wpAnyK_pure (i := 10) (v := undef) (op_at _ 10 _ rfl) (by kernel_rfl) (by kernel_rfl) (by kernel_rfl) (by kernel_rfl) (fun _ _ _ h => h) (Or.inr ⟨by kernel_rfl, rfl⟩) (Or.inl (by assumption)) ?_
          (try simp only [Act.put, List.setIfInBounds_toArray, List.set_cons_zero, List.set_cons_succ])
          refine wpAnyK_pure (i := 11) (v := undef) (op_at _ 11 _ rfl) (by kernel_rfl) (by kernel_rfl) (by kernel_rfl) (by kernel_rfl) (fun _ _ _ h => h) (Or.inr ⟨by kernel_rfl, rfl⟩) (Or.inl (by assumption)) ?_
          (try simp only [Act.put, List.setIfInBounds_toArray, List.set_cons_zero, List.set_cons_succ])
          refine wpAnyK_pure (i := 12) (v := undef) (op_at _ 12 _ rfl) (by kernel_rfl) (by kernel_rfl) (by kernel_rfl) (by kernel_rfl) (fun _ _ _ h => h) (Or.inr ⟨by kernel_rfl, rfl⟩) (Or.inl (by assumption)) ?_
          (try simp only [Act.put, List.setIfInBounds_toArray, List.set_cons_zero, List.set_cons_succ])
          refine wpAnyK_pure (i := 13) (v := undef) (op_at _ 13 _ rfl) (by kernel_rfl) (by kernel_rfl) (by kernel_rfl) (by kernel_rfl) (fun _ _ _ h => h) (Or.inr ⟨by kernel_rfl, rfl⟩) (Or.inl (by assumption)) ?_
          (try simp only [Act.put, List.setIfInBounds_toArray, List.set_cons_zero, List.set_cons_succ])
          refine wpAnyK_pure (i := 14) (v := undef) (op_at _ 14 _ rfl) (by kernel_rfl) (by kernel_rfl) (by kernel_rfl) (by kernel_rfl) (fun _ _ _ h => h) (Or.inr ⟨by kernel_rfl, rfl⟩) (Or.inl (by assumption)) ?_
          (try simp only [Act.put, List.setIfInBounds_toArray, List.set_cons_zero, List.set_cons_succ])
          refine wpAnyK_pure (i := 15) (v := undef) (op_at _ 15 _ rfl) (by kernel_rfl) (by kernel_rfl) (by kernel_rfl) (by kernel_rfl) (fun _ _ _ h => h) (Or.inr ⟨by kernel_rfl, rfl⟩) (Or.inl (by assumption)) ?_
          (try simp only [Act.put, List.setIfInBounds_toArray, List.set_cons_zero, List.set_cons_succ])
          refine wpAnyK_pure (i := 16) (v := undef) (op_at _ 16 _ rfl) (by kernel_rfl) (by kernel_rfl) (by kernel_rfl) (by kernel_rfl) (fun _ _ _ h => h) (Or.inr ⟨by kernel_rfl, rfl⟩) (Or.inl (by assumption)) ?_
          (try simp only [Act.put, List.setIfInBounds_toArray, List.set_cons_zero, List.set_cons_succ])
          refine wpAnyK_pure (i := 17) (v := undef) (op_at _ 17 _ rfl) (by kernel_rfl) (by kernel_rfl) (by kernel_rfl) (by kernel_rfl) (fun _ _ _ h => h) (Or.inr ⟨by kernel_rfl, rfl⟩) (Or.inl (by assumption)) ?_
          (try simp only [Act.put, List.setIfInBounds_toArray, List.set_cons_zero, List.set_cons_succ])
          refine wpAnyK_pure (i := 18) (v := undef) (op_at _ 18 _ rfl) (by kernel_rfl) (by kernel_rfl) (by kernel_rfl) (by kernel_rfl) (fun _ _ _ h => h) (Or.inr ⟨by kernel_rfl, rfl⟩) (Or.inl (by assumption)) ?_
          (try simp only [Act.put, List.setIfInBounds_toArray, List.set_cons_zero, List.set_cons_succ])
          refine wpAnyK_pure (i := 19) (v := ?_) (op_at _ 19 _ rfl) (by kernel_rfl) (by kernel_rfl) (by kernel_rfl) (by kernel_rfl) (fun _ _ _ h => h) (Or.inl ⟨by rfl, ?_⟩) (Or.inl (by assumption)) ?_
          rotate_left 1
          focus (intro W hSw; go_simp; first | done | with_reducible rfl)
          (try simp only [Act.put, List.setIfInBounds_toArray, List.set_cons_zero, List.set_cons_succ])
          refine wpAnyK_done (by kernel_rfl) ?_ _
          go_wp2
          go_ret
          exact ⟨rfl, R7, HD.out.and_later ((Below.refl _ _).drew)⟩
    refine AllReadyK.cons (op_at _ 8 _ rfl) (fun K hK => ?_) ?_
    · go_simp
      obtain ⟨X2, hX2⟩ : ∃ X2, X2 = X1.alloc (.cells #[.int .i64 r0.page, .slice ao5 512 c5, .int .i64 (r0.pins : Int), .bool r0.dirty] 81) := ⟨_, rfl⟩; rw [← hX2]; have hb2 : Below X1.heap.size X1 X2 := (by rw [hX2]; exact (Below.refl _ X1).alloc (Nat.le_refl _) _); have hz2 : X2.heap.size = X1.heap.size + 1 := (by rw [hX2]; simp); have HQS := hid (show Src4 X2 (some ⟨X1.heap.size, 0, none⟩) 1 1 [(({ r0 with bytes := b } : Row), (⟨ao5, c5⟩ : RB))] from (by rw [hX2]; exact one_src X1 (({ r0 with bytes := b } : Row), (⟨ao5, c5⟩ : RB)))); replace HO := hid (own4_later HO.out hb2); have hc2 : Below W6.heap.size W6 X2 := gt HC1.out hb2; have hR : PS m w.heap.size (.slice R4.ao n4 R4.cap) (({ r0 with bytes := b } : Row), (⟨ao5, c5⟩ : RB)) X2 := PS.keep HP6.out hc2; have HC2 := hid hc2; have HZ2 := hid hz2; clear hb2 hz2 hc2 hX2
      refine hK.out _ _ hR (fun hHeld => ?_)
      clear hK K
      (try simp only [Act.put, List.setIfInBounds_toArray, List.set_cons_zero, List.set_cons_succ])
      refine wpAnyK_ready (rs := [6]) (by kernel_rfl) (by simp) ?_
      refine AllReadyK.cons (op_at _ 6 _ rfl) (fun K hK => ?_) AllReadyK.nil
      refine step_fresh W6.heap.size rfl (.tmp 39) (.tmp 43) rfl (.slice (some ⟨W6.heap.size, 0, none⟩) 0 0) 0 [] rfl HO.out _ n4 R4.cap R4.ps rfl (HSRC.out X2 HC2.out) (by omega) (fun k hk => by have q9 : W6.heap.size = k := (by simpa [Value.ownBlock] using hk); omega) HC2.out.size ?_; simp only [Nat.zero_add, List.nil_append]; intro a7 c7 X3 ho7 hb7 ha7 hg7; have HO := hid ho7; have HA7 := hid ha7; have hsz7 := hg7.size; replace HQS := hid (src_block HQS.out (hg7.block _ (some_lt HQS.out) (by simp [Value.ownBlock]; have := HZ1.out; omega))); have hc3 : Below W6.heap.size W6 X3 := HC2.out.trans hb7; have hR : PS m w.heap.size (.slice R4.ao n4 R4.cap) (({ r0 with bytes := b } : Row), (⟨ao5, c5⟩ : RB)) X3 := PS.keep HP6.out hc3; have HC3 := hid hc3; clear hc3 ho7 hb7 ha7 hg7
      refine hK.out _ _ hR (fun hHeld => ?_)
      clear hK K
      (try simp only [Act.put, List.setIfInBounds_toArray, List.set_cons_zero, List.set_cons_succ])
      refine wpAnyK_ready (rs := [9]) (by kernel_rfl) (by simp) ?_
      refine AllReadyK.cons (op_at _ 9 _ rfl) (fun K hK => ?_) AllReadyK.nil
      refine step_fresh W6.heap.size rfl (.tmp 44) (.tmp 46) rfl (.slice a7 n4 c7) n4 R4.ps rfl HO.out _ 1 1 [(({ r0 with bytes := b } : Row), (⟨ao5, c5⟩ : RB))] rfl HQS.out (by omega) (fun k hk => by obtain ⟨a, ha, rfl⟩ := slice_own4 hk; exact HA7.out a ha) HC3.out.size ?_; intro a8 c8 w8 ho8 hb8 ha8 hg8; have hc8 : Below W6.heap.size W6 w8 := HC3.out.trans hb8; have hR : PS m w.heap.size (.slice R4.ao n4 R4.cap) (({ r0 with bytes := b } : Row), (⟨ao5, c5⟩ : RB)) w8 := PS.keep HP6.out hc8; have HO8 := hid ho8; have HA8 := hid ha8; have HC8 := hid hc8; have d8 := hR.1; have f8 := PS.fz HP6.out hc8 HF6.out; clear ho8 hb8 ha8 hg8 hc8
      refine hK.out _ _ hR (fun hHeld => ?_)
      clear hK K
      (try simp only [Act.put, List.setIfInBounds_toArray, List.set_cons_zero, List.set_cons_succ])
      refine wpAnyK_pure (i := 10) (v := ?_) (op_at _ 10 _ rfl) (by kernel_rfl) (by kernel_rfl) (by kernel_rfl) (by kernel_rfl) (fun _ _ _ h => h) (Or.inl ⟨by rfl, ?_⟩) (Or.inl (by assumption)) ?_
      rotate_left 1
      focus (intro W hSw; go_simp; first | done | with_reducible rfl)
      (try simp only [Act.put, List.setIfInBounds_toArray, List.set_cons_zero, List.set_cons_succ])
      refine wpAnyK_pure (i := 11) (v := ?_) (op_at _ 11 _ rfl) (by kernel_rfl) (by kernel_rfl) (by kernel_rfl) (by kernel_rfl) (fun _ _ _ h => h) (Or.inl ⟨by rfl, ?_⟩) (Or.inl (by assumption)) ?_
      rotate_left 1
      focus (intro W hSw; go_simp; first | done | with_reducible rfl)
      (try simp only [Act.put, List.setIfInBounds_toArray, List.set_cons_zero, List.set_cons_succ])
      refine wpAnyK_ready (rs := [12]) (by kernel_rfl) (by simp) ?_
      refine AllReadyK.late (op_at _ 12 _ rfl) (by kernel_rfl) (fun K hK => ?_) AllReadyK.nil
      go_simp
      refine hK.out _ _ ?_
      clear hK K
      (try simp only [Act.put, List.setIfInBounds_toArray, List.set_cons_zero, List.set_cons_succ])
      refine wpAnyK_done (by kernel_rfl) ?_ _
      have hlaid := rp_laid (q := (({ r0 with bytes := b } : Row), (⟨ao5, c5⟩ : RB))) HG6.out (HN4.out ▸ HO8.out) HC8.out HA8.out HQ6.out
      rw [← HN4.out] at hlaid
      obtain ⟨W9, hW9⟩ : ∃ W9, W9 = w8.setCell ⟨m, 1, none⟩ (.slice a8 (n4 + 1) c8) := ⟨_, rfl⟩
      rw [← hW9] at hlaid ⊢
      have hPI : ∃ R', PI w m R4 s k (s.put k b).l 0 (n4 + 1) R' (s.putL k b) W9 := by
        obtain ⟨R', st⟩ := hlaid
        rw [show ({ s with l := l4 } : CS).l ++ [({ r0 with bytes := b } : Row)] = s.putL k b from HPL.out] at st
        refine ⟨R', st, ?_, goal_zero, ⟨s.others k, _, rfl, rowFor_page s k⟩, put_nodup HND.out (rowFor_page s k), by omega⟩
        rw [← st.rp.len]
        simp only
        rw [← HPL.out, HN4.out, ← HG6.out.rp.len]; simp
      have HPI := hid hPI
      clear hW9 hlaid hPI HO8 HA8 HC8 d8 f8 HP6 HF6 HSRC HQ6 HG6 HO HA7
      go_wp2
      go_loopg [9] (n4 + 1) (fun q c W => ∃ (i nn : Nat) (R' : RParts) (cur : List Row), i + q = nn ∧ c = .int .i64 (i : Int) ∧ nn ≤ n4 + 1 ∧ Hid (PI w m R4 s k (s.put k b).l i nn R' cur W))
      case atStart => obtain ⟨R7, h7⟩ := HPI.out; exact ⟨0, n4 + 1, R7, _, by omega, rfl, Nat.le_refl _, hid h7⟩
      case round =>
        obtain ⟨i, nn, R7, cur, hik, rfl, hnb, HI⟩ := hrel
        have c0 := HI.out.st.rp.c0; have c1 := HI.out.st.rp.c1
        rw [← HI.out.nl] at c1
        simp only at c0
        obtain ⟨rm, hrm⟩ : ∃ rm, rm = s.room := ⟨_, rfl⟩
        rw [← hrm] at c0
        have hil := HI.out.il
        have hw : IntKind.i64.wrap ((nn : Int) - 1) = (nn : Int) - 1 := by rw [IntWalk.i64_in _ ⟨by omega, by omega⟩]
        have HRM := hid hrm
        clear hrm
        by_cases g1 : i + 1 < nn
        · by_cases g2 : rm < nn
          · have g3 : (i : Int) < (nn : Int) - 1 := by omega
            have g4 : (rm : Int) < (nn : Int) := by omega
            have g5 : i < R7.ps.length := by rw [← HI.out.nl]; omega
            have g6 : i < cur.length := by rw [HI.out.len]; omega
            obtain ⟨g, ha, hcap, hgm, hgl, t0, t1, t2, t3, _⟩ := HI.out.st.rp.cells (i := i) g5
            have hpi : R7.ps[i].1 = cur[i] := by have := HI.out.st.rp.ls; simp only at this; simp only [this, List.getElem_map]
            have hpg : cur[i].page ≠ k := HI.out.page g1 g6
            have hps : R7.ps.length = nn := HI.out.nl.symm
            rw [ha] at c1
            rw [hps] at hcap
            rw [hpi] at t2 t3
            obtain ⟨pn, hpn⟩ : ∃ pn, pn = cur[i].pins := ⟨_, rfl⟩
            obtain ⟨di, hdi⟩ : ∃ di, di = cur[i].dirty := ⟨_, rfl⟩
            rw [← hpn] at t2; rw [← hdi] at t3
            have i0 : (i : Int) < (nn : Int) := by omega
            have i1 : ¬ (i : Int) < 0 := by omega
            have HA := hid ha; have HPN := hid hpn; have HDI := hid hdi; have HPG := hid hpg; have HPS := hid hps
            clear ha hpn hdi hpg hps hpi t0 t1 g5
            go_wp2
            refine wp_region_K (S := fun W => W.cell? ⟨m, 0, none⟩ = some (.int .i64 (rm : Int)) ∧ W.cell? ⟨m, 1, none⟩ = some (.slice (some ⟨g, 0, none⟩) nn R7.cap)) (fun i => false) (by kernel_rfl) ⟨c0, c1⟩ (fun hHeld => ?_)
            refine wpAnyK_pure (i := 0) (v := ?_) (op_at _ 0 _ rfl) (by kernel_rfl) (by kernel_rfl) (by kernel_rfl) (by kernel_rfl) (fun _ _ _ h => h) (Or.inl ⟨by rfl, ?_⟩) (Or.inl (by assumption)) ?_
            rotate_left 1
            focus (intro W hSw; go_simp; first | done | with_reducible rfl)
            (try simp only [Act.put, List.setIfInBounds_toArray, List.set_cons_zero, List.set_cons_succ])
            refine wpAnyK_pure (i := 1) (v := ?_) (op_at _ 1 _ rfl) (by kernel_rfl) (by kernel_rfl) (by kernel_rfl) (by kernel_rfl) (fun _ _ _ h => h) (Or.inl ⟨by rfl, ?_⟩) (Or.inl (by assumption)) ?_
            rotate_left 1
            focus (intro W hSw; go_simp; first | done | with_reducible rfl)
            (try simp only [Act.put, List.setIfInBounds_toArray, List.set_cons_zero, List.set_cons_succ])
            refine wpAnyK_pure (i := 2) (v := ?_) (op_at _ 2 _ rfl) (by kernel_rfl) (by kernel_rfl) (by kernel_rfl) (by kernel_rfl) (fun _ _ _ h => h) (Or.inl ⟨by rfl, ?_⟩) (Or.inl (by assumption)) ?_
            rotate_left 1
            focus (intro W hSw; go_simp; first | done | with_reducible rfl)
            (try simp only [Act.put, List.setIfInBounds_toArray, List.set_cons_zero, List.set_cons_succ])
            refine wpAnyK_pure (i := 3) (v := ?_) (op_at _ 3 _ rfl) (by kernel_rfl) (by kernel_rfl) (by kernel_rfl) (by kernel_rfl) (fun _ _ _ h => h) (Or.inl ⟨by rfl, ?_⟩) (Or.inl (by assumption)) ?_
            rotate_left 1
            focus (intro W hSw; go_simp; first | done | with_reducible rfl)
            (try simp only [Act.put, List.setIfInBounds_toArray, List.set_cons_zero, List.set_cons_succ])
            refine wpAnyK_take (i := 4) (v := ?_) (op_at _ 4 _ rfl) (by kernel_rfl) (by kernel_rfl) (by kernel_rfl) (by kernel_rfl) (fun _ _ _ h => h) (Or.inl ⟨by rfl, ?_⟩) (by assumption) ?_
            rotate_left 1
            focus (intro W hSw; obtain ⟨q1, q2⟩ := hSw; go_simp; first | done | with_reducible rfl)
            (try simp only [Act.put, List.setIfInBounds_toArray, List.set_cons_zero, List.set_cons_succ])
            refine wpAnyK_pure (i := 5) (v := ?_) (op_at _ 5 _ rfl) (by kernel_rfl) (by kernel_rfl) (by kernel_rfl) (by kernel_rfl) (fun _ _ _ h => h) (Or.inl ⟨by rfl, ?_⟩) (Or.inl (by assumption)) ?_
            rotate_left 1
            focus (intro W hSw; go_simp; first | done | with_reducible rfl)
            (try simp only [Act.put, List.setIfInBounds_toArray, List.set_cons_zero, List.set_cons_succ])
            refine wpAnyK_pure (i := 6) (v := ?_) (op_at _ 6 _ rfl) (by kernel_rfl) (by kernel_rfl) (by kernel_rfl) (by kernel_rfl) (fun _ _ _ h => h) (Or.inl ⟨by rfl, ?_⟩) (Or.inl (by assumption)) ?_
            rotate_left 1
            focus (intro W hSw; go_simp; first | done | with_reducible rfl)
            (try simp only [Act.put, List.setIfInBounds_toArray, List.set_cons_zero, List.set_cons_succ])
            refine wpAnyK_pure (i := 7) (v := ?_) (op_at _ 7 _ rfl) (by kernel_rfl) (by kernel_rfl) (by kernel_rfl) (by kernel_rfl) (fun _ _ _ h => h) (Or.inl ⟨by rfl, ?_⟩) (Or.inl (by assumption)) ?_
            rotate_left 1
            focus (intro W hSw; go_simp; first | done | with_reducible rfl)
            (try simp only [Act.put, List.setIfInBounds_toArray, List.set_cons_zero, List.set_cons_succ])
            refine wpAnyK_pure (i := 8) (v := ?_) (op_at _ 8 _ rfl) (by kernel_rfl) (by kernel_rfl) (by kernel_rfl) (by kernel_rfl) (fun _ _ _ h => h) (Or.inl ⟨by rfl, ?_⟩) (Or.inl (by assumption)) ?_
            rotate_left 1
            focus (intro W hSw; go_simp; first | done | with_reducible rfl)
            (try simp only [Act.put, List.setIfInBounds_toArray, List.set_cons_zero, List.set_cons_succ])
            refine wpAnyK_pure (i := 9) (v := ?_) (op_at _ 9 _ rfl) (by kernel_rfl) (by kernel_rfl) (by kernel_rfl) (by kernel_rfl) (fun _ _ _ h => h) (Or.inl ⟨by rfl, ?_⟩) (Or.inl (by assumption)) ?_
            rotate_left 1
            focus (intro W hSw; go_simp; first | done | with_reducible rfl)
            (try simp only [Act.put, List.setIfInBounds_toArray, List.set_cons_zero, List.set_cons_succ])
            refine wpAnyK_pure (i := 10) (v := ?_) (op_at _ 10 _ rfl) (by kernel_rfl) (by kernel_rfl) (by kernel_rfl) (by kernel_rfl) (fun _ _ _ h => h) (Or.inl ⟨by rfl, ?_⟩) (Or.inl (by assumption)) ?_
            rotate_left 1
            focus (intro W hSw; go_simp; first | done | with_reducible rfl)
            (try simp only [Act.put, List.setIfInBounds_toArray, List.set_cons_zero, List.set_cons_succ])
            refine wpAnyK_pure (i := 11) (v := ?_) (op_at _ 11 _ rfl) (by kernel_rfl) (by kernel_rfl) (by kernel_rfl) (by kernel_rfl) (fun _ _ _ h => h) (Or.inl ⟨by rfl, ?_⟩) (Or.inl (by assumption)) ?_
            rotate_left 1
            focus (intro W hSw; go_simp; first | done | with_reducible rfl)
            (try simp only [Act.put, List.setIfInBounds_toArray, List.set_cons_zero, List.set_cons_succ])
            refine wpAnyK_take (i := 12) (v := ?_) (op_at _ 12 _ rfl) (by kernel_rfl) (by kernel_rfl) (by kernel_rfl) (by kernel_rfl) (fun _ _ _ h => h) (Or.inl ⟨by rfl, ?_⟩) (by assumption) ?_
            rotate_left 1
            focus (intro W hSw; obtain ⟨q1, q2⟩ := hSw; go_simp; first | done | with_reducible rfl)
            (try simp only [Act.put, List.setIfInBounds_toArray, List.set_cons_zero, List.set_cons_succ])
            refine wpAnyK_pure (i := 13) (v := ?_) (op_at _ 13 _ rfl) (by kernel_rfl) (by kernel_rfl) (by kernel_rfl) (by kernel_rfl) (fun _ _ _ h => h) (Or.inl ⟨by rfl, ?_⟩) (Or.inl (by assumption)) ?_
            rotate_left 1
            focus (intro W hSw; go_simp; first | done | with_reducible rfl)
            (try simp only [Act.put, List.setIfInBounds_toArray, List.set_cons_zero, List.set_cons_succ])
            refine wpAnyK_pure (i := 14) (v := ?_) (op_at _ 14 _ rfl) (by kernel_rfl) (by kernel_rfl) (by kernel_rfl) (by kernel_rfl) (fun _ _ _ h => h) (Or.inl ⟨by rfl, ?_⟩) (Or.inl (by assumption)) ?_
            rotate_left 1
            focus (intro W hSw; go_simp; first | done | with_reducible rfl)
            (try simp only [Act.put, List.setIfInBounds_toArray, List.set_cons_zero, List.set_cons_succ])
            refine wpAnyK_pure (i := 15) (v := ?_) (op_at _ 15 _ rfl) (by kernel_rfl) (by kernel_rfl) (by kernel_rfl) (by kernel_rfl) (fun _ _ _ h => h) (Or.inl ⟨by rfl, ?_⟩) (Or.inl (by assumption)) ?_
            rotate_left 1
            focus (intro W hSw; go_simp; first | done | with_reducible rfl)
            (try simp only [Act.put, List.setIfInBounds_toArray, List.set_cons_zero, List.set_cons_succ])
            refine wpAnyK_pure (i := 16) (v := ?_) (op_at _ 16 _ rfl) (by kernel_rfl) (by kernel_rfl) (by kernel_rfl) (by kernel_rfl) (fun _ _ _ h => h) (Or.inl ⟨by rfl, ?_⟩) (Or.inl (by assumption)) ?_
            rotate_left 1
            focus (intro W hSw; go_simp; first | done | with_reducible rfl)
            (try simp only [Act.put, List.setIfInBounds_toArray, List.set_cons_zero, List.set_cons_succ])
            refine wpAnyK_take (i := 17) (v := ?_) (op_at _ 17 _ rfl) (by kernel_rfl) (by kernel_rfl) (by kernel_rfl) (by kernel_rfl) (fun _ _ _ h => h) (Or.inl ⟨by rfl, ?_⟩) (by assumption) ?_
            rotate_left 1
            focus (intro W hSw; obtain ⟨q1, q2⟩ := hSw; go_simp; first | done | with_reducible rfl)
            (try simp only [Act.put, List.setIfInBounds_toArray, List.set_cons_zero, List.set_cons_succ])
            refine wpAnyK_pure (i := 18) (v := ?_) (op_at _ 18 _ rfl) (by kernel_rfl) (by kernel_rfl) (by kernel_rfl) (by kernel_rfl) (fun _ _ _ h => h) (Or.inl ⟨by rfl, ?_⟩) (Or.inl (by assumption)) ?_
            rotate_left 1
            focus (intro W hSw; go_simp; first | done | with_reducible rfl)
            (try simp only [Act.put, List.setIfInBounds_toArray, List.set_cons_zero, List.set_cons_succ])
            refine wpAnyK_pure (i := 19) (v := ?_) (op_at _ 19 _ rfl) (by kernel_rfl) (by kernel_rfl) (by kernel_rfl) (by kernel_rfl) (fun _ _ _ h => h) (Or.inl ⟨by rfl, ?_⟩) (Or.inl (by assumption)) ?_
            rotate_left 1
            focus (intro W hSw; go_simp; first | done | with_reducible rfl)
            (try simp only [Act.put, List.setIfInBounds_toArray, List.set_cons_zero, List.set_cons_succ])
            refine wpAnyK_done (by kernel_rfl) ?_ _
            by_cases z1 : pn = 0
            · have z2 : ((pn : Int) == 0) = true := by simp [z1]
              cases di with
              | false =>
                have k2 : Hid (Calls Try.prog 58 #[.pointer (some ⟨m, 0, none⟩), .int .i64 (i : Int)] wr.drew fun e w' => e = .returned (.tuple #[]) ∧ ∃ R2, PI w m R4 s k (s.put k b).l i (nn - 1) R2 (cur.eraseIdx i) w') := hid (by
                  have hx := HI.out.stay ((Below.refl _ _).drew)
                  have he : R7 = ⟨some ⟨g, 0, none⟩, R7.cap, R7.ps⟩ := by rw [← HA.out]
                  refine (rout_any m g R7.cap i nn R7.ps _ wr.drew (he ▸ hx.st.rp) (by omega) (by omega) HPS.out.symm).mono ?_
                  rintro e w' ⟨rfl, R2, st⟩
                  rw [← he] at st
                  refine ⟨rfl, R2, hx.out g1 (by rw [← HRM.out]; exact g2) g6 ?_ st⟩
                  unfold p52
                  rw [← HPN.out, ← HDI.out]
                  simp [z1, HPG.out])
                go_wp2_with (go_at_call 58; refine k2.out.mono ?_; rintro e w10 ⟨rfl, R10, h10⟩; have H10 := hid h10; clear h10)
                go_roundg (gk - 1)
                case measure => omega
                case rel => exact ⟨i, nn - 1, R10, _, by omega, rfl, by omega, H10⟩
              | true =>
                have hx := hid ((HI.out.stay ((Below.refl _ _).drew)).next g1 (by rw [← HRM.out]; exact g2) g6 (by unfold p52; rw [← HPN.out, ← HDI.out]; simp))
                go_wp2
                go_roundg (gk - 1)
                case measure => omega
                case rel => exact ⟨i + 1, nn, R7, _, by omega, by simp, by omega, hx⟩
            · have z2 : ((pn : Int) == 0) = false := by simpa using z1
              have hx := hid ((HI.out.stay ((Below.refl _ _).drew)).next g1 (by rw [← HRM.out]; exact g2) g6 (by unfold p52; rw [← HPN.out]; simp [z1]))
              go_wp2
              go_roundg (gk - 1)
              case measure => omega
              case rel => exact ⟨i + 1, nn, R7, _, by omega, by simp, by omega, hx⟩
          · have g3 : (i : Int) < (nn : Int) - 1 := by omega
            have g4 : ¬ (rm : Int) < (nn : Int) := by omega
            have HD := hid (HI.out.done (by rw [← HRM.out]; omega))
            go_wp2
            refine wp_region_K (S := fun W => W.cell? ⟨m, 0, none⟩ = some (.int .i64 (rm : Int)) ∧ W.cell? ⟨m, 1, none⟩ = some (.slice R7.ao nn R7.cap)) (fun i => false) (by kernel_rfl) ⟨c0, c1⟩ (fun hHeld => ?_)
            refine wpAnyK_pure (i := 0) (v := ?_) (op_at _ 0 _ rfl) (by kernel_rfl) (by kernel_rfl) (by kernel_rfl) (by kernel_rfl) (fun _ _ _ h => h) (Or.inl ⟨by rfl, ?_⟩) (Or.inl (by assumption)) ?_
            rotate_left 1
            focus (intro W hSw; go_simp; first | done | with_reducible rfl)
            (try simp only [Act.put, List.setIfInBounds_toArray, List.set_cons_zero, List.set_cons_succ])
            refine wpAnyK_pure (i := 1) (v := ?_) (op_at _ 1 _ rfl) (by kernel_rfl) (by kernel_rfl) (by kernel_rfl) (by kernel_rfl) (fun _ _ _ h => h) (Or.inl ⟨by rfl, ?_⟩) (Or.inl (by assumption)) ?_
            rotate_left 1
            focus (intro W hSw; go_simp; first | done | with_reducible rfl)
            (try simp only [Act.put, List.setIfInBounds_toArray, List.set_cons_zero, List.set_cons_succ])
            refine wpAnyK_pure (i := 2) (v := ?_) (op_at _ 2 _ rfl) (by kernel_rfl) (by kernel_rfl) (by kernel_rfl) (by kernel_rfl) (fun _ _ _ h => h) (Or.inl ⟨by rfl, ?_⟩) (Or.inl (by assumption)) ?_
            rotate_left 1
            focus (intro W hSw; go_simp; first | done | with_reducible rfl)
            (try simp only [Act.put, List.setIfInBounds_toArray, List.set_cons_zero, List.set_cons_succ])
            refine wpAnyK_pure (i := 3) (v := ?_) (op_at _ 3 _ rfl) (by kernel_rfl) (by kernel_rfl) (by kernel_rfl) (by kernel_rfl) (fun _ _ _ h => h) (Or.inl ⟨by rfl, ?_⟩) (Or.inl (by assumption)) ?_
            rotate_left 1
            focus (intro W hSw; go_simp; first | done | with_reducible rfl)
            (try simp only [Act.put, List.setIfInBounds_toArray, List.set_cons_zero, List.set_cons_succ])
            refine wpAnyK_take (i := 4) (v := ?_) (op_at _ 4 _ rfl) (by kernel_rfl) (by kernel_rfl) (by kernel_rfl) (by kernel_rfl) (fun _ _ _ h => h) (Or.inl ⟨by rfl, ?_⟩) (by assumption) ?_
            rotate_left 1
            focus (intro W hSw; obtain ⟨q1, q2⟩ := hSw; go_simp; first | done | with_reducible rfl)
            (try simp only [Act.put, List.setIfInBounds_toArray, List.set_cons_zero, List.set_cons_succ])
            refine wpAnyK_pure (i := 5) (v := ?_) (op_at _ 5 _ rfl) (by kernel_rfl) (by kernel_rfl) (by kernel_rfl) (by kernel_rfl) (fun _ _ _ h => h) (Or.inl ⟨by rfl, ?_⟩) (Or.inl (by assumption)) ?_
            rotate_left 1
            focus (intro W hSw; go_simp; first | done | with_reducible rfl)
            (try simp only [Act.put, List.setIfInBounds_toArray, List.set_cons_zero, List.set_cons_succ])
            refine wpAnyK_pure (i := 6) (v := ?_) (op_at _ 6 _ rfl) (by kernel_rfl) (by kernel_rfl) (by kernel_rfl) (by kernel_rfl) (fun _ _ _ h => h) (Or.inl ⟨by rfl, ?_⟩) (Or.inl (by assumption)) ?_
            rotate_left 1
            focus (intro W hSw; go_simp; first | done | with_reducible rfl)
            (try simp only [Act.put, List.setIfInBounds_toArray, List.set_cons_zero, List.set_cons_succ])
            refine wpAnyK_pure (i := 7) (v := ?_) (op_at _ 7 _ rfl) (by kernel_rfl) (by kernel_rfl) (by kernel_rfl) (by kernel_rfl) (fun _ _ _ h => h) (Or.inl ⟨by rfl, ?_⟩) (Or.inl (by assumption)) ?_
            rotate_left 1
            focus (intro W hSw; go_simp; first | done | with_reducible rfl)
            (try simp only [Act.put, List.setIfInBounds_toArray, List.set_cons_zero, List.set_cons_succ])
            refine wpAnyK_pure (i := 8) (v := ?_) (op_at _ 8 _ rfl) (by kernel_rfl) (by kernel_rfl) (by kernel_rfl) (by kernel_rfl) (fun _ _ _ h => h) (Or.inl ⟨by rfl, ?_⟩) (Or.inl (by assumption)) ?_
            rotate_left 1
            focus (intro W hSw; go_simp; first | done | with_reducible rfl)
            (try simp only [Act.put, List.setIfInBounds_toArray, List.set_cons_zero, List.set_cons_succ])
            refine wpAnyK_pure (i := 9) (v := ?_) (op_at _ 9 _ rfl) (by kernel_rfl) (by kernel_rfl) (by kernel_rfl) (by kernel_rfl) (fun _ _ _ h => h) (Or.inl ⟨by rfl, ?_⟩) (Or.inl (by assumption)) ?_
            rotate_left 1
            focus (intro W hSw; go_simp; first | done | with_reducible rfl)
            (try simp only [Act.put, List.setIfInBounds_toArray, List.set_cons_zero, List.set_cons_succ])
            refine wpAnyK_pure (i := 10) (v := ?_) (op_at _ 10 _ rfl) (by kernel_rfl) (by kernel_rfl) (by kernel_rfl) (by kernel_rfl) (fun _ _ _ h => h) (Or.inl ⟨by rfl, ?_⟩) (Or.inl (by assumption)) ?_
            rotate_left 1
            focus (intro W hSw; go_simp; first | done | with_reducible rfl)
            (try simp only [Act.put, List.setIfInBounds_toArray, List.set_cons_zero, List.set_cons_succ])
            refine wpAnyK_pure (i := 11) (v := ?_) (op_at _ 11 _ rfl) (by kernel_rfl) (by kernel_rfl) (by kernel_rfl) (by kernel_rfl) (fun _ _ _ h => h) (Or.inl ⟨by rfl, ?_⟩) (Or.inl (by assumption)) ?_
            rotate_left 1
            focus (intro W hSw; go_simp; first | done | with_reducible rfl)
            (try simp only [Act.put, List.setIfInBounds_toArray, List.set_cons_zero, List.set_cons_succ])
            refine wpAnyK_take (i := 12) (v := ?_) (op_at _ 12 _ rfl) (by kernel_rfl) (by kernel_rfl) (by kernel_rfl) (by kernel_rfl) (fun _ _ _ h => h) (Or.inl ⟨by rfl, ?_⟩) (by assumption) ?_
            rotate_left 1
            focus (intro W hSw; obtain ⟨q1, q2⟩ := hSw; go_simp; first | done | with_reducible rfl)
            (try simp only [Act.put, List.setIfInBounds_toArray, List.set_cons_zero, List.set_cons_succ])
            refine wpAnyK_pure (i := 13) (v := ?_) (op_at _ 13 _ rfl) (by kernel_rfl) (by kernel_rfl) (by kernel_rfl) (by kernel_rfl) (fun _ _ _ h => h) (Or.inl ⟨by rfl, ?_⟩) (Or.inl (by assumption)) ?_
            rotate_left 1
            focus (intro W hSw; go_simp; first | done | with_reducible rfl)
            (try simp only [Act.put, List.setIfInBounds_toArray, List.set_cons_zero, List.set_cons_succ])
            refine wpAnyK_pure (i := 14) (v := ?_) (op_at _ 14 _ rfl) (by kernel_rfl) (by kernel_rfl) (by kernel_rfl) (by kernel_rfl) (fun _ _ _ h => h) (Or.inl ⟨by rfl, ?_⟩) (Or.inl (by assumption)) ?_
            rotate_left 1
            focus (intro W hSw; go_simp; first | done | with_reducible rfl)
            (try simp only [Act.put, List.setIfInBounds_toArray, List.set_cons_zero, List.set_cons_succ])
            refine wpAnyK_pure (i := 15) (v := ?_) (op_at _ 15 _ rfl) (by kernel_rfl) (by kernel_rfl) (by kernel_rfl) (by kernel_rfl) (fun _ _ _ h => h) (Or.inl ⟨by rfl, ?_⟩) (Or.inl (by assumption)) ?_
            rotate_left 1
            focus (intro W hSw; go_simp; first | done | with_reducible rfl)
            (try simp only [Act.put, List.setIfInBounds_toArray, List.set_cons_zero, List.set_cons_succ])
            refine wpAnyK_pure (i := 16) (v := ?_) (op_at _ 16 _ rfl) (by kernel_rfl) (by kernel_rfl) (by kernel_rfl) (by kernel_rfl) (fun _ _ _ h => h) (Or.inl ⟨by rfl, ?_⟩) (Or.inl (by assumption)) ?_
            rotate_left 1
            focus (intro W hSw; go_simp; first | done | with_reducible rfl)
            (try simp only [Act.put, List.setIfInBounds_toArray, List.set_cons_zero, List.set_cons_succ])
            refine wpAnyK_take (i := 17) (v := ?_) (op_at _ 17 _ rfl) (by kernel_rfl) (by kernel_rfl) (by kernel_rfl) (by kernel_rfl) (fun _ _ _ h => h) (Or.inl ⟨by rfl, ?_⟩) (by assumption) ?_
            rotate_left 1
            focus (intro W hSw; obtain ⟨q1, q2⟩ := hSw; go_simp; first | done | with_reducible rfl)
            (try simp only [Act.put, List.setIfInBounds_toArray, List.set_cons_zero, List.set_cons_succ])
            refine wpAnyK_pure (i := 18) (v := ?_) (op_at _ 18 _ rfl) (by kernel_rfl) (by kernel_rfl) (by kernel_rfl) (by kernel_rfl) (fun _ _ _ h => h) (Or.inl ⟨by rfl, ?_⟩) (Or.inl (by assumption)) ?_
            rotate_left 1
            focus (intro W hSw; go_simp; first | done | with_reducible rfl)
            (try simp only [Act.put, List.setIfInBounds_toArray, List.set_cons_zero, List.set_cons_succ])
            refine wpAnyK_pure (i := 19) (v := ?_) (op_at _ 19 _ rfl) (by kernel_rfl) (by kernel_rfl) (by kernel_rfl) (by kernel_rfl) (fun _ _ _ h => h) (Or.inl ⟨by rfl, ?_⟩) (Or.inl (by assumption)) ?_
            rotate_left 1
            focus (intro W hSw; go_simp; first | done | with_reducible rfl)
            (try simp only [Act.put, List.setIfInBounds_toArray, List.set_cons_zero, List.set_cons_succ])
            refine wpAnyK_done (by kernel_rfl) ?_ _
            go_wp2
            go_ret
            exact ⟨rfl, R7, HD.out.and_later ((Below.refl _ _).drew)⟩
        · have g3 : ¬ (i : Int) < (nn : Int) - 1 := by omega
          have HD := hid (HI.out.done (by omega))
          go_wp2
          refine wp_region_K (S := fun W => W.cell? ⟨m, 0, none⟩ = some (.int .i64 (rm : Int)) ∧ W.cell? ⟨m, 1, none⟩ = some (.slice R7.ao nn R7.cap)) (fun i => false) (by kernel_rfl) ⟨c0, c1⟩ (fun hHeld => ?_)
          refine wpAnyK_pure (i := 0) (v := ?_) (op_at _ 0 _ rfl) (by kernel_rfl) (by kernel_rfl) (by kernel_rfl) (by kernel_rfl) (fun _ _ _ h => h) (Or.inl ⟨by rfl, ?_⟩) (Or.inl (by assumption)) ?_
          rotate_left 1
          focus (intro W hSw; go_simp; first | done | with_reducible rfl)
          (try simp only [Act.put, List.setIfInBounds_toArray, List.set_cons_zero, List.set_cons_succ])
          refine wpAnyK_pure (i := 1) (v := ?_) (op_at _ 1 _ rfl) (by kernel_rfl) (by kernel_rfl) (by kernel_rfl) (by kernel_rfl) (fun _ _ _ h => h) (Or.inl ⟨by rfl, ?_⟩) (Or.inl (by assumption)) ?_
          rotate_left 1
          focus (intro W hSw; go_simp; first | done | with_reducible rfl)
          (try simp only [Act.put, List.setIfInBounds_toArray, List.set_cons_zero, List.set_cons_succ])
          refine wpAnyK_pure (i := 2) (v := ?_) (op_at _ 2 _ rfl) (by kernel_rfl) (by kernel_rfl) (by kernel_rfl) (by kernel_rfl) (fun _ _ _ h => h) (Or.inl ⟨by rfl, ?_⟩) (Or.inl (by assumption)) ?_
          rotate_left 1
          focus (intro W hSw; go_simp; first | done | with_reducible rfl)
          (try simp only [Act.put, List.setIfInBounds_toArray, List.set_cons_zero, List.set_cons_succ])
          refine wpAnyK_pure (i := 3) (v := ?_) (op_at _ 3 _ rfl) (by kernel_rfl) (by kernel_rfl) (by kernel_rfl) (by kernel_rfl) (fun _ _ _ h => h) (Or.inl ⟨by rfl, ?_⟩) (Or.inl (by assumption)) ?_
          rotate_left 1
          focus (intro W hSw; go_simp; first | done | with_reducible rfl)
          (try simp only [Act.put, List.setIfInBounds_toArray, List.set_cons_zero, List.set_cons_succ])
          refine wpAnyK_take (i := 4) (v := ?_) (op_at _ 4 _ rfl) (by kernel_rfl) (by kernel_rfl) (by kernel_rfl) (by kernel_rfl) (fun _ _ _ h => h) (Or.inl ⟨by rfl, ?_⟩) (by assumption) ?_
          rotate_left 1
          focus (intro W hSw; obtain ⟨q1, q2⟩ := hSw; go_simp; first | done | with_reducible rfl)
          (try simp only [Act.put, List.setIfInBounds_toArray, List.set_cons_zero, List.set_cons_succ])
          refine wpAnyK_pure (i := 5) (v := ?_) (op_at _ 5 _ rfl) (by kernel_rfl) (by kernel_rfl) (by kernel_rfl) (by kernel_rfl) (fun _ _ _ h => h) (Or.inl ⟨by rfl, ?_⟩) (Or.inl (by assumption)) ?_
          rotate_left 1
          focus (intro W hSw; go_simp; first | done | with_reducible rfl)
          (try simp only [Act.put, List.setIfInBounds_toArray, List.set_cons_zero, List.set_cons_succ])
          refine wpAnyK_pure (i := 6) (v := ?_) (op_at _ 6 _ rfl) (by kernel_rfl) (by kernel_rfl) (by kernel_rfl) (by kernel_rfl) (fun _ _ _ h => h) (Or.inl ⟨by rfl, ?_⟩) (Or.inl (by assumption)) ?_
          rotate_left 1
          focus (intro W hSw; go_simp; first | done | with_reducible rfl)
          (try simp only [Act.put, List.setIfInBounds_toArray, List.set_cons_zero, List.set_cons_succ])
          refine wpAnyK_pure (i := 7) (v := (.bool false)) (op_at _ 7 _ rfl) (by kernel_rfl) (by kernel_rfl) (by kernel_rfl) (by kernel_rfl) (fun _ _ _ h => h) (Or.inl ⟨by rfl, ?_⟩) (Or.inl (by assumption)) ?_
          focus (intro W hSw; go_simp; first | done | with_reducible rfl | (simp; omega))
          (try simp only [Act.put, List.setIfInBounds_toArray, List.set_cons_zero, List.set_cons_succ])
          refine wpAnyK_pure (i := 8) (v := ?_) (op_at _ 8 _ rfl) (by kernel_rfl) (by kernel_rfl) (by kernel_rfl) (by kernel_rfl) (fun _ _ _ h => h) (Or.inl ⟨by rfl, ?_⟩) (Or.inl (by assumption)) ?_
          rotate_left 1
          focus (intro W hSw; go_simp; first | done | with_reducible rfl)
          (try simp only [Act.put, List.setIfInBounds_toArray, List.set_cons_zero, List.set_cons_succ])
          refine wpAnyK_pure (i := 9) (v := undef) (op_at _ 9 _ rfl) (by kernel_rfl) (by kernel_rfl) (by kernel_rfl) (by kernel_rfl) (fun _ _ _ h => h) (Or.inr ⟨by kernel_rfl, rfl⟩) (Or.inl (by assumption)) ?_
          (try simp only [Act.put, List.setIfInBounds_toArray, List.set_cons_zero, List.set_cons_succ])
          refine wpAnyK_pure (i := 10) (v := undef) (op_at _ 10 _ rfl) (by kernel_rfl) (by kernel_rfl) (by kernel_rfl) (by kernel_rfl) (fun _ _ _ h => h) (Or.inr ⟨by kernel_rfl, rfl⟩) (Or.inl (by assumption)) ?_
          (try simp only [Act.put, List.setIfInBounds_toArray, List.set_cons_zero, List.set_cons_succ])
          refine wpAnyK_pure (i := 11) (v := undef) (op_at _ 11 _ rfl) (by kernel_rfl) (by kernel_rfl) (by kernel_rfl) (by kernel_rfl) (fun _ _ _ h => h) (Or.inr ⟨by kernel_rfl, rfl⟩) (Or.inl (by assumption)) ?_
          (try simp only [Act.put, List.setIfInBounds_toArray, List.set_cons_zero, List.set_cons_succ])
          refine wpAnyK_pure (i := 12) (v := undef) (op_at _ 12 _ rfl) (by kernel_rfl) (by kernel_rfl) (by kernel_rfl) (by kernel_rfl) (fun _ _ _ h => h) (Or.inr ⟨by kernel_rfl, rfl⟩) (Or.inl (by assumption)) ?_
          (try simp only [Act.put, List.setIfInBounds_toArray, List.set_cons_zero, List.set_cons_succ])
          refine wpAnyK_pure (i := 13) (v := undef) (op_at _ 13 _ rfl) (by kernel_rfl) (by kernel_rfl) (by kernel_rfl) (by kernel_rfl) (fun _ _ _ h => h) (Or.inr ⟨by kernel_rfl, rfl⟩) (Or.inl (by assumption)) ?_
          (try simp only [Act.put, List.setIfInBounds_toArray, List.set_cons_zero, List.set_cons_succ])
          refine wpAnyK_pure (i := 14) (v := undef) (op_at _ 14 _ rfl) (by kernel_rfl) (by kernel_rfl) (by kernel_rfl) (by kernel_rfl) (fun _ _ _ h => h) (Or.inr ⟨by kernel_rfl, rfl⟩) (Or.inl (by assumption)) ?_
          (try simp only [Act.put, List.setIfInBounds_toArray, List.set_cons_zero, List.set_cons_succ])
          refine wpAnyK_pure (i := 15) (v := undef) (op_at _ 15 _ rfl) (by kernel_rfl) (by kernel_rfl) (by kernel_rfl) (by kernel_rfl) (fun _ _ _ h => h) (Or.inr ⟨by kernel_rfl, rfl⟩) (Or.inl (by assumption)) ?_
          (try simp only [Act.put, List.setIfInBounds_toArray, List.set_cons_zero, List.set_cons_succ])
          refine wpAnyK_pure (i := 16) (v := undef) (op_at _ 16 _ rfl) (by kernel_rfl) (by kernel_rfl) (by kernel_rfl) (by kernel_rfl) (fun _ _ _ h => h) (Or.inr ⟨by kernel_rfl, rfl⟩) (Or.inl (by assumption)) ?_
          (try simp only [Act.put, List.setIfInBounds_toArray, List.set_cons_zero, List.set_cons_succ])
          refine wpAnyK_pure (i := 17) (v := undef) (op_at _ 17 _ rfl) (by kernel_rfl) (by kernel_rfl) (by kernel_rfl) (by kernel_rfl) (fun _ _ _ h => h) (Or.inr ⟨by kernel_rfl, rfl⟩) (Or.inl (by assumption)) ?_
          (try simp only [Act.put, List.setIfInBounds_toArray, List.set_cons_zero, List.set_cons_succ])
          refine wpAnyK_pure (i := 18) (v := undef) (op_at _ 18 _ rfl) (by kernel_rfl) (by kernel_rfl) (by kernel_rfl) (by kernel_rfl) (fun _ _ _ h => h) (Or.inr ⟨by kernel_rfl, rfl⟩) (Or.inl (by assumption)) ?_
          (try simp only [Act.put, List.setIfInBounds_toArray, List.set_cons_zero, List.set_cons_succ])
          refine wpAnyK_pure (i := 19) (v := ?_) (op_at _ 19 _ rfl) (by kernel_rfl) (by kernel_rfl) (by kernel_rfl) (by kernel_rfl) (fun _ _ _ h => h) (Or.inl ⟨by rfl, ?_⟩) (Or.inl (by assumption)) ?_
          rotate_left 1
          focus (intro W hSw; go_simp; first | done | with_reducible rfl)
          (try simp only [Act.put, List.setIfInBounds_toArray, List.set_cons_zero, List.set_cons_succ])
          refine wpAnyK_done (by kernel_rfl) ?_ _
          go_wp2
          go_ret
          exact ⟨rfl, R7, HD.out.and_later ((Below.refl _ _).drew)⟩
    exact AllReadyK.nil
  refine AllReadyK.cons (op_at _ 8 _ rfl) (fun K hK => ?_) ?_
  · go_simp
    obtain ⟨X1, hX1⟩ : ∃ X1, X1 = (W6.alloc (.cells #[.int .i64 r0.page, .slice ao5 512 c5, .int .i64 (r0.pins : Int), .bool r0.dirty] 81)).drew := ⟨_, rfl⟩; rw [← hX1]; have hb1 : Below W6.heap.size W6 X1 := (by rw [hX1]; exact ((Below.refl _ W6).alloc (Nat.le_refl _) _).drew); have hz1 : X1.heap.size = W6.heap.size + 1 := (by rw [hX1]; simp [World.drew]); have HQS := hid (show Src4 X1 (some ⟨W6.heap.size, 0, none⟩) 1 1 [(({ r0 with bytes := b } : Row), (⟨ao5, c5⟩ : RB))] from (by rw [hX1]; exact src_drew (one_src W6 (({ r0 with bytes := b } : Row), (⟨ao5, c5⟩ : RB))))); have hc1 : Below W6.heap.size W6 X1 := hb1; have hR : PS m w.heap.size (.slice R4.ao n4 R4.cap) (({ r0 with bytes := b } : Row), (⟨ao5, c5⟩ : RB)) X1 := PS.keep HP6.out hc1; have HC1 := hid hc1; have HZ1 := hid hz1; clear hb1 hz1 hc1 hX1
    refine hK.out _ _ hR (fun hHeld => ?_)
    clear hK K
    (try simp only [Act.put, List.setIfInBounds_toArray, List.set_cons_zero, List.set_cons_succ])
    refine wpAnyK_ready (rs := [1]) (by kernel_rfl) (by simp) ?_
    refine AllReadyK.cons (op_at _ 1 _ rfl) (fun K hK => ?_) AllReadyK.nil
    go_simp
    obtain ⟨X2, hX2⟩ : ∃ X2, X2 = X1.alloc (.cells #[] 81) := ⟨_, rfl⟩; rw [← hX2]; have hb2 : Below X1.heap.size X1 X2 := (by rw [hX2]; exact (Below.refl _ X1).alloc (Nat.le_refl _) _); have hz2 : X2.heap.size = X1.heap.size + 1 := (by rw [hX2]; simp); have HO := hid (show X2.ownsRow 0 81 4 (.slice (some ⟨X1.heap.size, 0, none⟩) 0 0) 0 (rvs []) from (by rw [hX2]; exact own4_made0 X1)); replace HQS := hid (src_later HQS.out hb2); have hc2 : Below W6.heap.size W6 X2 := gt HC1.out hb2; have hR : PS m w.heap.size (.slice R4.ao n4 R4.cap) (({ r0 with bytes := b } : Row), (⟨ao5, c5⟩ : RB)) X2 := PS.keep HP6.out hc2; have HC2 := hid hc2; have HZ2 := hid hz2; clear hb2 hz2 hc2 hX2
    refine hK.out _ _ hR (fun hHeld => ?_)
    clear hK K
    (try simp only [Act.put, List.setIfInBounds_toArray, List.set_cons_zero, List.set_cons_succ])
    refine wpAnyK_ready (rs := [6]) (by kernel_rfl) (by simp) ?_
    refine AllReadyK.cons (op_at _ 6 _ rfl) (fun K hK => ?_) AllReadyK.nil
    refine step_fresh W6.heap.size rfl (.tmp 39) (.tmp 43) rfl (.slice (some ⟨X1.heap.size, 0, none⟩) 0 0) 0 [] rfl HO.out _ n4 R4.cap R4.ps rfl (HSRC.out X2 HC2.out) (by omega) (fun k hk => by have q9 : X1.heap.size = k := (by simpa [Value.ownBlock] using hk); have := HZ1.out; omega) HC2.out.size ?_; simp only [Nat.zero_add, List.nil_append]; intro a7 c7 X3 ho7 hb7 ha7 hg7; have HO := hid ho7; have HA7 := hid ha7; have hsz7 := hg7.size; replace HQS := hid (src_block HQS.out (hg7.block _ (some_lt HQS.out) (by simp [Value.ownBlock]; have := HZ1.out; omega))); have hc3 : Below W6.heap.size W6 X3 := HC2.out.trans hb7; have hR : PS m w.heap.size (.slice R4.ao n4 R4.cap) (({ r0 with bytes := b } : Row), (⟨ao5, c5⟩ : RB)) X3 := PS.keep HP6.out hc3; have HC3 := hid hc3; clear hc3 ho7 hb7 ha7 hg7
    refine hK.out _ _ hR (fun hHeld => ?_)
    clear hK K
    (try simp only [Act.put, List.setIfInBounds_toArray, List.set_cons_zero, List.set_cons_succ])
    refine wpAnyK_ready (rs := [9]) (by kernel_rfl) (by simp) ?_
    refine AllReadyK.cons (op_at _ 9 _ rfl) (fun K hK => ?_) AllReadyK.nil
    refine step_fresh W6.heap.size rfl (.tmp 44) (.tmp 46) rfl (.slice a7 n4 c7) n4 R4.ps rfl HO.out _ 1 1 [(({ r0 with bytes := b } : Row), (⟨ao5, c5⟩ : RB))] rfl HQS.out (by omega) (fun k hk => by obtain ⟨a, ha, rfl⟩ := slice_own4 hk; exact HA7.out a ha) HC3.out.size ?_; intro a8 c8 w8 ho8 hb8 ha8 hg8; have hc8 : Below W6.heap.size W6 w8 := HC3.out.trans hb8; have hR : PS m w.heap.size (.slice R4.ao n4 R4.cap) (({ r0 with bytes := b } : Row), (⟨ao5, c5⟩ : RB)) w8 := PS.keep HP6.out hc8; have HO8 := hid ho8; have HA8 := hid ha8; have HC8 := hid hc8; have d8 := hR.1; have f8 := PS.fz HP6.out hc8 HF6.out; clear ho8 hb8 ha8 hg8 hc8
    refine hK.out _ _ hR (fun hHeld => ?_)
    clear hK K
    (try simp only [Act.put, List.setIfInBounds_toArray, List.set_cons_zero, List.set_cons_succ])
    refine wpAnyK_pure (i := 10) (v := ?_) (op_at _ 10 _ rfl) (by kernel_rfl) (by kernel_rfl) (by kernel_rfl) (by kernel_rfl) (fun _ _ _ h => h) (Or.inl ⟨by rfl, ?_⟩) (Or.inl (by assumption)) ?_
    rotate_left 1
    focus (intro W hSw; go_simp; first | done | with_reducible rfl)
    (try simp only [Act.put, List.setIfInBounds_toArray, List.set_cons_zero, List.set_cons_succ])
    refine wpAnyK_pure (i := 11) (v := ?_) (op_at _ 11 _ rfl) (by kernel_rfl) (by kernel_rfl) (by kernel_rfl) (by kernel_rfl) (fun _ _ _ h => h) (Or.inl ⟨by rfl, ?_⟩) (Or.inl (by assumption)) ?_
    rotate_left 1
    focus (intro W hSw; go_simp; first | done | with_reducible rfl)
    (try simp only [Act.put, List.setIfInBounds_toArray, List.set_cons_zero, List.set_cons_succ])
    refine wpAnyK_ready (rs := [12]) (by kernel_rfl) (by simp) ?_
    refine AllReadyK.late (op_at _ 12 _ rfl) (by kernel_rfl) (fun K hK => ?_) AllReadyK.nil
    go_simp
    refine hK.out _ _ ?_
    clear hK K
    (try simp only [Act.put, List.setIfInBounds_toArray, List.set_cons_zero, List.set_cons_succ])
    refine wpAnyK_done (by kernel_rfl) ?_ _
    have hlaid := rp_laid (q := (({ r0 with bytes := b } : Row), (⟨ao5, c5⟩ : RB))) HG6.out (HN4.out ▸ HO8.out) HC8.out HA8.out HQ6.out
    rw [← HN4.out] at hlaid
    obtain ⟨W9, hW9⟩ : ∃ W9, W9 = w8.setCell ⟨m, 1, none⟩ (.slice a8 (n4 + 1) c8) := ⟨_, rfl⟩
    rw [← hW9] at hlaid ⊢
    have hPI : ∃ R', PI w m R4 s k (s.put k b).l 0 (n4 + 1) R' (s.putL k b) W9 := by
      obtain ⟨R', st⟩ := hlaid
      rw [show ({ s with l := l4 } : CS).l ++ [({ r0 with bytes := b } : Row)] = s.putL k b from HPL.out] at st
      refine ⟨R', st, ?_, goal_zero, ⟨s.others k, _, rfl, rowFor_page s k⟩, put_nodup HND.out (rowFor_page s k), by omega⟩
      rw [← st.rp.len]
      simp only
      rw [← HPL.out, HN4.out, ← HG6.out.rp.len]; simp
    have HPI := hid hPI
    clear hW9 hlaid hPI HO8 HA8 HC8 d8 f8 HP6 HF6 HSRC HQ6 HG6 HO HA7
    go_wp2
    go_loopg [9] (n4 + 1) (fun q c W => ∃ (i nn : Nat) (R' : RParts) (cur : List Row), i + q = nn ∧ c = .int .i64 (i : Int) ∧ nn ≤ n4 + 1 ∧ Hid (PI w m R4 s k (s.put k b).l i nn R' cur W))
    case atStart => obtain ⟨R7, h7⟩ := HPI.out; exact ⟨0, n4 + 1, R7, _, by omega, rfl, Nat.le_refl _, hid h7⟩
    case round =>
      obtain ⟨i, nn, R7, cur, hik, rfl, hnb, HI⟩ := hrel
      have c0 := HI.out.st.rp.c0; have c1 := HI.out.st.rp.c1
      rw [← HI.out.nl] at c1
      simp only at c0
      obtain ⟨rm, hrm⟩ : ∃ rm, rm = s.room := ⟨_, rfl⟩
      rw [← hrm] at c0
      have hil := HI.out.il
      have hw : IntKind.i64.wrap ((nn : Int) - 1) = (nn : Int) - 1 := by rw [IntWalk.i64_in _ ⟨by omega, by omega⟩]
      have HRM := hid hrm
      clear hrm
      by_cases g1 : i + 1 < nn
      · by_cases g2 : rm < nn
        · have g3 : (i : Int) < (nn : Int) - 1 := by omega
          have g4 : (rm : Int) < (nn : Int) := by omega
          have g5 : i < R7.ps.length := by rw [← HI.out.nl]; omega
          have g6 : i < cur.length := by rw [HI.out.len]; omega
          obtain ⟨g, ha, hcap, hgm, hgl, t0, t1, t2, t3, _⟩ := HI.out.st.rp.cells (i := i) g5
          have hpi : R7.ps[i].1 = cur[i] := by have := HI.out.st.rp.ls; simp only at this; simp only [this, List.getElem_map]
          have hpg : cur[i].page ≠ k := HI.out.page g1 g6
          have hps : R7.ps.length = nn := HI.out.nl.symm
          rw [ha] at c1
          rw [hps] at hcap
          rw [hpi] at t2 t3
          obtain ⟨pn, hpn⟩ : ∃ pn, pn = cur[i].pins := ⟨_, rfl⟩
          obtain ⟨di, hdi⟩ : ∃ di, di = cur[i].dirty := ⟨_, rfl⟩
          rw [← hpn] at t2; rw [← hdi] at t3
          have i0 : (i : Int) < (nn : Int) := by omega
          have i1 : ¬ (i : Int) < 0 := by omega
          have HA := hid ha; have HPN := hid hpn; have HDI := hid hdi; have HPG := hid hpg; have HPS := hid hps
          clear ha hpn hdi hpg hps hpi t0 t1 g5
          go_wp2
          refine wp_region_K (S := fun W => W.cell? ⟨m, 0, none⟩ = some (.int .i64 (rm : Int)) ∧ W.cell? ⟨m, 1, none⟩ = some (.slice (some ⟨g, 0, none⟩) nn R7.cap)) (fun i => false) (by kernel_rfl) ⟨c0, c1⟩ (fun hHeld => ?_)
          refine wpAnyK_pure (i := 0) (v := ?_) (op_at _ 0 _ rfl) (by kernel_rfl) (by kernel_rfl) (by kernel_rfl) (by kernel_rfl) (fun _ _ _ h => h) (Or.inl ⟨by rfl, ?_⟩) (Or.inl (by assumption)) ?_
          rotate_left 1
          focus (intro W hSw; go_simp; first | done | with_reducible rfl)
          (try simp only [Act.put, List.setIfInBounds_toArray, List.set_cons_zero, List.set_cons_succ])
          refine wpAnyK_pure (i := 1) (v := ?_) (op_at _ 1 _ rfl) (by kernel_rfl) (by kernel_rfl) (by kernel_rfl) (by kernel_rfl) (fun _ _ _ h => h) (Or.inl ⟨by rfl, ?_⟩) (Or.inl (by assumption)) ?_
          rotate_left 1
          focus (intro W hSw; go_simp; first | done | with_reducible rfl)
          (try simp only [Act.put, List.setIfInBounds_toArray, List.set_cons_zero, List.set_cons_succ])
          refine wpAnyK_pure (i := 2) (v := ?_) (op_at _ 2 _ rfl) (by kernel_rfl) (by kernel_rfl) (by kernel_rfl) (by kernel_rfl) (fun _ _ _ h => h) (Or.inl ⟨by rfl, ?_⟩) (Or.inl (by assumption)) ?_
          rotate_left 1
          focus (intro W hSw; go_simp; first | done | with_reducible rfl)
          (try simp only [Act.put, List.setIfInBounds_toArray, List.set_cons_zero, List.set_cons_succ])
          refine wpAnyK_pure (i := 3) (v := ?_) (op_at _ 3 _ rfl) (by kernel_rfl) (by kernel_rfl) (by kernel_rfl) (by kernel_rfl) (fun _ _ _ h => h) (Or.inl ⟨by rfl, ?_⟩) (Or.inl (by assumption)) ?_
          rotate_left 1
          focus (intro W hSw; go_simp; first | done | with_reducible rfl)
          (try simp only [Act.put, List.setIfInBounds_toArray, List.set_cons_zero, List.set_cons_succ])
          refine wpAnyK_take (i := 4) (v := ?_) (op_at _ 4 _ rfl) (by kernel_rfl) (by kernel_rfl) (by kernel_rfl) (by kernel_rfl) (fun _ _ _ h => h) (Or.inl ⟨by rfl, ?_⟩) (by assumption) ?_
          rotate_left 1
          focus (intro W hSw; obtain ⟨q1, q2⟩ := hSw; go_simp; first | done | with_reducible rfl)
          (try simp only [Act.put, List.setIfInBounds_toArray, List.set_cons_zero, List.set_cons_succ])
          refine wpAnyK_pure (i := 5) (v := ?_) (op_at _ 5 _ rfl) (by kernel_rfl) (by kernel_rfl) (by kernel_rfl) (by kernel_rfl) (fun _ _ _ h => h) (Or.inl ⟨by rfl, ?_⟩) (Or.inl (by assumption)) ?_
          rotate_left 1
          focus (intro W hSw; go_simp; first | done | with_reducible rfl)
          (try simp only [Act.put, List.setIfInBounds_toArray, List.set_cons_zero, List.set_cons_succ])
          refine wpAnyK_pure (i := 6) (v := ?_) (op_at _ 6 _ rfl) (by kernel_rfl) (by kernel_rfl) (by kernel_rfl) (by kernel_rfl) (fun _ _ _ h => h) (Or.inl ⟨by rfl, ?_⟩) (Or.inl (by assumption)) ?_
          rotate_left 1
          focus (intro W hSw; go_simp; first | done | with_reducible rfl)
          (try simp only [Act.put, List.setIfInBounds_toArray, List.set_cons_zero, List.set_cons_succ])
          refine wpAnyK_pure (i := 7) (v := ?_) (op_at _ 7 _ rfl) (by kernel_rfl) (by kernel_rfl) (by kernel_rfl) (by kernel_rfl) (fun _ _ _ h => h) (Or.inl ⟨by rfl, ?_⟩) (Or.inl (by assumption)) ?_
          rotate_left 1
          focus (intro W hSw; go_simp; first | done | with_reducible rfl)
          (try simp only [Act.put, List.setIfInBounds_toArray, List.set_cons_zero, List.set_cons_succ])
          refine wpAnyK_pure (i := 8) (v := ?_) (op_at _ 8 _ rfl) (by kernel_rfl) (by kernel_rfl) (by kernel_rfl) (by kernel_rfl) (fun _ _ _ h => h) (Or.inl ⟨by rfl, ?_⟩) (Or.inl (by assumption)) ?_
          rotate_left 1
          focus (intro W hSw; go_simp; first | done | with_reducible rfl)
          (try simp only [Act.put, List.setIfInBounds_toArray, List.set_cons_zero, List.set_cons_succ])
          refine wpAnyK_pure (i := 9) (v := ?_) (op_at _ 9 _ rfl) (by kernel_rfl) (by kernel_rfl) (by kernel_rfl) (by kernel_rfl) (fun _ _ _ h => h) (Or.inl ⟨by rfl, ?_⟩) (Or.inl (by assumption)) ?_
          rotate_left 1
          focus (intro W hSw; go_simp; first | done | with_reducible rfl)
          (try simp only [Act.put, List.setIfInBounds_toArray, List.set_cons_zero, List.set_cons_succ])
          refine wpAnyK_pure (i := 10) (v := ?_) (op_at _ 10 _ rfl) (by kernel_rfl) (by kernel_rfl) (by kernel_rfl) (by kernel_rfl) (fun _ _ _ h => h) (Or.inl ⟨by rfl, ?_⟩) (Or.inl (by assumption)) ?_
          rotate_left 1
          focus (intro W hSw; go_simp; first | done | with_reducible rfl)
          (try simp only [Act.put, List.setIfInBounds_toArray, List.set_cons_zero, List.set_cons_succ])
          refine wpAnyK_pure (i := 11) (v := ?_) (op_at _ 11 _ rfl) (by kernel_rfl) (by kernel_rfl) (by kernel_rfl) (by kernel_rfl) (fun _ _ _ h => h) (Or.inl ⟨by rfl, ?_⟩) (Or.inl (by assumption)) ?_
          rotate_left 1
          focus (intro W hSw; go_simp; first | done | with_reducible rfl)
          (try simp only [Act.put, List.setIfInBounds_toArray, List.set_cons_zero, List.set_cons_succ])
          refine wpAnyK_take (i := 12) (v := ?_) (op_at _ 12 _ rfl) (by kernel_rfl) (by kernel_rfl) (by kernel_rfl) (by kernel_rfl) (fun _ _ _ h => h) (Or.inl ⟨by rfl, ?_⟩) (by assumption) ?_
          rotate_left 1
          focus (intro W hSw; obtain ⟨q1, q2⟩ := hSw; go_simp; first | done | with_reducible rfl)
          (try simp only [Act.put, List.setIfInBounds_toArray, List.set_cons_zero, List.set_cons_succ])
          refine wpAnyK_pure (i := 13) (v := ?_) (op_at _ 13 _ rfl) (by kernel_rfl) (by kernel_rfl) (by kernel_rfl) (by kernel_rfl) (fun _ _ _ h => h) (Or.inl ⟨by rfl, ?_⟩) (Or.inl (by assumption)) ?_
          rotate_left 1
          focus (intro W hSw; go_simp; first | done | with_reducible rfl)
          (try simp only [Act.put, List.setIfInBounds_toArray, List.set_cons_zero, List.set_cons_succ])
          refine wpAnyK_pure (i := 14) (v := ?_) (op_at _ 14 _ rfl) (by kernel_rfl) (by kernel_rfl) (by kernel_rfl) (by kernel_rfl) (fun _ _ _ h => h) (Or.inl ⟨by rfl, ?_⟩) (Or.inl (by assumption)) ?_
          rotate_left 1
          focus (intro W hSw; go_simp; first | done | with_reducible rfl)
          (try simp only [Act.put, List.setIfInBounds_toArray, List.set_cons_zero, List.set_cons_succ])
          refine wpAnyK_pure (i := 15) (v := ?_) (op_at _ 15 _ rfl) (by kernel_rfl) (by kernel_rfl) (by kernel_rfl) (by kernel_rfl) (fun _ _ _ h => h) (Or.inl ⟨by rfl, ?_⟩) (Or.inl (by assumption)) ?_
          rotate_left 1
          focus (intro W hSw; go_simp; first | done | with_reducible rfl)
          (try simp only [Act.put, List.setIfInBounds_toArray, List.set_cons_zero, List.set_cons_succ])
          refine wpAnyK_pure (i := 16) (v := ?_) (op_at _ 16 _ rfl) (by kernel_rfl) (by kernel_rfl) (by kernel_rfl) (by kernel_rfl) (fun _ _ _ h => h) (Or.inl ⟨by rfl, ?_⟩) (Or.inl (by assumption)) ?_
          rotate_left 1
          focus (intro W hSw; go_simp; first | done | with_reducible rfl)
          (try simp only [Act.put, List.setIfInBounds_toArray, List.set_cons_zero, List.set_cons_succ])
          refine wpAnyK_take (i := 17) (v := ?_) (op_at _ 17 _ rfl) (by kernel_rfl) (by kernel_rfl) (by kernel_rfl) (by kernel_rfl) (fun _ _ _ h => h) (Or.inl ⟨by rfl, ?_⟩) (by assumption) ?_
          rotate_left 1
          focus (intro W hSw; obtain ⟨q1, q2⟩ := hSw; go_simp; first | done | with_reducible rfl)
          (try simp only [Act.put, List.setIfInBounds_toArray, List.set_cons_zero, List.set_cons_succ])
          refine wpAnyK_pure (i := 18) (v := ?_) (op_at _ 18 _ rfl) (by kernel_rfl) (by kernel_rfl) (by kernel_rfl) (by kernel_rfl) (fun _ _ _ h => h) (Or.inl ⟨by rfl, ?_⟩) (Or.inl (by assumption)) ?_
          rotate_left 1
          focus (intro W hSw; go_simp; first | done | with_reducible rfl)
          (try simp only [Act.put, List.setIfInBounds_toArray, List.set_cons_zero, List.set_cons_succ])
          refine wpAnyK_pure (i := 19) (v := ?_) (op_at _ 19 _ rfl) (by kernel_rfl) (by kernel_rfl) (by kernel_rfl) (by kernel_rfl) (fun _ _ _ h => h) (Or.inl ⟨by rfl, ?_⟩) (Or.inl (by assumption)) ?_
          rotate_left 1
          focus (intro W hSw; go_simp; first | done | with_reducible rfl)
          (try simp only [Act.put, List.setIfInBounds_toArray, List.set_cons_zero, List.set_cons_succ])
          refine wpAnyK_done (by kernel_rfl) ?_ _
          by_cases z1 : pn = 0
          · have z2 : ((pn : Int) == 0) = true := by simp [z1]
            cases di with
            | false =>
              have k2 : Hid (Calls Try.prog 58 #[.pointer (some ⟨m, 0, none⟩), .int .i64 (i : Int)] wr.drew fun e w' => e = .returned (.tuple #[]) ∧ ∃ R2, PI w m R4 s k (s.put k b).l i (nn - 1) R2 (cur.eraseIdx i) w') := hid (by
                have hx := HI.out.stay ((Below.refl _ _).drew)
                have he : R7 = ⟨some ⟨g, 0, none⟩, R7.cap, R7.ps⟩ := by rw [← HA.out]
                refine (rout_any m g R7.cap i nn R7.ps _ wr.drew (he ▸ hx.st.rp) (by omega) (by omega) HPS.out.symm).mono ?_
                rintro e w' ⟨rfl, R2, st⟩
                rw [← he] at st
                refine ⟨rfl, R2, hx.out g1 (by rw [← HRM.out]; exact g2) g6 ?_ st⟩
                unfold p52
                rw [← HPN.out, ← HDI.out]
                simp [z1, HPG.out])
              go_wp2_with (go_at_call 58; refine k2.out.mono ?_; rintro e w10 ⟨rfl, R10, h10⟩; have H10 := hid h10; clear h10)
              go_roundg (gk - 1)
              case measure => omega
              case rel => exact ⟨i, nn - 1, R10, _, by omega, rfl, by omega, H10⟩
            | true =>
              have hx := hid ((HI.out.stay ((Below.refl _ _).drew)).next g1 (by rw [← HRM.out]; exact g2) g6 (by unfold p52; rw [← HPN.out, ← HDI.out]; simp))
              go_wp2
              go_roundg (gk - 1)
              case measure => omega
              case rel => exact ⟨i + 1, nn, R7, _, by omega, by simp, by omega, hx⟩
          · have z2 : ((pn : Int) == 0) = false := by simpa using z1
            have hx := hid ((HI.out.stay ((Below.refl _ _).drew)).next g1 (by rw [← HRM.out]; exact g2) g6 (by unfold p52; rw [← HPN.out]; simp [z1]))
            go_wp2
            go_roundg (gk - 1)
            case measure => omega
            case rel => exact ⟨i + 1, nn, R7, _, by omega, by simp, by omega, hx⟩
        · have g3 : (i : Int) < (nn : Int) - 1 := by omega
          have g4 : ¬ (rm : Int) < (nn : Int) := by omega
          have HD := hid (HI.out.done (by rw [← HRM.out]; omega))
          go_wp2
          refine wp_region_K (S := fun W => W.cell? ⟨m, 0, none⟩ = some (.int .i64 (rm : Int)) ∧ W.cell? ⟨m, 1, none⟩ = some (.slice R7.ao nn R7.cap)) (fun i => false) (by kernel_rfl) ⟨c0, c1⟩ (fun hHeld => ?_)
          refine wpAnyK_pure (i := 0) (v := ?_) (op_at _ 0 _ rfl) (by kernel_rfl) (by kernel_rfl) (by kernel_rfl) (by kernel_rfl) (fun _ _ _ h => h) (Or.inl ⟨by rfl, ?_⟩) (Or.inl (by assumption)) ?_
          rotate_left 1
          focus (intro W hSw; go_simp; first | done | with_reducible rfl)
          (try simp only [Act.put, List.setIfInBounds_toArray, List.set_cons_zero, List.set_cons_succ])
          refine wpAnyK_pure (i := 1) (v := ?_) (op_at _ 1 _ rfl) (by kernel_rfl) (by kernel_rfl) (by kernel_rfl) (by kernel_rfl) (fun _ _ _ h => h) (Or.inl ⟨by rfl, ?_⟩) (Or.inl (by assumption)) ?_
          rotate_left 1
          focus (intro W hSw; go_simp; first | done | with_reducible rfl)
          (try simp only [Act.put, List.setIfInBounds_toArray, List.set_cons_zero, List.set_cons_succ])
          refine wpAnyK_pure (i := 2) (v := ?_) (op_at _ 2 _ rfl) (by kernel_rfl) (by kernel_rfl) (by kernel_rfl) (by kernel_rfl) (fun _ _ _ h => h) (Or.inl ⟨by rfl, ?_⟩) (Or.inl (by assumption)) ?_
          rotate_left 1
          focus (intro W hSw; go_simp; first | done | with_reducible rfl)
          (try simp only [Act.put, List.setIfInBounds_toArray, List.set_cons_zero, List.set_cons_succ])
          refine wpAnyK_pure (i := 3) (v := ?_) (op_at _ 3 _ rfl) (by kernel_rfl) (by kernel_rfl) (by kernel_rfl) (by kernel_rfl) (fun _ _ _ h => h) (Or.inl ⟨by rfl, ?_⟩) (Or.inl (by assumption)) ?_
          rotate_left 1
          focus (intro W hSw; go_simp; first | done | with_reducible rfl)
          (try simp only [Act.put, List.setIfInBounds_toArray, List.set_cons_zero, List.set_cons_succ])
          refine wpAnyK_take (i := 4) (v := ?_) (op_at _ 4 _ rfl) (by kernel_rfl) (by kernel_rfl) (by kernel_rfl) (by kernel_rfl) (fun _ _ _ h => h) (Or.inl ⟨by rfl, ?_⟩) (by assumption) ?_
          rotate_left 1
          focus (intro W hSw; obtain ⟨q1, q2⟩ := hSw; go_simp; first | done | with_reducible rfl)
          (try simp only [Act.put, List.setIfInBounds_toArray, List.set_cons_zero, List.set_cons_succ])
          refine wpAnyK_pure (i := 5) (v := ?_) (op_at _ 5 _ rfl) (by kernel_rfl) (by kernel_rfl) (by kernel_rfl) (by kernel_rfl) (fun _ _ _ h => h) (Or.inl ⟨by rfl, ?_⟩) (Or.inl (by assumption)) ?_
          rotate_left 1
          focus (intro W hSw; go_simp; first | done | with_reducible rfl)
          (try simp only [Act.put, List.setIfInBounds_toArray, List.set_cons_zero, List.set_cons_succ])
          refine wpAnyK_pure (i := 6) (v := ?_) (op_at _ 6 _ rfl) (by kernel_rfl) (by kernel_rfl) (by kernel_rfl) (by kernel_rfl) (fun _ _ _ h => h) (Or.inl ⟨by rfl, ?_⟩) (Or.inl (by assumption)) ?_
          rotate_left 1
          focus (intro W hSw; go_simp; first | done | with_reducible rfl)
          (try simp only [Act.put, List.setIfInBounds_toArray, List.set_cons_zero, List.set_cons_succ])
          refine wpAnyK_pure (i := 7) (v := ?_) (op_at _ 7 _ rfl) (by kernel_rfl) (by kernel_rfl) (by kernel_rfl) (by kernel_rfl) (fun _ _ _ h => h) (Or.inl ⟨by rfl, ?_⟩) (Or.inl (by assumption)) ?_
          rotate_left 1
          focus (intro W hSw; go_simp; first | done | with_reducible rfl)
          (try simp only [Act.put, List.setIfInBounds_toArray, List.set_cons_zero, List.set_cons_succ])
          refine wpAnyK_pure (i := 8) (v := ?_) (op_at _ 8 _ rfl) (by kernel_rfl) (by kernel_rfl) (by kernel_rfl) (by kernel_rfl) (fun _ _ _ h => h) (Or.inl ⟨by rfl, ?_⟩) (Or.inl (by assumption)) ?_
          rotate_left 1
          focus (intro W hSw; go_simp; first | done | with_reducible rfl)
          (try simp only [Act.put, List.setIfInBounds_toArray, List.set_cons_zero, List.set_cons_succ])
          refine wpAnyK_pure (i := 9) (v := ?_) (op_at _ 9 _ rfl) (by kernel_rfl) (by kernel_rfl) (by kernel_rfl) (by kernel_rfl) (fun _ _ _ h => h) (Or.inl ⟨by rfl, ?_⟩) (Or.inl (by assumption)) ?_
          rotate_left 1
          focus (intro W hSw; go_simp; first | done | with_reducible rfl)
          (try simp only [Act.put, List.setIfInBounds_toArray, List.set_cons_zero, List.set_cons_succ])
          refine wpAnyK_pure (i := 10) (v := ?_) (op_at _ 10 _ rfl) (by kernel_rfl) (by kernel_rfl) (by kernel_rfl) (by kernel_rfl) (fun _ _ _ h => h) (Or.inl ⟨by rfl, ?_⟩) (Or.inl (by assumption)) ?_
          rotate_left 1
          focus (intro W hSw; go_simp; first | done | with_reducible rfl)
          (try simp only [Act.put, List.setIfInBounds_toArray, List.set_cons_zero, List.set_cons_succ])
          refine wpAnyK_pure (i := 11) (v := ?_) (op_at _ 11 _ rfl) (by kernel_rfl) (by kernel_rfl) (by kernel_rfl) (by kernel_rfl) (fun _ _ _ h => h) (Or.inl ⟨by rfl, ?_⟩) (Or.inl (by assumption)) ?_
          rotate_left 1
          focus (intro W hSw; go_simp; first | done | with_reducible rfl)
          (try simp only [Act.put, List.setIfInBounds_toArray, List.set_cons_zero, List.set_cons_succ])
          refine wpAnyK_take (i := 12) (v := ?_) (op_at _ 12 _ rfl) (by kernel_rfl) (by kernel_rfl) (by kernel_rfl) (by kernel_rfl) (fun _ _ _ h => h) (Or.inl ⟨by rfl, ?_⟩) (by assumption) ?_
          rotate_left 1
          focus (intro W hSw; obtain ⟨q1, q2⟩ := hSw; go_simp; first | done | with_reducible rfl)
          (try simp only [Act.put, List.setIfInBounds_toArray, List.set_cons_zero, List.set_cons_succ])
          refine wpAnyK_pure (i := 13) (v := ?_) (op_at _ 13 _ rfl) (by kernel_rfl) (by kernel_rfl) (by kernel_rfl) (by kernel_rfl) (fun _ _ _ h => h) (Or.inl ⟨by rfl, ?_⟩) (Or.inl (by assumption)) ?_
          rotate_left 1
          focus (intro W hSw; go_simp; first | done | with_reducible rfl)
          (try simp only [Act.put, List.setIfInBounds_toArray, List.set_cons_zero, List.set_cons_succ])
          refine wpAnyK_pure (i := 14) (v := ?_) (op_at _ 14 _ rfl) (by kernel_rfl) (by kernel_rfl) (by kernel_rfl) (by kernel_rfl) (fun _ _ _ h => h) (Or.inl ⟨by rfl, ?_⟩) (Or.inl (by assumption)) ?_
          rotate_left 1
          focus (intro W hSw; go_simp; first | done | with_reducible rfl)
          (try simp only [Act.put, List.setIfInBounds_toArray, List.set_cons_zero, List.set_cons_succ])
          refine wpAnyK_pure (i := 15) (v := ?_) (op_at _ 15 _ rfl) (by kernel_rfl) (by kernel_rfl) (by kernel_rfl) (by kernel_rfl) (fun _ _ _ h => h) (Or.inl ⟨by rfl, ?_⟩) (Or.inl (by assumption)) ?_
          rotate_left 1
          focus (intro W hSw; go_simp; first | done | with_reducible rfl)
          (try simp only [Act.put, List.setIfInBounds_toArray, List.set_cons_zero, List.set_cons_succ])
          refine wpAnyK_pure (i := 16) (v := ?_) (op_at _ 16 _ rfl) (by kernel_rfl) (by kernel_rfl) (by kernel_rfl) (by kernel_rfl) (fun _ _ _ h => h) (Or.inl ⟨by rfl, ?_⟩) (Or.inl (by assumption)) ?_
          rotate_left 1
          focus (intro W hSw; go_simp; first | done | with_reducible rfl)
          (try simp only [Act.put, List.setIfInBounds_toArray, List.set_cons_zero, List.set_cons_succ])
          refine wpAnyK_take (i := 17) (v := ?_) (op_at _ 17 _ rfl) (by kernel_rfl) (by kernel_rfl) (by kernel_rfl) (by kernel_rfl) (fun _ _ _ h => h) (Or.inl ⟨by rfl, ?_⟩) (by assumption) ?_
          rotate_left 1
          focus (intro W hSw; obtain ⟨q1, q2⟩ := hSw; go_simp; first | done | with_reducible rfl)
          (try simp only [Act.put, List.setIfInBounds_toArray, List.set_cons_zero, List.set_cons_succ])
          refine wpAnyK_pure (i := 18) (v := ?_) (op_at _ 18 _ rfl) (by kernel_rfl) (by kernel_rfl) (by kernel_rfl) (by kernel_rfl) (fun _ _ _ h => h) (Or.inl ⟨by rfl, ?_⟩) (Or.inl (by assumption)) ?_
          rotate_left 1
          focus (intro W hSw; go_simp; first | done | with_reducible rfl)
          (try simp only [Act.put, List.setIfInBounds_toArray, List.set_cons_zero, List.set_cons_succ])
          refine wpAnyK_pure (i := 19) (v := ?_) (op_at _ 19 _ rfl) (by kernel_rfl) (by kernel_rfl) (by kernel_rfl) (by kernel_rfl) (fun _ _ _ h => h) (Or.inl ⟨by rfl, ?_⟩) (Or.inl (by assumption)) ?_
          rotate_left 1
          focus (intro W hSw; go_simp; first | done | with_reducible rfl)
          (try simp only [Act.put, List.setIfInBounds_toArray, List.set_cons_zero, List.set_cons_succ])
          refine wpAnyK_done (by kernel_rfl) ?_ _
          go_wp2
          go_ret
          exact ⟨rfl, R7, HD.out.and_later ((Below.refl _ _).drew)⟩
      · have g3 : ¬ (i : Int) < (nn : Int) - 1 := by omega
        have HD := hid (HI.out.done (by omega))
        go_wp2
        refine wp_region_K (S := fun W => W.cell? ⟨m, 0, none⟩ = some (.int .i64 (rm : Int)) ∧ W.cell? ⟨m, 1, none⟩ = some (.slice R7.ao nn R7.cap)) (fun i => false) (by kernel_rfl) ⟨c0, c1⟩ (fun hHeld => ?_)
        refine wpAnyK_pure (i := 0) (v := ?_) (op_at _ 0 _ rfl) (by kernel_rfl) (by kernel_rfl) (by kernel_rfl) (by kernel_rfl) (fun _ _ _ h => h) (Or.inl ⟨by rfl, ?_⟩) (Or.inl (by assumption)) ?_
        rotate_left 1
        focus (intro W hSw; go_simp; first | done | with_reducible rfl)
        (try simp only [Act.put, List.setIfInBounds_toArray, List.set_cons_zero, List.set_cons_succ])
        refine wpAnyK_pure (i := 1) (v := ?_) (op_at _ 1 _ rfl) (by kernel_rfl) (by kernel_rfl) (by kernel_rfl) (by kernel_rfl) (fun _ _ _ h => h) (Or.inl ⟨by rfl, ?_⟩) (Or.inl (by assumption)) ?_
        rotate_left 1
        focus (intro W hSw; go_simp; first | done | with_reducible rfl)
        (try simp only [Act.put, List.setIfInBounds_toArray, List.set_cons_zero, List.set_cons_succ])
        refine wpAnyK_pure (i := 2) (v := ?_) (op_at _ 2 _ rfl) (by kernel_rfl) (by kernel_rfl) (by kernel_rfl) (by kernel_rfl) (fun _ _ _ h => h) (Or.inl ⟨by rfl, ?_⟩) (Or.inl (by assumption)) ?_
        rotate_left 1
        focus (intro W hSw; go_simp; first | done | with_reducible rfl)
        (try simp only [Act.put, List.setIfInBounds_toArray, List.set_cons_zero, List.set_cons_succ])
        refine wpAnyK_pure (i := 3) (v := ?_) (op_at _ 3 _ rfl) (by kernel_rfl) (by kernel_rfl) (by kernel_rfl) (by kernel_rfl) (fun _ _ _ h => h) (Or.inl ⟨by rfl, ?_⟩) (Or.inl (by assumption)) ?_
        rotate_left 1
        focus (intro W hSw; go_simp; first | done | with_reducible rfl)
        (try simp only [Act.put, List.setIfInBounds_toArray, List.set_cons_zero, List.set_cons_succ])
        refine wpAnyK_take (i := 4) (v := ?_) (op_at _ 4 _ rfl) (by kernel_rfl) (by kernel_rfl) (by kernel_rfl) (by kernel_rfl) (fun _ _ _ h => h) (Or.inl ⟨by rfl, ?_⟩) (by assumption) ?_
        rotate_left 1
        focus (intro W hSw; obtain ⟨q1, q2⟩ := hSw; go_simp; first | done | with_reducible rfl)
        (try simp only [Act.put, List.setIfInBounds_toArray, List.set_cons_zero, List.set_cons_succ])
        refine wpAnyK_pure (i := 5) (v := ?_) (op_at _ 5 _ rfl) (by kernel_rfl) (by kernel_rfl) (by kernel_rfl) (by kernel_rfl) (fun _ _ _ h => h) (Or.inl ⟨by rfl, ?_⟩) (Or.inl (by assumption)) ?_
        rotate_left 1
        focus (intro W hSw; go_simp; first | done | with_reducible rfl)
        (try simp only [Act.put, List.setIfInBounds_toArray, List.set_cons_zero, List.set_cons_succ])
        refine wpAnyK_pure (i := 6) (v := ?_) (op_at _ 6 _ rfl) (by kernel_rfl) (by kernel_rfl) (by kernel_rfl) (by kernel_rfl) (fun _ _ _ h => h) (Or.inl ⟨by rfl, ?_⟩) (Or.inl (by assumption)) ?_
        rotate_left 1
        focus (intro W hSw; go_simp; first | done | with_reducible rfl)
        (try simp only [Act.put, List.setIfInBounds_toArray, List.set_cons_zero, List.set_cons_succ])
        refine wpAnyK_pure (i := 7) (v := (.bool false)) (op_at _ 7 _ rfl) (by kernel_rfl) (by kernel_rfl) (by kernel_rfl) (by kernel_rfl) (fun _ _ _ h => h) (Or.inl ⟨by rfl, ?_⟩) (Or.inl (by assumption)) ?_
        focus (intro W hSw; go_simp; first | done | with_reducible rfl | (simp; omega))
        (try simp only [Act.put, List.setIfInBounds_toArray, List.set_cons_zero, List.set_cons_succ])
        refine wpAnyK_pure (i := 8) (v := ?_) (op_at _ 8 _ rfl) (by kernel_rfl) (by kernel_rfl) (by kernel_rfl) (by kernel_rfl) (fun _ _ _ h => h) (Or.inl ⟨by rfl, ?_⟩) (Or.inl (by assumption)) ?_
        rotate_left 1
        focus (intro W hSw; go_simp; first | done | with_reducible rfl)
        (try simp only [Act.put, List.setIfInBounds_toArray, List.set_cons_zero, List.set_cons_succ])
        refine wpAnyK_pure (i := 9) (v := undef) (op_at _ 9 _ rfl) (by kernel_rfl) (by kernel_rfl) (by kernel_rfl) (by kernel_rfl) (fun _ _ _ h => h) (Or.inr ⟨by kernel_rfl, rfl⟩) (Or.inl (by assumption)) ?_
        (try simp only [Act.put, List.setIfInBounds_toArray, List.set_cons_zero, List.set_cons_succ])
        refine wpAnyK_pure (i := 10) (v := undef) (op_at _ 10 _ rfl) (by kernel_rfl) (by kernel_rfl) (by kernel_rfl) (by kernel_rfl) (fun _ _ _ h => h) (Or.inr ⟨by kernel_rfl, rfl⟩) (Or.inl (by assumption)) ?_
        (try simp only [Act.put, List.setIfInBounds_toArray, List.set_cons_zero, List.set_cons_succ])
        refine wpAnyK_pure (i := 11) (v := undef) (op_at _ 11 _ rfl) (by kernel_rfl) (by kernel_rfl) (by kernel_rfl) (by kernel_rfl) (fun _ _ _ h => h) (Or.inr ⟨by kernel_rfl, rfl⟩) (Or.inl (by assumption)) ?_
        (try simp only [Act.put, List.setIfInBounds_toArray, List.set_cons_zero, List.set_cons_succ])
        refine wpAnyK_pure (i := 12) (v := undef) (op_at _ 12 _ rfl) (by kernel_rfl) (by kernel_rfl) (by kernel_rfl) (by kernel_rfl) (fun _ _ _ h => h) (Or.inr ⟨by kernel_rfl, rfl⟩) (Or.inl (by assumption)) ?_
        (try simp only [Act.put, List.setIfInBounds_toArray, List.set_cons_zero, List.set_cons_succ])
        refine wpAnyK_pure (i := 13) (v := undef) (op_at _ 13 _ rfl) (by kernel_rfl) (by kernel_rfl) (by kernel_rfl) (by kernel_rfl) (fun _ _ _ h => h) (Or.inr ⟨by kernel_rfl, rfl⟩) (Or.inl (by assumption)) ?_
        (try simp only [Act.put, List.setIfInBounds_toArray, List.set_cons_zero, List.set_cons_succ])
        refine wpAnyK_pure (i := 14) (v := undef) (op_at _ 14 _ rfl) (by kernel_rfl) (by kernel_rfl) (by kernel_rfl) (by kernel_rfl) (fun _ _ _ h => h) (Or.inr ⟨by kernel_rfl, rfl⟩) (Or.inl (by assumption)) ?_
        (try simp only [Act.put, List.setIfInBounds_toArray, List.set_cons_zero, List.set_cons_succ])
        refine wpAnyK_pure (i := 15) (v := undef) (op_at _ 15 _ rfl) (by kernel_rfl) (by kernel_rfl) (by kernel_rfl) (by kernel_rfl) (fun _ _ _ h => h) (Or.inr ⟨by kernel_rfl, rfl⟩) (Or.inl (by assumption)) ?_
        (try simp only [Act.put, List.setIfInBounds_toArray, List.set_cons_zero, List.set_cons_succ])
        refine wpAnyK_pure (i := 16) (v := undef) (op_at _ 16 _ rfl) (by kernel_rfl) (by kernel_rfl) (by kernel_rfl) (by kernel_rfl) (fun _ _ _ h => h) (Or.inr ⟨by kernel_rfl, rfl⟩) (Or.inl (by assumption)) ?_
        (try simp only [Act.put, List.setIfInBounds_toArray, List.set_cons_zero, List.set_cons_succ])
        refine wpAnyK_pure (i := 17) (v := undef) (op_at _ 17 _ rfl) (by kernel_rfl) (by kernel_rfl) (by kernel_rfl) (by kernel_rfl) (fun _ _ _ h => h) (Or.inr ⟨by kernel_rfl, rfl⟩) (Or.inl (by assumption)) ?_
        (try simp only [Act.put, List.setIfInBounds_toArray, List.set_cons_zero, List.set_cons_succ])
        refine wpAnyK_pure (i := 18) (v := undef) (op_at _ 18 _ rfl) (by kernel_rfl) (by kernel_rfl) (by kernel_rfl) (by kernel_rfl) (fun _ _ _ h => h) (Or.inr ⟨by kernel_rfl, rfl⟩) (Or.inl (by assumption)) ?_
        (try simp only [Act.put, List.setIfInBounds_toArray, List.set_cons_zero, List.set_cons_succ])
        refine wpAnyK_pure (i := 19) (v := ?_) (op_at _ 19 _ rfl) (by kernel_rfl) (by kernel_rfl) (by kernel_rfl) (by kernel_rfl) (fun _ _ _ h => h) (Or.inl ⟨by rfl, ?_⟩) (Or.inl (by assumption)) ?_
        rotate_left 1
        focus (intro W hSw; go_simp; first | done | with_reducible rfl)
        (try simp only [Act.put, List.setIfInBounds_toArray, List.set_cons_zero, List.set_cons_succ])
        refine wpAnyK_done (by kernel_rfl) ?_ _
        go_wp2
        go_ret
        exact ⟨rfl, R7, HD.out.and_later ((Below.refl _ _).drew)⟩
  exact AllReadyK.nil
end Go.Proofs.Ytebjjibgkjgpgaa
