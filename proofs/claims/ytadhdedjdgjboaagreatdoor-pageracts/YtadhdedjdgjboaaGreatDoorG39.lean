/- The program's Undo; no statement of the seat is proved here. -/
import Derived.Test.YtadhdedjdgjboaaGreatDoorG38
import Derived.Test.YtadhdedjdgjboaaGreatDoorG17
set_option maxHeartbeats 16000000
set_option maxRecDepth 20000
namespace Go.Proofs.YtadhdedjdgjboaaGreatDoor
section
open Go.RowKit Go.Maps
open Dsk (gt hid undrew keep_old keep_cell lt_cell Rd DS FS Sec DiskP DFrame Grew From op_at idx dirtD was secD)
open Cch (CS CP Fr wpAnyK wpAnyK_take wpAnyK_pure wpAnyK_ready wpAnyK_done wp_region_K AllReadyK.cons AllReadyK.nil AllReadyK.late)
theorem at_yes {ms : List MK} {z : Int} {j : Nat} (h : At ms z j) {i : Nat} {k : MK} (hk : ms[i]? = some k) (hz : (k.id : Int) = z) (hr : (ms.map MK.id).Pairwise (· < ·)) : j = i := by
 rcases Nat.lt_trichotomy i j with h1 | h1 | h1
 · have := h.lo i k h1 hk; omega
 · exact h1.symm
 · obtain ⟨k2, hk2⟩ : ∃ k2, ms[j]? = some k2 := ⟨_, List.getElem?_eq_getElem (Nat.lt_trans h1 (List.getElem?_eq_some_iff.1 hk).1)⟩
   have h2 := h.hi j k2 (Nat.le_refl _) hk2
   have h3 := rise_at hr h1 hk2 hk
   omega
theorem undo_none (p : Nat) (x : PC) (P : Dsk.Parts) (C : Cch.Parts) (d : DS) (s : CS) (sure : List Pg) (n : Nat) (now : List Pg) (c : List Bool) (enc : List Sec) (ms : List MK) (z : Int) (w : World) (h : Live w p x P C d s sure n now c enc ms) (hb : x.busy = true) (hm : ms.length ≤ 1000) (hla : x.last ≤ 1000000) (hz : ∀ k ∈ ms, (k.id : Int) ≠ z) :
   Calls Tryz.prog 38 #[.pointer (some ⟨p, 0, none⟩), .int .i64 z] w fun e w' => e = .returned (.int .i64 5) ∧ Below w.heap.size w w' := by
 have cw := within_live p x w h.tx.core.hd
 rw [hb] at cw
 have CW := hid cw
 have CF : Hid (∀ W, Below w.heap.size w W → Calls Tryz.prog 74 #[.pointer (some ⟨p, 0, none⟩), .int .i64 z] W fun e w' => ∃ j : Nat, e = .returned (.tuple #[.int .i64 (j : Int), .bool false]) ∧ Below W.heap.size W w') := hid (fun W hW => (find_any p x ms z W (h.later hW).tx.core.hd h.mks.ml (h.later hW).mks.row h.mks.rise hm (fun k hk => by have := (h.mks.ids k hk).2; omega)).mono (fun e w' ⟨j, f, h1, h2, h3, h4⟩ => by
   cases f with
   | false => exact ⟨j, h1, h4⟩
   | true => obtain ⟨k, hk, e⟩ := h3.1 rfl; exact (hz k (List.mem_of_getElem? hk) e).elim))
 clear h hb cw hz
 go_enter Tryz.func38, Tryz.ntmps38
 go_wp2_with (first
   | (go_at_call 55; refine CW.out.mono ?_; rintro e w1 ⟨rfl, hb1⟩; have B1 := hid hb1; clear hb1)
   | (go_at_call 74; refine (CF.out w1 B1.out).mono ?_; rintro e w2 ⟨j, rfl, h3⟩; have B2 := hid (gt B1.out h3); clear h3))
 go_ret
 exact ⟨rfl, B2.out⟩
theorem undo_yes (p : Nat) (x : PC) (P : Dsk.Parts) (C : Cch.Parts) (d : DS) (s : CS) (sure : List Pg) (n : Nat) (now : List Pg) (c : List Bool) (enc : List Sec) (ms : List MK) (z : Int) (w : World) (h : Live w p x P C d s sure n now c enc ms) (hb : x.busy = true) (hm : ms.length ≤ 1000) (hla : x.last ≤ 1000000) (j : Nat) (k : MK) (hk : ms[j]? = some k) (hz : (k.id : Int) = z) :
   Calls Tryz.prog 38 #[.pointer (some ⟨p, 0, none⟩), .int .i64 z] w fun e w' => e = .returned (.int .i64 0) ∧ ∃ m3, LTo w w' p x (x.undone k.now.length m3 (j + 1)) P C d d s sure sure 0 k.n k.now k.c enc ms (ms.take (j + 1)) := by
 have cw := within_live p x w h.tx.core.hd
 rw [hb] at cw
 have CW := hid cw
 have CF : Hid (∀ W, Below w.heap.size w W → Calls Tryz.prog 74 #[.pointer (some ⟨p, 0, none⟩), .int .i64 z] W fun e w' => e = .returned (.tuple #[.int .i64 (j : Int), .bool true]) ∧ Below W.heap.size W w') := hid (fun W hW => (find_any p x ms z W (h.later hW).tx.core.hd h.mks.ml (h.later hW).mks.row h.mks.rise hm (fun k hk => by have := (h.mks.ids k hk).2; omega)).mono (fun e w' ⟨j2, f, h1, h2, h3, h4⟩ => by
   obtain rfl : j2 = j := at_yes h2 hk hz h.mks.rise
   have hf : f = true := h3.2 ⟨k, hk, hz⟩
   subst hf
   exact ⟨h1, h4⟩))
 have hjl := (List.getElem?_eq_some_iff.1 hk).1
 obtain ⟨aM, cM, hMV, hM0, hM1⟩ := row_form3 h.mks.row
 have hml := h.mks.ml
 unfold PC.mv at hMV
 simp only [Value.slice.injEq] at hMV
 obtain ⟨e1, -, e3⟩ := hMV
 obtain ⟨g, hmo⟩ : ∃ g, x.mo = some ⟨g, 0, none⟩ := by
   cases aM with
   | none => have := (hM0 rfl).1; omega
   | some a => exact ⟨a.block, by rw [e1, ← (hM1 a rfl).1]⟩
 have hcap : ms.length ≤ x.mc := by
   rw [e3]
   cases aM with
   | none => have := hM0 rfl; omega
   | some a => exact (hM1 a rfl).2.1
 have hmvb : x.mv.ownBlock = some g := by unfold PC.mv; rw [hmo]; rfl
 have HGP : Hid (g ≠ p) := hid (fun e => (h.mks.out g hmvb).2 (Or.inr (Or.inr e)))
 have hkE := h.mks.each k (List.mem_of_getElem? hk)
 have HKP : Hid (k.m ≠ p ∧ k.m ≠ g) := hid ⟨fun e => hkE.1.out.2 (Or.inr (Or.inr e)), fun e => (mv_ne h.mks.row hkE.1.chg.map) g hmvb e.symm⟩
 have H := hid h; have HMO := hid hmo; have HK := hid hk; have HCAP0 := hid hcap
 have HMR : Hid (∀ W, Below w.heap.size w W → W.ownsRow 0 102 3 (.slice (some ⟨g, 0, none⟩) ms.length x.mc) ms.length (mkC ms)) := hid (fun W hW => by have := (h.later hW).mks.row; unfold PC.mv at this; rw [hmo, hml] at this; exact this)
 have HKM0 : Hid (∀ W, Below w.heap.size w W → W.ownsMap Tryz.prog 3 slR k.m k.n (dirtD (false :: k.c) k.enc)) := hid (fun W hW => ((h.later hW).mks.each k (List.mem_of_getElem? hk)).1.chg.map)
 obtain ⟨LM, hLM⟩ : ∃ LM, LM = ms.length := ⟨_, rfl⟩
 have HML : Hid (x.ml = LM) := hid (by rw [hLM]; exact hml)
 rw [← hLM] at hm hjl HCAP0 HMR
 have HCAP := HCAP0
 have HJL : Hid (j + 1 ≤ LM) := hid hjl
 obtain ⟨J, hJ⟩ : ∃ J, J = j + 1 := ⟨_, rfl⟩
 have e8 : (j : Int) + 1 = (J : Int) := by omega
 have e9 : IntKind.i64.wrap ((j : Int) + 1) = (J : Int) := by rw [IntWalk.i64_in _ ⟨by omega, by omega⟩]; omega
 have e7 : IntKind.i64.wrap (J : Int) = (J : Int) := IntWalk.i64_in _ ⟨by omega, by omega⟩
 have hjc : j + 1 ≤ x.mc := by have := HCAP.out; omega
 clear h hb cw hz hk hM0 hM1 e1 e3 hmo hcap hmvb hkE hml hLM HCAP0
 go_enter Tryz.func38, Tryz.ntmps38
 go_upto_region 7 with (first
   | (go_at_call 55; refine CW.out.mono ?_; rintro e w1 ⟨rfl, hb1⟩; have B1 := hid hb1; clear hb1)
   | (go_at_call 74; refine (CF.out w1 B1.out).mono ?_; rintro e w2 ⟨rfl, h3⟩; have B2 := hid (gt B1.out h3); clear h3))
 have H2 := hid (H.out.later B2.out)
 have HRW : Hid (w2.drew.ownsRow 0 102 3 (.slice (some ⟨g, 0, none⟩) LM x.mc) LM (mkC ms)) := hid (rr_fr (E := fun _ => False) (HMR.out w2 B2.out) ⟨rfl, rfl, rfl, Nat.le_refl _, fun _ _ _ => rfl⟩ (fun _ _ h => h))
 have HKM := hid (HKM0.out w2 B2.out)
 have hP2 : PgAt w2.drew p x := H2.out.tx.core.hd.later (Below.refl _ _).drew
 by_cases hje : j + 1 = LM
 · have DS : Hid (Calls Tryz.prog 75 #[.slice (some ⟨g, 0, none⟩) LM x.mc, .int .i64 (J : Int), .int .i64 (LM : Int)] w2.drew fun e w' => e = .returned (.slice (some ⟨g, 0, none⟩) J x.mc) ∧ w' = w2.drew) := hid (by rw [hJ, hje]; exact delete_same g LM x.mc w2.drew HCAP.out hm)
   have HJ := hid hJ
   clear hje hJ
   refine wp_region_K (S := fun W => PgAt W p x) (fun i => i == 15) (by kernel_rfl) (hP2) (fun hHeld => ?_)
   refine gkp 0 ?_
   refine gkp 1 ?_
   refine gkp 2 ?_
   refine gkp 3 ?_
   refine gkt 4 ?_ (h := by intro W hSw; have hh := PgAt.cells (show PgAt W p x from hSw); obtain ⟨a0, a1, a2, a3, a4, a5, a6, a7, a8, a9, a10, a11⟩ := hh; rw [HMO.out, HML.out] at a8; go_simp; first | done | with_reducible rfl)
   refine gkp 5 ?_
   refine gkp 6 ?_
   refine gkp 7 ?_
   refine gkp 8 ?_
   refine gkp 9 ?_
   refine gkt 10 ?_ (h := by intro W hSw; have hh := PgAt.cells (show PgAt W p x from hSw); obtain ⟨a0, a1, a2, a3, a4, a5, a6, a7, a8, a9, a10, a11⟩ := hh; rw [HMO.out, HML.out] at a8; go_simp; first | done | with_reducible rfl)
   refine gkp 11 ?_
   refine gk1 12 (fun K hK => ?_)
   go_simp
   go_at_call 75; (with_reducible refine (DS.out).mono ?_); rintro e w3 ⟨rfl, hw3⟩; have F3 : Hid (Fr (fun b => b = g) w2 w3) := hid (by rw [hw3]; exact ⟨rfl, rfl, rfl, Nat.le_refl _, fun _ _ _ => rfl⟩); have R3 : Hid (w3.ownsRow 0 102 3 (.slice (some ⟨g, 0, none⟩) J x.mc) J ((mkC ms).take (J * 3))) := hid (by rw [hw3]; exact row_take3 HRW.out (by rw [HJ.out]; exact HJL.out)); have hR : PgAt w3 p x := (by rw [hw3]; exact hHeld); have P3 := hid hR; clear hw3
   refine hK.out _ _ hR (fun hHeld => ?_)
   clear hK K
   (try simp only [Act.put, sA, sZ, sS])
   refine gkp 13 ?_
   refine gkp 14 ?_
   have hh := PgAt.cells P3.out
   obtain ⟨a0, a1, a2, a3, a4, a5, a6, a7, a8, a9, a10, a11⟩ := hh
   have f8 := P3.out.frozen 8
   clear hR
   refine gkl 15 (fun K hK => ?_)
   go_simp
   refine hK.out _ _ ?_
   clear hK K
   (try simp only [Act.put, sA, sZ, sS])
   refine wpAnyK_done (by kernel_rfl) ?_ _
   clear hHeld
   obtain ⟨w4, hw4⟩ : ∃ w4, w4 = w3.setCell ⟨p, 8, none⟩ (.slice (some ⟨g, 0, none⟩) J x.mc) := ⟨_, rfl⟩
   have f4 : Fr (fun b => b = p) w3 w4 := by rw [hw4]; exact set_frame (Fr.refl _ _)
   have R4 := rr_fr R3.out f4 (fun b hb e => by cases hb; exact HGP.out e)
   obtain ⟨q0, q1, q2⟩ := mkC_get _ _ _ HK.out
   have cells := fun i u hu => (R4.cells (g := g) rfl i u hu)
   have d1 : w4.cell? ⟨g, j * 3 + 1, none⟩ = some (.int .i64 (k.now.length : Int)) := by have := cells (j * 3 + 1) _ (by rw [List.getElem?_take, if_pos (by have := HJ.out; omega)]; exact q1); rw [Addr.add_lit] at this; simpa using this
   have d2 : w4.cell? ⟨g, j * 3 + 2, none⟩ = some (.map (some k.m)) := by have := cells (j * 3 + 2) _ (by rw [List.getElem?_take, if_pos (by have := HJ.out; omega)]; exact q2); rw [Addr.add_lit] at this; simpa using this
   have p8 : w4.cell? ⟨p, 8, none⟩ = some (.slice (some ⟨g, 0, none⟩) J x.mc) := by rw [hw4]; exact (Cch.hd_cell (Cch.blk_set P3.out (i := 8) (v := .slice (some ⟨g, 0, none⟩) J x.mc)) 8).trans rfl
   rw [← hw4]
   have m4 : w4.ownsMap Tryz.prog 3 slR k.m k.n (dirtD (false :: k.c) k.enc) := map_df HKM.out (((f4.blk k.m (Nat.lt_of_lt_of_le HKM.out.lt F3.out.size) (fun e => HKP.out.1 e)).trans (F3.out.blk k.m HKM.out.lt (fun e => HKP.out.2 e))))
   have CC := hid (copied_any (k.now.length : Int) k.m k.n (dirtD (false :: k.c) k.enc) w4 m4)
   have P4 : PgAt w4 p { x with mo := some ⟨g, 0, none⟩, ml := J } := by
     have := Cch.blk_set P3.out (i := 8) (v := .slice (some ⟨g, 0, none⟩) J x.mc)
     unfold PgAt; rw [hw4, this]; rfl
   have HP4 := hid P4; have HW4 := hid hw4
   have hgj : (j : Int) < (J : Int) := by omega
   have hj0 : (0 : Int) ≤ (j : Int) := by omega
   have n5 : IntKind.i64.wrap (j : Int) = (j : Int) := IntWalk.i64_in _ ⟨by omega, by omega⟩
   clear hw4 f4 R4 q0 q1 q2 cells m4 P4 a0 a1 a2 a3 a4 a5 a6 a7 a8 a9 a10 a11 f8
   generalize hKN : (k.now.length : Int) = KN at *
   go_wp2_with (go_at_call 71; refine CC.out.mono ?_; rintro e w5 ⟨m5, rfl, hm5, hl5, hb5⟩; have M5 := hid hm5; have L5 := hid hl5; have B5 := hid hb5; obtain ⟨b0, b1, b2, b3, b4, b5, b6, b7, b8, b9, b10, b11⟩ := (HP4.out.later hb5).cells; have g6 := (HP4.out.later hb5).frozen 6; have g7 := (HP4.out.later hb5).frozen 7; clear hm5 hl5 hb5)
   go_ret
   refine ⟨rfl, m5, LTo.first B2.out ?_⟩
   exact undo_done H2.out HK.out HMO.out F3.out (by rw [← HJ.out]; exact R3.out) (by rw [← HJ.out]; exact HW4.out) B5.out M5.out (by have h6 := L5.out; have h7 := F3.out.size; have h8 : w4.heap.size = w3.heap.size := (by rw [HW4.out]; simp); omega) (by rw [hKN])
 · have DS : Hid (Calls Tryz.prog 75 #[.slice (some ⟨g, 0, none⟩) LM x.mc, .int .i64 (J : Int), .int .i64 (LM : Int)] w2.drew fun e w' => e = .returned (.slice (some ⟨g, 0, none⟩) J x.mc) ∧ w'.ownsRow 0 102 3 (.slice (some ⟨g, 0, none⟩) J x.mc) J ((mkC ms).take (J * 3)) ∧ Fr (fun k => k = g) w2.drew w') := hid (by rw [hJ]; exact delete_tail g LM x.mc (j + 1) (mkC ms) w2.drew HRW.out (by omega) hm)
   have HJ := hid hJ
   clear hje hJ
   refine wp_region_K (S := fun W => PgAt W p x) (fun i => i == 15) (by kernel_rfl) (hP2) (fun hHeld => ?_)
   refine gkp 0 ?_
   refine gkp 1 ?_
   refine gkp 2 ?_
   refine gkp 3 ?_
   refine gkt 4 ?_ (h := by intro W hSw; have hh := PgAt.cells (show PgAt W p x from hSw); obtain ⟨a0, a1, a2, a3, a4, a5, a6, a7, a8, a9, a10, a11⟩ := hh; rw [HMO.out, HML.out] at a8; go_simp; first | done | with_reducible rfl)
   refine gkp 5 ?_
   refine gkp 6 ?_
   refine gkp 7 ?_
   refine gkp 8 ?_
   refine gkp 9 ?_
   refine gkt 10 ?_ (h := by intro W hSw; have hh := PgAt.cells (show PgAt W p x from hSw); obtain ⟨a0, a1, a2, a3, a4, a5, a6, a7, a8, a9, a10, a11⟩ := hh; rw [HMO.out, HML.out] at a8; go_simp; first | done | with_reducible rfl)
   refine gkp 11 ?_
   refine gk1 12 (fun K hK => ?_)
   go_simp
   go_at_call 75; (with_reducible refine (DS.out).mono ?_); rintro e w3 ⟨rfl, hr3, hf3⟩; have F3 : Hid (Fr (fun b => b = g) w2 w3) := hid ⟨hf3.os, hf3.tape, hf3.output, hf3.size, hf3.blk⟩; have R3 := hid hr3; have hR : PgAt w3 p x := hHeld.stay (hf3.blk p hHeld.lt (fun e => HGP.out e.symm)); have P3 := hid hR; clear hr3 hf3
   refine hK.out _ _ hR (fun hHeld => ?_)
   clear hK K
   (try simp only [Act.put, sA, sZ, sS])
   refine gkp 13 ?_
   refine gkp 14 ?_
   have hh := PgAt.cells P3.out
   obtain ⟨a0, a1, a2, a3, a4, a5, a6, a7, a8, a9, a10, a11⟩ := hh
   have f8 := P3.out.frozen 8
   clear hR
   refine gkl 15 (fun K hK => ?_)
   go_simp
   refine hK.out _ _ ?_
   clear hK K
   (try simp only [Act.put, sA, sZ, sS])
   refine wpAnyK_done (by kernel_rfl) ?_ _
   clear hHeld
   obtain ⟨w4, hw4⟩ : ∃ w4, w4 = w3.setCell ⟨p, 8, none⟩ (.slice (some ⟨g, 0, none⟩) J x.mc) := ⟨_, rfl⟩
   have f4 : Fr (fun b => b = p) w3 w4 := by rw [hw4]; exact set_frame (Fr.refl _ _)
   have R4 := rr_fr R3.out f4 (fun b hb e => by cases hb; exact HGP.out e)
   obtain ⟨q0, q1, q2⟩ := mkC_get _ _ _ HK.out
   have cells := fun i u hu => (R4.cells (g := g) rfl i u hu)
   have d1 : w4.cell? ⟨g, j * 3 + 1, none⟩ = some (.int .i64 (k.now.length : Int)) := by have := cells (j * 3 + 1) _ (by rw [List.getElem?_take, if_pos (by have := HJ.out; omega)]; exact q1); rw [Addr.add_lit] at this; simpa using this
   have d2 : w4.cell? ⟨g, j * 3 + 2, none⟩ = some (.map (some k.m)) := by have := cells (j * 3 + 2) _ (by rw [List.getElem?_take, if_pos (by have := HJ.out; omega)]; exact q2); rw [Addr.add_lit] at this; simpa using this
   have p8 : w4.cell? ⟨p, 8, none⟩ = some (.slice (some ⟨g, 0, none⟩) J x.mc) := by rw [hw4]; exact (Cch.hd_cell (Cch.blk_set P3.out (i := 8) (v := .slice (some ⟨g, 0, none⟩) J x.mc)) 8).trans rfl
   rw [← hw4]
   have m4 : w4.ownsMap Tryz.prog 3 slR k.m k.n (dirtD (false :: k.c) k.enc) := map_df HKM.out (((f4.blk k.m (Nat.lt_of_lt_of_le HKM.out.lt F3.out.size) (fun e => HKP.out.1 e)).trans (F3.out.blk k.m HKM.out.lt (fun e => HKP.out.2 e))))
   have CC := hid (copied_any (k.now.length : Int) k.m k.n (dirtD (false :: k.c) k.enc) w4 m4)
   have P4 : PgAt w4 p { x with mo := some ⟨g, 0, none⟩, ml := J } := by
     have := Cch.blk_set P3.out (i := 8) (v := .slice (some ⟨g, 0, none⟩) J x.mc)
     unfold PgAt; rw [hw4, this]; rfl
   have HP4 := hid P4; have HW4 := hid hw4
   have hgj : (j : Int) < (J : Int) := by omega
   have hj0 : (0 : Int) ≤ (j : Int) := by omega
   have n5 : IntKind.i64.wrap (j : Int) = (j : Int) := IntWalk.i64_in _ ⟨by omega, by omega⟩
   clear hw4 f4 R4 q0 q1 q2 cells m4 P4 a0 a1 a2 a3 a4 a5 a6 a7 a8 a9 a10 a11 f8
   generalize hKN : (k.now.length : Int) = KN at *
   go_wp2_with (go_at_call 71; refine CC.out.mono ?_; rintro e w5 ⟨m5, rfl, hm5, hl5, hb5⟩; have M5 := hid hm5; have L5 := hid hl5; have B5 := hid hb5; obtain ⟨b0, b1, b2, b3, b4, b5, b6, b7, b8, b9, b10, b11⟩ := (HP4.out.later hb5).cells; have g6 := (HP4.out.later hb5).frozen 6; have g7 := (HP4.out.later hb5).frozen 7; clear hm5 hl5 hb5)
   go_ret
   refine ⟨rfl, m5, LTo.first B2.out ?_⟩
   exact undo_done H2.out HK.out HMO.out F3.out (by rw [← HJ.out]; exact R3.out) (by rw [← HJ.out]; exact HW4.out) B5.out M5.out (by have h6 := L5.out; have h7 := F3.out.size; have h8 : w4.heap.size = w3.heap.size := (by rw [HW4.out]; simp); omega) (by rw [hKN])
end
end Go.Proofs.YtadhdedjdgjboaaGreatDoor
