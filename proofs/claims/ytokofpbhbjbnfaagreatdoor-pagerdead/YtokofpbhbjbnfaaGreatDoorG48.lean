/- A pager whose disk lost its power (PagerDead); no statement of the seat is proved here. -/
import Derived.Test.YtokofpbhbjbnfaaGreatDoorG45
import Derived.Test.YtokofpbhbjbnfaaGreatDoorG31
namespace Go.Proofs.YtokofpbhbjbnfaaGreatDoor
open Go.RowKit Go.Maps
open Dsk (gt hid undrew keep_old keep_cell lt_cell Rd DS FS Sec DiskP DFrame Grew From lenD readD newD known op_at)
open Cch (CS CP Fr wpAnyK wpAnyK_take wpAnyK_pure wpAnyK_ready wpAnyK_done wp_region_K AllReadyK.cons AllReadyK.nil)

theorem below_df {B : Nat} {w W W' : World} {q : Nat} {S : Nat → Prop} (hb : Below B w W) (hf : DFrame W W' q S) (hS : ∀ b, b = q ∨ S b → B ≤ b) (hB : B ≤ W.heap.size) : Below B w W' :=
  ⟨hf.os.trans hb.os, hf.tape.trans hb.tape, hf.output.trans hb.output, Nat.le_trans hb.size hf.size, fun k hk => (hf.block k (Nat.lt_of_lt_of_le hk hB) (fun h => by have := hS k (Or.inl h); omega) (fun h => by have := hS k (Or.inr h); omega)).trans (hb.block k hk)⟩
theorem ex_dead (b : Pg) : (storeD (Dsk.crashD (newD 100) [] 0) [] [b] [true] 1).1 = 4 := by kernel_rfl

set_option maxHeartbeats 8000000 in
set_option maxRecDepth 20000 in
theorem dead_any (k n : Int) (s : Nat) (sh : Bool) (z : Nat) (w : World) (hT0 : Jrn.Tab w) (h00 : 0 < w.heap.size) :
    Calls Tryz.prog 6 #[.agg #[.int .i64 k, .int .i64 n, .int .u8 (s : Int), .bool sh], .int .u8 (z : Int)] w fun e w' => e = .returned (.bool true) ∧ Below w.heap.size w w' := by
  obtain ⟨w0, hw0⟩ : ∃ w0, w0 = w.alloc (.cells #[.int .i64 k, .int .i64 n, .int .u8 (s : Int), .bool sh] 37) := ⟨_, rfl⟩
  have ha : ActAt w0 w.heap.size k n s sh := by
    rw [hw0]
    refine ⟨?_, ?_, ?_, ?_⟩ <;> (rw [World.cell?_alloc_at _ _ _ _ rfl]; rfl)
  have hbw : Below w.heap.size w w0 := by rw [hw0]; exact (by repeat (first | with_reducible exact Below.refl _ _ | with_reducible assumption | with_reducible refine Below.drew ?_ | with_reducible refine below_drewN ?_ _ | with_reducible refine Below.alloc ?_ (by simp <;> omega) _ | with_reducible refine Below.setCell ?_ (by simp <;> omega) _))
  have HA := hid ha; have HB0 := hid hbw
  have h0 : 0 < w0.heap.size := Nat.lt_of_lt_of_le h00 hbw.size
  have HT : Hid (Jrn.Tab w0) := hid (hT0.keep hbw)
  have c9 := hid (Dsk.new_yes 100 w0 (by omega) (by omega))
  have HW0 := hid hw0
  clear ha hbw hT0 hw0
  have h9 := fun (i : Nat) (hi : i < 9) (W : World) => nine 4 i hi W
  have H9 := hid h9
  clear h9
  go_enter Tryz.func6, Tryz.ntmps6
  have t1 : Hid True := hid trivial
  go_wp2_with (first
    | (go_at_call 9; rw [← HW0.out]; refine c9.out.mono ?_; rintro e w1 ⟨rfl, ⟨P1, hd1, hk1⟩, hb1⟩; have D1 := hid hd1; have K1 := hid hk1; have B1 := hid hb1; obtain ⟨q, hq⟩ : ∃ q, w0.heap.size = q := ⟨_, rfl⟩; rw [hq] at D1 K1 ⊢; have HQ := hid hq; clear hd1 hk1 hb1 hq)
    | (go_at_call 10; refine (open_clean q 8 P1 (newD 100) [] w1 D1.out (clean_new 100) whole_nil (by simp) (by omega) (by omega) (HT.out.keep B1.out) ⟨by have := B1.out.size; omega, fun hk => (by rcases hk with hk | hk; (have := HQ.out; omega); (have := K1.out _ hk; omega))⟩ (by simp [newD])).mono ?_; rintro e w2 ⟨p, x, rfl, ho⟩; obtain ⟨P2, C2, s2, r2, eh, em, er, hnc⟩ := ho.is; have R2 : Hid (Tx w2 p x P2 C2 (newD 100) s2 [] 0 [] [] [[]]) := hid r2; have XB := hid ho.busy; have XQ := hid ho.xq; have XC := hid ho.com; have XM0 : Hid (w0.heap.size ≤ x.m) := hid (Nat.le_trans B1.out.size ho.mnew); have SC : Hid (s2.hit = 0 ∧ s2.miss = 0) := hid ⟨eh, em⟩; have HNC : Hid (∀ b, NC p x P2 C2 b → w0.heap.size ≤ b) := hid (fun b hb => (by rcases hnc b hb with h1 | h1; (rcases h1 with h2 | h2; (have := HQ.out; omega); (have := K1.out _ h2; have := HQ.out; omega)); (have := B1.out.size; omega))); have B2 : Hid (Below w0.heap.size w0 w2) := hid (below_fr B1.out ho.fr (fun b hb => (by rcases hb with h2 | h2; (have := HQ.out; omega); (have := K1.out _ h2; have := HQ.out; omega))) B1.out.size); clear ho r2 eh em er hnc)
    | (go_at_call 30; refine (begin_call p x w2 R2.out.core.hd XB.out).mono ?_; rintro e w3 ⟨rfl, hp3, hf3⟩; have T3 := hid (tx_begin R2.out hp3 hf3); have B3 : Hid (Below w0.heap.size w0 w3) := hid (below_fr B2.out hf3 (fun b hb => HNC.out b (Or.inr (Or.inr hb))) B2.out.size); clear hp3 hf3; obtain ⟨x1, hx1⟩ : ∃ x1 : PC, x1 = { x with busy := true } := ⟨_, rfl⟩; rw [← hx1] at T3; have XM : Hid (w0.heap.size ≤ x1.m) := hid (by rw [hx1]; exact XM0.out); have X1 : Hid (x1.q = q ∧ x1.com = 0 ∧ x1.busy = true ∧ ∀ b, NC p x1 P2 C2 b → w0.heap.size ≤ b) := hid (by rw [hx1]; exact ⟨XQ.out, XC.out, rfl, HNC.out⟩); clear hx1 HNC)
    | (go_at_call 31; refine (grow_call p x1 P2 C2 (newD 100) s2 [] 0 [] [] [[]] w3 T3.out X1.out.2.2.1 (by simp) (by omega)).mono ?_; rintro e w4 ⟨rfl, ⟨enc4, ht4⟩, hf4⟩; obtain ⟨x2, hx2⟩ : ∃ x2 : PC, x2 = { x1 with np := ([] : List Pg).length + 1 } := ⟨_, rfl⟩; rw [← hx2] at ht4; have T4 : Hid (Tx w4 p x2 P2 C2 (newD 100) s2 [] 1 [zeros] [true] enc4) := hid ht4; have B4 : Hid (Below w0.heap.size w0 w4) := hid (below_fr B3.out hf4 (fun b hb => (by rcases hb with h1 | h1; exact X1.out.2.2.2 b (Or.inr (Or.inr h1)); (rw [h1]; exact XM.out))) B3.out.size); have X2 : Hid (x2.q = q ∧ x2.com = 0 ∧ x2.busy = true ∧ (∀ b, NC p x2 P2 C2 b → w0.heap.size ≤ b) ∧ x2.m = x1.m) := hid (by rw [hx2]; exact ⟨X1.out.1, X1.out.2.1, X1.out.2.2.1, X1.out.2.2.2, rfl⟩); clear ht4 hf4 hx2)
    | (go_at_call 33; refine (show Calls Tryz.prog 33 #[.int .u8 (z : Int)] w4 _ from page_any z w4).mono ?_; rintro e w5 ⟨g5, rfl, r5, _, _, hb5⟩; have R5 := hid r5; have T5 := hid (T4.out.later hb5); have B5 := hid (gt B4.out hb5); clear r5 hb5)
    | (go_at_call 32; refine (show Calls Tryz.prog 32 #[.pointer (some ⟨p, 0, none⟩), .int .i64 1, .slice (some ⟨g5, 0, none⟩) 512 512] w5 _ from put_page p 1 g5 0 512 (pageS z) x2 P2 C2 (newD 100) s2 [] 1 [zeros] [true] enc4 w5 T5.out X2.out.2.2.1 (by omega) (by simp) (by omega) R5.out (pageS_bytes z)).mono ?_; rintro e w6 ⟨rfl, ⟨enc6, ht6⟩, hf6⟩; have T6 : Hid (Tx w6 p x2 P2 C2 (newD 100) s2 [] 2 [pageS z] [true] enc6) := hid ht6; have B6 : Hid (Below w0.heap.size w0 w6) := hid (below_fr B5.out hf6 (fun b hb => (by rcases hb with h1 | h1; exact X2.out.2.2.2.1 b (Or.inr (Or.inr h1)); (rw [h1, X2.out.2.2.2.2]; exact XM.out))) B5.out.size); clear ht6 hf6)
    | (go_at_call 25; clear t1; refine (show Calls Tryz.prog 25 #[.pointer (some ⟨q, 0, none⟩), .agg #[.slice none 0 0, .int .i64 0]] w6 _ from Dsk.crash_on q P2 (newD 100) none 0 [] 0 w6 (by have h1 := T6.out.core.dk; rw [X2.out.1] at h1; exact h1) rfl (fun h => absurd h (by simp)) (by simp) (by omega) (fun h => absurd h (by simp))).mono ?_; rintro e wc ⟨rfl, hp7, hf7⟩; obtain ⟨P7, hT7, hm7, hfr7, _, _⟩ := T6.out.disk (d' := Dsk.crashD (newD 100) [] 0) ⟨by rw [X2.out.1]; exact hp7, by rw [X2.out.1]; exact hf7⟩; have T7 := hid hT7; have B7 : Hid (Below w0.heap.size w0 wc) := hid (below_fr B6.out hfr7 (fun b hb => X2.out.2.2.2.1 b hb) B6.out.size); have N7 : Hid (∀ b, NC p x2 P7 C2 b → w0.heap.size ≤ b) := hid (fun b hb => (by rcases hm7 b hb with h1 | h1; exact X2.out.2.2.2.1 b h1; (have := B6.out.size; omega))); clear hp7 hf7 hT7 hm7 hfr7 T6 B6)
    | (go_at_call 27; refine (commit_dead p x2 P7 C2 (Dsk.crashD (newD 100) [] 0) _ s2 [] 2 [pageS z] [true] enc6 wc T7.out X2.out.2.2.1 (ex_idle _) rfl (Or.inr ex_past) (by have := SC.out; omega) (by rw [jL, show ([] : List Pg).length = 0 from rfl, show [pageS z].length = 1 from rfl, ex_past]; simp) (by simp [Dsk.crashD, Dsk.disarmD, newD]) (show storeD (Dsk.crashD (newD 100) [] 0) [] [pageS z] [true] 1 = (4, (storeD (Dsk.crashD (newD 100) [] 0) [] [pageS z] [true] 1).2) from Prod.ext (ex_dead _) rfl)).mono ?_; rintro e w8 ⟨rfl, hd8, ⟨P8, hp8, hn8, hg8⟩, hf8⟩; have B8 : Hid (Below w0.heap.size w0 w8) := hid (below_fr B7.out hf8 (fun b hb => N7.out b hb) B7.out.size); have D8 : Hid (DiskP w8 q P8 (storeD (Dsk.crashD (newD 100) [] 0) [] [pageS z] [true] 1).2 ∧ p ≠ q) := hid ⟨by rw [X2.out.1] at hp8; exact hp8, fun h => hn8 (Or.inl (by rw [X2.out.1]; exact h))⟩; have F8 := hid hd8; clear hd8 hp8 hn8 hg8 hf8 T7)
    | (go_at_call 26; refine (Dsk.start_any q P8 _ w8 D8.out.1).mono ?_; rintro e wr ⟨rfl, _, hf9⟩; have N0 : Hid (NS w0 w.heap.size k n s sh (.pointer (some ⟨p, 0, none⟩)) 4 wr) := (by
        have hb : Below w0.heap.size w0 wr := below_df B8.out hf9 (fun b hb => (by rcases hb with h1 | h1; (have := HQ.out; omega); exact h1.elim)) B8.out.size
        have hpl : p < w8.heap.size := lt_cell F8.out.1
        have hp := hf9.block p hpl D8.out.2 (fun h => h)
        exact hid ⟨HA.out.keep hb, ⟨by decide, Or.inr ⟨p, true, 4, rfl, ⟨(World.cell?_of_block hp).trans F8.out.1, (World.cell?_of_block hp).trans F8.out.2⟩, rfl⟩⟩, hb⟩); have a1' : wr.cell? ⟨w.heap.size, 1, none⟩ = some (.int .i64 n) := N0.out.1.2.1; clear hf9 F8 D8 B8 T3 T4 T5)
    | (go_at_call 34; refine (bad_get _ _ _ _ (NS.bad N0.out)).mono ?_; rintro e w1x ⟨rfl, hbx⟩; have N1 := hid (NS.keep N0.out hbx); clear hbx N0 a1'; have a1' := N1.out.1.2.1)
    | (go_at_call 31; refine (bad_grow _ _ _ (NS.bad N1.out)).mono ?_; rintro e w2x ⟨rfl, hbx⟩; have N2 := hid (NS.keep N1.out hbx); clear hbx N1)
    | (go_at_call 35; refine (bad_mark _ _ _ (NS.bad N2.out)).mono ?_; rintro e w3x ⟨rfl, hbx⟩; have N3 := hid (NS.keep N2.out hbx); clear hbx N2))
  clear a1'
  have HS : NS w0 w.heap.size k n s sh (.pointer (some ⟨p, 0, none⟩)) 4 _ := N3.out.keep ((Below.refl _ _).drew)
  refine wp_region_K (S := NS w0 w.heap.size k n s sh (.pointer (some ⟨p, 0, none⟩)) 4) (fun _ => false) (by kernel_rfl) HS (fun hHeld => ?_)
  clear HS N3
  refine wpAnyK_pure (i := 0) (v := ?_) (op_at _ 0 _ rfl) (by kernel_rfl) (by kernel_rfl) (by kernel_rfl) (by kernel_rfl) (fun _ _ _ h => h) (Or.inl ⟨by rfl, ?_⟩) (Or.inl (by assumption)) ?_
  rotate_left 1
  focus (intro W hSw; go_simp; first | done | with_reducible rfl)
  (try simp only [Act.put, List.setIfInBounds_toArray, List.set_cons_zero, List.set_cons_succ])
  refine wpAnyK_pure (i := 1) (v := ?_) (op_at _ 1 _ rfl) (by kernel_rfl) (by kernel_rfl) (by kernel_rfl) (by kernel_rfl) (fun _ _ _ h => h) (Or.inl ⟨by rfl, ?_⟩) (Or.inl (by assumption)) ?_
  rotate_left 1
  focus (intro W hSw; go_simp; first | done | with_reducible rfl)
  (try simp only [Act.put, List.setIfInBounds_toArray, List.set_cons_zero, List.set_cons_succ])
  refine wpAnyK_pure (i := 2) (v := ?_) (op_at _ 2 _ rfl) (by kernel_rfl) (by kernel_rfl) (by kernel_rfl) (by kernel_rfl) (fun _ _ _ h => h) (Or.inl ⟨by rfl, ?_⟩) (Or.inl (by assumption)) ?_
  rotate_left 1
  focus (intro W hSw; go_simp; first | done | with_reducible rfl)
  (try simp only [Act.put, List.setIfInBounds_toArray, List.set_cons_zero, List.set_cons_succ])
  refine wpAnyK_pure (i := 3) (v := ?_) (op_at _ 3 _ rfl) (by kernel_rfl) (by kernel_rfl) (by kernel_rfl) (by kernel_rfl) (fun _ _ _ h => h) (Or.inl ⟨by rfl, ?_⟩) (Or.inl (by assumption)) ?_
  rotate_left 1
  focus (intro W hSw; go_simp; first | done | with_reducible rfl)
  (try simp only [Act.put, List.setIfInBounds_toArray, List.set_cons_zero, List.set_cons_succ])
  refine wpAnyK_pure (i := 5) (v := ?_) (op_at _ 5 _ rfl) (by kernel_rfl) (by kernel_rfl) (by kernel_rfl) (by kernel_rfl) (fun _ _ _ h => h) (Or.inl ⟨by rfl, ?_⟩) (Or.inl (by assumption)) ?_
  rotate_left 1
  focus (intro W hSw; go_simp; first | done | with_reducible rfl)
  (try simp only [Act.put, List.setIfInBounds_toArray, List.set_cons_zero, List.set_cons_succ])
  refine wpAnyK_pure (i := 6) (v := ?_) (op_at _ 6 _ rfl) (by kernel_rfl) (by kernel_rfl) (by kernel_rfl) (by kernel_rfl) (fun _ _ _ h => h) (Or.inl ⟨by rfl, ?_⟩) (Or.inl (by assumption)) ?_
  rotate_left 1
  focus (intro W hSw; go_simp; first | done | with_reducible rfl)
  (try simp only [Act.put, List.setIfInBounds_toArray, List.set_cons_zero, List.set_cons_succ])
  refine wpAnyK_take (i := 7) (v := ?_) (op_at _ 7 _ rfl) (by kernel_rfl) (by kernel_rfl) (by kernel_rfl) (by kernel_rfl) (fun _ _ _ h => h) (Or.inl ⟨by rfl, ?_⟩) (by assumption) ?_
  rotate_left 1
  focus (intro W hSw; obtain ⟨⟨a0, a1, a2, a3⟩, _⟩ := hSw; go_simp; first | done | with_reducible rfl)
  (try simp only [Act.put, List.setIfInBounds_toArray, List.set_cons_zero, List.set_cons_succ])
  refine wpAnyK_take (i := 8) (v := ?_) (op_at _ 8 _ rfl) (by kernel_rfl) (by kernel_rfl) (by kernel_rfl) (by kernel_rfl) (fun _ _ _ h => h) (Or.inl ⟨by rfl, ?_⟩) (by assumption) ?_
  rotate_left 1
  focus (intro W hSw; obtain ⟨⟨a0, a1, a2, a3⟩, _⟩ := hSw; go_simp; first | done | with_reducible rfl)
  (try simp only [Act.put, List.setIfInBounds_toArray, List.set_cons_zero, List.set_cons_succ])
  refine wpAnyK_pure (i := 11) (v := ?_) (op_at _ 11 _ rfl) (by kernel_rfl) (by kernel_rfl) (by kernel_rfl) (by kernel_rfl) (fun _ _ _ h => h) (Or.inl ⟨by rfl, ?_⟩) (Or.inl (by assumption)) ?_
  rotate_left 1
  focus (intro W hSw; go_simp; first | done | with_reducible rfl)
  (try simp only [Act.put, List.setIfInBounds_toArray, List.set_cons_zero, List.set_cons_succ])
  refine wpAnyK_pure (i := 12) (v := ?_) (op_at _ 12 _ rfl) (by kernel_rfl) (by kernel_rfl) (by kernel_rfl) (by kernel_rfl) (fun _ _ _ h => h) (Or.inl ⟨by rfl, ?_⟩) (Or.inl (by assumption)) ?_
  rotate_left 1
  focus (intro W hSw; go_simp; first | done | with_reducible rfl)
  (try simp only [Act.put, List.setIfInBounds_toArray, List.set_cons_zero, List.set_cons_succ])
  refine wpAnyK_take (i := 13) (v := ?_) (op_at _ 13 _ rfl) (by kernel_rfl) (by kernel_rfl) (by kernel_rfl) (by kernel_rfl) (fun _ _ _ h => h) (Or.inl ⟨by rfl, ?_⟩) (by assumption) ?_
  rotate_left 1
  focus (intro W hSw; obtain ⟨⟨a0, a1, a2, a3⟩, _⟩ := hSw; go_simp; first | done | with_reducible rfl)
  (try simp only [Act.put, List.setIfInBounds_toArray, List.set_cons_zero, List.set_cons_succ])
  refine wpAnyK_pure (i := 15) (v := ?_) (op_at _ 15 _ rfl) (by kernel_rfl) (by kernel_rfl) (by kernel_rfl) (by kernel_rfl) (fun _ _ _ h => h) (Or.inl ⟨by rfl, ?_⟩) (Or.inl (by assumption)) ?_
  rotate_left 1
  focus (intro W hSw; go_simp; first | done | with_reducible rfl)
  (try simp only [Act.put, List.setIfInBounds_toArray, List.set_cons_zero, List.set_cons_succ])
  refine wpAnyK_pure (i := 16) (v := ?_) (op_at _ 16 _ rfl) (by kernel_rfl) (by kernel_rfl) (by kernel_rfl) (by kernel_rfl) (fun _ _ _ h => h) (Or.inl ⟨by rfl, ?_⟩) (Or.inl (by assumption)) ?_
  rotate_left 1
  focus (intro W hSw; go_simp; first | done | with_reducible rfl)
  (try simp only [Act.put, List.setIfInBounds_toArray, List.set_cons_zero, List.set_cons_succ])
  refine wpAnyK_take (i := 17) (v := ?_) (op_at _ 17 _ rfl) (by kernel_rfl) (by kernel_rfl) (by kernel_rfl) (by kernel_rfl) (fun _ _ _ h => h) (Or.inl ⟨by rfl, ?_⟩) (by assumption) ?_
  rotate_left 1
  focus (intro W hSw; obtain ⟨⟨a0, a1, a2, a3⟩, _⟩ := hSw; go_simp; first | done | with_reducible rfl)
  (try simp only [Act.put, List.setIfInBounds_toArray, List.set_cons_zero, List.set_cons_succ])
  refine wpAnyK_pure (i := 19) (v := ?_) (op_at _ 19 _ rfl) (by kernel_rfl) (by kernel_rfl) (by kernel_rfl) (by kernel_rfl) (fun _ _ _ h => h) (Or.inl ⟨by rfl, ?_⟩) (Or.inl (by assumption)) ?_
  rotate_left 1
  focus (intro W hSw; go_simp; first | done | with_reducible rfl)
  (try simp only [Act.put, List.setIfInBounds_toArray, List.set_cons_zero, List.set_cons_succ])
  refine wpAnyK_pure (i := 21) (v := ?_) (op_at _ 21 _ rfl) (by kernel_rfl) (by kernel_rfl) (by kernel_rfl) (by kernel_rfl) (fun _ _ _ h => h) (Or.inl ⟨by rfl, ?_⟩) (Or.inl (by assumption)) ?_
  rotate_left 1
  focus (intro W hSw; go_simp; first | done | with_reducible rfl)
  (try simp only [Act.put, List.setIfInBounds_toArray, List.set_cons_zero, List.set_cons_succ])
  refine wpAnyK_pure (i := 24) (v := ?_) (op_at _ 24 _ rfl) (by kernel_rfl) (by kernel_rfl) (by kernel_rfl) (by kernel_rfl) (fun _ _ _ h => h) (Or.inl ⟨by rfl, ?_⟩) (Or.inl (by assumption)) ?_
  rotate_left 1
  focus (intro W hSw; go_simp; first | done | with_reducible rfl)
  (try simp only [Act.put, List.setIfInBounds_toArray, List.set_cons_zero, List.set_cons_succ])
  refine wpAnyK_ready (rs := [4]) (by kernel_rfl) (by simp) ?_
  refine AllReadyK.cons (op_at _ 4 _ rfl) (fun K hK => ?_) AllReadyK.nil
  go_simp
  refine (bad_begin _ _ _ (NS.bad hHeld)).mono ?_; rintro e wx ⟨rfl, hbx⟩; have hR := NS.keep hHeld hbx; clear hbx
  refine hK.out _ _ hR (fun hHeld => ?_)
  clear hK K
  (try simp only [Act.put, List.setIfInBounds_toArray, List.set_cons_zero, List.set_cons_succ])
  clear hR
  refine wpAnyK_ready (rs := [9]) (by kernel_rfl) (by simp) ?_
  refine AllReadyK.cons (op_at _ 9 _ rfl) (fun K hK => ?_) AllReadyK.nil
  go_simp
  refine (bytes_any _ _ _ _ _).mono ?_; rintro e wx ⟨ao, al, ac, rfl, hbx⟩; have hR := NS.keep hHeld hbx; clear hbx
  refine hK.out _ _ hR (fun hHeld => ?_)
  clear hK K
  (try simp only [Act.put, List.setIfInBounds_toArray, List.set_cons_zero, List.set_cons_succ])
  clear hR
  refine wpAnyK_ready (rs := [10]) (by kernel_rfl) (by simp) ?_
  refine AllReadyK.cons (op_at _ 10 _ rfl) (fun K hK => ?_) AllReadyK.nil
  go_simp
  refine (bad_put _ _ _ _ _ (NS.bad hHeld)).mono ?_; rintro e wx ⟨rfl, hbx⟩; have hR := NS.keep hHeld hbx; clear hbx
  refine hK.out _ _ hR (fun hHeld => ?_)
  clear hK K
  (try simp only [Act.put, List.setIfInBounds_toArray, List.set_cons_zero, List.set_cons_succ])
  clear hR
  refine wpAnyK_ready (rs := [14]) (by kernel_rfl) (by simp) ?_
  refine AllReadyK.cons (op_at _ 14 _ rfl) (fun K hK => ?_) AllReadyK.nil
  go_simp
  refine (bad_shrink _ _ _ _ (NS.bad hHeld)).mono ?_; rintro e wx ⟨rfl, hbx⟩; have hR := NS.keep hHeld hbx; clear hbx
  refine hK.out _ _ hR (fun hHeld => ?_)
  clear hK K
  (try simp only [Act.put, List.setIfInBounds_toArray, List.set_cons_zero, List.set_cons_succ])
  clear hR
  refine wpAnyK_ready (rs := [18]) (by kernel_rfl) (by simp) ?_
  refine AllReadyK.cons (op_at _ 18 _ rfl) (fun K hK => ?_) AllReadyK.nil
  go_simp
  refine (bad_undo _ _ _ _ (NS.bad hHeld)).mono ?_; rintro e wx ⟨rfl, hbx⟩; have hR := NS.keep hHeld hbx; clear hbx
  refine hK.out _ _ hR (fun hHeld => ?_)
  clear hK K
  (try simp only [Act.put, List.setIfInBounds_toArray, List.set_cons_zero, List.set_cons_succ])
  clear hR
  refine wpAnyK_ready (rs := [20]) (by kernel_rfl) (by simp) ?_
  refine AllReadyK.cons (op_at _ 20 _ rfl) (fun K hK => ?_) AllReadyK.nil
  go_simp
  refine (bad_rollback _ _ _ (NS.bad hHeld)).mono ?_; rintro e wx ⟨rfl, hbx⟩; have hR := NS.keep hHeld hbx; clear hbx
  refine hK.out _ _ hR (fun hHeld => ?_)
  clear hK K
  (try simp only [Act.put, List.setIfInBounds_toArray, List.set_cons_zero, List.set_cons_succ])
  clear hR
  refine wpAnyK_ready (rs := [22]) (by kernel_rfl) (by simp) ?_
  refine AllReadyK.cons (op_at _ 22 _ rfl) (fun K hK => ?_) AllReadyK.nil
  go_simp
  refine (bad_commit _ _ _ (NS.bad hHeld)).mono ?_; rintro e wx ⟨rfl, hbx⟩; have hR := NS.keep hHeld hbx; clear hbx
  refine hK.out _ _ hR (fun hHeld => ?_)
  clear hK K
  (try simp only [Act.put, List.setIfInBounds_toArray, List.set_cons_zero, List.set_cons_succ])
  clear hR
  refine wpAnyK_pure (i := 23) (v := ?_) (op_at _ 23 _ rfl) (by kernel_rfl) (by kernel_rfl) (by kernel_rfl) (by kernel_rfl) (fun _ _ _ h => h) (Or.inl ⟨by rfl, ?_⟩) (Or.inl (by assumption)) ?_
  rotate_left 1
  focus (intro W hSw; go_simp; first | done | with_reducible rfl)
  (try simp only [Act.put, List.setIfInBounds_toArray, List.set_cons_zero, List.set_cons_succ])
  refine wpAnyK_done (by kernel_rfl) ?_ _
  have N4 := hid hHeld
  clear hHeld
  go_wp2
  go_loopw [81] (fun c W => ∃ j : Nat, j ≤ 9 ∧ c = .int .i64 (j : Int) ∧ Hid (NS w0 w.heap.size k n s sh (.pointer (some ⟨p, 0, none⟩)) 4 W)) (fun c _ => 9 - (intOf c).toNat)
  case atStart => exact ⟨0, by omega, rfl, N4⟩
  case round =>
    obtain ⟨j, hj, rfl, N5⟩ := hrel
    by_cases hj9 : j < 9
    · have hj' : (j : Int) < 9 := by omega
      have e9 := H9.out j hj9
      go_wp2
      exact ⟨⟨j + 1, by omega, by go_num, N5⟩, by simp [intOf]; omega⟩
    · obtain rfl : j = 9 := by omega
      go_wp2_with (first
        | (go_at_call 12; refine (bad_pages _ _ _ (NS.bad N5.out)).mono ?_; rintro e w6 ⟨rfl, hbx⟩; have N6 := hid (NS.keep N5.out hbx); clear hbx N5)
        | (go_at_call 17; refine (bad_changed _ _ _ (NS.bad N6.out)).mono ?_; rintro e w7 ⟨rfl, hbx⟩; have N7 := hid (NS.keep N6.out hbx); clear hbx N6)
        | (go_at_call 22; refine (bad_cached _ _ _ (NS.bad N7.out)).mono ?_; rintro e w8 ⟨rfl, hbx⟩; have N8 := hid (NS.keep N7.out hbx); clear hbx N7)
        | (go_at_call 15; refine (bad_commits _ _ _ (NS.bad N8.out)).mono ?_; rintro e w9 ⟨rfl, hbx⟩; have N9 := hid (NS.keep N8.out hbx); clear hbx N8)
        | (go_at_call 19; refine (bad_replayed _ _ _ (NS.bad N9.out)).mono ?_; rintro e w10 ⟨rfl, hbx⟩; have N10 := hid (NS.keep N9.out hbx); clear hbx N9)
        | (go_at_call 14; refine (bad_busy _ _ _ (NS.bad N10.out)).mono ?_; rintro e w11 ⟨rfl, hbx⟩; have N11 := hid (NS.keep N10.out hbx); clear hbx N10)
        | (go_at_call 8; refine (lives_any _ (HT.out.keep (NS.below N11.out)) (by have := (NS.below N11.out).size; omega)).mono ?_; rintro e wx ⟨rfl, hbx⟩; have HX := hid hbx; clear hbx))
      go_ret
      exact ⟨rfl, gt HB0.out (gt (NS.below N11.out) HX.out)⟩

end Go.Proofs.YtokofpbhbjbnfaaGreatDoor
