/- The law PagerActs returns true and turns nothing that was there, whatever it is called with; the walk alone. -/
import Derived.Test.YtadhdedjdgjboaaGreatDoorG46
import Derived.Test.YtadhdedjdgjboaaGreatDoorG17
set_option maxHeartbeats 16000000
set_option maxRecDepth 20000
namespace Go.Proofs.YtadhdedjdgjboaaGreatDoor
section
open Go.RowKit Go.Maps
open Dsk (gt hid undrew keep_old keep_cell lt_cell Rd DS FS Sec DiskP DFrame Grew From op_at idx dirtD was secD sureF sureF_ok crashD newD)
open Cch (CS CP Fr wpAnyK wpAnyK_take wpAnyK_pure wpAnyK_ready wpAnyK_done wp_region_K AllReadyK.cons AllReadyK.nil AllReadyK.late)
def Acts (w : World) (b off L : Nat) (X : Nat → Pv) : Prop := ∀ i, i < L → w.cell? ⟨b, off + i * 4, none⟩ = some (.int .i64 (X i).k) ∧ w.cell? ⟨b, off + i * 4 + 1, none⟩ = some (.int .i64 (X i).n) ∧ w.cell? ⟨b, off + i * 4 + 2, none⟩ = some (.int .u8 ((X i).s : Int)) ∧ w.cell? ⟨b, off + i * 4 + 3, none⟩ = some (.bool (X i).sh) ∧ (X i).s < 256
def ActsV (w : World) (lo : Option Addr) (L : Nat) (X : Nat → Pv) : Prop := 0 < L → ∃ b off, lo = some ⟨b, off, none⟩ ∧ Acts w b off L X
theorem Acts.keep {w w' : World} {b off L : Nat} {X : Nat → Pv} (h : Acts w b off L X) (hb : Below w.heap.size w w') : Acts w' b off L X := fun i hi => by
 obtain ⟨h0, h1, h2, h3, h4⟩ := h i hi
 exact ⟨keep_old hb h0, keep_old hb h1, keep_old hb h2, keep_old hb h3, h4⟩
theorem acts_long (room : Int) (lo : Option Addr) (L C : Nat) (w : World) (hT : Jrn.Tab w) (h0 : 0 < w.heap.size) (hL : 80 < L) :
   Calls Tryz.prog 3 #[.int .i64 room, .slice lo L C] w fun e w' => e = .returned (.bool true) ∧ Below w.heap.size w w' := by
 have h1 : (80 : Int) < (L : Int) := by omega
 have CL := hid (lives_any w hT h0)
 clear hT h0
 go_enter Tryz.func3, Tryz.ntmps3
 go_wp2_with (go_at_call 8; refine CL.out.mono ?_; rintro e w3 ⟨rfl, hb3⟩; replace hb3 := hid hb3)
 go_ret
 exact ⟨rfl, hb3.out⟩
theorem acts_yes (rm : Nat) (hr1 : 8 ≤ rm) (hr2 : rm ≤ 4096) (lo : Option Addr) (L C : Nat) (X : Nat → Pv) (w : World) (hT : Jrn.Tab w) (h0 : 0 < w.heap.size) (h : ActsV w lo L X) (hL : L ≤ 80) :
   Calls Tryz.prog 3 #[.int .i64 (rm : Int), .slice lo L C] w fun e w' => e = .returned (.bool true) ∧ Below w.heap.size w w' := by
 have h1 : ¬ (80 : Int) < (L : Int) := by omega
 have h2 : ¬ (rm : Int) < 8 := by omega
 have h3 : ¬ (4096 : Int) < (rm : Int) := by omega
 have H := hid h; have HT := hid hT; have H0 := hid h0
 have C9 := hid (Dsk.new_yes 4000 w (by omega) (by omega))
 clear h hT h0
 go_enter Tryz.func3, Tryz.ntmps3
 go_wp2_with (first
   | (go_at_call 9; refine C9.out.mono ?_; rintro e w1 ⟨rfl, ⟨P1, hd1, hp1⟩, hb1⟩; have D1 := hid hd1; have P1' := hid hp1; have B1 := hid hb1; clear hd1 hp1 hb1)
   | (go_at_call 10; refine (open_clean w.heap.size rm P1 (newD 4000) [] w1 D1.out (clean_new 4000) whole_nil (by simp) hr1 hr2 (HT.out.keep B1.out) ⟨by have := H0.out; have := B1.out.size; omega, fun hd => by rcases hd with h1 | h1; (have := H0.out; omega); (have := P1'.out 0 h1; omega)⟩ (by show 0 ≤ _; omega)).mono ?_; rintro e w2 ⟨p, x, rfl, ho⟩; have N2 := hid (both_new B1.out P1'.out ho); clear ho))
 have HA : Hid (Both False 4000 rm 0 (w2.alloc zeroRef) p w.heap.size w2.heap.size (Old w) rt0) := hid N2.out.1
 have HS : Hid (Stay (Old w) w (w2.alloc zeroRef)) := hid N2.out.2
 obtain ⟨q, hq⟩ : ∃ q, q = w.heap.size := ⟨_, rfl⟩
 obtain ⟨r, hr⟩ : ∃ r, r = w2.heap.size := ⟨_, rfl⟩
 obtain ⟨w3, hw3⟩ : ∃ w3, w3 = w2.alloc (.cells #[.slice none 0 0, .slice none 0 0, .slice none 0 0, .bool false, .slice none 0 0, .int .i64 0, .int .i64 0] 35) := ⟨_, rfl⟩
 have HA3 : Hid (Both False 4000 rm 0 w3 p q r (Old w) rt0) := hid (by rw [hw3, hq, hr]; exact HA.out)
 have HS3 : Hid (Stay (Old w) w w3) := hid (by rw [hw3]; exact HS.out)
 rw [← hw3, ← hr]
 have HQ := hid hq
 (try rw [← hq])
 clear N2 HA HS hq hr hw3 C9 D1 P1' B1
 go_loopg [47] L (fun k v W => ∃ (i : Nat) (t : RS), i + k = L ∧ v = .int .i64 (i : Int) ∧ Hid (Both False 4000 rm i W p q r (Old w) t) ∧ Hid (Stay (Old w) w W))
 case atStart => exact ⟨0, rt0, by omega, rfl, HA3, HS3⟩
 case round =>
   clear HA3 HS3
   obtain ⟨i, t, hik, rfl, HB, HST⟩ := hrel
   by_cases hiL : i < L
   · obtain ⟨b, off, rfl, hacts⟩ := H.out (by omega)
     have hiL' : (i : Int) < (L : Int) := by omega
     obtain ⟨c0, c1, c2, c3, ok⟩ := hacts.keep (old_below HST.out) i hiL
     have OK := hid ok
     have hbl : b < wr.heap.size := lt_cell c0
     have hbl' : ¬ b = wr.heap.size := by omega
     clear hacts ok
     obtain ⟨W0, hW0⟩ : ∃ W0, W0 = wr.alloc (.cells #[.int .i64 (X i).k, .int .i64 (X i).n, .int .u8 ((X i).s : Int), .bool (X i).sh] 37) := ⟨_, rfl⟩
     obtain ⟨xb, hxb⟩ : ∃ xb, xb = wr.heap.size := ⟨_, rfl⟩
     have hb0 : Below wr.heap.size wr W0 := by rw [hW0]; exact (Below.refl _ _).alloc (Nat.le_refl _) _
     have hx0 : ActAt W0 xb (X i).k (X i).n (X i).s (X i).sh := by rw [hW0, hxb]; exact ActAt.new wr _ _ _ _
     have lx : xb < W0.heap.size := by rw [hW0, hxb]; simp
     have hbx : Both False 4000 rm i W0.drew p q r (fun b => Old w b ∨ b = xb) t := by
       obtain ⟨SS, VV, hA⟩ := HB.out
       refine ⟨SS, VV, (AS.later ?_ (Below.refl _ _).drew)⟩
       rw [hW0, hxb]; exact hA.box _
     have CA := hid (act_any hbx (by omega) (X i).k (X i).n (X i).s (X i).sh OK.out)
     have HW0 := hid hW0; have HX0 := hid hx0; have LX : Hid (xb < W0.drew.heap.size) := hid lx; have HXB := hid hxb
     have HB0 := hid hb0
     obtain ⟨T, hT⟩ : ∃ T, T = t.did ⟨(X i).k, (X i).n, (X i).s, (X i).sh⟩ := ⟨_, rfl⟩
     rw [← hT] at CA
     clear hW0 hb0 hx0 hbx lx hT hxb
     go_upto_region 13 with fail
     rw [← HW0.out, ← HXB.out]
     refine wp_region_K (S := fun W => ActAt W xb (X i).k (X i).n (X i).s (X i).sh) (fun _ => false) (by kernel_rfl) (HX0.out) (fun hHeld => ?_)
     refine gkp 0 ?_
     refine gkp 1 ?_
     refine gkt 2 ?_ (h := by intro W hSw; obtain ⟨a0, a1, a2, a3⟩ := (show ActAt W xb (X i).k (X i).n (X i).s (X i).sh from hSw); go_simp; first | done | with_reducible rfl)
     refine gk1 3 (fun K hK => ?_)
     go_simp
     go_at_call 11; (with_reducible refine CA.out.mono ?_); rintro e w5 ⟨rfl, hB5, hS5⟩; have S5 := hid hS5; obtain ⟨SS, VV, hA5⟩ := hB5; have A5 := hid hA5; have hR : ActAt w5 xb (X i).k (X i).n (X i).s (X i).sh := hHeld.stay (hS5.at_ (Or.inr rfl) LX.out); have CL : Hid (T.c.length ≤ 4000) := hid (by have := hA5.tb.lc; have := hA5.tb.ln; omega); have CB : Hid (T.chg.length ≤ 1000000) := hid (by have := chK_le T.c T.busy T.c.length; have := CL.out; unfold RS.chg; omega); clear hA5 hS5
     refine hK.out _ _ hR (fun hHeld => ?_)
     clear hK K
     (try simp only [Act.put, sA, sZ, sS])
     refine gkp 4 ?_
     refine gkp 5 ?_
     refine gkp 6 ?_
     refine gkp 8 ?_
     refine gk1 7 (fun K hK => ?_)
     go_simp
     go_at_call 12; (with_reducible refine (prg_pages A5.out.prg).mono ?_); rintro e w6 ⟨rfl, hb⟩; have A6 := hid (A5.out.later hb); have B6 := hid hb; have hR : ActAt w6 xb (X i).k (X i).n (X i).s (X i).sh := hHeld.keep hb; clear hb
     refine hK.out _ _ hR (fun hHeld => ?_)
     clear hK K
     (try simp only [Act.put, sA, sZ, sS])
     refine gk1 9 (fun K hK => ?_)
     go_simp
     go_at_call 13; (with_reducible refine (rPages_any r SS VV T w6 A6.out.ref).mono ?_); rintro e wx ⟨rfl, hwx⟩; obtain rfl := hwx.symm; have hR := hHeld
     refine hK.out _ _ hR (fun hHeld => ?_)
     clear hK K
     (try simp only [Act.put, sA, sZ, sS])
     refine gkp 10 ?_ (v := .bool false) (h := by intro W hSw; go_simp; first | done | with_reducible rfl | simp)
     refine gkp 11 ?_
     refine gkp 12 ?_
     refine gkp 13 ?_
     refine gkp 15 ?_
     refine gkp 16 ?_
     refine gkp 17 ?_
     refine wpAnyK_ready (rs := [14, 18]) (by kernel_rfl) (by simp) ?_
     refine AllReadyK.cons (op_at _ 14 _ rfl) (fun K hK => ?_) ?_
     · go_simp
       go_at_call 14; (with_reducible refine (prg_busy A6.out.prg).mono ?_); rintro e w7 ⟨rfl, hb⟩; have A7 := hid (A6.out.later hb); have B7 := hid hb; have hR : ActAt w7 xb (X i).k (X i).n (X i).s (X i).sh := hHeld.keep hb; clear hb
       refine hK.out _ _ hR (fun hHeld => ?_)
       clear hK K
       (try simp only [Act.put, sA, sZ, sS])
       refine gk1 18 (fun K hK => ?_)
       have yb := A7.out.ref.cells.2.2.2.1; go_simp; have hR := hHeld
       refine hK.out _ _ hR (fun hHeld => ?_)
       clear hK K
       (try simp only [Act.put, sA, sZ, sS])
       refine gkp 19 ?_ (v := .bool false) (h := by intro W hSw; go_simp; first | done | with_reducible rfl | simp)
       refine gkp 20 ?_
       refine gkp 21 ?_
       refine gkp 22 ?_
       refine gkp 24 ?_
       refine gkp 25 ?_
       refine gkp 26 ?_
       refine wpAnyK_ready (rs := [23, 27]) (by kernel_rfl) (by simp) ?_
       refine AllReadyK.cons (op_at _ 23 _ rfl) (fun K hK => ?_) ?_
       · go_simp
         go_at_call 15; (with_reducible refine (prg_commits A7.out.prg).mono ?_); rintro e w8 ⟨rfl, hb⟩; have A8 := hid (A7.out.later hb); have B8 := hid hb; have hR : ActAt w8 xb (X i).k (X i).n (X i).s (X i).sh := hHeld.keep hb; clear hb
         refine hK.out _ _ hR (fun hHeld => ?_)
         clear hK K
         (try simp only [Act.put, sA, sZ, sS])
         refine gk1 27 (fun K hK => ?_)
         have yn := A8.out.ref.cells.2.2.2.2.2.2; go_simp; have hR := hHeld
         refine hK.out _ _ hR (fun hHeld => ?_)
         clear hK K
         (try simp only [Act.put, sA, sZ, sS])
         refine gkp 28 ?_ (v := .bool false) (h := by intro W hSw; go_simp; first | done | with_reducible rfl | simp)
         refine gkp 29 ?_
         refine gkp 30 ?_
         refine gkp 31 ?_
         refine gkp 33 ?_
         refine gk1 32 (fun K hK => ?_)
         go_simp
         go_at_call 17; (with_reducible refine (prg_changed A8.out.prg).mono ?_); rintro e w9 ⟨ao9, cp9, rfl, hr9, hc9, hb⟩; have A9 := hid (A8.out.later hb); have B9 := hid hb; have hR : ActAt w9 xb (X i).k (X i).n (X i).s (X i).sh := hHeld.keep hb; have I9 := hid hr9; have C9 := hid hc9; clear hr9 hc9; clear hb
         refine hK.out _ _ hR (fun hHeld => ?_)
         clear hK K
         (try simp only [Act.put, sA, sZ, sS])
         refine gk1 34 (fun K hK => ?_)
         go_simp
         go_at_call 18; (with_reducible refine (doc_changed A9.out.ref CL.out).mono ?_); rintro e w10 ⟨ao10, cp10, rfl, hr10, hc10, hb⟩; have A10 := hid (A9.out.later hb); have B10 := hid hb; have hR : ActAt w10 xb (X i).k (X i).n (X i).s (X i).sh := hHeld.keep hb; have I10 := hid hr10; have C10 := hid hc10; have I9 := hid (I9.out.keep hb); clear hr10 hc10; clear hb
         refine hK.out _ _ hR (fun hHeld => ?_)
         clear hK K
         (try simp only [Act.put, sA, sZ, sS])
         refine gk1 35 (fun K hK => ?_)
         go_simp
         go_at_call 16; (with_reducible refine (ints_same ao9 ao10 _ cp9 cp10 T.chg w10 I9.out I10.out CB.out C9.out C10.out).mono ?_); rintro e w11 ⟨rfl, hb⟩; have A11 := hid (A10.out.later hb); have B11 := hid hb; have hR : ActAt w11 xb (X i).k (X i).n (X i).s (X i).sh := hHeld.keep hb; clear hb
         refine hK.out _ _ hR (fun hHeld => ?_)
         clear hK K
         (try simp only [Act.put, sA, sZ, sS])
         refine gkp 36 ?_
         refine gkp 37 ?_
         refine wpAnyK_done (by kernel_rfl) ?_ _
         go_wp2
         go_roundg (gk - 1)
         case measure => omega
         case rel =>
           refine ⟨i + 1, T, by omega, by simp, hid (Both.less ⟨SS, VV, A11.out⟩ (fun _ h => Or.inl h)), hid ?_⟩
           exact ((((((((HST.out.trans (fr_below HB0.out)).trans (fr_below (Below.refl _ _).drew)).trans (S5.out.less (fun _ h => Or.inl h))).trans (fr_below B6.out)).trans (fr_below B7.out)).trans (fr_below B8.out)).trans (fr_below B9.out)).trans (fr_below B10.out)).trans (fr_below B11.out)
       refine AllReadyK.cons (op_at _ 27 _ rfl) (fun K hK => ?_) ?_
       · have yn := A7.out.ref.cells.2.2.2.2.2.2; go_simp; have hR := hHeld
         refine hK.out _ _ hR (fun hHeld => ?_)
         clear hK K
         (try simp only [Act.put, sA, sZ, sS])
         refine gk1 23 (fun K hK => ?_)
         go_simp
         go_at_call 15; (with_reducible refine (prg_commits A7.out.prg).mono ?_); rintro e w8 ⟨rfl, hb⟩; have A8 := hid (A7.out.later hb); have B8 := hid hb; have hR : ActAt w8 xb (X i).k (X i).n (X i).s (X i).sh := hHeld.keep hb; clear hb
         refine hK.out _ _ hR (fun hHeld => ?_)
         clear hK K
         (try simp only [Act.put, sA, sZ, sS])
         refine gkp 28 ?_ (v := .bool false) (h := by intro W hSw; go_simp; first | done | with_reducible rfl | simp)
         refine gkp 29 ?_
         refine gkp 30 ?_
         refine gkp 31 ?_
         refine gkp 33 ?_
         refine gk1 32 (fun K hK => ?_)
         go_simp
         go_at_call 17; (with_reducible refine (prg_changed A8.out.prg).mono ?_); rintro e w9 ⟨ao9, cp9, rfl, hr9, hc9, hb⟩; have A9 := hid (A8.out.later hb); have B9 := hid hb; have hR : ActAt w9 xb (X i).k (X i).n (X i).s (X i).sh := hHeld.keep hb; have I9 := hid hr9; have C9 := hid hc9; clear hr9 hc9; clear hb
         refine hK.out _ _ hR (fun hHeld => ?_)
         clear hK K
         (try simp only [Act.put, sA, sZ, sS])
         refine gk1 34 (fun K hK => ?_)
         go_simp
         go_at_call 18; (with_reducible refine (doc_changed A9.out.ref CL.out).mono ?_); rintro e w10 ⟨ao10, cp10, rfl, hr10, hc10, hb⟩; have A10 := hid (A9.out.later hb); have B10 := hid hb; have hR : ActAt w10 xb (X i).k (X i).n (X i).s (X i).sh := hHeld.keep hb; have I10 := hid hr10; have C10 := hid hc10; have I9 := hid (I9.out.keep hb); clear hr10 hc10; clear hb
         refine hK.out _ _ hR (fun hHeld => ?_)
         clear hK K
         (try simp only [Act.put, sA, sZ, sS])
         refine gk1 35 (fun K hK => ?_)
         go_simp
         go_at_call 16; (with_reducible refine (ints_same ao9 ao10 _ cp9 cp10 T.chg w10 I9.out I10.out CB.out C9.out C10.out).mono ?_); rintro e w11 ⟨rfl, hb⟩; have A11 := hid (A10.out.later hb); have B11 := hid hb; have hR : ActAt w11 xb (X i).k (X i).n (X i).s (X i).sh := hHeld.keep hb; clear hb
         refine hK.out _ _ hR (fun hHeld => ?_)
         clear hK K
         (try simp only [Act.put, sA, sZ, sS])
         refine gkp 36 ?_
         refine gkp 37 ?_
         refine wpAnyK_done (by kernel_rfl) ?_ _
         go_wp2
         go_roundg (gk - 1)
         case measure => omega
         case rel =>
           refine ⟨i + 1, T, by omega, by simp, hid (Both.less ⟨SS, VV, A11.out⟩ (fun _ h => Or.inl h)), hid ?_⟩
           exact ((((((((HST.out.trans (fr_below HB0.out)).trans (fr_below (Below.refl _ _).drew)).trans (S5.out.less (fun _ h => Or.inl h))).trans (fr_below B6.out)).trans (fr_below B7.out)).trans (fr_below B8.out)).trans (fr_below B9.out)).trans (fr_below B10.out)).trans (fr_below B11.out)
       exact AllReadyK.nil
     refine AllReadyK.cons (op_at _ 18 _ rfl) (fun K hK => ?_) ?_
     · have yb := A6.out.ref.cells.2.2.2.1; go_simp; have hR := hHeld
       refine hK.out _ _ hR (fun hHeld => ?_)
       clear hK K
       (try simp only [Act.put, sA, sZ, sS])
       refine gk1 14 (fun K hK => ?_)
       go_simp
       go_at_call 14; (with_reducible refine (prg_busy A6.out.prg).mono ?_); rintro e w7 ⟨rfl, hb⟩; have A7 := hid (A6.out.later hb); have B7 := hid hb; have hR : ActAt w7 xb (X i).k (X i).n (X i).s (X i).sh := hHeld.keep hb; clear hb
       refine hK.out _ _ hR (fun hHeld => ?_)
       clear hK K
       (try simp only [Act.put, sA, sZ, sS])
       refine gkp 19 ?_ (v := .bool false) (h := by intro W hSw; go_simp; first | done | with_reducible rfl | simp)
       refine gkp 20 ?_
       refine gkp 21 ?_
       refine gkp 22 ?_
       refine gkp 24 ?_
       refine gkp 25 ?_
       refine gkp 26 ?_
       refine wpAnyK_ready (rs := [23, 27]) (by kernel_rfl) (by simp) ?_
       refine AllReadyK.cons (op_at _ 23 _ rfl) (fun K hK => ?_) ?_
       · go_simp
         go_at_call 15; (with_reducible refine (prg_commits A7.out.prg).mono ?_); rintro e w8 ⟨rfl, hb⟩; have A8 := hid (A7.out.later hb); have B8 := hid hb; have hR : ActAt w8 xb (X i).k (X i).n (X i).s (X i).sh := hHeld.keep hb; clear hb
         refine hK.out _ _ hR (fun hHeld => ?_)
         clear hK K
         (try simp only [Act.put, sA, sZ, sS])
         refine gk1 27 (fun K hK => ?_)
         have yn := A8.out.ref.cells.2.2.2.2.2.2; go_simp; have hR := hHeld
         refine hK.out _ _ hR (fun hHeld => ?_)
         clear hK K
         (try simp only [Act.put, sA, sZ, sS])
         refine gkp 28 ?_ (v := .bool false) (h := by intro W hSw; go_simp; first | done | with_reducible rfl | simp)
         refine gkp 29 ?_
         refine gkp 30 ?_
         refine gkp 31 ?_
         refine gkp 33 ?_
         refine gk1 32 (fun K hK => ?_)
         go_simp
         go_at_call 17; (with_reducible refine (prg_changed A8.out.prg).mono ?_); rintro e w9 ⟨ao9, cp9, rfl, hr9, hc9, hb⟩; have A9 := hid (A8.out.later hb); have B9 := hid hb; have hR : ActAt w9 xb (X i).k (X i).n (X i).s (X i).sh := hHeld.keep hb; have I9 := hid hr9; have C9 := hid hc9; clear hr9 hc9; clear hb
         refine hK.out _ _ hR (fun hHeld => ?_)
         clear hK K
         (try simp only [Act.put, sA, sZ, sS])
         refine gk1 34 (fun K hK => ?_)
         go_simp
         go_at_call 18; (with_reducible refine (doc_changed A9.out.ref CL.out).mono ?_); rintro e w10 ⟨ao10, cp10, rfl, hr10, hc10, hb⟩; have A10 := hid (A9.out.later hb); have B10 := hid hb; have hR : ActAt w10 xb (X i).k (X i).n (X i).s (X i).sh := hHeld.keep hb; have I10 := hid hr10; have C10 := hid hc10; have I9 := hid (I9.out.keep hb); clear hr10 hc10; clear hb
         refine hK.out _ _ hR (fun hHeld => ?_)
         clear hK K
         (try simp only [Act.put, sA, sZ, sS])
         refine gk1 35 (fun K hK => ?_)
         go_simp
         go_at_call 16; (with_reducible refine (ints_same ao9 ao10 _ cp9 cp10 T.chg w10 I9.out I10.out CB.out C9.out C10.out).mono ?_); rintro e w11 ⟨rfl, hb⟩; have A11 := hid (A10.out.later hb); have B11 := hid hb; have hR : ActAt w11 xb (X i).k (X i).n (X i).s (X i).sh := hHeld.keep hb; clear hb
         refine hK.out _ _ hR (fun hHeld => ?_)
         clear hK K
         (try simp only [Act.put, sA, sZ, sS])
         refine gkp 36 ?_
         refine gkp 37 ?_
         refine wpAnyK_done (by kernel_rfl) ?_ _
         go_wp2
         go_roundg (gk - 1)
         case measure => omega
         case rel =>
           refine ⟨i + 1, T, by omega, by simp, hid (Both.less ⟨SS, VV, A11.out⟩ (fun _ h => Or.inl h)), hid ?_⟩
           exact ((((((((HST.out.trans (fr_below HB0.out)).trans (fr_below (Below.refl _ _).drew)).trans (S5.out.less (fun _ h => Or.inl h))).trans (fr_below B6.out)).trans (fr_below B7.out)).trans (fr_below B8.out)).trans (fr_below B9.out)).trans (fr_below B10.out)).trans (fr_below B11.out)
       refine AllReadyK.cons (op_at _ 27 _ rfl) (fun K hK => ?_) ?_
       · have yn := A7.out.ref.cells.2.2.2.2.2.2; go_simp; have hR := hHeld
         refine hK.out _ _ hR (fun hHeld => ?_)
         clear hK K
         (try simp only [Act.put, sA, sZ, sS])
         refine gk1 23 (fun K hK => ?_)
         go_simp
         go_at_call 15; (with_reducible refine (prg_commits A7.out.prg).mono ?_); rintro e w8 ⟨rfl, hb⟩; have A8 := hid (A7.out.later hb); have B8 := hid hb; have hR : ActAt w8 xb (X i).k (X i).n (X i).s (X i).sh := hHeld.keep hb; clear hb
         refine hK.out _ _ hR (fun hHeld => ?_)
         clear hK K
         (try simp only [Act.put, sA, sZ, sS])
         refine gkp 28 ?_ (v := .bool false) (h := by intro W hSw; go_simp; first | done | with_reducible rfl | simp)
         refine gkp 29 ?_
         refine gkp 30 ?_
         refine gkp 31 ?_
         refine gkp 33 ?_
         refine gk1 32 (fun K hK => ?_)
         go_simp
         go_at_call 17; (with_reducible refine (prg_changed A8.out.prg).mono ?_); rintro e w9 ⟨ao9, cp9, rfl, hr9, hc9, hb⟩; have A9 := hid (A8.out.later hb); have B9 := hid hb; have hR : ActAt w9 xb (X i).k (X i).n (X i).s (X i).sh := hHeld.keep hb; have I9 := hid hr9; have C9 := hid hc9; clear hr9 hc9; clear hb
         refine hK.out _ _ hR (fun hHeld => ?_)
         clear hK K
         (try simp only [Act.put, sA, sZ, sS])
         refine gk1 34 (fun K hK => ?_)
         go_simp
         go_at_call 18; (with_reducible refine (doc_changed A9.out.ref CL.out).mono ?_); rintro e w10 ⟨ao10, cp10, rfl, hr10, hc10, hb⟩; have A10 := hid (A9.out.later hb); have B10 := hid hb; have hR : ActAt w10 xb (X i).k (X i).n (X i).s (X i).sh := hHeld.keep hb; have I10 := hid hr10; have C10 := hid hc10; have I9 := hid (I9.out.keep hb); clear hr10 hc10; clear hb
         refine hK.out _ _ hR (fun hHeld => ?_)
         clear hK K
         (try simp only [Act.put, sA, sZ, sS])
         refine gk1 35 (fun K hK => ?_)
         go_simp
         go_at_call 16; (with_reducible refine (ints_same ao9 ao10 _ cp9 cp10 T.chg w10 I9.out I10.out CB.out C9.out C10.out).mono ?_); rintro e w11 ⟨rfl, hb⟩; have A11 := hid (A10.out.later hb); have B11 := hid hb; have hR : ActAt w11 xb (X i).k (X i).n (X i).s (X i).sh := hHeld.keep hb; clear hb
         refine hK.out _ _ hR (fun hHeld => ?_)
         clear hK K
         (try simp only [Act.put, sA, sZ, sS])
         refine gkp 36 ?_
         refine gkp 37 ?_
         refine wpAnyK_done (by kernel_rfl) ?_ _
         go_wp2
         go_roundg (gk - 1)
         case measure => omega
         case rel =>
           refine ⟨i + 1, T, by omega, by simp, hid (Both.less ⟨SS, VV, A11.out⟩ (fun _ h => Or.inl h)), hid ?_⟩
           exact ((((((((HST.out.trans (fr_below HB0.out)).trans (fr_below (Below.refl _ _).drew)).trans (S5.out.less (fun _ h => Or.inl h))).trans (fr_below B6.out)).trans (fr_below B7.out)).trans (fr_below B8.out)).trans (fr_below B9.out)).trans (fr_below B10.out)).trans (fr_below B11.out)
       exact AllReadyK.nil
     exact AllReadyK.nil
   · have hiL' : ¬ ((i : Int) < (L : Int)) := by omega
     obtain ⟨SS, VV, hA⟩ := HB.out
     have CR := hid (reopen hA (by omega))
     have HTB := hid hA.tb
     clear hA HB
     obtain ⟨N, hN⟩ : ∃ N, N = t.sure.length := ⟨_, rfl⟩
     have HN := hid hN
     clear hN
     go_wp2_with (first
       | (go_at_call 10; refine CR.out.mono ?_; rintro e w5 ⟨p2, x2, x5, C5, s5, R2, rfl, hp2, hrep, hprg, hRB, hrem, hst⟩; have P2 := hid hp2; have RP := hid hrep; have PG := hid hprg; have RBB := hid hRB; have REM := hid hrem; have ST5 := hid (HST.out.trans hst); clear hp2 hrep hprg hRB hrem hst)
       | (go_at_call 19; have hc : Calls Tryz.prog 19 #[.pointer (some ⟨p2, 0, none⟩)] w5 (fun e w' => e = .returned (.int .i64 0) ∧ Below w5.heap.size w5 w') := (by have hc := replayed_live p2 x2 w5 P2.out; rw [RP.out] at hc; exact hc); refine hc.mono ?_; rintro e w6 ⟨rfl, hb6⟩; have PG6 := hid (PG.out.later0 hb6); have REM6 := hid (REM.out.later hb6); have ST6 := hid (ST5.out.trans (fr_below hb6)); clear hb6)
       | (go_at_call 20; have hc : Calls Tryz.prog 20 #[.pointer (some ⟨p2, 0, none⟩)] w6 (fun e w' => ∃ ao cp, e = .returned (.tuple #[.slice ao N cp, .bool true]) ∧ RdP w' ao N t.sure ∧ N ≤ cp ∧ Rok R2 w6 w') := (by rw [HN.out]; exact pages_any PG6.out (by have := HTB.out.ls; show t.sure.length ≤ _; omega) (by omega)); refine hc.mono ?_; clear hc; rintro e w7 ⟨ao7, cp7, rfl, hr7, hc7, hk7⟩; have R7 := hid hr7; have C7 := hid hc7; have REM7 := hid (REM6.out.rok hk7 RBB.out); have ST7 := hid (ST6.out.trans (fr_imp hk7 (fun b hb => ⟨fun hO => hb.1 (RBB.out b (Or.inr (Or.inr (Or.inr (Or.inr hO))))), hb.2⟩))); obtain ⟨ao2, cap2, e2, hp2, hle2⟩ := rdP_of REM7.out.ref.sure; have y0 := REM7.out.ref.cells.1; rw [e2, ← HN.out] at y0; rw [← HN.out] at hp2 hle2; have P7 := hid hp2; have L7 := hid hle2; clear hr7 hc7 hk7 e2 hp2 hle2)
       | (go_at_call 21; refine (pages_same ao7 ao2 N cp7 cap2 t.sure w7 R7.out P7.out (by have := HTB.out.ls; have := HN.out; omega) C7.out L7.out).mono ?_; rintro e w8 ⟨rfl, hb8⟩; have REM8 := hid (REM7.out.later hb8); have ST8 := hid (ST7.out.trans (fr_below hb8)); have hsl : (s5.l.length : Int) ≤ (rm : Int) := (by have := REM7.out.len; omega); clear hb8)
       | (go_at_call 22; refine (cached_rem p x5 C5 s5 w8 REM8.out.hd REM8.out.ck).mono ?_; rintro e w9 ⟨rfl, hb9⟩; have ST9 := hid (ST8.out.trans (fr_below hb9)); clear hb9)
       | (go_at_call 8; refine (lives_any w9 (HT.out.keep (old_below ST9.out)) (by have := H0.out; have := (old_below ST9.out).size; omega)).mono ?_; rintro e w10 ⟨rfl, hb10⟩; have ST10 := hid (ST9.out.trans (fr_below hb10)); clear hb10))
     go_ret
     exact ⟨rfl, old_below ST10.out⟩
end
end Go.Proofs.YtadhdedjdgjboaaGreatDoor
