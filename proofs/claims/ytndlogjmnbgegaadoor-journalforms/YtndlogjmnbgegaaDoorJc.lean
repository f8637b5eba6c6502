/- What the document's own RecordBytes returns; no statement of the seat is proved here. -/
import Derived.Test.YtndlogjmnbgegaaDoorEb
import Derived.Test.YtndlogjmnbgegaaDoorDa
import Derived.Test.YtndlogjmnbgegaaDoorJb
import Derived.Deep.RegionHeld3
import Derived.Deep.DeepCutAuto
namespace Go.Proofs.YtndlogjmnbgegaaDoor
open Go.RowKit

set_option maxHeartbeats 1000000 in
theorem rrecb_no (p : Int) (n : Int) (ao : Option Addr) (k cap : Nat) (w : World) (h : rgood p k = false) :
    Calls Tryd.prog 11 #[.agg #[.int .i64 p, .slice ao k cap], .int .u64 n] w fun e w' => e = .returned (.slice none 0 0) ∧ Below w.heap.size w w' := by
  have hng : ¬ (1 ≤ p ∧ p ≤ 4000 ∧ k = 512) := fun hh => by rw [(rgood_iff p k).2 (by omega)] at h; cases h
  have hcase : p < 1 ∨ (¬ p < 1 ∧ 4000 < p) ∨ (¬ p < 1 ∧ ¬ 4000 < p ∧ ¬ (k : Int) = 512) := by omega
  clear h hng
  rcases hcase with h | ⟨h, h1⟩ | ⟨h, h1, h2⟩
  · go_enter Tryd.func11, Tryd.ntmps11
    go_wp2
    go_ret
    exact ⟨rfl, Below.alloc (Below.refl _ _) (Nat.le_refl _) _⟩
  · go_enter Tryd.func11, Tryd.ntmps11
    go_wp2
    go_ret
    exact ⟨rfl, Below.alloc (Below.refl _ _) (Nat.le_refl _) _⟩
  · have h3 : ((k : Int) == 512) = false := by simp; omega
    have h4 : ((k : Int) != 512) = true := by simp; omega
    go_enter Tryd.func11, Tryd.ntmps11
    go_wp2
    go_ret
    exact ⟨rfl, Below.alloc (Below.refl _ _) (Nat.le_refl _) _⟩

theorem rec_join (p n : Nat) (d : List Nat) : (([] ++ putN p 4 false) ++ putN n 8 false) ++ d = rec12 p n ++ d := rfl
theorem rec_end (p n : Nat) (d : List Nat) : ((([] ++ putN p 4 false) ++ putN (addN 0 (rec12 p n ++ d)) 4 false) ++ List.replicate (128 - 8) 0) ++ d = recN p n d := rfl

/-- What a region reads of a record's box. -/
abbrev S1 (x : Addr) (a : Option Addr) (n c : Nat) (W : World) : Prop := W.cell? x = some (.slice a n c)

set_option maxHeartbeats 2000000 in
theorem rrecb_yes (p n : Nat) (ao : Option Addr) (cap : Nat) (d : List Nat) (w : World) (h : Rd w ao 512 cap d) (hd : ∀ x ∈ d, x < 256) (hp : 1 ≤ p) (hp2 : p ≤ 4000) :
    Calls Tryd.prog 11 #[.agg #[.int .i64 (p : Int), .slice ao 512 cap], .int .u64 (n : Int)] w fun e w' => Own w.heap.size (recN p n d) 640 e w' ∧ Below w.heap.size w w' := by
  have g1 : ¬ (p : Int) < 1 := by omega
  have g2 : ¬ (4000 : Int) < (p : Int) := by omega
  have h' := hid h
  have hd' := hid hd
  have q0 := hid (RB.new 35 w (p : Int) ao 512 cap)
  have A0 : Hid (Below w.heap.size w (w.alloc (.cells #[.int .i64 (p : Int), .slice ao 512 cap] 35))) := hid (Below.alloc (Below.refl _ _) (Nat.le_refl _) _)
  have hs4 : Hid (min (max (4 : Int) 0) 8 = ((4 : Nat) : Int)) := hid (by decide)
  have hs8 : Hid (min (max (8 : Int) 0) 8 = ((8 : Nat) : Int)) := hid (by decide)
  have hbl : Hid (∀ x ∈ rec12 p n ++ d, x < 256) := hid (app_bytes (rec12_bytes _ _) hd)
  clear h hd
  go_enter Tryd.func11, Tryd.ntmps11
  go_upto_region 4 with (go_at_call 33; refine (rput_k none 0 0 4 [] p 4 4 _ (Rd.nil _) (by omega) hs4.out (by omega)).mono ?_; rintro e w1 ⟨⟨a1, c1, rfl, _, r1⟩, hb1⟩; have Q1 := hid (q0.out.keep hb1); have B1 := hid (gt A0.out hb1); have R1 := hid r1; clear hb1 r1)
  have x1 : S1 ⟨w.heap.size, 1, none⟩ ao 512 cap w1.drew := (Q1.out.keep (Below.refl _ _).drew).cells.2.1
  go_region_held3 (S1 ⟨w.heap.size, 1, none⟩ ao 512 cap) (with_reducible assumption) (first
    | (refine step_append_rd rfl (.tmp 27) (.tmp 29) rfl w1.heap.size _ 12 _ (by simp [Act.eval]) O2.out ao 512 cap d (by simp [Act.eval]) (h'.out.keep B2.out) (by omega) hs2 ?_; intro v3 w3 ho3 hb3; have Q3 := hid (Q2.out.under hb3 Q1.out.lt); have B3 := hid (B2.out.trans (hb3.mono B1.out.size)); have R13 := hid ((R1.out.keep (F2.out.trans hb3))); obtain ⟨a3, c3, rfl, r3⟩ := rd_owned ho3; replace r3 : Hid (Rd w3 a3 524 c3 (rec12 p n ++ d)) := hid r3; clear ho3 hb3; have x3 : S1 ⟨w.heap.size, 1, none⟩ ao 512 cap w3 := Q3.out.cells.2.1)
    | (go_at_call 33; refine (rput_k a1 4 c1 12 _ n 8 8 _ (R1.out.keep (Below.refl _ _).drew) (by omega) hs8.out (by omega)).mono ?_; rintro e w2 ⟨⟨a2, c2, rfl, o2, _⟩, hb2⟩; replace hb2 := undrew hb2; have hs2 := hb2.size; have Q2 := hid (Q1.out.keep hb2); have B2 := hid (gt B1.out hb2); have F2 := hid hb2; have O2 : Hid (w2.ownsRow w1.heap.size 5 1 (.slice a2 12 c2) 12 _) := hid o2; clear hb2 o2; have x2 : S1 ⟨w.heap.size, 1, none⟩ ao 512 cap w2 := Q2.out.cells.2.1))
  clear x1 x2 x3
  go_upto_region 5 with fail
  have x3 : S1 ⟨w.heap.size, 1, none⟩ ao 512 cap w3.drew := (Q3.out.keep (Below.refl _ _).drew).cells.2.1
  go_region_held3 (S1 ⟨w.heap.size, 1, none⟩ ao 512 cap) (with_reducible assumption) (first
    | (refine step_append_rd rfl (.tmp 34) (.tmp 36) rfl w3.heap.size _ 128 _ (by simp [Act.eval]) O5.out ao 512 cap d (by simp [Act.eval]) (h'.out.keep B5.out) (by omega) hs5 ?_; rw [rec_end]; intro v6 w6 ho6 hb6; have Q6 := hid (Q5.out.under hb6 Q3.out.lt); have B6 := hid (B5.out.trans (hb6.mono B3.out.size)); obtain ⟨a6, c6, rfl, r6⟩ := rd_owned ho6; have O6 := hid (own_base ho6 B3.out.size); replace r6 := hid r6; clear ho6 hb6; have x6 : S1 ⟨w.heap.size, 1, none⟩ ao 512 cap w6 := Q6.out.cells.2.1)
    | (go_at_call 35; refine (rsum_any a1 4 c1 8 _ a3 524 c3 _ _ (R13.out.keep (Below.refl _ _).drew) (r3.out.keep (Below.refl _ _).drew) hbl.out (by omega) (by omega) (by omega)).mono ?_; rintro e w4 ⟨⟨a4, c4, rfl, o4, _⟩, hb4⟩; replace hb4 := undrew hb4; have hs4 := hb4.size; have Q4 := hid (Q3.out.keep hb4); have B4 := hid (gt B3.out hb4); have O4 : Hid (w4.ownsRow w3.heap.size 5 1 (.slice a4 8 c4) 8 _) := hid o4; clear hb4 o4; have x4 : S1 ⟨w.heap.size, 1, none⟩ ao 512 cap w4 := Q4.out.cells.2.1)
    | (go_at_call 34; refine (fill_any a4 8 c4 w3.heap.size _ _ O4.out (by omega) hs4).mono ?_; rintro e w5 ⟨⟨a5, c5, rfl, o5, _⟩, hb5⟩; have hs5 := Nat.le_trans hs4 hb5.size; have Q5 := hid (Q4.out.under hb5 Q3.out.lt); have B5 := hid (B4.out.trans (hb5.mono B3.out.size)); have O5 : Hid (w5.ownsRow w3.heap.size 5 1 (.slice a5 128 c5) 128 _) := hid o5; clear hb5 o5; have x5 : S1 ⟨w.heap.size, 1, none⟩ ao 512 cap w5 := Q5.out.cells.2.1))
  clear x3 x4 x5 x6
  go_wp2
  go_ret
  exact ⟨⟨a6, c6, rfl, O6.out, r6.out⟩, B6.out⟩

end Go.Proofs.YtndlogjmnbgegaaDoor
