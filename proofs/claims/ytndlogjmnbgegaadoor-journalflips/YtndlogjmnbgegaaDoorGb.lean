/- The law JournalFlips, walked; no statement of the seat is proved here. -/
import Derived.Test.YtndlogjmnbgegaaDoorGa
import Derived.Test.YtndlogjmnbgegaaDoorFa
import Derived.Deep.AppendLies
namespace Go.Proofs.YtndlogjmnbgegaaDoor
open Go.RowKit

theorem turn5120 (k : Nat) : ∃ K q r P : Nat, K < 5120 ∧ q < 640 ∧ r < 8 ∧ P < 256 ∧ P ≠ 0 ∧ (k : Int).tmod 5120 = (K : Int) ∧ (K : Int).tdiv 8 = (q : Int) ∧ (K : Int).tmod 8 = (r : Int) ∧ IntKind.u8.wrap (2 ^ r) = (P : Int) := by
  have hK : k % 5120 < 5120 := Nat.mod_lt _ (by omega)
  refine ⟨k % 5120, k % 5120 / 8, k % 5120 % 8, 2 ^ (k % 5120 % 8), hK, by omega, by omega, ?_, ?_, ?_, ?_, ?_, ?_⟩
  · exact Nat.lt_of_lt_of_le (Nat.pow_lt_pow_right (by omega) (show k % 5120 % 8 < 8 by omega)) (by decide)
  · exact Nat.pos_iff_ne_zero.1 (Nat.pow_pos (by omega))
  · rw [Int.tmod_eq_emod_of_nonneg (by omega)]; simp
  · rw [Int.tdiv_eq_ediv_of_nonneg (by omega)]; simp
  · rw [Int.tmod_eq_emod_of_nonneg (by omega)]; simp
  · have : k % 5120 % 8 < 8 := by omega
    generalize k % 5120 % 8 = r at *
    have e : r = 0 ∨ r = 1 ∨ r = 2 ∨ r = 3 ∨ r = 4 ∨ r = 5 ∨ r = 6 ∨ r = 7 := by omega
    rcases e with rfl | rfl | rfl | rfl | rfl | rfl | rfl | rfl <;> decide

theorem turn64 (k n : Nat) (hn : n < 18446744073709551616) : ∃ T Q : Nat, T < 64 ∧ Q = 2 ^ T ∧ (k : Int).tmod 64 = (T : Int) ∧ IntKind.u64.wrap (2 ^ T) = (Q : Int) ∧ bits .xor .u64 (n : Int) (Q : Int) = ((n ^^^ Q : Nat) : Int) := by
  have hT : k % 64 < 64 := by omega
  have hp : 2 ^ (k % 64) < 18446744073709551616 := Nat.lt_of_lt_of_le (Nat.pow_lt_pow_right (by omega) hT) (by decide)
  refine ⟨k % 64, 2 ^ (k % 64), hT, rfl, ?_, ?_, ?_⟩
  · rw [Int.tmod_eq_emod_of_nonneg (by omega)]; simp
  · rw [show ((2 : Int) ^ (k % 64)) = ((2 ^ (k % 64) : Nat) : Int) by simp, IntKind.wrap_u64]
    generalize 2 ^ (k % 64) = Z at *
    omega
  · exact u64_xor_nat n _ hn hp

theorem seeds_one (w : World) (p : Int) (s : Nat) (hs : s < 256) (hp : -9223372036854775808 ≤ p ∧ p ≤ 9223372036854775807) : Seeds (w.alloc (.cells #[.int .i64 p, .int .u8 (s : Int), .bool false] 66)) (some ⟨w.heap.size, 0, none⟩) 1 (fun _ => (p, s, false)) := by
  intro _
  refine ⟨_, _, rfl, fun i hi => ?_⟩
  obtain rfl : i = 0 := by omega
  refine ⟨by simp, by simp, by simp, hs, hp⟩

/-- A record of its own: what RecordBytes makes of a seed's. -/
theorem seed_recs {w : World} {ao : Option Addr} {p : Int} {s : Nat} (h : Recs w ao 1 (fun _ => p) (fun _ => seedD (p, s, false))) : ∃ b off a c, ao = some ⟨b, off, none⟩ ∧ w.cell? ⟨b, off, none⟩ = some (.int .i64 p) ∧ w.cell? ⟨b, off + 1, none⟩ = some (.slice a 512 c) ∧ Rd w a 512 c (List.replicate 512 s) := by
  obtain ⟨b, off, e, hc⟩ := h (by omega)
  obtain ⟨a, n, c, h0, h1, h2⟩ := hc 0 (by omega)
  have hn : n = 512 := by rw [← h2.1, seedD_length]; rfl
  subst hn
  exact ⟨b, off, a, c, e, by simpa using h0, by simpa using h1, h2⟩

theorem SB.keep {W W' : World} {q : Nat} {p : Int} {s : Nat} {l : Bool} (h : SB W q p s l) (hb : Below W.heap.size W W') : SB W' q p s l := by
  unfold SB; rw [hb.block q h.lt]; exact h
theorem SB.keep2 {W W' : World} {q : Nat} {p : Int} {s : Nat} {l : Bool} {o : Obj} (h : SB W q p s l) (hb : Below (W.alloc o).heap.size (W.alloc o) W') : SB W' q p s l := (h.keep (Below.alloc (Below.refl _ _) (Nat.le_refl _) o)).keep hb
theorem SB.under {W W' : World} {q B : Nat} {p : Int} {s : Nat} {l : Bool} (h : SB W q p s l) (hb : Below B W W') (hq : q < B) : SB W' q p s l := by
  unfold SB; rw [hb.block q hq]; exact h

set_option maxHeartbeats 2000000 in
theorem flips_bad (p : Int) (s : Nat) (l : Bool) (n k : Int) (w : World) (hs : s < 256) (hp : -9223372036854775808 ≤ p ∧ p ≤ 9223372036854775807) (h : p < 1 ∨ 4000 < p) :
    Calls Tryd.prog 7 #[.agg #[.int .i64 p, .int .u8 (s : Int), .bool l], .int .u64 n, .int .u64 k] w fun e w' => e = .returned (.bool true) ∧ Below w.heap.size w w' := by
  have hg : rgood p 512 = false := by rw [Bool.eq_false_iff, Ne, rgood_iff]; omega
  have lv := hid lives_any
  obtain ⟨W1, hW1⟩ : ∃ W1, W1 = w.alloc (.cells #[.int .i64 p, .int .u8 (s : Int), .bool false] 66) := ⟨_, rfl⟩
  have S1 : Hid (SB W1 w.heap.size p s false) := hid (by rw [hW1]; exact heap_alloc_new w _)
  have A1 : Hid (Below w.heap.size w W1) := hid (by rw [hW1]; exact Below.alloc (Below.refl _ _) (Nat.le_refl _) _)
  have cr := hid (records_any (some ⟨W1.heap.size, 0, none⟩) 1 1 (fun _ => (p, s, false)) _ (seeds_one W1 p s hs hp) (by omega))
  have hg' := hid hg
  have h' := hid h
  clear hg h
  go_enter Tryd.func7, Tryd.ntmps7
  go_upto_region 2 with fail
  rw [← hW1]
  have hW1' := hid hW1
  clear hW1
  obtain ⟨a0, a1, a2⟩ := S1.out.cells
  go_upto_region 3 with (go_at_call 9; refine cr.out.mono ?_; rintro e w2 ⟨ao, cap, rfl, hr, hb2⟩; obtain ⟨b, off, ar, cr2, rfl, c0, c1, rd⟩ := seed_recs hr; have S2 := hid (SB.keep2 S1.out hb2); have B2 := hid (gt2 A1.out hb2); have R2 := hid rd; clear hb2 hr rd a0 a1 a2)
  obtain ⟨W3, hW3⟩ : ∃ W3, W3 = w2.alloc (.cells #[.int .i64 p, .slice ar 512 cr2] 32) := ⟨_, rfl⟩
  rw [← hW3]
  have A3 : Below w2.heap.size w2 W3 := by rw [hW3]; exact Below.alloc (Below.refl _ _) (Nat.le_refl _) _
  have Y3 : Hid (RB 32 W3 w2.heap.size p ar 512 cr2) := hid (by rw [hW3]; exact heap_alloc_new w2 _)
  have S3 := hid (S2.out.keep A3)
  have B3 := hid (gt B2.out A3)
  have R3 := hid (R2.out.keep A3)
  clear hW3 A3 c0 c1
  obtain ⟨y0, y1, _, _⟩ := Y3.out.cells
  have hlt3 := Y3.out.lt
  have hne3 : ¬ w2.heap.size = W3.heap.size := by omega
  go_wp2_with (first
    | (go_at_call 10; refine (rec_no p n ar 512 cr2 _ hg'.out).mono ?_; rintro e w4 ⟨rfl, hb4⟩; have S4 := hid (SB.keep2 S3.out hb4); have B4 := hid (gt2 B3.out hb4); have O4 := hid (row_later (World.ownsRow_made (base := W3.heap.size) (e := 5) (size := 1) W3 #[] 0 (Nat.le_refl _) (by decide) rfl) hb4); have hs4 : W3.heap.size ≤ w4.heap.size := (by have := hb4.size; simp at this; omega); clear hb4 y0 y1)
    | ((with_reducible refine here_op 24 ?_); refine wpList_append_rd rfl (.tmp 20) (.tmp 23) rfl W3.heap.size _ 0 [] rfl O4.out none 0 0 [] rfl (Rd.nil _) (by omega) hs4 ?_; intro v5 w5 ho5 hb5; obtain ⟨ao5, cap5, rfl, _⟩ := rd_owned ho5; have B5 := hid (B4.out.trans (hb5.mono B3.out.size)); have S5 := hid (S4.out.under hb5 S3.out.lt); obtain ⟨a0, a1, a2⟩ := S5.out.cells; clear ho5 hb5; rcases h'.out with h1 | h1)
    | (go_at_call 8; refine (lv.out _).mono ?_; rintro e w9 ⟨rfl, h9⟩; obtain rfl := h9.symm))
  all_goals
    go_ret
    exact ⟨rfl, B5.out⟩

theorem rdR_no {xs : List Nat} {n : Nat} (hl : 640 ≤ xs.length) (h : isRec xs n = false) : rdR xs n = ((0, []), 9) := by
  unfold rdR
  rw [if_neg (by omega), if_neg (by rw [h]; simp)]

set_option maxHeartbeats 4000000 in
set_option maxRecDepth 20000 in
theorem flips_good (p : Nat) (s : Nat) (l : Bool) (n k : Nat) (w : World) (hT : Tab w) (hs : s < 256) (hp1 : 1 ≤ p) (hp2 : p ≤ 4000) (hn : n < 18446744073709551616) :
    Calls Tryd.prog 7 #[.agg #[.int .i64 (p : Int), .int .u8 (s : Int), .bool l], .int .u64 (n : Int), .int .u64 (k : Int)] w fun e w' => e = .returned (.bool true) ∧ Below w.heap.size w w' := by
  have lv := hid lives_any
  have hT' := hid hT
  obtain ⟨K, q, r, P, hK, hq, hr, hP, hP0, e1, e2, e3, e4⟩ := turn5120 k
  obtain ⟨T, Q, hT64, hQ, e5, e6, e7⟩ := turn64 k n hn
  obtain ⟨X, hX⟩ : ∃ X, X = recN p n (List.replicate 512 s) := ⟨_, rfl⟩
  have hd : ∀ x ∈ List.replicate 512 s, x < 256 := fun x h => by have := List.eq_of_mem_replicate h; omega
  have hXb : ∀ x ∈ X, x < 256 := by rw [hX]; exact recN_bytes p n hd
  have hXl : X.length = 640 := by rw [hX, recN_length, List.length_replicate]
  obtain ⟨c, hc⟩ : ∃ c, c = X.getD q 0 := ⟨_, rfl⟩
  have hc8 : c < 256 := by rw [hc]; exact getD_lt hXb q (by omega)
  obtain ⟨d, hdv⟩ : ∃ d, d = c ^^^ P := ⟨_, rfl⟩
  have hd8 : d < 256 := by rw [hdv]; exact Nat.xor_lt_two_pow (n := 8) hc8 hP
  have x1 : bits .xor .u8 (c : Int) (P : Int) = (d : Int) := by rw [u8_xor_nat c P hc8 hP, hdv]
  have x2 : bits .xor .u8 (d : Int) (P : Int) = (c : Int) := by
    rw [u8_xor_nat d P hd8 hP, hdv, Nat.xor_assoc, Nat.xor_self, Nat.xor_zero]
  have hne : d ≠ c := fun e => hP0 (by
    have h2 := congrArg (fun n => c ^^^ n) (hdv.symm.trans e)
    simp only [xor_cancel, Nat.xor_self] at h2
    exact h2)
  have no1 : Hid (rdR (X.set q d) n = ((0, []), 9)) := hid (rdR_no (by simp; omega) (by rw [hX]; exact flip_no p n _ (by omega) List.length_replicate hd q d hq hd8 (by rw [← hX, ← hc]; exact hne)))
  have no2 : Hid (rdR X (n ^^^ Q) = ((0, []), 9)) := hid (rdR_no (by omega) (by rw [hX, hQ]; exact nonce_no p n T _ (by omega) List.length_replicate hd hT64))
  have hYb := hid (set_bytes hXb q d hd8)
  have hback : Hid ((X.set q d).set q c = X) := hid (by rw [List.set_set, hc]; apply List.ext_getElem (by simp); intro i h1 h2; rw [List.getElem_set]; split; (next h => subst h; simp [List.getD, List.getElem?_eq_getElem h2]); rfl)
  have hgq : Hid ((X.set q d).getD q 0 = d) := hid (getD_set X q d (by omega))
  have hc' := hid hc
  have hX' := hid hX
  have hXb' := hid hXb
  have hXl' := hid hXl
  have hd' := hid hd
  generalize n ^^^ Q = m at *
  obtain ⟨W1, hW1⟩ : ∃ W1, W1 = w.alloc (.cells #[.int .i64 (p : Int), .int .u8 (s : Int), .bool false] 66) := ⟨_, rfl⟩
  have S1 : Hid (SB W1 w.heap.size p s false) := hid (by rw [hW1]; exact heap_alloc_new w _)
  have A1 : Hid (Below w.heap.size w W1) := hid (by rw [hW1]; exact Below.alloc (Below.refl _ _) (Nat.le_refl _) _)
  have cr := hid (records_any (some ⟨W1.heap.size, 0, none⟩) 1 1 (fun _ => ((p : Int), s, false)) _ (seeds_one W1 p s hs (by omega)) (by omega))
  have t1 : Hid True := hid trivial
  clear hT hc hX hXb hXl hd hdv hne hQ hP0 hn
  go_enter Tryd.func7, Tryd.ntmps7
  go_upto_region 2 with fail
  rw [← hW1]
  have hW1' := hid hW1
  clear hW1
  obtain ⟨a0, a1, a2⟩ := S1.out.cells
  go_upto_region 3 with (go_at_call 9; refine cr.out.mono ?_; rintro e w2 ⟨ao, cap, rfl, hr, hb2⟩; obtain ⟨b, off, ar, cr2, rfl, c0, c1, rd⟩ := seed_recs hr; have S2 := hid (SB.keep2 S1.out hb2); have B2 := hid (gt2 A1.out hb2); have R2 := hid rd; clear hb2 hr rd a0 a1 a2)
  obtain ⟨W3, hW3⟩ : ∃ W3, W3 = w2.alloc (.cells #[.int .i64 (p : Int), .slice ar 512 cr2] 32) := ⟨_, rfl⟩
  rw [← hW3]
  have A3 : Below w2.heap.size w2 W3 := by rw [hW3]; exact Below.alloc (Below.refl _ _) (Nat.le_refl _) _
  have Y3 : Hid (RB 32 W3 w2.heap.size p ar 512 cr2) := hid (by rw [hW3]; exact heap_alloc_new w2 _)
  have S3 := hid (S2.out.keep A3)
  have B3 := hid (gt B2.out A3)
  have R3 := hid (R2.out.keep A3)
  clear hW3 A3 c0 c1
  obtain ⟨y0, y1, _, _⟩ := Y3.out.cells
  have hlt3 := Y3.out.lt
  have hne3 : ¬ w2.heap.size = W3.heap.size := by omega
  go_wp2_with (first
    | (go_at_call 10; refine (rec_yes p n ar cr2 _ _ (hT'.out.keep (Below.alloc B3.out B3.out.size _)) (R3.out.keep (Below.alloc (Below.refl _ _) (Nat.le_refl _) _)) hd'.out hp1 hp2).mono ?_; rw [← hX'.out]; rintro e w4 ⟨g4, rfl, ho4, hb4⟩; have B4 := hid (gt2 B3.out hb4); have O4 := hid (row_later (World.ownsRow_made (base := W3.heap.size) (e := 5) (size := 1) W3 #[] 0 (Nat.le_refl _) (by decide) rfl) hb4); have hs4 : W3.heap.size ≤ w4.heap.size := (by have := hb4.size; simp at this; omega); have R4 := hid (rd_own ho4); clear hb4 ho4 y0 y1)
    | ((with_reducible refine here_op 24 ?_); refine wpList_append_rd rfl (.tmp 20) (.tmp 23) rfl W3.heap.size _ 0 [] rfl O4.out (some ⟨g4, 0, none⟩) 640 640 X rfl R4.out (by omega) hs4 ?_; intro v5 w5 ho5 hb5; rw [Nat.zero_add, List.nil_append] at ho5; have B5 := hid (B4.out.trans (hb5.mono B3.out.size)); obtain ⟨g5, cx, hv, hg1, hg2⟩ := ho5.form (by omega); subst hv; have hg5w : w.heap.size ≤ g5 := (by have := B3.out.size; omega); have k5 := ho5.cellAt q (by omega); rw [bs_get X q (by have := hXl'.out; omega), ← hc'.out] at k5; have f5 := ho5.frozenAt q; replace ho5 := hid ho5; clear hb5)
    | (go_at_call 23; clear t1; refine (rrec_all (some ⟨g5, 0, none⟩) 640 cx (X.set q d) n _ (rd_own (own_store ho5.out q d)) hYb.out (by omega) (hT'.out.keep (Below.setCell B5.out hg5w _))).mono ?_; rw [no1.out]; rintro e w6 ⟨a6, c6, rfl, _, hb6⟩; have O6 := hid (row_later (own_store ho5.out q d) hb6); have B6 := hid (gt (Below.setCell B5.out hg5w _) hb6); have k6 := O6.out.cellAt q (by omega); rw [bs_get _ q (by simp; have := hXl'.out; omega), hgq.out] at k6; have f6 := O6.out.frozenAt q; have hg6 : g5 < w6.heap.size := (O6.out.lt g5 rfl).2; have hne6 : ¬ g5 = w6.heap.size := (by omega); clear hb6 k5 f5)
    | (go_at_call 23; have O7 := own_store O6.out q c; rw [hback.out] at O7; refine (rrec_all (some ⟨g5, 0, none⟩) 640 cx X m _ (rd_own (O7.alloc _)) hXb'.out (by omega) (hT'.out.keep (Below.alloc (Below.setCell B6.out hg5w _) (by simp; exact B6.out.size) _))).mono ?_; rw [no2.out]; rintro e w8 ⟨a8, c8, rfl, _, hb8⟩; have B8 := hid (gt (Below.alloc (Below.setCell B6.out hg5w _) (by simp; exact B6.out.size) _) hb8); clear hb8 k6 f6)
    | (go_at_call 8; refine (lv.out _).mono ?_; rintro e w9 ⟨rfl, h9⟩; obtain rfl := h9.symm))
  go_ret
  exact ⟨rfl, Below.alloc B8.out B8.out.size _⟩

theorem flips_law (p : Int) (s : Nat) (l : Bool) (n k : Nat) (w : World) (hT : Tab w) (hs : s < 256) (hp : -9223372036854775808 ≤ p ∧ p ≤ 9223372036854775807) (hn : n < 18446744073709551616) :
    Calls Tryd.prog 7 #[.agg #[.int .i64 p, .int .u8 (s : Int), .bool l], .int .u64 (n : Int), .int .u64 (k : Int)] w fun e w' => e = .returned (.bool true) ∧ Below w.heap.size w w' := by
  by_cases h : p < 1 ∨ 4000 < p
  · exact flips_bad p s l n k w hs hp h
  · obtain ⟨p, rfl⟩ : ∃ k : Nat, p = (k : Int) := ⟨p.toNat, by omega⟩
    exact flips_good p s l n k w hT hs (by omega) (by omega) hn

end Go.Proofs.YtndlogjmnbgegaaDoor
