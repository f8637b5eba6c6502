/- What a copy of a disk is; no statement of the seat is proved here. -/
import Derived.Test.YtkgenmooepfhjaaBm
namespace Go.Proofs.Ytkgenmooepfhjaa
open Go.RowKit Go.Maps

theorem ix61 (x0 x1 x2 x3 x4 x5 : Value) (W : World) : (Instr.index 61 (.agg #[x0, x1, x2, x3, x4, x5]) (.int .i64 0)).run Try.prog W = .ok (.agg #[x0, x1, x2]) W ∧ (Instr.index 61 (.agg #[x0, x1, x2, x3, x4, x5]) (.int .i64 1)).run Try.prog W = .ok (.agg #[x3, x4, x5]) W := ⟨by kernel_rfl, by kernel_rfl⟩

structure QAt (W : World) (q : Nat) (X : Nat → Value) : Prop where
  c : ∀ i, i < 12 → W.cell? ⟨q, i, none⟩ = some (X i)
  z : ∀ i, W.frozen? ⟨q, i, none⟩ = false
theorem QAt.keep {W W' : World} {q : Nat} {X : Nat → Value} (h : QAt W q X) (hb : Below W.heap.size W W') : QAt W' q X :=
  ⟨fun i hi => keep_old hb (h.c i hi), fun i => (keep_frozen (a := ⟨q, i, none⟩) hb (show q < W.heap.size from lt_cell (h.c 0 (by omega)))).trans (h.z i)⟩
theorem QAt.set {W : World} {q : Nat} {X : Nat → Value} (h : QAt W q X) (j : Nat) (hj : j < 12) (v : Value) : QAt (W.setCell ⟨q, j, none⟩ v) q (fun i => if i = j then v else X i) := by
  refine ⟨fun i hi => ?_, fun i => by rw [World.frozen?_setCell]; exact h.z i⟩
  by_cases e : i = j
  · subst e; rw [if_pos rfl]; exact set_same (h.c i hi)
  · rw [if_neg e, set_off _ _ _ (Ne.symm e)]; exact h.c i hi
theorem QAt.plt {W : World} {q : Nat} {X : Nat → Value} (h : QAt W q X) : q < W.heap.size := lt_cell (h.c 0 (by omega))

/-- Three cells of a block are set: nothing else turns. -/
theorem set3_block (W : World) (q a b c k : Nat) (x y z : Value) (h : k ≠ q) : (((W.setCell ⟨q, a, none⟩ x).setCell ⟨q, b, none⟩ y).setCell ⟨q, c, none⟩ z).heap[k]? = W.heap[k]? := by
  rw [set_heap _ _ _ _ _ h, set_heap _ _ _ _ _ h, set_heap _ _ _ _ _ h]

set_option maxHeartbeats 4000000 in
set_option maxRecDepth 20000 in
theorem copy_call (p : Nat) (P : Parts) (d : DS) (w : World) (h : DiskP w p P d) :
    Calls Try.prog 20 #[.pointer (some ⟨p, 0, none⟩)] w fun e w' => e = .returned (.pointer (some ⟨w.heap.size, 0, none⟩)) ∧ (∃ P', DiskP w' w.heap.size P' d ∧ ∀ k, P'.all k → w.heap.size < k) ∧ Below w.heap.size w w' := by
  have cm := hid (made_yes p d.room w h.c0 h.ok.r1)
  have hpl := h.f0.plt
  obtain ⟨L0, hL0⟩ : ∃ L, L = d.f0.now.length := ⟨_, rfl⟩
  obtain ⟨L1, hL1⟩ : ∃ L, L = d.f1.now.length := ⟨_, rfl⟩
  obtain ⟨LK, hLK⟩ : ∃ L, L = d.keep.length := ⟨_, rfl⟩
  have c0 := h.c0; have c1 := h.c1; have c2 := h.c2; have c3 := h.f0.c0; have c4 := h.f0.c1; have c5 := h.f0.c2; have c6 := h.f1.c0; have c7 := h.f1.c1; have c8 := h.f1.c2; have c9 := h.c9; have c10 := h.c10; have c11 := h.c11
  rw [← hL0] at c3; rw [← hL1] at c6; rw [← hLK] at c10
  obtain ⟨w1, hw1⟩ : ∃ w1, w1 = w.alloc (.cells #[.int .i64 (d.room : Int), .bool d.off, .int .i64 (d.ops : Int), .slice P.a0 L0 P.k0, .int .i64 (d.f0.old.length : Int), .map (some P.m0), .slice P.a1 L1 P.k1, .int .i64 (d.f1.old.length : Int), .map (some P.m1), .int .i64 (d.left : Int), .slice P.ko LK P.kc, .int .i64 d.torn] 63) := ⟨_, rfl⟩
  have hb1 : Below w.heap.size w w1 := by rw [hw1]; exact (Below.refl _ _).alloc (Nat.le_refl _) _
  have h1 := h.later hb1
  have cb' := clone_bools P.ko P.kc d.keep w1 h1.rk (by have := h.ok.kl; omega)
  rw [← hLK] at cb'
  have CB := hid cb'
  have HW1 := hid hw1; have HB1 := hid hb1; have H := hid h; have H1 := hid h1; have HL0 := hid hL0; have HL1 := hid hL1; have HLK := hid hLK
  have hpq : ¬ p = w.heap.size := by omega
  have ix := ix61
  clear h h1 hb1 cb' hL0 hL1 hLK
  obtain ⟨X1, hX1⟩ : ∃ X1 : Nat → Value, X1 = fun i => (#[.int .i64 (d.room : Int), .bool d.off, .int .i64 (d.ops : Int), .slice P.a0 L0 P.k0, .int .i64 (d.f0.old.length : Int), .map (some P.m0), .slice P.a1 L1 P.k1, .int .i64 (d.f1.old.length : Int), .map (some P.m1), .int .i64 (d.left : Int), .slice P.ko LK P.kc, .int .i64 d.torn] : Array Value).getD i undef := ⟨_, rfl⟩
  have hq1 : QAt w1 w.heap.size X1 := by
    refine ⟨fun i hi => ?_, fun i => by rw [hw1, World.frozen?_alloc_at _ _ _ _ rfl]⟩
    rw [hw1, World.cell?_alloc_at _ _ _ _ rfl, hX1]
    have hsz : i < (#[.int .i64 (d.room : Int), .bool d.off, .int .i64 (d.ops : Int), .slice P.a0 L0 P.k0, .int .i64 (d.f0.old.length : Int), .map (some P.m0), .slice P.a1 L1 P.k1, .int .i64 (d.f1.old.length : Int), .map (some P.m1), .int .i64 (d.left : Int), .slice P.ko LK P.kc, .int .i64 d.torn] : Array Value).size := hi
    rw [Array.getElem?_eq_getElem hsz]
    simp only [Array.getD, hsz, dif_pos]
    rfl
  have z1 : w1.heap.size = w.heap.size + 1 := by rw [hw1]; simp
  have HX1 := hid hX1; have HQ1 := hid hq1; have Z1 := hid z1
  clear hw1 hX1 hq1 z1
  go_enter Try.func20, Try.ntmps20
  go_wp2_with (first
    | (go_at_call 46; refine cm.out.mono ?_; rintro e wx ⟨rfl, hwx⟩; obtain rfl := hwx.symm; clear cm)
    | (go_at_call 48; rw [← HW1.out]; refine CB.out.mono ?_; rintro e w2 ⟨ko', kc', rfl, hrd2, hab2, hb2⟩; clear CB; have h2 := H1.out.later hb2; have e3 := h2.f0.c0; have e4 := h2.f0.c1; have e5 := h2.f0.c2; have e6 := h2.f1.c0; have e7 := h2.f1.c1; have e8 := h2.f1.c2; rw [← HL0.out] at e3; rw [← HL1.out] at e6; have hq2 := HQ1.out.keep hb2; have q10 := hq2.c 10 (by omega); have f10 := hq2.z 10; replace hrd2 := hid hrd2; replace hab2 := hid hab2; replace hb2 := hid hb2; replace h2 := hid h2; replace hq2 := hid hq2; clear c3 c4 c5 c6 c7 c8))
  obtain ⟨W3, hW3⟩ : ∃ W3, W3 = w2.setCell ⟨w.heap.size, 10, none⟩ (.slice ko' LK kc') := ⟨_, rfl⟩
  rw [← hW3]
  have b3 : ∀ k, k ≠ w.heap.size → W3.heap[k]? = w2.heap[k]? := fun k hk => by rw [hW3]; exact set_heap _ _ _ _ _ hk
  have z3 : W3.heap.size = w2.heap.size := by rw [hW3]; simp
  have hq3 := hq2.out.set 10 (by omega) (.slice ko' LK kc')
  rw [← hW3] at hq3
  have o3 : W3.os = w2.os ∧ W3.tape = w2.tape ∧ W3.output = w2.output := by rw [hW3]; exact ⟨rfl, rfl, rfl⟩
  have fb3 : Below w.heap.size w W3 := (HB1.out.trans (hb2.out.mono (by have := Z1.out; omega))).trans ⟨o3.1, o3.2.1, o3.2.2, by omega, fun k hk => b3 k (by omega)⟩
  clear hW3 o3
  have h3 := h2.out.stay (w' := W3) (by omega) (fun k hk hx => b3 k (by rcases hx with h | h; have := all_lt H.out h; omega; omega))
  -- file 0
  obtain ⟨W4, hW4⟩ : ∃ W4, W4 = W3.alloc (.cells #[.slice P.a0 L0 P.k0, .int .i64 (d.f0.old.length : Int), .map (some P.m0)] 60) := ⟨_, rfl⟩
  have hb4 : Below W3.heap.size W3 W4 := by rw [hW4]; exact (Below.refl _ _).alloc (Nat.le_refl _) _
  have h4 := h3.later hb4
  have hq4 := hq3.keep hb4
  have r1 := h4.ok.r2; have r2 := h4.ok.sum
  have cc' := copied_any P.a0 P.k0 P.m0 _ (d.f0.old.length : Int) d.f0.now _ W4 h4.ok.ok0.sn (by omega) h4.f0.row h4.f0.map
  rw [← HL0.out] at cc'
  have CC := hid cc'
  have HW4 := hid hW4; have HQ4 := hid hq4; have H4 := hid h4; have HB4 := hid hb4; have FB3 := hid fb3; have HR1 := hid r1; have HR2 := hid r2
  clear cc' hW4 hq4 h4 hb4 hq3 h3 fb3 q10 f10 r1 r2
  refine wp_loop_rounds 3 ?_
  rw [rounds_succ]
  go_wp2_with (go_at_call 49; rw [← HW4.out]; refine CC.out.mono ?_; rintro e w5 ⟨ao0, cap0, m0, rfl, hr5, hm5, hab5, hmb5, hb5⟩; clear CC; have hq5 := HQ4.out.keep hb5; have v3 := hq5.c 3 (by omega); have v4 := hq5.c 4 (by omega); have v5 := hq5.c 5 (by omega); have f3 := hq5.z 3; have f4 := hq5.z 4; have f5 := hq5.z 5; replace hr5 := hid hr5; replace hm5 := hid hm5; replace hab5 := hid hab5; replace hb5 := hid hb5; replace hq5 := hid hq5)
  obtain ⟨W6, hW6⟩ : ∃ W6, W6 = ((w5.setCell ⟨w.heap.size, 3, none⟩ (.slice ao0 L0 cap0)).setCell ⟨w.heap.size, 4, none⟩ (.int .i64 (d.f0.old.length : Int))).setCell ⟨w.heap.size, 5, none⟩ (.map (some m0)) := ⟨_, rfl⟩
  rw [← hW6]
  have b6 : ∀ k, k ≠ w.heap.size → W6.heap[k]? = w5.heap[k]? := fun k hk => by rw [hW6]; exact set3_block _ _ _ _ _ _ _ _ _ hk
  have z6 : W6.heap.size = w5.heap.size := by rw [hW6]; simp
  have hq6 := ((hq5.out.set 3 (by omega) (.slice ao0 L0 cap0)).set 4 (by omega) (.int .i64 (d.f0.old.length : Int))).set 5 (by omega) (.map (some m0))
  rw [← hW6] at hq6
  have o6 : W6.os = w5.os ∧ W6.tape = w5.tape ∧ W6.output = w5.output := by rw [hW6]; exact ⟨rfl, rfl, rfl⟩
  have zz3 : w.heap.size < W3.heap.size := by have := Z1.out; have := hb2.out.size; omega
  have zz4 := HB4.out.size; have zz5 := hb5.out.size
  have fb6 : Below w.heap.size w W6 := ((FB3.out.trans (HB4.out.mono (by omega))).trans (hb5.out.mono (by omega))).trans ⟨o6.1, o6.2.1, o6.2.2, by omega, fun k hk => b6 k (by omega)⟩
  have h6 := (H4.out.later hb5.out).stay (w' := W6) (by omega) (fun k hk hx => b6 k (by rcases hx with h | h; have := all_lt H.out h; omega; omega))
  have row6 : W6.ownsRow 0 80 128 (.slice ao0 L0 cap0) L0 (secs d.f0.now) := row_stay hr5.out (fun a ha => b6 _ (by have := (hab5.out a ha).1; omega))
  have map6 : W6.ownsMap Try.prog 3 secR m0 (idx d.f0.dirt).length (dirtD d.f0.dirt d.f0.old) := map_stay hm5.out (b6 _ (by omega))
  have b36 : ∀ k, k < w2.heap.size → k ≠ w.heap.size → W6.heap[k]? = w2.heap[k]? := fun k hk hne => (((b6 k hne).trans (hb5.out.block k (by omega))).trans (HB4.out.block k (by omega))).trans (b3 k hne)
  have B36 := hid b36
  clear hW6 o6 b36
  -- file 1
  obtain ⟨W7, hW7⟩ : ∃ W7, W7 = W6.alloc (.cells #[.slice P.a1 L1 P.k1, .int .i64 (d.f1.old.length : Int), .map (some P.m1)] 60) := ⟨_, rfl⟩
  have hb7 : Below W6.heap.size W6 W7 := by rw [hW7]; exact (Below.refl _ _).alloc (Nat.le_refl _) _
  have h7 := h6.later hb7
  have hq7 := hq6.keep hb7
  have r1 := HR1.out; have r2 := HR2.out
  have cc' := copied_any P.a1 P.k1 P.m1 _ (d.f1.old.length : Int) d.f1.now _ W7 h7.ok.ok1.sn (by omega) h7.f1.row h7.f1.map
  rw [← HL1.out] at cc'
  have CC := hid cc'
  have HW7 := hid hW7; have HQ7 := hid hq7; have HB7 := hid hb7; have FB6 := hid fb6; have ROW6 := hid row6; have MAP6 := hid map6; have Z6 := hid z6; have ZZ : Hid (w.heap.size < W3.heap.size ∧ W3.heap.size ≤ W4.heap.size ∧ W4.heap.size ≤ w5.heap.size ∧ w5.heap.size ≤ W6.heap.size) := hid ⟨zz3, zz4, zz5, by omega⟩
  clear cc' hW7 hq7 h7 hb7 hq6 h6 fb6 row6 map6 r1 r2 v3 v4 v5 f3 f4 f5 zz3 zz4 zz5 z6 b6
  rw [rounds_succ]
  go_wp2_with (go_at_call 49; rw [← HW7.out]; refine CC.out.mono ?_; rintro e w8 ⟨ao1, cap1, m1, rfl, hr8, hm8, hab8, hmb8, hb8⟩; clear CC; have hq8 := HQ7.out.keep hb8; have v3 := hq8.c 6 (by omega); have v4 := hq8.c 7 (by omega); have v5 := hq8.c 8 (by omega); have f3 := hq8.z 6; have f4 := hq8.z 7; have f5 := hq8.z 8; replace hr8 := hid hr8; replace hm8 := hid hm8; replace hab8 := hid hab8; replace hb8 := hid hb8; replace hq8 := hid hq8)
  obtain ⟨W9, hW9⟩ : ∃ W9, W9 = ((w8.setCell ⟨w.heap.size, 6, none⟩ (.slice ao1 L1 cap1)).setCell ⟨w.heap.size, 7, none⟩ (.int .i64 (d.f1.old.length : Int))).setCell ⟨w.heap.size, 8, none⟩ (.map (some m1)) := ⟨_, rfl⟩
  rw [← hW9]
  have b9 : ∀ k, k ≠ w.heap.size → W9.heap[k]? = w8.heap[k]? := fun k hk => by rw [hW9]; exact set3_block _ _ _ _ _ _ _ _ _ hk
  have z9 : W9.heap.size = w8.heap.size := by rw [hW9]; simp
  have hq9 := ((hq8.out.set 6 (by omega) (.slice ao1 L1 cap1)).set 7 (by omega) (.int .i64 (d.f1.old.length : Int))).set 8 (by omega) (.map (some m1))
  rw [← hW9] at hq9
  have o9 : W9.os = w8.os ∧ W9.tape = w8.tape ∧ W9.output = w8.output := by rw [hW9]; exact ⟨rfl, rfl, rfl⟩
  have zz := ZZ.out; have zz7 := HB7.out.size; have zz8 := hb8.out.size; have z6 := Z6.out
  have fb9 : Below w.heap.size w W9 := ((FB6.out.trans (HB7.out.mono (by omega))).trans (hb8.out.mono (by omega))).trans ⟨o9.1, o9.2.1, o9.2.2, by omega, fun k hk => b9 k (by omega)⟩
  have b69 : ∀ k, k < W6.heap.size → k ≠ w.heap.size → W9.heap[k]? = W6.heap[k]? := fun k hk hne => ((b9 k hne).trans (hb8.out.block k (by omega))).trans (HB7.out.block k hk)
  have HQ9 := hid hq9; have HB9 := hid b9; have Z9 := hid z9; have FB9 := hid fb9; have B69 := hid b69
  clear hW9 o9 hq9 b9 z9 fb9 b69 v3 v4 v5 f3 f4 f5
  rw [rounds_succ]
  go_wp2
  go_ret
  have z1 := Z1.out; have z9 := Z9.out; have zb2 := hb2.out.size
  have q := HQ9.out
  have hx := HX1.out
  subst hx
  have hok := H.out.ok
  have l0 := HL0.out; have l1 := HL1.out; have lk := HLK.out
  subst l0; subst l1; subst lk
  refine ⟨rfl, ⟨⟨fun k => W4.heap.size ≤ k ∧ k < W6.heap.size, fun k => W7.heap.size ≤ k ∧ k < W9.heap.size, fun k => w1.heap.size ≤ k ∧ k < w2.heap.size, ao0, ao1, ko', cap0, cap1, kc', m0, m1⟩, ⟨q.c 0 (by omega), q.c 1 (by omega), q.c 2 (by omega), q.c 9 (by omega), q.c 10 (by omega), q.c 11 (by omega), q.z, ⟨q.c 3 (by omega), q.c 4 (by omega), q.c 5 (by omega), q.z 3, q.z 4, q.z 5, ?_, ?_, ?_, ?_, ?_⟩, ⟨q.c 6 (by omega), q.c 7 (by omega), q.c 8 (by omega), q.z 6, q.z 7, q.z 8, ?_, ?_, ?_, ?_, ?_⟩, ?_, ?_, ?_, ?_, ?_, ?_, ?_, hok⟩, ?_⟩, FB9.out⟩
  · exact row_stay ROW6.out (fun a ha => B69.out _ (row_lt ROW6.out a ha) (by have := (hab5.out a ha).1; omega))
  · exact map_stay MAP6.out (B69.out m0 MAP6.out.lt (by omega))
  · show ¬ (W4.heap.size ≤ w.heap.size ∧ _); omega
  · intro a ha; have := row_lt ROW6.out a ha; have := (hab5.out a ha).1; exact ⟨by omega, by omega⟩
  · have := MAP6.out.lt; exact ⟨(by omega : W4.heap.size ≤ m0), this⟩
  · exact row_stay hr8.out (fun a ha => HB9.out _ (by have := (hab8.out a ha).1; omega))
  · exact map_stay hm8.out (HB9.out m1 (by omega))
  · show ¬ (W7.heap.size ≤ w.heap.size ∧ _); omega
  · intro a ha; have := hab8.out a ha; exact ⟨by omega, by omega⟩
  · have := hm8.out.lt; exact ⟨(by omega : W7.heap.size ≤ m1), (by omega : m1 < W9.heap.size)⟩
  · intro hp
    obtain ⟨b, off, e, hc⟩ := hrd2.out hp
    have hbk := hab2.out _ e
    refine ⟨b, off, e, fun t ht => (World.cell?_of_block (a := ⟨b, off + t, none⟩) (?_ : W9.heap[b]? = w2.heap[b]?)).trans (hc t ht)⟩
    have hbk1 : w1.heap.size ≤ b := hbk.1
    have hbk2 : b < w2.heap.size := hbk.2
    exact (B69.out b (by omega) (by omega)).trans (B36.out b hbk2 (by omega))
  · intro hp a ha; exact hab2.out a ha
  · rintro k ⟨h1, h2⟩ ⟨h3, h4⟩; omega
  · rintro k ⟨h1, h2⟩; refine ⟨fun h => ?_, fun h => ?_, ?_⟩
    · have := h.1; omega
    · have := h.1; omega
    · omega
  · rintro k ⟨h1, h2⟩; omega
  · rintro k ⟨h1, h2⟩; exact h2
  · rintro k ⟨h1, h2⟩; omega
  · rintro k (h | h | h)
    · have := h.1; omega
    · have := h.1; omega
    · have := h.1; omega

end Go.Proofs.Ytkgenmooepfhjaa
