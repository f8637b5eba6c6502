/- What Cut does to a disk; no statement of the seat is proved here. -/
import Derived.Test.YtokofpbhbjbnfaaGreatDoorG20
namespace Go.Proofs.YtokofpbhbjbnfaaGreatDoor.Dsk
open Go.RowKit Go.Maps

/-- What Cut answers, and the disk behind it. -/
def cutD (d : DS) (f n : Int) : Int × DS :=
  if d.off then (4, d) else if !known f then (11, d) else if n < 0 ∨ ((d.file f).now.length : Int) < n then (11, d)
  else if d.left = 1 then (4, crashD (opsD d) d.keep d.torn) else (0, (tickD d).put f (cutF (d.file f) n.toNat))

set_option maxHeartbeats 1000000 in
theorem cut_off (p : Nat) (P : Parts) (d : DS) (f n : Int) (w : World) (h : DiskP w p P d) (hx : d.off = true ∨ known f = false) :
    Calls Tryz.prog 104 #[.pointer (some ⟨p, 0, none⟩), .int .i64 f, .int .i64 n] w fun e w' => e = .returned (.int .i64 (if d.off then 4 else 11)) ∧ Below w.heap.size w w' := by
  obtain ⟨w3, hw3⟩ : ∃ w3, w3 = w.alloc (.cells #[.int .i64 n] 3) := ⟨_, rfl⟩
  have hb : Below w.heap.size w w3 := by rw [hw3]; exact (by repeat (first | with_reducible exact Below.refl _ _ | with_reducible assumption | with_reducible refine Below.drew ?_ | with_reducible refine below_drewN ?_ _ | with_reducible refine Below.alloc ?_ (by simp <;> omega) _ | with_reducible refine Below.setCell ?_ (by simp <;> omega) _))
  have HB := hid hb
  have c : Calls Tryz.prog 102 #[.pointer (some ⟨p, 0, none⟩), .int .i64 f] w3 fun e w' => e = .returned (.int .i64 (if d.off then 4 else 11)) ∧ w' = w3 := by
    cases ho : d.off
    · have hk : known f = false := by rcases hx with h | h; rw [ho] at h; cases h; exact h
      have := fault_on p P d f _ (h.later hb) ho
      rw [hk] at this; exact this
    · exact fault_off p P d f _ (h.later hb) ho
  obtain ⟨r, hr, hr0⟩ : ∃ r : Int, r = (if d.off then 4 else 11) ∧ (r == 0) = false := ⟨_, rfl, by cases d.off <;> rfl⟩
  rw [← hr] at c ⊢
  have C := hid c; have HW3 := hid hw3
  clear c hb h hx hr hw3
  go_enter Tryz.func104, Tryz.ntmps104
  go_wp2_with (go_at_call 102; rw [← HW3.out]; refine C.out.mono ?_; rintro e wx ⟨rfl, hwx⟩; obtain rfl := hwx)
  go_ret
  exact ⟨rfl, HB.out⟩

set_option maxHeartbeats 2000000 in
theorem cutd1_0 (p : Nat) (P : Parts) (d : DS) (xf xn n : Nat) (w : World) (h : DiskP w p P d) (cf : w.cell? ⟨xf, 0, none⟩ = some (.pointer (some ⟨p, 3, none⟩))) (cn : w.cell? ⟨xn, 0, none⟩ = some (.int .i64 (n : Int))) (hn : n ≤ d.f0.now.length) :
    Calls Tryz.prog 129 #[.pointer (some ⟨xf, 0, none⟩), .pointer (some ⟨xn, 0, none⟩)] w fun e w' => ∃ x, e = .returned (.int .i64 x) ∧ (x = 0 ∧ (∃ P', DiskP w' p P' (d.put 0 (cutF d.f0 n)) ∧ Grew P w P') ∧ DFrame w w' p P.all) := by
  have cs := cut_any p 3 P.k0 P.m0 n P.S0 P.a0 d.f0 w h.f0 h.ok.ok0 hn
  have CS := hid cs; have H := hid h
  clear h cs
  go_enter Tryz.func129, Tryz.ntmps129
  go_wp2_with (go_at_call 130; refine CS.out.mono ?_; rintro e w2 ⟨rfl, hF2, hfr2⟩; replace hF2 := hid hF2; replace hfr2 := hid hfr2)
  go_ret
  have hfr := hfr2.out
  have hlen := cutF_now d.f0 n hn
  have hok : (d.put 0 (cutF d.f0 n)).Ok := ⟨H.out.ok.r1, H.out.ok.r2, by have := H.out.ok.sum; show (cutF d.f0 n).now.length + d.f1.now.length ≤ d.room; omega, cutF_ok H.out.ok.ok0 hn, H.out.ok.ok1, H.out.ok.kl, H.out.ok.tn, H.out.ok.lf, H.out.ok.op⟩
  exact ⟨0, rfl, rfl, ⟨_, H.out.file0 hF2.out hfr hok, fun k hk => by rcases hk with (h | h) | h | h; exact Or.inl (Or.inl h); exact Or.inr h.1; exact Or.inl (Or.inr (Or.inl h)); exact Or.inl (Or.inr (Or.inr h))⟩, hfr.df.imp (fun _ _ h => Or.inl h)⟩

set_option maxHeartbeats 4000000 in
theorem cutd_0 (p : Nat) (P : Parts) (d : DS) (n : Int) (w : World) (h : DiskP w p P d) (ho : d.off = false) (hop : d.ops < 1000000000) :
    Calls Tryz.prog 104 #[.pointer (some ⟨p, 0, none⟩), .int .i64 0, .int .i64 n] w fun e w' => e = .returned (.int .i64 (cutD d 0 n).1) ∧ (∃ P', DiskP w' p P' (cutD d 0 n).2 ∧ Grew P w P') ∧ DFrame w w' p P.all := by
  obtain ⟨w3, hw3⟩ : ∃ w3, w3 = w.alloc (.cells #[.int .i64 n] 3) := ⟨_, rfl⟩
  have hb3 : Below w.heap.size w w3 := by rw [hw3]; exact (by repeat (first | with_reducible exact Below.refl _ _ | with_reducible assumption | with_reducible refine Below.drew ?_ | with_reducible refine below_drewN ?_ _ | with_reducible refine Below.alloc ?_ (by simp <;> omega) _ | with_reducible refine Below.setCell ?_ (by simp <;> omega) _))
  have hpl := h.f0.plt
  have h3 := h.later hb3
  have cf := fault_on p P d 0 w3 h3 ho
  rw [show known 0 = true from rfl, if_pos rfl] at cf
  have k5 : w3.cell? ⟨w.heap.size, 0, none⟩ = some (.int .i64 n) := by rw [hw3, World.cell?_alloc_at _ _ _ _ rfl]; rfl
  have z3 : w3.heap.size = w.heap.size + 1 := by rw [hw3]; simp
  obtain ⟨w4, hw4⟩ : ∃ w4, w4 = w3.alloc (.cells #[.pointer (some ⟨p, 3, none⟩)] 108) := ⟨_, rfl⟩
  have hb4 : Below w3.heap.size w3 w4 := by rw [hw4]; exact (Below.refl _ _).alloc (Nat.le_refl _) _
  have h4 := h3.later hb4
  have k5' := keep_old hb4 k5
  have k8 : w4.cell? ⟨w3.heap.size, 0, none⟩ = some (.pointer (some ⟨p, 3, none⟩)) := by rw [hw4, World.cell?_alloc_at _ _ _ _ rfl]; rfl
  have c3 := h4.f0.c0
  have CF := hid cf; have H := hid h; have H4 := hid h4; have HB := hid (gt hb3 hb4); have HW3 := hid hw3; have HW4 := hid hw4; have Z3 := hid z3
  have hr2 := h.ok.r2; have hsum := h.ok.sum
  have hfile : d.file 0 = d.f0 := rfl
  have K5 := hid k5'; have K8 := hid k8
  clear h h3 h4 hb3 hb4 cf z3 hw3 hw4
  obtain ⟨L, hLL⟩ : ∃ L, L = d.f0.now.length := ⟨_, rfl⟩
  rw [← hLL] at c3
  have hlb : L ≤ 32768 := by omega
  have HLL := hid hLL
  have hwd : cutD d 0 n = if n < 0 ∨ (L : Int) < n then (11, d) else if d.left = 1 then (4, crashD (opsD d) d.keep d.torn) else (0, (tickD d).put 0 (cutF d.f0 n.toNat)) := by
    simp only [cutD, ho, hfile, ← hLL]; rfl
  rw [hwd]
  clear hwd hLL hfile
  by_cases hneg : n < 0
  · rw [if_pos (Or.inl hneg)]
    go_enter Tryz.func104, Tryz.ntmps104
    go_wp2_with (go_at_call 102; rw [← HW3.out]; refine CF.out.mono ?_; rintro e wx ⟨rfl, hwx⟩; obtain rfl := hwx; clear CF)
    rw [← HW4.out]
    go_quiet (fail)
    go_wp2
    go_ret
    exact ⟨rfl, ⟨P, H4.out.drawn nq, fun k hk => Or.inl hk⟩, (DFrame.below HB.out).drawn nq⟩
  · have hneg' : decide (n < 0) = false := by simp; omega
    by_cases hbig : (L : Int) < n
    · rw [if_pos (Or.inr hbig)]
      go_enter Tryz.func104, Tryz.ntmps104
      go_wp2_with (go_at_call 102; rw [← HW3.out]; refine CF.out.mono ?_; rintro e wx ⟨rfl, hwx⟩; obtain rfl := hwx; clear CF)
      rw [← HW4.out]
      go_quiet (fail)
      go_wp2
      go_ret
      exact ⟨rfl, ⟨P, H4.out.drawn nq, fun k hk => Or.inl hk⟩, (DFrame.below HB.out).drawn nq⟩
    · have hbig' : decide ((L : Int) < n) = false := by simp; omega
      rw [if_neg (by omega)]
      have hz : w.heap.size ≤ w4.heap.size := HB.out.size
      by_cases hl1 : d.left = 1
      · rw [if_pos hl1]
        have co := fun k => operate_crash p P d (.func (.func 129) #[] #[.pointer (some ⟨w3.heap.size, 0, none⟩), .pointer (some ⟨w.heap.size, 0, none⟩)]) (w4.drewN k) (H4.out.drawn k) ho hl1 hop
        have CO := hid co
        clear co
        go_enter Tryz.func104, Tryz.ntmps104
        go_wp2_with (go_at_call 102; rw [← HW3.out]; refine CF.out.mono ?_; rintro e wx ⟨rfl, hwx⟩; obtain rfl := hwx; clear CF)
        rw [← HW4.out]
        go_quiet (fail)
        go_wp2_with (go_at_call 128; refine (CO.out _).mono ?_; rintro e w9 ⟨rfl, ⟨P', hd9, hg9⟩, hf9⟩; replace hd9 := hid hd9; replace hg9 := hid hg9; replace hf9 := hid hf9)
        go_ret
        exact ⟨rfl, ⟨P', hd9.out, fun k hk => by rcases hg9.out k hk with h | h; exact Or.inl h; exact Or.inr (Nat.le_trans hz h)⟩, ((DFrame.below HB.out).drawn nq).trans (hf9.out.imp (fun _ _ h => Or.inl h))⟩
      · rw [if_neg hl1]
        obtain ⟨A, rfl⟩ := Int.eq_ofNat_of_zero_le (show 0 ≤ n by omega)
        rw [Int.toNat_natCast]
        have hAL : A ≤ d.f0.now.length := by rw [← HLL.out]; omega
        have co := fun k => operate_do p P d 129 #[.pointer (some ⟨w3.heap.size, 0, none⟩), .pointer (some ⟨w.heap.size, 0, none⟩)] (w4.drewN k) (H4.out.drawn k) hl1 hop (enters_of Tryz.func129 (by kernel_rfl) rfl)
          (fun x w' => x = 0 ∧ (∃ P', DiskP w' p P' ((tickD d).put 0 (cutF d.f0 A)) ∧ Grew P w P') ∧ DFrame w w' p P.all) (fun w1 h1 hf1 => by
            have hz3 : w.heap.size + 1 = w3.heap.size := Z3.out.symm
            have hfw : DFrame w w1 p P.all := ((DFrame.below HB.out).drawn k).trans (hf1.imp (fun _ _ h => h.elim))
            have cw := cutd1_0 p P (tickD d) w3.heap.size w.heap.size A w1 h1
              (hf1.cellAt (w := w4.drewN k) K8.out (by show w3.heap.size ≠ p; omega) (fun h => h)) (hf1.cellAt (w := w4.drewN k) K5.out (by show w.heap.size ≠ p; omega) (fun h => h)) hAL
            refine cw.mono ?_
            rintro e w2 ⟨x, rfl, hx, ⟨P', hd, hg⟩, hf⟩
            refine ⟨x, rfl, hx, ⟨P', hd, fun k hk => ?_⟩, hfw.trans (hf.imp (fun _ _ h => Or.inl h))⟩
            rcases hg k hk with h | h
            · exact Or.inl h
            · exact Or.inr (Nat.le_trans hfw.size h))
        have CO := hid co
        clear co
        go_enter Tryz.func104, Tryz.ntmps104
        go_wp2_with (go_at_call 102; rw [← HW3.out]; refine CF.out.mono ?_; rintro e wx ⟨rfl, hwx⟩; obtain rfl := hwx; clear CF)
        rw [← HW4.out]
        go_quiet (fail)
        go_wp2_with (go_at_call 128; refine (CO.out _).mono ?_; rintro e w9 ⟨x, rfl, hx, hd9, hf9⟩; replace hx := hid hx; replace hd9 := hid hd9; replace hf9 := hid hf9)
        go_ret
        exact ⟨by rw [← hx.out]; rfl, hd9.out, hf9.out⟩

set_option maxHeartbeats 2000000 in
theorem cutd1_1 (p : Nat) (P : Parts) (d : DS) (xf xn n : Nat) (w : World) (h : DiskP w p P d) (cf : w.cell? ⟨xf, 0, none⟩ = some (.pointer (some ⟨p, 6, none⟩))) (cn : w.cell? ⟨xn, 0, none⟩ = some (.int .i64 (n : Int))) (hn : n ≤ d.f1.now.length) :
    Calls Tryz.prog 129 #[.pointer (some ⟨xf, 0, none⟩), .pointer (some ⟨xn, 0, none⟩)] w fun e w' => ∃ x, e = .returned (.int .i64 x) ∧ (x = 0 ∧ (∃ P', DiskP w' p P' (d.put 1 (cutF d.f1 n)) ∧ Grew P w P') ∧ DFrame w w' p P.all) := by
  have cs := cut_any p 6 P.k1 P.m1 n P.S1 P.a1 d.f1 w h.f1 h.ok.ok1 hn
  have CS := hid cs; have H := hid h
  clear h cs
  go_enter Tryz.func129, Tryz.ntmps129
  go_wp2_with (go_at_call 130; refine CS.out.mono ?_; rintro e w2 ⟨rfl, hF2, hfr2⟩; replace hF2 := hid hF2; replace hfr2 := hid hfr2)
  go_ret
  have hfr := hfr2.out
  have hlen := cutF_now d.f1 n hn
  have hok : (d.put 1 (cutF d.f1 n)).Ok := ⟨H.out.ok.r1, H.out.ok.r2, by have := H.out.ok.sum; show d.f0.now.length + (cutF d.f1 n).now.length ≤ d.room; omega, H.out.ok.ok0, cutF_ok H.out.ok.ok1 hn, H.out.ok.kl, H.out.ok.tn, H.out.ok.lf, H.out.ok.op⟩
  exact ⟨0, rfl, rfl, ⟨_, H.out.file1 hF2.out hfr hok, fun k hk => by rcases hk with h | (h | h) | h; exact Or.inl (Or.inl h); exact Or.inl (Or.inr (Or.inl h)); exact Or.inr h.1; exact Or.inl (Or.inr (Or.inr h))⟩, hfr.df.imp (fun _ _ h => Or.inr (Or.inl h))⟩

set_option maxHeartbeats 4000000 in
theorem cutd_1 (p : Nat) (P : Parts) (d : DS) (n : Int) (w : World) (h : DiskP w p P d) (ho : d.off = false) (hop : d.ops < 1000000000) :
    Calls Tryz.prog 104 #[.pointer (some ⟨p, 0, none⟩), .int .i64 1, .int .i64 n] w fun e w' => e = .returned (.int .i64 (cutD d 1 n).1) ∧ (∃ P', DiskP w' p P' (cutD d 1 n).2 ∧ Grew P w P') ∧ DFrame w w' p P.all := by
  obtain ⟨w3, hw3⟩ : ∃ w3, w3 = w.alloc (.cells #[.int .i64 n] 3) := ⟨_, rfl⟩
  have hb3 : Below w.heap.size w w3 := by rw [hw3]; exact (by repeat (first | with_reducible exact Below.refl _ _ | with_reducible assumption | with_reducible refine Below.drew ?_ | with_reducible refine below_drewN ?_ _ | with_reducible refine Below.alloc ?_ (by simp <;> omega) _ | with_reducible refine Below.setCell ?_ (by simp <;> omega) _))
  have hpl := h.f0.plt
  have h3 := h.later hb3
  have cf := fault_on p P d 1 w3 h3 ho
  rw [show known 1 = true from rfl, if_pos rfl] at cf
  have k5 : w3.cell? ⟨w.heap.size, 0, none⟩ = some (.int .i64 n) := by rw [hw3, World.cell?_alloc_at _ _ _ _ rfl]; rfl
  have z3 : w3.heap.size = w.heap.size + 1 := by rw [hw3]; simp
  obtain ⟨w4, hw4⟩ : ∃ w4, w4 = w3.alloc (.cells #[.pointer (some ⟨p, 6, none⟩)] 108) := ⟨_, rfl⟩
  have hb4 : Below w3.heap.size w3 w4 := by rw [hw4]; exact (Below.refl _ _).alloc (Nat.le_refl _) _
  have h4 := h3.later hb4
  have k5' := keep_old hb4 k5
  have k8 : w4.cell? ⟨w3.heap.size, 0, none⟩ = some (.pointer (some ⟨p, 6, none⟩)) := by rw [hw4, World.cell?_alloc_at _ _ _ _ rfl]; rfl
  have c3 := h4.f1.c0
  have CF := hid cf; have H := hid h; have H4 := hid h4; have HB := hid (gt hb3 hb4); have HW3 := hid hw3; have HW4 := hid hw4; have Z3 := hid z3
  have hr2 := h.ok.r2; have hsum := h.ok.sum
  have hfile : d.file 1 = d.f1 := rfl
  have K5 := hid k5'; have K8 := hid k8
  clear h h3 h4 hb3 hb4 cf z3 hw3 hw4
  obtain ⟨L, hLL⟩ : ∃ L, L = d.f1.now.length := ⟨_, rfl⟩
  rw [← hLL] at c3
  have hlb : L ≤ 32768 := by omega
  have HLL := hid hLL
  have hwd : cutD d 1 n = if n < 0 ∨ (L : Int) < n then (11, d) else if d.left = 1 then (4, crashD (opsD d) d.keep d.torn) else (0, (tickD d).put 1 (cutF d.f1 n.toNat)) := by
    simp only [cutD, ho, hfile, ← hLL]; rfl
  rw [hwd]
  clear hwd hLL hfile
  by_cases hneg : n < 0
  · rw [if_pos (Or.inl hneg)]
    go_enter Tryz.func104, Tryz.ntmps104
    go_wp2_with (go_at_call 102; rw [← HW3.out]; refine CF.out.mono ?_; rintro e wx ⟨rfl, hwx⟩; obtain rfl := hwx; clear CF)
    rw [← HW4.out]
    go_quiet (fail)
    go_wp2
    go_ret
    exact ⟨rfl, ⟨P, H4.out.drawn nq, fun k hk => Or.inl hk⟩, (DFrame.below HB.out).drawn nq⟩
  · have hneg' : decide (n < 0) = false := by simp; omega
    by_cases hbig : (L : Int) < n
    · rw [if_pos (Or.inr hbig)]
      go_enter Tryz.func104, Tryz.ntmps104
      go_wp2_with (go_at_call 102; rw [← HW3.out]; refine CF.out.mono ?_; rintro e wx ⟨rfl, hwx⟩; obtain rfl := hwx; clear CF)
      rw [← HW4.out]
      go_quiet (fail)
      go_wp2
      go_ret
      exact ⟨rfl, ⟨P, H4.out.drawn nq, fun k hk => Or.inl hk⟩, (DFrame.below HB.out).drawn nq⟩
    · have hbig' : decide ((L : Int) < n) = false := by simp; omega
      rw [if_neg (by omega)]
      have hz : w.heap.size ≤ w4.heap.size := HB.out.size
      by_cases hl1 : d.left = 1
      · rw [if_pos hl1]
        have co := fun k => operate_crash p P d (.func (.func 129) #[] #[.pointer (some ⟨w3.heap.size, 0, none⟩), .pointer (some ⟨w.heap.size, 0, none⟩)]) (w4.drewN k) (H4.out.drawn k) ho hl1 hop
        have CO := hid co
        clear co
        go_enter Tryz.func104, Tryz.ntmps104
        go_wp2_with (go_at_call 102; rw [← HW3.out]; refine CF.out.mono ?_; rintro e wx ⟨rfl, hwx⟩; obtain rfl := hwx; clear CF)
        rw [← HW4.out]
        go_quiet (fail)
        go_wp2_with (go_at_call 128; refine (CO.out _).mono ?_; rintro e w9 ⟨rfl, ⟨P', hd9, hg9⟩, hf9⟩; replace hd9 := hid hd9; replace hg9 := hid hg9; replace hf9 := hid hf9)
        go_ret
        exact ⟨rfl, ⟨P', hd9.out, fun k hk => by rcases hg9.out k hk with h | h; exact Or.inl h; exact Or.inr (Nat.le_trans hz h)⟩, ((DFrame.below HB.out).drawn nq).trans (hf9.out.imp (fun _ _ h => Or.inl h))⟩
      · rw [if_neg hl1]
        obtain ⟨A, rfl⟩ := Int.eq_ofNat_of_zero_le (show 0 ≤ n by omega)
        rw [Int.toNat_natCast]
        have hAL : A ≤ d.f1.now.length := by rw [← HLL.out]; omega
        have co := fun k => operate_do p P d 129 #[.pointer (some ⟨w3.heap.size, 0, none⟩), .pointer (some ⟨w.heap.size, 0, none⟩)] (w4.drewN k) (H4.out.drawn k) hl1 hop (enters_of Tryz.func129 (by kernel_rfl) rfl)
          (fun x w' => x = 0 ∧ (∃ P', DiskP w' p P' ((tickD d).put 1 (cutF d.f1 A)) ∧ Grew P w P') ∧ DFrame w w' p P.all) (fun w1 h1 hf1 => by
            have hz3 : w.heap.size + 1 = w3.heap.size := Z3.out.symm
            have hfw : DFrame w w1 p P.all := ((DFrame.below HB.out).drawn k).trans (hf1.imp (fun _ _ h => h.elim))
            have cw := cutd1_1 p P (tickD d) w3.heap.size w.heap.size A w1 h1
              (hf1.cellAt (w := w4.drewN k) K8.out (by show w3.heap.size ≠ p; omega) (fun h => h)) (hf1.cellAt (w := w4.drewN k) K5.out (by show w.heap.size ≠ p; omega) (fun h => h)) hAL
            refine cw.mono ?_
            rintro e w2 ⟨x, rfl, hx, ⟨P', hd, hg⟩, hf⟩
            refine ⟨x, rfl, hx, ⟨P', hd, fun k hk => ?_⟩, hfw.trans (hf.imp (fun _ _ h => Or.inl h))⟩
            rcases hg k hk with h | h
            · exact Or.inl h
            · exact Or.inr (Nat.le_trans hfw.size h))
        have CO := hid co
        clear co
        go_enter Tryz.func104, Tryz.ntmps104
        go_wp2_with (go_at_call 102; rw [← HW3.out]; refine CF.out.mono ?_; rintro e wx ⟨rfl, hwx⟩; obtain rfl := hwx; clear CF)
        rw [← HW4.out]
        go_quiet (fail)
        go_wp2_with (go_at_call 128; refine (CO.out _).mono ?_; rintro e w9 ⟨x, rfl, hx, hd9, hf9⟩; replace hx := hid hx; replace hd9 := hid hd9; replace hf9 := hid hf9)
        go_ret
        exact ⟨by rw [← hx.out]; rfl, hd9.out, hf9.out⟩

theorem cut_call (p : Nat) (P : Parts) (d : DS) (f n : Int) (w : World) (h : DiskP w p P d) (hop : d.ops < 1000000000) :
    Calls Tryz.prog 104 #[.pointer (some ⟨p, 0, none⟩), .int .i64 f, .int .i64 n] w fun e w' => e = .returned (.int .i64 (cutD d f n).1) ∧ (∃ P', DiskP w' p P' (cutD d f n).2 ∧ Grew P w P') ∧ DFrame w w' p P.all := by
  by_cases hx : d.off = true ∨ known f = false
  · have e : cutD d f n = (if d.off then 4 else 11, d) := by
      unfold cutD
      rcases hx with h | h
      · simp [h]
      · cases d.off <;> simp [h]
    rw [e]
    refine (cut_off p P d f n w h hx).mono ?_
    rintro e w' ⟨rfl, hb'⟩
    exact ⟨rfl, ⟨P, h.later hb', fun k hk => Or.inl hk⟩, DFrame.below hb'⟩
  · have ho : d.off = false := by cases h' : d.off; rfl; exact absurd (Or.inl h') hx
    have hk : known f = true := by cases h' : known f; exact absurd (Or.inr h') hx; rfl
    rcases known_cases hk with rfl | rfl
    · exact cutd_0 p P d n w h ho hop
    · exact cutd_1 p P d n w h ho hop

end Go.Proofs.YtokofpbhbjbnfaaGreatDoor.Dsk

/- What Arm does to a disk; no statement of the seat is proved here. -/
namespace Go.Proofs.YtokofpbhbjbnfaaGreatDoor.Dsk
open Go.RowKit Go.Maps

/-- What Arm leaves. -/
def armD (d : DS) (n : Int) (keep : List Bool) (t : Int) : DS := if n < 0 then d else if n = 0 then disarmD d else { d with left := n.toNat, keep := keep, torn := t }

def Reads9 (B : Nat) (ko : Option Addr) (LK kc : Nat) (t : Int) (W : World) : Prop := W.cell? ⟨B, 0, none⟩ = some (.slice ko LK kc) ∧ W.cell? ⟨B, 1, none⟩ = some (.int .i64 t)

theorem rdB_stay {w w' : World} {ko : Option Addr} {xs : List Bool} (h : RdB w ko xs) (hb : 0 < xs.length → ∀ a, ko = some a → a.block < w.heap.size → w'.heap[a.block]? = w.heap[a.block]?) : RdB w' ko xs := by
  intro hp
  obtain ⟨b, off, e, hc⟩ := h hp
  exact ⟨b, off, e, fun t ht => (World.cell?_of_block (a := ⟨b, off + t, none⟩) (hb hp ⟨b, off, none⟩ e (show b < _ from lt_cell (hc t ht)))).trans (hc t ht)⟩

theorem rdB_lt {w : World} {ko : Option Addr} {xs : List Bool} (h : RdB w ko xs) (hp : 0 < xs.length) : ∀ a, ko = some a → a.block < w.heap.size := by
  intro a ha
  obtain ⟨b, off, e, hc⟩ := h hp
  rw [ha] at e; cases e
  exact lt_cell (hc 0 hp)

theorem off_drew {w w' : World} {p : Nat} {S : Nat → Prop} (h : DFrame w.drew w' p S) : DFrame w w' p S := ⟨h.os, h.tape, h.output, h.size, h.block⟩

set_option maxHeartbeats 1000000 in
theorem arm_neg (p : Nat) (P : Parts) (d : DS) (n : Int) (v : Value) (w : World) (h : DiskP w p P d) (hn : n < 0) (a b : Value) (hv : v = .agg #[a, b]) :
    Calls Tryz.prog 23 #[.pointer (some ⟨p, 0, none⟩), .int .i64 n, v] w fun e w' => e = .returned (.int .i64 2) ∧ Below w.heap.size w w' := by
  subst hv
  obtain ⟨w3, hw3⟩ : ∃ w3, w3 = w.alloc (.cells #[a, b] 49) := ⟨_, rfl⟩
  have hb : Below w.heap.size w w3 := by rw [hw3]; exact (by repeat (first | with_reducible exact Below.refl _ _ | with_reducible assumption | with_reducible refine Below.drew ?_ | with_reducible refine below_drewN ?_ _ | with_reducible refine Below.alloc ?_ (by simp <;> omega) _ | with_reducible refine Below.setCell ?_ (by simp <;> omega) _))
  have c := hid (made_yes p d.room w3 (h.later hb).c0 h.ok.r1)
  have HB := hid hb; have HW3 := hid hw3
  clear hb h hw3
  go_enter Tryz.func23, Tryz.ntmps23
  go_wp2_with (go_at_call 58; rw [← HW3.out]; refine c.out.mono ?_; rintro e wx ⟨rfl, hwx⟩; obtain rfl := hwx)
  go_ret
  exact ⟨rfl, HB.out⟩

set_option maxHeartbeats 1000000 in
theorem arm_zero (p : Nat) (P : Parts) (d : DS) (a b : Value) (w : World) (h : DiskP w p P d) :
    Calls Tryz.prog 23 #[.pointer (some ⟨p, 0, none⟩), .int .i64 0, .agg #[a, b]] w fun e w' => e = .returned (.int .i64 0) ∧ (∃ P', DiskP w' p P' (disarmD d) ∧ Grew P w P') ∧ DFrame w w' p P.all := by
  obtain ⟨w3, hw3⟩ : ∃ w3, w3 = w.alloc (.cells #[a, b] 49) := ⟨_, rfl⟩
  have hb : Below w.heap.size w w3 := by rw [hw3]; exact (by repeat (first | with_reducible exact Below.refl _ _ | with_reducible assumption | with_reducible refine Below.drew ?_ | with_reducible refine below_drewN ?_ _ | with_reducible refine Below.alloc ?_ (by simp <;> omega) _ | with_reducible refine Below.setCell ?_ (by simp <;> omega) _))
  have c := hid (made_yes p d.room w3 (h.later hb).c0 h.ok.r1)
  have cd := hid (disarm_any p P d w3 (h.later hb))
  have HB := hid hb; have HW3 := hid hw3
  clear hb h hw3
  go_enter Tryz.func23, Tryz.ntmps23
  go_wp2_with (first
    | (go_at_call 58; rw [← HW3.out]; refine c.out.mono ?_; rintro e wx ⟨rfl, hwx⟩; obtain rfl := hwx; clear c)
    | (go_at_call 59; refine cd.out.mono ?_; rintro e w2 ⟨rfl, hd, hfr, _⟩; replace hd := hid hd; replace hfr := hid hfr))
  go_ret
  exact ⟨rfl, ⟨_, hd.out, fun k hk => by rcases hk with h | h | h; exact Or.inl (Or.inl h); exact Or.inl (Or.inr (Or.inl h)); exact h.elim⟩, (DFrame.below HB.out).trans (hfr.out.imp (fun _ _ h => h.elim))⟩

set_option maxHeartbeats 2000000 in
theorem arm_pos (p : Nat) (P : Parts) (d : DS) (n : Nat) (ko : Option Addr) (kc : Nat) (keep : List Bool) (t : Int) (w : World) (h : DiskP w p P d) (hn : 0 < n) (hn2 : n ≤ 9223372036854775807) (hr : RdB w ko keep) (hk : keep.length ≤ 100) (ht : -9223372036854775808 ≤ t ∧ t ≤ 9223372036854775807) (hkp : 0 < keep.length → ∀ a, ko = some a → a.block ≠ p) :
    Calls Tryz.prog 23 #[.pointer (some ⟨p, 0, none⟩), .int .i64 (n : Int), .agg #[.slice ko keep.length kc, .int .i64 t]] w fun e w' => e = .returned (.int .i64 0) ∧ (∃ P', DiskP w' p P' { d with left := n, keep := keep, torn := t } ∧ Grew P w P') ∧ DFrame w w' p P.all := by
  obtain ⟨LK, hLK⟩ : ∃ LK, LK = keep.length := ⟨_, rfl⟩
  obtain ⟨w1, hw1⟩ : ∃ w1, w1 = w.alloc (.cells #[.slice ko keep.length kc, .int .i64 t] 49) := ⟨_, rfl⟩
  have hb : Below w.heap.size w w1 := by rw [hw1]; exact (by repeat (first | with_reducible exact Below.refl _ _ | with_reducible assumption | with_reducible refine Below.drew ?_ | with_reducible refine below_drewN ?_ _ | with_reducible refine Below.alloc ?_ (by simp <;> omega) _ | with_reducible refine Below.setCell ?_ (by simp <;> omega) _))
  have z1 : w1.heap.size = w.heap.size + 1 := by rw [hw1]; simp
  have k0 : w1.cell? ⟨w.heap.size, 0, none⟩ = some (.slice ko keep.length kc) := by rw [hw1, World.cell?_alloc_at _ _ _ _ rfl]; rfl
  have k1 : w1.cell? ⟨w.heap.size, 1, none⟩ = some (.int .i64 t) := by rw [hw1, World.cell?_alloc_at _ _ _ _ rfl]; rfl
  have hpl := p_lt h
  have hpB : w.heap.size ≠ p := by omega
  have c := hid (made_yes p d.room w1 (h.later hb).c0 h.ok.r1)
  have hcd := disarm_any p P d w1 (h.later hb)
  have cd := hid hcd
  have HB := hid hb; have HW1 := hid hw1; have H := hid h; have HR := hid hr; have K0 := hid k0; have K1 := hid k1; have Z1 := hid z1
  have HCL := hid (fun (W : World) (h : RdB W ko keep) => clone_bools ko kc keep W h (by omega))
  rw [← hLK] at K0 HCL HW1 ⊢
  have HLK := hid hLK
  clear hb h hr k0 k1 z1 hcd hw1 hLK
  have hnI : (0 : Int) < (n : Int) := by omega
  have hnN : ¬ ((n : Int) < 0) := by omega
  go_enter Tryz.func23, Tryz.ntmps23
  go_wp2_with (first
    | (go_at_call 58; rw [← HW1.out]; refine c.out.mono ?_; rintro e wx ⟨rfl, hwx⟩; obtain rfl := hwx; clear c)
    | (go_at_call 59; refine cd.out.mono ?_; rintro e w2 ⟨rfl, hd, hfr, hz⟩; clear cd; have hZ := hid hz; clear hz; have hR : Reads9 w.heap.size ko LK kc t w2.drew := ⟨hfr.cellAt K0.out hpB (fun h => h), hfr.cellAt K1.out hpB (fun h => h)⟩; have HD := hid (hd.stay (w' := w2.drew) (Nat.le_refl _) (fun _ _ _ => rfl)); have CC := hid (HCL.out w2.drew (rdB_stay HR.out (fun hp a ha hl => (hfr.block a.block (by have := Z1.out; omega) (hkp hp a ha) (fun h => h)).trans (HB.out.block a.block hl)))); replace hfr := hid hfr; clear hd HCL))
  refine wp_region_held_drew (S := Reads9 w.heap.size ko LK kc t) (by kernel_rfl) hR (fun hHeld => ?_)
  refine wpAnyH_take (i := 0) (v := ?_) (op_at _ 0 _ rfl) (by kernel_rfl) (by kernel_rfl) (by kernel_rfl) (fun _ _ _ h => h) (Or.inl ⟨by rfl, ?_⟩) (by assumption) ?_
  rotate_left 1
  focus (intro W hSw; obtain ⟨q0, q1⟩ := hSw; go_simp; first | done | with_reducible rfl)
  (try simp only [Act.put, List.setIfInBounds_toArray, List.set_cons_zero, List.set_cons_succ])
  refine wpAnyH_take (i := 1) (v := ?_) (op_at _ 1 _ rfl) (by kernel_rfl) (by kernel_rfl) (by kernel_rfl) (fun _ _ _ h => h) (Or.inl ⟨by rfl, ?_⟩) (by assumption) ?_
  rotate_left 1
  focus (intro W hSw; obtain ⟨q0, q1⟩ := hSw; go_simp; first | done | with_reducible rfl)
  (try simp only [Act.put, List.setIfInBounds_toArray, List.set_cons_zero, List.set_cons_succ])
  refine wpAnyH_take (i := 2) (v := ?_) (op_at _ 2 _ rfl) (by kernel_rfl) (by kernel_rfl) (by kernel_rfl) (fun _ _ _ h => h) (Or.inl ⟨by rfl, ?_⟩) (by assumption) ?_
  rotate_left 1
  focus (intro W hSw; obtain ⟨q0, q1⟩ := hSw; go_simp; first | done | with_reducible rfl)
  (try simp only [Act.put, List.setIfInBounds_toArray, List.set_cons_zero, List.set_cons_succ])
  refine wpAnyH_take (i := 3) (v := ?_) (op_at _ 3 _ rfl) (by kernel_rfl) (by kernel_rfl) (by kernel_rfl) (fun _ _ _ h => h) (Or.inl ⟨by rfl, ?_⟩) (by assumption) ?_
  rotate_left 1
  focus (intro W hSw; obtain ⟨q0, q1⟩ := hSw; go_simp; first | done | with_reducible rfl)
  (try simp only [Act.put, List.setIfInBounds_toArray, List.set_cons_zero, List.set_cons_succ])
  refine wpAnyH_take (i := 4) (v := ?_) (op_at _ 4 _ rfl) (by kernel_rfl) (by kernel_rfl) (by kernel_rfl) (fun _ _ _ h => h) (Or.inl ⟨by rfl, ?_⟩) (by assumption) ?_
  rotate_left 1
  focus (intro W hSw; obtain ⟨q0, q1⟩ := hSw; go_simp; first | done | with_reducible rfl)
  (try simp only [Act.put, List.setIfInBounds_toArray, List.set_cons_zero, List.set_cons_succ])
  refine wpAnyH_take (i := 6) (v := ?_) (op_at _ 6 _ rfl) (by kernel_rfl) (by kernel_rfl) (by kernel_rfl) (fun _ _ _ h => h) (Or.inl ⟨by rfl, ?_⟩) (by assumption) ?_
  rotate_left 1
  focus (intro W hSw; obtain ⟨q0, q1⟩ := hSw; go_simp; first | done | with_reducible rfl)
  (try simp only [Act.put, List.setIfInBounds_toArray, List.set_cons_zero, List.set_cons_succ])
  refine wpAnyH_take (i := 7) (v := ?_) (op_at _ 7 _ rfl) (by kernel_rfl) (by kernel_rfl) (by kernel_rfl) (fun _ _ _ h => h) (Or.inl ⟨by rfl, ?_⟩) (by assumption) ?_
  rotate_left 1
  focus (intro W hSw; obtain ⟨q0, q1⟩ := hSw; go_simp; first | done | with_reducible rfl)
  (try simp only [Act.put, List.setIfInBounds_toArray, List.set_cons_zero, List.set_cons_succ])
  refine wpAnyH_ready (rs := [5]) (by kernel_rfl) (by simp) ?_
  refine AllReadyH.cons (op_at _ 5 _ rfl) (fun K hK => ?_) AllReadyH.nil
  go_simp
  refine CC.out.mono ?_; rintro e w3 ⟨ko', kc', rfl, hrd3, hab3, hb3⟩; clear CC; have hR3 : Reads9 w.heap.size ko LK kc t w3 := ⟨keep_old hb3 hR.1, keep_old hb3 hR.2⟩; have d3 := HD.out.later hb3; have c9 := d3.c9; have c10 := d3.c10; have c11 := d3.c11; have f9 := d3.fz 9; have f10 := d3.fz 10; have f11 := d3.fz 11; replace hrd3 := hid hrd3; replace hab3 := hid hab3; replace hb3 := hid hb3; replace d3 := hid d3
  refine hK.out _ _ hR3 (fun hHeld => ?_)
  clear hK K
  (try simp only [Act.put, List.setIfInBounds_toArray, List.set_cons_zero, List.set_cons_succ])
  refine wpAnyH_take (i := 8) (v := ?_) (op_at _ 8 _ rfl) (by kernel_rfl) (by kernel_rfl) (by kernel_rfl) (fun _ _ _ h => h) (Or.inl ⟨by rfl, ?_⟩) (by assumption) ?_
  rotate_left 1
  focus (intro W hSw; obtain ⟨q0, q1⟩ := hSw; go_simp; first | done | with_reducible rfl)
  (try simp only [Act.put, List.setIfInBounds_toArray, List.set_cons_zero, List.set_cons_succ])
  refine wpAnyH_take (i := 9) (v := ?_) (op_at _ 9 _ rfl) (by kernel_rfl) (by kernel_rfl) (by kernel_rfl) (fun _ _ _ h => h) (Or.inl ⟨by rfl, ?_⟩) (by assumption) ?_
  rotate_left 1
  focus (intro W hSw; obtain ⟨q0, q1⟩ := hSw; go_simp; first | done | with_reducible rfl)
  (try simp only [Act.put, List.setIfInBounds_toArray, List.set_cons_zero, List.set_cons_succ])
  refine wpAnyH_take (i := 10) (v := ?_) (op_at _ 10 _ rfl) (by kernel_rfl) (by kernel_rfl) (by kernel_rfl) (fun _ _ _ h => h) (Or.inl ⟨by rfl, ?_⟩) (by assumption) ?_
  rotate_left 1
  focus (intro W hSw; obtain ⟨q0, q1⟩ := hSw; go_simp; first | done | with_reducible rfl)
  (try simp only [Act.put, List.setIfInBounds_toArray, List.set_cons_zero, List.set_cons_succ])
  refine wpAnyH_ready (rs := [11]) (by kernel_rfl) (by simp) ?_
  refine AllReadyH.cons (op_at _ 11 _ rfl) (fun K hK => ?_) AllReadyH.nil
  go_simp
  have hR4 : Reads9 w.heap.size ko LK kc t (w3.setCell ⟨p, 9, none⟩ (.int .i64 (n : Int))) := ⟨(World.cell?_of_block (set_heap _ _ _ _ _ hpB)).trans hR3.1, (World.cell?_of_block (set_heap _ _ _ _ _ hpB)).trans hR3.2⟩
  refine hK.out _ _ hR4 (fun hHeld => ?_)
  clear hK K
  (try simp only [Act.put, List.setIfInBounds_toArray, List.set_cons_zero, List.set_cons_succ])
  refine wpAnyH_take (i := 12) (v := ?_) (op_at _ 12 _ rfl) (by kernel_rfl) (by kernel_rfl) (by kernel_rfl) (fun _ _ _ h => h) (Or.inl ⟨by rfl, ?_⟩) (by assumption) ?_
  rotate_left 1
  focus (intro W hSw; obtain ⟨q0, q1⟩ := hSw; go_simp; first | done | with_reducible rfl)
  (try simp only [Act.put, List.setIfInBounds_toArray, List.set_cons_zero, List.set_cons_succ])
  refine wpAnyH_take (i := 13) (v := ?_) (op_at _ 13 _ rfl) (by kernel_rfl) (by kernel_rfl) (by kernel_rfl) (fun _ _ _ h => h) (Or.inl ⟨by rfl, ?_⟩) (by assumption) ?_
  rotate_left 1
  focus (intro W hSw; obtain ⟨q0, q1⟩ := hSw; go_simp; first | done | with_reducible rfl)
  (try simp only [Act.put, List.setIfInBounds_toArray, List.set_cons_zero, List.set_cons_succ])
  refine wpAnyH_ready (rs := [14]) (by kernel_rfl) (by simp) ?_
  refine AllReadyH.cons (op_at _ 14 _ rfl) (fun K hK => ?_) AllReadyH.nil
  go_simp
  have hR5 : Reads9 w.heap.size ko LK kc t (((w3.setCell ⟨p, 9, none⟩ (.int .i64 (n : Int))).setCell ⟨p, 10, none⟩ (.slice ko' LK kc')).setCell ⟨p, 11, none⟩ (.int .i64 t)) := ⟨(World.cell?_of_block ((set_heap _ _ _ _ _ hpB).trans ((set_heap _ _ _ _ _ hpB).trans (set_heap _ _ _ _ _ hpB)))).trans hR3.1, (World.cell?_of_block ((set_heap _ _ _ _ _ hpB).trans ((set_heap _ _ _ _ _ hpB).trans (set_heap _ _ _ _ _ hpB)))).trans hR3.2⟩
  refine hK.out _ _ hR5 (fun hHeld => ?_)
  clear hK K
  (try simp only [Act.put, List.setIfInBounds_toArray, List.set_cons_zero, List.set_cons_succ])
  refine wpAnyH_done (by kernel_rfl) ?_ _
  go_wp2
  go_ret
  have d2 := d3.out
  obtain ⟨W, hW⟩ : ∃ W, W = ((w3.setCell ⟨p, 9, none⟩ (.int .i64 (n : Int))).setCell ⟨p, 10, none⟩ (.slice ko' LK kc')).setCell ⟨p, 11, none⟩ (.int .i64 t) := ⟨_, rfl⟩
  rw [← hW]
  have hbl : ∀ k, k ≠ p → W.heap[k]? = w3.heap[k]? := fun k hk => by rw [hW, set_heap _ _ _ _ _ hk, set_heap _ _ _ _ _ hk, set_heap _ _ _ _ _ hk]
  have hzz : W.heap.size = w3.heap.size := by rw [hW]; simp
  have hcc : ∀ i, i < 9 → W.cell? ⟨p, i, none⟩ = w3.cell? ⟨p, i, none⟩ := fun i hi => by rw [hW, set_off _ _ _ (by omega), set_off _ _ _ (by omega), set_off _ _ _ (by omega)]
  have x9 : W.cell? ⟨p, 9, none⟩ = some (.int .i64 (n : Int)) := by rw [hW, set_off _ _ _ (by omega), set_off _ _ _ (by omega)]; exact set_same c9
  have x10 : W.cell? ⟨p, 10, none⟩ = some (.slice ko' LK kc') := by rw [hW, set_off _ _ _ (by omega)]; exact set_same ((set_off _ _ _ (by omega)).trans c10)
  have x11 : W.cell? ⟨p, 11, none⟩ = some (.int .i64 t) := by rw [hW]; exact set_same ((set_off _ _ _ (by omega)).trans ((set_off _ _ _ (by omega)).trans c11))
  have ofr : W.os = w3.os ∧ W.tape = w3.tape ∧ W.output = w3.output := by rw [hW]; exact ⟨rfl, rfl, rfl⟩
  have hfz : ∀ i, W.frozen? ⟨p, i, none⟩ = w3.frozen? ⟨p, i, none⟩ := fun i => by rw [hW, World.frozen?_setCell, World.frozen?_setCell, World.frozen?_setCell]
  clear hW
  have hz2 : w2.heap.size = w.heap.size + 1 := hZ.out.trans Z1.out
  have hz3 : w2.heap.size ≤ w3.heap.size := hb3.out.size
  rw [HLK.out] at x10
  refine ⟨rfl, ⟨_, d2.turn (d' := { d with left := n, keep := keep, torn := t }) (SK := fun k => w2.heap.size ≤ k ∧ k < w3.heap.size) (ko := ko') (kc := kc') (Nat.le_of_eq hzz.symm) (fun k _ hk => hbl k hk) (fun i _ hi => hcc i (by omega)) hfz ((hcc 0 (by omega)).trans d2.c0) ((hcc 1 (by omega)).trans d2.c1) ((hcc 2 (by omega)).trans d2.c2) x9 x10 x11 rfl rfl (rdB_stay hrd3.out (fun _ a ha _ => hbl _ (by have : w2.heap.size ≤ a.block := (hab3.out a ha).1; omega))) (fun _ a ha => hab3.out a ha) (fun k hk => ⟨fun hS => ?_, fun hS => ?_, by omega⟩) (fun k hk => by rw [hzz]; exact hk.2) ?_, ?_⟩, ?_⟩
  · have := HD.out.b0 k hS; have : k < w2.heap.size := this; omega
  · have := HD.out.b1 k hS; have : k < w2.heap.size := this; omega
  · exact ⟨H.out.ok.r1, H.out.ok.r2, H.out.ok.sum, H.out.ok.ok0, H.out.ok.ok1, hk, ht, hn2, H.out.ok.op⟩
  · rintro k (hk | hk | hk)
    · exact Or.inl (Or.inl hk)
    · exact Or.inl (Or.inr (Or.inl hk))
    · exact Or.inr (by have : w2.heap.size ≤ k := hk.1; omega)
  · have f1 : DFrame w w2 p P.all := (DFrame.below HB.out).trans (hfr.out.imp (fun _ _ h => h.elim))
    have f2 : DFrame w2 w3 p (From P.all w) := off_drew (DFrame.below hb3.out)
    have f3 : DFrame w3 W p (From P.all w) := ⟨ofr.1, ofr.2.1, ofr.2.2, Nat.le_of_eq hzz.symm, fun k _ hk _ => hbl k hk⟩
    exact f1.trans (f2.trans (f3.imp (fun _ _ h => Or.inl h)))

theorem arm_call (p : Nat) (P : Parts) (d : DS) (n : Int) (ko : Option Addr) (kc : Nat) (keep : List Bool) (t : Int) (w : World) (h : DiskP w p P d) (hn2 : n ≤ 9223372036854775807) (hr : RdB w ko keep) (hk : keep.length ≤ 100) (ht : -9223372036854775808 ≤ t ∧ t ≤ 9223372036854775807) (hkp : 0 < keep.length → ∀ a, ko = some a → a.block ≠ p) :
    Calls Tryz.prog 23 #[.pointer (some ⟨p, 0, none⟩), .int .i64 n, .agg #[.slice ko keep.length kc, .int .i64 t]] w fun e w' => e = .returned (.int .i64 (if n < 0 then 2 else 0)) ∧ (∃ P', DiskP w' p P' (armD d n keep t) ∧ Grew P w P') ∧ DFrame w w' p P.all := by
  unfold armD
  by_cases h0 : n < 0
  · rw [if_pos h0, if_pos h0]
    refine (arm_neg p P d n _ w h h0 _ _ rfl).mono ?_
    rintro e w' ⟨rfl, hb⟩
    exact ⟨rfl, ⟨P, h.later hb, fun k hk => Or.inl hk⟩, DFrame.below hb⟩
  · rw [if_neg h0, if_neg h0]
    by_cases h1 : n = 0
    · rw [if_pos h1]
      subst h1
      exact arm_zero p P d _ _ w h
    · rw [if_neg h1]
      obtain ⟨N, rfl⟩ := Int.eq_ofNat_of_zero_le (show 0 ≤ n by omega)
      rw [Int.toNat_natCast]
      exact arm_pos p P d N ko kc keep t w h (by omega) (by omega) hr hk ht hkp

end Go.Proofs.YtokofpbhbjbnfaaGreatDoor.Dsk
