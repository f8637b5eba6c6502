/- What Sync does to a disk; no statement of the seat is proved here. -/
import Derived.Test.YtkgenmooepfhjaaBg
namespace Go.Proofs.Ytkgenmooepfhjaa
open Go.RowKit Go.Maps

/-- What Sync answers, and the disk behind it. -/
def syncD (d : DS) (f : Int) : Int × DS :=
  if d.off then (4, d) else if !known f then (11, d) else if d.left = 1 then (4, crashD (opsD d) d.keep d.torn) else (0, (tickD d).put f (sureF (d.file f).now))

set_option maxHeartbeats 1000000 in
theorem sync_off (p : Nat) (P : Parts) (d : DS) (f : Int) (w : World) (h : DiskP w p P d) (hx : d.off = true ∨ known f = false) :
    Calls Try.prog 18 #[.pointer (some ⟨p, 0, none⟩), .int .i64 f] w fun e w' => e = .returned (.int .i64 (if d.off then 4 else 11)) ∧ Below w.heap.size w w' := by
  obtain ⟨w3, hw3⟩ : ∃ w3, w3 = (w.alloc (.cells #[.pointer (some ⟨p, 0, none⟩)] 26)).alloc (.cells #[.int .i64 f] 3) := ⟨_, rfl⟩
  have hb : Below w.heap.size w w3 := by rw [hw3]; exact (by repeat (first | with_reducible exact Below.refl _ _ | with_reducible assumption | with_reducible refine Below.drew ?_ | with_reducible refine below_drewN ?_ _ | with_reducible refine Below.alloc ?_ (by simp <;> omega) _ | with_reducible refine Below.setCell ?_ (by simp <;> omega) _))
  have HB := hid hb
  have c : Calls Try.prog 40 #[.pointer (some ⟨p, 0, none⟩), .int .i64 f] w3 fun e w' => e = .returned (.int .i64 (if d.off then 4 else 11)) ∧ w' = w3 := by
    cases ho : d.off
    · have hk : known f = false := by rcases hx with h | h; rw [ho] at h; cases h; exact h
      have := fault_on p P d f _ (h.later hb) ho
      rw [hk] at this; exact this
    · exact fault_off p P d f _ (h.later hb) ho
  obtain ⟨r, hr, hr0⟩ : ∃ r : Int, r = (if d.off then 4 else 11) ∧ (r == 0) = false := ⟨_, rfl, by cases d.off <;> rfl⟩
  rw [← hr] at c ⊢
  have C := hid c; have HW3 := hid hw3
  clear c hb h hx hr hw3
  go_enter Try.func18, Try.ntmps18
  go_wp2_with (go_at_call 40; rw [← HW3.out]; refine C.out.mono ?_; rintro e wx ⟨rfl, hwx⟩; obtain rfl := hwx)
  go_ret
  exact ⟨rfl, HB.out⟩

/-- What the reading half of Sync's function literal asks of the world. -/
def Reads8 (p xd xi : Nat) (i : Int) (W : World) : Prop := W.cell? ⟨xd, 0, none⟩ = some (.pointer (some ⟨p, 0, none⟩)) ∧ W.cell? ⟨xi, 0, none⟩ = some (.int .i64 i)


set_option maxHeartbeats 2000000 in
theorem sync1_0 (p : Nat) (P : Parts) (d : DS) (xd xi : Nat) (w : World) (h : DiskP w p P d) (cd : w.cell? ⟨xd, 0, none⟩ = some (.pointer (some ⟨p, 0, none⟩))) (ci : w.cell? ⟨xi, 0, none⟩ = some (.int .i64 0)) (hxd : xd ≠ p) (hxi : xi ≠ p) (hsd : ¬ P.S0 xd) (hsi : ¬ P.S0 xi) :
    Calls Try.prog 45 #[.pointer (some ⟨xd, 0, none⟩), .pointer (some ⟨xi, 0, none⟩)] w fun e w' => ∃ x, e = .returned (.int .i64 x) ∧ (x = 0 ∧ (∃ P', DiskP w' p P' (d.put 0 (sureF d.f0.now)) ∧ Grew P w P') ∧ DFrame w w' p P.all) := by
  have hd := h.stay (w' := w.drew) (Nat.le_refl _) (fun _ _ _ => rfl)
  have cs := settle_any p 3 P.k0 P.S0 P.a0 (d.f0.old.length : Int) (some P.m0) d.f0.now w.drew hd.f0.c0 hd.f0.c1 hd.f0.c2 hd.f0.f0 hd.f0.f1 hd.f0.f2 hd.f0.row hd.f0.np hd.f0.ina
  have CS := hid cs; have H := hid h
  have hR : Reads8 p xd xi 0 w.drew := ⟨cd, ci⟩
  clear h hd cs
  go_enter Try.func45, Try.ntmps45
  go_wp2_with fail
  refine wp_region_held_drew (S := Reads8 p xd xi 0) (by kernel_rfl) hR (fun hHeld => ?_)
  refine wpAnyH_take (i := 0) (v := ?_) (op_at _ 0 _ rfl) (by kernel_rfl) (by kernel_rfl) (by kernel_rfl) (fun _ _ _ h => h) (Or.inl ⟨by rfl, ?_⟩) (by assumption) ?_
  rotate_left 1
  focus (intro W hSw; obtain ⟨q0, q1⟩ := hSw; go_simp; first | done | with_reducible rfl)
  (try simp only [Act.put, List.setIfInBounds_toArray, List.set_cons_zero, List.set_cons_succ])
  refine wpAnyH_take (i := 1) (v := ?_) (op_at _ 1 _ rfl) (by kernel_rfl) (by kernel_rfl) (by kernel_rfl) (fun _ _ _ h => h) (Or.inl ⟨by rfl, ?_⟩) (by assumption) ?_
  rotate_left 1
  focus (intro W hSw; obtain ⟨q0, q1⟩ := hSw; go_simp; first | done | with_reducible rfl)
  (try simp only [Act.put, List.setIfInBounds_toArray, List.set_cons_zero, List.set_cons_succ])
  refine wpAnyH_take (i := 2) (v := ?_) (op_at _ 2 _ rfl) (by kernel_rfl) (by kernel_rfl) (by kernel_rfl) (fun _ _ _ h => h) (Or.inl ⟨by rfl, ?_⟩) (by assumption) ?_
  rotate_left 1
  focus (intro W hSw; obtain ⟨q0, q1⟩ := hSw; go_simp; first | done | with_reducible rfl)
  (try simp only [Act.put, List.setIfInBounds_toArray, List.set_cons_zero, List.set_cons_succ])
  refine wpAnyH_take (i := 3) (v := ?_) (op_at _ 3 _ rfl) (by kernel_rfl) (by kernel_rfl) (by kernel_rfl) (fun _ _ _ h => h) (Or.inl ⟨by rfl, ?_⟩) (by assumption) ?_
  rotate_left 1
  focus (intro W hSw; obtain ⟨q0, q1⟩ := hSw; go_simp; first | done | with_reducible rfl)
  (try simp only [Act.put, List.setIfInBounds_toArray, List.set_cons_zero, List.set_cons_succ])
  refine wpAnyH_take (i := 4) (v := ?_) (op_at _ 4 _ rfl) (by kernel_rfl) (by kernel_rfl) (by kernel_rfl) (fun _ _ _ h => h) (Or.inl ⟨by rfl, ?_⟩) (by assumption) ?_
  rotate_left 1
  focus (intro W hSw; obtain ⟨q0, q1⟩ := hSw; go_simp; first | done | with_reducible rfl)
  (try simp only [Act.put, List.setIfInBounds_toArray, List.set_cons_zero, List.set_cons_succ])
  refine wpAnyH_ready (rs := [5]) (by kernel_rfl) (by simp) ?_
  refine AllReadyH.cons (op_at _ 5 _ rfl) (fun K hK => ?_) AllReadyH.nil
  go_simp
  refine CS.out.mono ?_; rintro e w2 ⟨rfl, hF2, hfr2⟩; replace hF2 := hid hF2; replace hfr2 := hid hfr2
  refine hK.out _ _ ⟨(World.cell?_of_block (hfr2.out.block xd (lt_cell (w := w) cd) hxd hsd)).trans cd, (World.cell?_of_block (hfr2.out.block xi (lt_cell (w := w) ci) hxi hsi)).trans ci⟩ (fun hHeld => ?_)
  clear hK K
  (try simp only [Act.put, List.setIfInBounds_toArray, List.set_cons_zero, List.set_cons_succ])
  refine wpAnyH_done (by kernel_rfl) ?_ _
  go_wp2
  go_ret
  have hfr := hfr2.out.undrew
  have hok : (d.put 0 (sureF d.f0.now)).Ok := ⟨H.out.ok.r1, H.out.ok.r2, H.out.ok.sum, sureF_ok H.out.ok.ok0.sn, H.out.ok.ok1, H.out.ok.kl, H.out.ok.tn, H.out.ok.lf, H.out.ok.op⟩
  exact ⟨0, rfl, rfl, ⟨_, H.out.file0 hF2.out hfr hok, fun k hk => by rcases hk with (h | h) | h | h; exact Or.inl (Or.inl h); exact Or.inr h.1; exact Or.inl (Or.inr (Or.inl h)); exact Or.inl (Or.inr (Or.inr h))⟩, hfr.df.imp (fun _ _ h => Or.inl h)⟩

set_option maxHeartbeats 2000000 in
theorem sync_0 (p : Nat) (P : Parts) (d : DS) (w : World) (h : DiskP w p P d) (ho : d.off = false) (hop : d.ops < 1000000000) :
    Calls Try.prog 18 #[.pointer (some ⟨p, 0, none⟩), .int .i64 0] w fun e w' => e = .returned (.int .i64 (syncD d 0).1) ∧ (∃ P', DiskP w' p P' (syncD d 0).2 ∧ Grew P w P') ∧ DFrame w w' p P.all := by
  obtain ⟨w3, hw3⟩ : ∃ w3, w3 = (w.alloc (.cells #[.pointer (some ⟨p, 0, none⟩)] 26)).alloc (.cells #[.int .i64 0] 3) := ⟨_, rfl⟩
  have hb3 : Below w.heap.size w w3 := by rw [hw3]; exact (by repeat (first | with_reducible exact Below.refl _ _ | with_reducible assumption | with_reducible refine Below.drew ?_ | with_reducible refine below_drewN ?_ _ | with_reducible refine Below.alloc ?_ (by simp <;> omega) _ | with_reducible refine Below.setCell ?_ (by simp <;> omega) _))
  have hpl := h.f0.plt
  have h3 := h.later hb3
  have cf := fault_on p P d 0 w3 h3 ho
  rw [show known 0 = true from rfl, if_pos rfl] at cf
  have k2 : w3.cell? ⟨w.heap.size, 0, none⟩ = some (.pointer (some ⟨p, 0, none⟩)) := by rw [hw3, World.cell?_alloc_past _ _ _ (by simp), World.cell?_alloc_at _ _ _ _ rfl]; rfl
  have k3 : w3.cell? ⟨w.heap.size + 1, 0, none⟩ = some (.int .i64 0) := by rw [hw3, World.cell?_alloc_at _ _ _ _ (by simp)]; rfl
  have CF := hid cf; have H := hid h; have H3 := hid h3; have HB := hid hb3; have HW3 := hid hw3; have K2 := hid k2; have K3 := hid k3
  have hz : w.heap.size ≤ w3.heap.size := hb3.size
  have hwd : syncD d 0 = if d.left = 1 then (4, crashD (opsD d) d.keep d.torn) else (0, (tickD d).put 0 (sureF d.f0.now)) := by
    simp only [syncD, ho]; rfl
  rw [hwd]
  clear hwd h h3 hb3 cf hw3
  by_cases hl1 : d.left = 1
  · rw [if_pos hl1]
    have co := hid (operate_crash p P d (.func (.func 45) #[] #[.pointer (some ⟨w.heap.size, 0, none⟩), .pointer (some ⟨w.heap.size + 1, 0, none⟩)]) w3 H3.out ho hl1 hop)
    go_enter Try.func18, Try.ntmps18
    go_wp2_with (first
      | (go_at_call 40; rw [← HW3.out]; refine CF.out.mono ?_; rintro e wx ⟨rfl, hwx⟩; obtain rfl := hwx; clear CF)
      | (go_at_call 41; refine co.out.mono ?_; rintro e w9 ⟨rfl, ⟨P', hd9, hg9⟩, hf9⟩; replace hd9 := hid hd9; replace hg9 := hid hg9; replace hf9 := hid hf9))
    go_ret
    exact ⟨rfl, ⟨P', hd9.out, fun k hk => by rcases hg9.out k hk with h | h; exact Or.inl h; exact Or.inr (Nat.le_trans hz h)⟩, (DFrame.below HB.out).trans (hf9.out.imp (fun _ _ h => Or.inl h))⟩
  · rw [if_neg hl1]
    have co := operate_do p P d 45 #[.pointer (some ⟨w.heap.size, 0, none⟩), .pointer (some ⟨w.heap.size + 1, 0, none⟩)] w3 H3.out hl1 hop (enters_of Try.func45 (by kernel_rfl) rfl)
      (fun x w' => x = 0 ∧ (∃ P', DiskP w' p P' ((tickD d).put 0 (sureF d.f0.now)) ∧ Grew P w P') ∧ DFrame w w' p P.all) (fun w1 h1 hf1 => by
        have hfw : DFrame w w1 p P.all := (DFrame.below HB.out).trans (hf1.imp (fun _ _ h => h.elim))
        have cw := sync1_0 p P (tickD d) w.heap.size (w.heap.size + 1) w1 h1 (hf1.cellAt K2.out (by show w.heap.size ≠ p; omega) (fun h => h)) (hf1.cellAt K3.out (by show w.heap.size + 1 ≠ p; omega) (fun h => h)) (by omega) (by omega) (fun h => by have := H.out.b0 _ h; omega) (fun h => by have := H.out.b0 _ h; omega)
        refine cw.mono ?_
        rintro e w2 ⟨x, rfl, hx, ⟨P', hd, hg⟩, hf⟩
        refine ⟨x, rfl, hx, ⟨P', hd, fun k hk => ?_⟩, hfw.trans (hf.imp (fun _ _ h => Or.inl h))⟩
        rcases hg k hk with h | h
        · exact Or.inl h
        · exact Or.inr (Nat.le_trans hfw.size h))
    have CO := hid co
    clear co
    go_enter Try.func18, Try.ntmps18
    go_wp2_with (first
      | (go_at_call 40; rw [← HW3.out]; refine CF.out.mono ?_; rintro e wx ⟨rfl, hwx⟩; obtain rfl := hwx; clear CF)
      | (go_at_call 41; refine CO.out.mono ?_; rintro e w9 ⟨x, rfl, hx, hd9, hf9⟩; replace hx := hid hx; replace hd9 := hid hd9; replace hf9 := hid hf9))
    go_ret
    exact ⟨by rw [← hx.out]; rfl, hd9.out, hf9.out⟩

set_option maxHeartbeats 2000000 in
theorem sync1_1 (p : Nat) (P : Parts) (d : DS) (xd xi : Nat) (w : World) (h : DiskP w p P d) (cd : w.cell? ⟨xd, 0, none⟩ = some (.pointer (some ⟨p, 0, none⟩))) (ci : w.cell? ⟨xi, 0, none⟩ = some (.int .i64 1)) (hxd : xd ≠ p) (hxi : xi ≠ p) (hsd : ¬ P.S1 xd) (hsi : ¬ P.S1 xi) :
    Calls Try.prog 45 #[.pointer (some ⟨xd, 0, none⟩), .pointer (some ⟨xi, 0, none⟩)] w fun e w' => ∃ x, e = .returned (.int .i64 x) ∧ (x = 0 ∧ (∃ P', DiskP w' p P' (d.put 1 (sureF d.f1.now)) ∧ Grew P w P') ∧ DFrame w w' p P.all) := by
  have hd := h.stay (w' := w.drew) (Nat.le_refl _) (fun _ _ _ => rfl)
  have cs := settle_any p 6 P.k1 P.S1 P.a1 (d.f1.old.length : Int) (some P.m1) d.f1.now w.drew hd.f1.c0 hd.f1.c1 hd.f1.c2 hd.f1.f0 hd.f1.f1 hd.f1.f2 hd.f1.row hd.f1.np hd.f1.ina
  have CS := hid cs; have H := hid h
  have hR : Reads8 p xd xi 1 w.drew := ⟨cd, ci⟩
  clear h hd cs
  go_enter Try.func45, Try.ntmps45
  go_wp2_with fail
  refine wp_region_held_drew (S := Reads8 p xd xi 1) (by kernel_rfl) hR (fun hHeld => ?_)
  refine wpAnyH_take (i := 0) (v := ?_) (op_at _ 0 _ rfl) (by kernel_rfl) (by kernel_rfl) (by kernel_rfl) (fun _ _ _ h => h) (Or.inl ⟨by rfl, ?_⟩) (by assumption) ?_
  rotate_left 1
  focus (intro W hSw; obtain ⟨q0, q1⟩ := hSw; go_simp; first | done | with_reducible rfl)
  (try simp only [Act.put, List.setIfInBounds_toArray, List.set_cons_zero, List.set_cons_succ])
  refine wpAnyH_take (i := 1) (v := ?_) (op_at _ 1 _ rfl) (by kernel_rfl) (by kernel_rfl) (by kernel_rfl) (fun _ _ _ h => h) (Or.inl ⟨by rfl, ?_⟩) (by assumption) ?_
  rotate_left 1
  focus (intro W hSw; obtain ⟨q0, q1⟩ := hSw; go_simp; first | done | with_reducible rfl)
  (try simp only [Act.put, List.setIfInBounds_toArray, List.set_cons_zero, List.set_cons_succ])
  refine wpAnyH_take (i := 2) (v := ?_) (op_at _ 2 _ rfl) (by kernel_rfl) (by kernel_rfl) (by kernel_rfl) (fun _ _ _ h => h) (Or.inl ⟨by rfl, ?_⟩) (by assumption) ?_
  rotate_left 1
  focus (intro W hSw; obtain ⟨q0, q1⟩ := hSw; go_simp; first | done | with_reducible rfl)
  (try simp only [Act.put, List.setIfInBounds_toArray, List.set_cons_zero, List.set_cons_succ])
  refine wpAnyH_take (i := 3) (v := ?_) (op_at _ 3 _ rfl) (by kernel_rfl) (by kernel_rfl) (by kernel_rfl) (fun _ _ _ h => h) (Or.inl ⟨by rfl, ?_⟩) (by assumption) ?_
  rotate_left 1
  focus (intro W hSw; obtain ⟨q0, q1⟩ := hSw; go_simp; first | done | with_reducible rfl)
  (try simp only [Act.put, List.setIfInBounds_toArray, List.set_cons_zero, List.set_cons_succ])
  refine wpAnyH_take (i := 4) (v := ?_) (op_at _ 4 _ rfl) (by kernel_rfl) (by kernel_rfl) (by kernel_rfl) (fun _ _ _ h => h) (Or.inl ⟨by rfl, ?_⟩) (by assumption) ?_
  rotate_left 1
  focus (intro W hSw; obtain ⟨q0, q1⟩ := hSw; go_simp; first | done | with_reducible rfl)
  (try simp only [Act.put, List.setIfInBounds_toArray, List.set_cons_zero, List.set_cons_succ])
  refine wpAnyH_ready (rs := [5]) (by kernel_rfl) (by simp) ?_
  refine AllReadyH.cons (op_at _ 5 _ rfl) (fun K hK => ?_) AllReadyH.nil
  go_simp
  refine CS.out.mono ?_; rintro e w2 ⟨rfl, hF2, hfr2⟩; replace hF2 := hid hF2; replace hfr2 := hid hfr2
  refine hK.out _ _ ⟨(World.cell?_of_block (hfr2.out.block xd (lt_cell (w := w) cd) hxd hsd)).trans cd, (World.cell?_of_block (hfr2.out.block xi (lt_cell (w := w) ci) hxi hsi)).trans ci⟩ (fun hHeld => ?_)
  clear hK K
  (try simp only [Act.put, List.setIfInBounds_toArray, List.set_cons_zero, List.set_cons_succ])
  refine wpAnyH_done (by kernel_rfl) ?_ _
  go_wp2
  go_ret
  have hfr := hfr2.out.undrew
  have hok : (d.put 1 (sureF d.f1.now)).Ok := ⟨H.out.ok.r1, H.out.ok.r2, H.out.ok.sum, H.out.ok.ok0, sureF_ok H.out.ok.ok1.sn, H.out.ok.kl, H.out.ok.tn, H.out.ok.lf, H.out.ok.op⟩
  exact ⟨0, rfl, rfl, ⟨_, H.out.file1 hF2.out hfr hok, fun k hk => by rcases hk with h | (h | h) | h; exact Or.inl (Or.inl h); exact Or.inl (Or.inr (Or.inl h)); exact Or.inr h.1; exact Or.inl (Or.inr (Or.inr h))⟩, hfr.df.imp (fun _ _ h => Or.inr (Or.inl h))⟩

set_option maxHeartbeats 2000000 in
theorem sync_1 (p : Nat) (P : Parts) (d : DS) (w : World) (h : DiskP w p P d) (ho : d.off = false) (hop : d.ops < 1000000000) :
    Calls Try.prog 18 #[.pointer (some ⟨p, 0, none⟩), .int .i64 1] w fun e w' => e = .returned (.int .i64 (syncD d 1).1) ∧ (∃ P', DiskP w' p P' (syncD d 1).2 ∧ Grew P w P') ∧ DFrame w w' p P.all := by
  obtain ⟨w3, hw3⟩ : ∃ w3, w3 = (w.alloc (.cells #[.pointer (some ⟨p, 0, none⟩)] 26)).alloc (.cells #[.int .i64 1] 3) := ⟨_, rfl⟩
  have hb3 : Below w.heap.size w w3 := by rw [hw3]; exact (by repeat (first | with_reducible exact Below.refl _ _ | with_reducible assumption | with_reducible refine Below.drew ?_ | with_reducible refine below_drewN ?_ _ | with_reducible refine Below.alloc ?_ (by simp <;> omega) _ | with_reducible refine Below.setCell ?_ (by simp <;> omega) _))
  have hpl := h.f0.plt
  have h3 := h.later hb3
  have cf := fault_on p P d 1 w3 h3 ho
  rw [show known 1 = true from rfl, if_pos rfl] at cf
  have k2 : w3.cell? ⟨w.heap.size, 0, none⟩ = some (.pointer (some ⟨p, 0, none⟩)) := by rw [hw3, World.cell?_alloc_past _ _ _ (by simp), World.cell?_alloc_at _ _ _ _ rfl]; rfl
  have k3 : w3.cell? ⟨w.heap.size + 1, 0, none⟩ = some (.int .i64 1) := by rw [hw3, World.cell?_alloc_at _ _ _ _ (by simp)]; rfl
  have CF := hid cf; have H := hid h; have H3 := hid h3; have HB := hid hb3; have HW3 := hid hw3; have K2 := hid k2; have K3 := hid k3
  have hz : w.heap.size ≤ w3.heap.size := hb3.size
  have hwd : syncD d 1 = if d.left = 1 then (4, crashD (opsD d) d.keep d.torn) else (0, (tickD d).put 1 (sureF d.f1.now)) := by
    simp only [syncD, ho]; rfl
  rw [hwd]
  clear hwd h h3 hb3 cf hw3
  by_cases hl1 : d.left = 1
  · rw [if_pos hl1]
    have co := hid (operate_crash p P d (.func (.func 45) #[] #[.pointer (some ⟨w.heap.size, 0, none⟩), .pointer (some ⟨w.heap.size + 1, 0, none⟩)]) w3 H3.out ho hl1 hop)
    go_enter Try.func18, Try.ntmps18
    go_wp2_with (first
      | (go_at_call 40; rw [← HW3.out]; refine CF.out.mono ?_; rintro e wx ⟨rfl, hwx⟩; obtain rfl := hwx; clear CF)
      | (go_at_call 41; refine co.out.mono ?_; rintro e w9 ⟨rfl, ⟨P', hd9, hg9⟩, hf9⟩; replace hd9 := hid hd9; replace hg9 := hid hg9; replace hf9 := hid hf9))
    go_ret
    exact ⟨rfl, ⟨P', hd9.out, fun k hk => by rcases hg9.out k hk with h | h; exact Or.inl h; exact Or.inr (Nat.le_trans hz h)⟩, (DFrame.below HB.out).trans (hf9.out.imp (fun _ _ h => Or.inl h))⟩
  · rw [if_neg hl1]
    have co := operate_do p P d 45 #[.pointer (some ⟨w.heap.size, 0, none⟩), .pointer (some ⟨w.heap.size + 1, 0, none⟩)] w3 H3.out hl1 hop (enters_of Try.func45 (by kernel_rfl) rfl)
      (fun x w' => x = 0 ∧ (∃ P', DiskP w' p P' ((tickD d).put 1 (sureF d.f1.now)) ∧ Grew P w P') ∧ DFrame w w' p P.all) (fun w1 h1 hf1 => by
        have hfw : DFrame w w1 p P.all := (DFrame.below HB.out).trans (hf1.imp (fun _ _ h => h.elim))
        have cw := sync1_1 p P (tickD d) w.heap.size (w.heap.size + 1) w1 h1 (hf1.cellAt K2.out (by show w.heap.size ≠ p; omega) (fun h => h)) (hf1.cellAt K3.out (by show w.heap.size + 1 ≠ p; omega) (fun h => h)) (by omega) (by omega) (fun h => by have := H.out.b1 _ h; omega) (fun h => by have := H.out.b1 _ h; omega)
        refine cw.mono ?_
        rintro e w2 ⟨x, rfl, hx, ⟨P', hd, hg⟩, hf⟩
        refine ⟨x, rfl, hx, ⟨P', hd, fun k hk => ?_⟩, hfw.trans (hf.imp (fun _ _ h => Or.inl h))⟩
        rcases hg k hk with h | h
        · exact Or.inl h
        · exact Or.inr (Nat.le_trans hfw.size h))
    have CO := hid co
    clear co
    go_enter Try.func18, Try.ntmps18
    go_wp2_with (first
      | (go_at_call 40; rw [← HW3.out]; refine CF.out.mono ?_; rintro e wx ⟨rfl, hwx⟩; obtain rfl := hwx; clear CF)
      | (go_at_call 41; refine CO.out.mono ?_; rintro e w9 ⟨x, rfl, hx, hd9, hf9⟩; replace hx := hid hx; replace hd9 := hid hd9; replace hf9 := hid hf9))
    go_ret
    exact ⟨by rw [← hx.out]; rfl, hd9.out, hf9.out⟩

theorem sync_call (p : Nat) (P : Parts) (d : DS) (f : Int) (w : World) (h : DiskP w p P d) (hop : d.ops < 1000000000) :
    Calls Try.prog 18 #[.pointer (some ⟨p, 0, none⟩), .int .i64 f] w fun e w' => e = .returned (.int .i64 (syncD d f).1) ∧ (∃ P', DiskP w' p P' (syncD d f).2 ∧ Grew P w P') ∧ DFrame w w' p P.all := by
  by_cases hx : d.off = true ∨ known f = false
  · have e : syncD d f = (if d.off then 4 else 11, d) := by
      unfold syncD
      rcases hx with h | h
      · simp [h]
      · cases d.off <;> simp [h]
    rw [e]
    refine (sync_off p P d f w h hx).mono ?_
    rintro e w' ⟨rfl, hb'⟩
    exact ⟨rfl, ⟨P, h.later hb', fun k hk => Or.inl hk⟩, DFrame.below hb'⟩
  · have ho : d.off = false := by cases h' : d.off; rfl; exact absurd (Or.inl h') hx
    have hk : known f = true := by cases h' : known f; exact absurd (Or.inr h') hx; rfl
    rcases known_cases hk with rfl | rfl
    · exact sync_0 p P d w h ho hop
    · exact sync_1 p P d w h ho hop

end Go.Proofs.Ytkgenmooepfhjaa
