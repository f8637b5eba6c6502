/- What Arm does to a disk; no statement of the seat is proved here. -/
import Derived.Test.YtkgenmooepfhjaaDc
namespace Go.Proofs.Ytkgenmooepfhjaa
open Go.RowKit Go.Maps

/-- What Arm leaves. -/
def armD (d : DS) (n : Int) (keep : List Bool) (t : Int) : DS := if n < 0 then d else if n = 0 then disarmD d else { d with left := n.toNat, keep := keep, torn := t }

def Reads9 (B : Nat) (ko : Option Addr) (LK kc : Nat) (t : Int) (W : World) : Prop := W.cell? ⟨B, 0, none⟩ = some (.slice ko LK kc) ∧ W.cell? ⟨B, 1, none⟩ = some (.int .i64 t)

theorem rdB_stay {w w' : World} {ko : Option Addr} {xs : List Bool} (h : RdB w ko xs) (hb : 0 < xs.length → ∀ a, ko = some a → a.block < w.heap.size → w'.heap[a.block]? = w.heap[a.block]?) : RdB w' ko xs := by
  intro hp
  obtain ⟨b, off, e, hc⟩ := h hp
  exact ⟨b, off, e, fun t ht => (World.cell?_of_block (a := ⟨b, off + t, none⟩) (hb hp ⟨b, off, none⟩ e (show b < _ from lt_cell (hc t ht)))).trans (hc t ht)⟩

theorem rdB_lt {w : World} {ko : Option Addr} {xs : List Bool} (h : RdB w ko xs) (hp : 0 < xs.length) : ∀ a, ko = some a → a.block < w.heap.size := by
  intro a ha
  obtain ⟨b, off, e, hc⟩ := h hp
  rw [ha] at e; cases e
  exact lt_cell (hc 0 hp)

theorem off_drew {w w' : World} {p : Nat} {S : Nat → Prop} (h : DFrame w.drew w' p S) : DFrame w w' p S := ⟨h.os, h.tape, h.output, h.size, h.block⟩

set_option maxHeartbeats 1000000 in
theorem arm_neg (p : Nat) (P : Parts) (d : DS) (n : Int) (v : Value) (w : World) (h : DiskP w p P d) (hn : n < 0) (a b : Value) (hv : v = .agg #[a, b]) :
    Calls Try.prog 24 #[.pointer (some ⟨p, 0, none⟩), .int .i64 n, v] w fun e w' => e = .returned (.int .i64 2) ∧ Below w.heap.size w w' := by
  subst hv
  obtain ⟨w3, hw3⟩ : ∃ w3, w3 = w.alloc (.cells #[a, b] 32) := ⟨_, rfl⟩
  have hb : Below w.heap.size w w3 := by rw [hw3]; exact (by repeat (first | with_reducible exact Below.refl _ _ | with_reducible assumption | with_reducible refine Below.drew ?_ | with_reducible refine below_drewN ?_ _ | with_reducible refine Below.alloc ?_ (by simp <;> omega) _ | with_reducible refine Below.setCell ?_ (by simp <;> omega) _))
  have c := hid (made_yes p d.room w3 (h.later hb).c0 h.ok.r1)
  have HB := hid hb; have HW3 := hid hw3
  clear hb h hw3
  go_enter Try.func24, Try.ntmps24
  go_wp2_with (go_at_call 46; rw [← HW3.out]; refine c.out.mono ?_; rintro e wx ⟨rfl, hwx⟩; obtain rfl := hwx)
  go_ret
  exact ⟨rfl, HB.out⟩

set_option maxHeartbeats 1000000 in
theorem arm_zero (p : Nat) (P : Parts) (d : DS) (a b : Value) (w : World) (h : DiskP w p P d) :
    Calls Try.prog 24 #[.pointer (some ⟨p, 0, none⟩), .int .i64 0, .agg #[a, b]] w fun e w' => e = .returned (.int .i64 0) ∧ (∃ P', DiskP w' p P' (disarmD d) ∧ Grew P w P') ∧ DFrame w w' p P.all := by
  obtain ⟨w3, hw3⟩ : ∃ w3, w3 = w.alloc (.cells #[a, b] 32) := ⟨_, rfl⟩
  have hb : Below w.heap.size w w3 := by rw [hw3]; exact (by repeat (first | with_reducible exact Below.refl _ _ | with_reducible assumption | with_reducible refine Below.drew ?_ | with_reducible refine below_drewN ?_ _ | with_reducible refine Below.alloc ?_ (by simp <;> omega) _ | with_reducible refine Below.setCell ?_ (by simp <;> omega) _))
  have c := hid (made_yes p d.room w3 (h.later hb).c0 h.ok.r1)
  have cd := hid (disarm_any p P d w3 (h.later hb))
  have HB := hid hb; have HW3 := hid hw3
  clear hb h hw3
  go_enter Try.func24, Try.ntmps24
  go_wp2_with (first
    | (go_at_call 46; rw [← HW3.out]; refine c.out.mono ?_; rintro e wx ⟨rfl, hwx⟩; obtain rfl := hwx; clear c)
    | (go_at_call 50; refine cd.out.mono ?_; rintro e w2 ⟨rfl, hd, hfr, _⟩; replace hd := hid hd; replace hfr := hid hfr))
  go_ret
  exact ⟨rfl, ⟨_, hd.out, fun k hk => by rcases hk with h | h | h; exact Or.inl (Or.inl h); exact Or.inl (Or.inr (Or.inl h)); exact h.elim⟩, (DFrame.below HB.out).trans (hfr.out.imp (fun _ _ h => h.elim))⟩

set_option maxHeartbeats 2000000 in
theorem arm_pos (p : Nat) (P : Parts) (d : DS) (n : Nat) (ko : Option Addr) (kc : Nat) (keep : List Bool) (t : Int) (w : World) (h : DiskP w p P d) (hn : 0 < n) (hn2 : n ≤ 9223372036854775807) (hr : RdB w ko keep) (hk : keep.length ≤ 100) (ht : -9223372036854775808 ≤ t ∧ t ≤ 9223372036854775807) (hkp : 0 < keep.length → ∀ a, ko = some a → a.block ≠ p) :
    Calls Try.prog 24 #[.pointer (some ⟨p, 0, none⟩), .int .i64 (n : Int), .agg #[.slice ko keep.length kc, .int .i64 t]] w fun e w' => e = .returned (.int .i64 0) ∧ (∃ P', DiskP w' p P' { d with left := n, keep := keep, torn := t } ∧ Grew P w P') ∧ DFrame w w' p P.all := by
  obtain ⟨LK, hLK⟩ : ∃ LK, LK = keep.length := ⟨_, rfl⟩
  obtain ⟨w1, hw1⟩ : ∃ w1, w1 = w.alloc (.cells #[.slice ko keep.length kc, .int .i64 t] 32) := ⟨_, rfl⟩
  have hb : Below w.heap.size w w1 := by rw [hw1]; exact (by repeat (first | with_reducible exact Below.refl _ _ | with_reducible assumption | with_reducible refine Below.drew ?_ | with_reducible refine below_drewN ?_ _ | with_reducible refine Below.alloc ?_ (by simp <;> omega) _ | with_reducible refine Below.setCell ?_ (by simp <;> omega) _))
  have z1 : w1.heap.size = w.heap.size + 1 := by rw [hw1]; simp
  have k0 : w1.cell? ⟨w.heap.size, 0, none⟩ = some (.slice ko keep.length kc) := by rw [hw1, World.cell?_alloc_at _ _ _ _ rfl]; rfl
  have k1 : w1.cell? ⟨w.heap.size, 1, none⟩ = some (.int .i64 t) := by rw [hw1, World.cell?_alloc_at _ _ _ _ rfl]; rfl
  have hpl := p_lt h
  have hpB : w.heap.size ≠ p := by omega
  have c := hid (made_yes p d.room w1 (h.later hb).c0 h.ok.r1)
  have hcd := disarm_any p P d w1 (h.later hb)
  have cd := hid hcd
  have HB := hid hb; have HW1 := hid hw1; have H := hid h; have HR := hid hr; have K0 := hid k0; have K1 := hid k1; have Z1 := hid z1
  have HCL := hid (fun (W : World) (h : RdB W ko keep) => clone_bools ko kc keep W h (by omega))
  rw [← hLK] at K0 HCL HW1 ⊢
  have HLK := hid hLK
  clear hb h hr k0 k1 z1 hcd hw1 hLK
  have hnI : (0 : Int) < (n : Int) := by omega
  have hnN : ¬ ((n : Int) < 0) := by omega
  go_enter Try.func24, Try.ntmps24
  go_wp2_with (first
    | (go_at_call 46; rw [← HW1.out]; refine c.out.mono ?_; rintro e wx ⟨rfl, hwx⟩; obtain rfl := hwx; clear c)
    | (go_at_call 50; refine cd.out.mono ?_; rintro e w2 ⟨rfl, hd, hfr, hz⟩; clear cd; have hZ := hid hz; clear hz; have hR : Reads9 w.heap.size ko LK kc t w2.drew := ⟨hfr.cellAt K0.out hpB (fun h => h), hfr.cellAt K1.out hpB (fun h => h)⟩; have HD := hid (hd.stay (w' := w2.drew) (Nat.le_refl _) (fun _ _ _ => rfl)); have CC := hid (HCL.out w2.drew (rdB_stay HR.out (fun hp a ha hl => (hfr.block a.block (by have := Z1.out; omega) (hkp hp a ha) (fun h => h)).trans (HB.out.block a.block hl)))); replace hfr := hid hfr; clear hd HCL))
  refine wp_region_held_drew (S := Reads9 w.heap.size ko LK kc t) (by kernel_rfl) hR (fun hHeld => ?_)
  refine wpAnyH_take (i := 0) (v := ?_) (op_at _ 0 _ rfl) (by kernel_rfl) (by kernel_rfl) (by kernel_rfl) (fun _ _ _ h => h) (Or.inl ⟨by rfl, ?_⟩) (by assumption) ?_
  rotate_left 1
  focus (intro W hSw; obtain ⟨q0, q1⟩ := hSw; go_simp; first | done | with_reducible rfl)
  (try simp only [Act.put, List.setIfInBounds_toArray, List.set_cons_zero, List.set_cons_succ])
  refine wpAnyH_take (i := 1) (v := ?_) (op_at _ 1 _ rfl) (by kernel_rfl) (by kernel_rfl) (by kernel_rfl) (fun _ _ _ h => h) (Or.inl ⟨by rfl, ?_⟩) (by assumption) ?_
  rotate_left 1
  focus (intro W hSw; obtain ⟨q0, q1⟩ := hSw; go_simp; first | done | with_reducible rfl)
  (try simp only [Act.put, List.setIfInBounds_toArray, List.set_cons_zero, List.set_cons_succ])
  refine wpAnyH_take (i := 2) (v := ?_) (op_at _ 2 _ rfl) (by kernel_rfl) (by kernel_rfl) (by kernel_rfl) (fun _ _ _ h => h) (Or.inl ⟨by rfl, ?_⟩) (by assumption) ?_
  rotate_left 1
  focus (intro W hSw; obtain ⟨q0, q1⟩ := hSw; go_simp; first | done | with_reducible rfl)
  (try simp only [Act.put, List.setIfInBounds_toArray, List.set_cons_zero, List.set_cons_succ])
  refine wpAnyH_take (i := 3) (v := ?_) (op_at _ 3 _ rfl) (by kernel_rfl) (by kernel_rfl) (by kernel_rfl) (fun _ _ _ h => h) (Or.inl ⟨by rfl, ?_⟩) (by assumption) ?_
  rotate_left 1
  focus (intro W hSw; obtain ⟨q0, q1⟩ := hSw; go_simp; first | done | with_reducible rfl)
  (try simp only [Act.put, List.setIfInBounds_toArray, List.set_cons_zero, List.set_cons_succ])
  refine wpAnyH_take (i := 4) (v := ?_) (op_at _ 4 _ rfl) (by kernel_rfl) (by kernel_rfl) (by kernel_rfl) (fun _ _ _ h => h) (Or.inl ⟨by rfl, ?_⟩) (by assumption) ?_
  rotate_left 1
  focus (intro W hSw; obtain ⟨q0, q1⟩ := hSw; go_simp; first | done | with_reducible rfl)
  (try simp only [Act.put, List.setIfInBounds_toArray, List.set_cons_zero, List.set_cons_succ])
  refine wpAnyH_take (i := 6) (v := ?_) (op_at _ 6 _ rfl) (by kernel_rfl) (by kernel_rfl) (by kernel_rfl) (fun _ _ _ h => h) (Or.inl ⟨by rfl, ?_⟩) (by assumption) ?_
  rotate_left 1
  focus (intro W hSw; obtain ⟨q0, q1⟩ := hSw; go_simp; first | done | with_reducible rfl)
  (try simp only [Act.put, List.setIfInBounds_toArray, List.set_cons_zero, List.set_cons_succ])
  refine wpAnyH_take (i := 7) (v := ?_) (op_at _ 7 _ rfl) (by kernel_rfl) (by kernel_rfl) (by kernel_rfl) (fun _ _ _ h => h) (Or.inl ⟨by rfl, ?_⟩) (by assumption) ?_
  rotate_left 1
  focus (intro W hSw; obtain ⟨q0, q1⟩ := hSw; go_simp; first | done | with_reducible rfl)
  (try simp only [Act.put, List.setIfInBounds_toArray, List.set_cons_zero, List.set_cons_succ])
  refine wpAnyH_ready (rs := [5]) (by kernel_rfl) (by simp) ?_
  refine AllReadyH.cons (op_at _ 5 _ rfl) (fun K hK => ?_) AllReadyH.nil
  go_simp
  refine CC.out.mono ?_; rintro e w3 ⟨ko', kc', rfl, hrd3, hab3, hb3⟩; clear CC; have hR3 : Reads9 w.heap.size ko LK kc t w3 := ⟨keep_old hb3 hR.1, keep_old hb3 hR.2⟩; have d3 := HD.out.later hb3; have c9 := d3.c9; have c10 := d3.c10; have c11 := d3.c11; have f9 := d3.fz 9; have f10 := d3.fz 10; have f11 := d3.fz 11; replace hrd3 := hid hrd3; replace hab3 := hid hab3; replace hb3 := hid hb3; replace d3 := hid d3
  refine hK.out _ _ hR3 (fun hHeld => ?_)
  clear hK K
  (try simp only [Act.put, List.setIfInBounds_toArray, List.set_cons_zero, List.set_cons_succ])
  refine wpAnyH_take (i := 8) (v := ?_) (op_at _ 8 _ rfl) (by kernel_rfl) (by kernel_rfl) (by kernel_rfl) (fun _ _ _ h => h) (Or.inl ⟨by rfl, ?_⟩) (by assumption) ?_
  rotate_left 1
  focus (intro W hSw; obtain ⟨q0, q1⟩ := hSw; go_simp; first | done | with_reducible rfl)
  (try simp only [Act.put, List.setIfInBounds_toArray, List.set_cons_zero, List.set_cons_succ])
  refine wpAnyH_take (i := 9) (v := ?_) (op_at _ 9 _ rfl) (by kernel_rfl) (by kernel_rfl) (by kernel_rfl) (fun _ _ _ h => h) (Or.inl ⟨by rfl, ?_⟩) (by assumption) ?_
  rotate_left 1
  focus (intro W hSw; obtain ⟨q0, q1⟩ := hSw; go_simp; first | done | with_reducible rfl)
  (try simp only [Act.put, List.setIfInBounds_toArray, List.set_cons_zero, List.set_cons_succ])
  refine wpAnyH_take (i := 10) (v := ?_) (op_at _ 10 _ rfl) (by kernel_rfl) (by kernel_rfl) (by kernel_rfl) (fun _ _ _ h => h) (Or.inl ⟨by rfl, ?_⟩) (by assumption) ?_
  rotate_left 1
  focus (intro W hSw; obtain ⟨q0, q1⟩ := hSw; go_simp; first | done | with_reducible rfl)
  (try simp only [Act.put, List.setIfInBounds_toArray, List.set_cons_zero, List.set_cons_succ])
  refine wpAnyH_ready (rs := [11]) (by kernel_rfl) (by simp) ?_
  refine AllReadyH.cons (op_at _ 11 _ rfl) (fun K hK => ?_) AllReadyH.nil
  go_simp
  have hR4 : Reads9 w.heap.size ko LK kc t (w3.setCell ⟨p, 9, none⟩ (.int .i64 (n : Int))) := ⟨(World.cell?_of_block (set_heap _ _ _ _ _ hpB)).trans hR3.1, (World.cell?_of_block (set_heap _ _ _ _ _ hpB)).trans hR3.2⟩
  refine hK.out _ _ hR4 (fun hHeld => ?_)
  clear hK K
  (try simp only [Act.put, List.setIfInBounds_toArray, List.set_cons_zero, List.set_cons_succ])
  refine wpAnyH_take (i := 12) (v := ?_) (op_at _ 12 _ rfl) (by kernel_rfl) (by kernel_rfl) (by kernel_rfl) (fun _ _ _ h => h) (Or.inl ⟨by rfl, ?_⟩) (by assumption) ?_
  rotate_left 1
  focus (intro W hSw; obtain ⟨q0, q1⟩ := hSw; go_simp; first | done | with_reducible rfl)
  (try simp only [Act.put, List.setIfInBounds_toArray, List.set_cons_zero, List.set_cons_succ])
  refine wpAnyH_take (i := 13) (v := ?_) (op_at _ 13 _ rfl) (by kernel_rfl) (by kernel_rfl) (by kernel_rfl) (fun _ _ _ h => h) (Or.inl ⟨by rfl, ?_⟩) (by assumption) ?_
  rotate_left 1
  focus (intro W hSw; obtain ⟨q0, q1⟩ := hSw; go_simp; first | done | with_reducible rfl)
  (try simp only [Act.put, List.setIfInBounds_toArray, List.set_cons_zero, List.set_cons_succ])
  refine wpAnyH_ready (rs := [14]) (by kernel_rfl) (by simp) ?_
  refine AllReadyH.cons (op_at _ 14 _ rfl) (fun K hK => ?_) AllReadyH.nil
  go_simp
  have hR5 : Reads9 w.heap.size ko LK kc t (((w3.setCell ⟨p, 9, none⟩ (.int .i64 (n : Int))).setCell ⟨p, 10, none⟩ (.slice ko' LK kc')).setCell ⟨p, 11, none⟩ (.int .i64 t)) := ⟨(World.cell?_of_block ((set_heap _ _ _ _ _ hpB).trans ((set_heap _ _ _ _ _ hpB).trans (set_heap _ _ _ _ _ hpB)))).trans hR3.1, (World.cell?_of_block ((set_heap _ _ _ _ _ hpB).trans ((set_heap _ _ _ _ _ hpB).trans (set_heap _ _ _ _ _ hpB)))).trans hR3.2⟩
  refine hK.out _ _ hR5 (fun hHeld => ?_)
  clear hK K
  (try simp only [Act.put, List.setIfInBounds_toArray, List.set_cons_zero, List.set_cons_succ])
  refine wpAnyH_done (by kernel_rfl) ?_ _
  go_wp2
  go_ret
  have d2 := d3.out
  obtain ⟨W, hW⟩ : ∃ W, W = ((w3.setCell ⟨p, 9, none⟩ (.int .i64 (n : Int))).setCell ⟨p, 10, none⟩ (.slice ko' LK kc')).setCell ⟨p, 11, none⟩ (.int .i64 t) := ⟨_, rfl⟩
  rw [← hW]
  have hbl : ∀ k, k ≠ p → W.heap[k]? = w3.heap[k]? := fun k hk => by rw [hW, set_heap _ _ _ _ _ hk, set_heap _ _ _ _ _ hk, set_heap _ _ _ _ _ hk]
  have hzz : W.heap.size = w3.heap.size := by rw [hW]; simp
  have hcc : ∀ i, i < 9 → W.cell? ⟨p, i, none⟩ = w3.cell? ⟨p, i, none⟩ := fun i hi => by rw [hW, set_off _ _ _ (by omega), set_off _ _ _ (by omega), set_off _ _ _ (by omega)]
  have x9 : W.cell? ⟨p, 9, none⟩ = some (.int .i64 (n : Int)) := by rw [hW, set_off _ _ _ (by omega), set_off _ _ _ (by omega)]; exact set_same c9
  have x10 : W.cell? ⟨p, 10, none⟩ = some (.slice ko' LK kc') := by rw [hW, set_off _ _ _ (by omega)]; exact set_same ((set_off _ _ _ (by omega)).trans c10)
  have x11 : W.cell? ⟨p, 11, none⟩ = some (.int .i64 t) := by rw [hW]; exact set_same ((set_off _ _ _ (by omega)).trans ((set_off _ _ _ (by omega)).trans c11))
  have ofr : W.os = w3.os ∧ W.tape = w3.tape ∧ W.output = w3.output := by rw [hW]; exact ⟨rfl, rfl, rfl⟩
  have hfz : ∀ i, W.frozen? ⟨p, i, none⟩ = w3.frozen? ⟨p, i, none⟩ := fun i => by rw [hW, World.frozen?_setCell, World.frozen?_setCell, World.frozen?_setCell]
  clear hW
  have hz2 : w2.heap.size = w.heap.size + 1 := hZ.out.trans Z1.out
  have hz3 : w2.heap.size ≤ w3.heap.size := hb3.out.size
  rw [HLK.out] at x10
  refine ⟨rfl, ⟨_, d2.turn (d' := { d with left := n, keep := keep, torn := t }) (SK := fun k => w2.heap.size ≤ k ∧ k < w3.heap.size) (ko := ko') (kc := kc') (Nat.le_of_eq hzz.symm) (fun k _ hk => hbl k hk) (fun i _ hi => hcc i (by omega)) hfz ((hcc 0 (by omega)).trans d2.c0) ((hcc 1 (by omega)).trans d2.c1) ((hcc 2 (by omega)).trans d2.c2) x9 x10 x11 rfl rfl (rdB_stay hrd3.out (fun _ a ha _ => hbl _ (by have : w2.heap.size ≤ a.block := (hab3.out a ha).1; omega))) (fun _ a ha => hab3.out a ha) (fun k hk => ⟨fun hS => ?_, fun hS => ?_, by omega⟩) (fun k hk => by rw [hzz]; exact hk.2) ?_, ?_⟩, ?_⟩
  · have := HD.out.b0 k hS; have : k < w2.heap.size := this; omega
  · have := HD.out.b1 k hS; have : k < w2.heap.size := this; omega
  · exact ⟨H.out.ok.r1, H.out.ok.r2, H.out.ok.sum, H.out.ok.ok0, H.out.ok.ok1, hk, ht, hn2, H.out.ok.op⟩
  · rintro k (hk | hk | hk)
    · exact Or.inl (Or.inl hk)
    · exact Or.inl (Or.inr (Or.inl hk))
    · exact Or.inr (by have : w2.heap.size ≤ k := hk.1; omega)
  · have f1 : DFrame w w2 p P.all := (DFrame.below HB.out).trans (hfr.out.imp (fun _ _ h => h.elim))
    have f2 : DFrame w2 w3 p (From P.all w) := off_drew (DFrame.below hb3.out)
    have f3 : DFrame w3 W p (From P.all w) := ⟨ofr.1, ofr.2.1, ofr.2.2, Nat.le_of_eq hzz.symm, fun k _ hk _ => hbl k hk⟩
    exact f1.trans (f2.trans (f3.imp (fun _ _ h => Or.inl h)))

theorem arm_call (p : Nat) (P : Parts) (d : DS) (n : Int) (ko : Option Addr) (kc : Nat) (keep : List Bool) (t : Int) (w : World) (h : DiskP w p P d) (hn2 : n ≤ 9223372036854775807) (hr : RdB w ko keep) (hk : keep.length ≤ 100) (ht : -9223372036854775808 ≤ t ∧ t ≤ 9223372036854775807) (hkp : 0 < keep.length → ∀ a, ko = some a → a.block ≠ p) :
    Calls Try.prog 24 #[.pointer (some ⟨p, 0, none⟩), .int .i64 n, .agg #[.slice ko keep.length kc, .int .i64 t]] w fun e w' => e = .returned (.int .i64 (if n < 0 then 2 else 0)) ∧ (∃ P', DiskP w' p P' (armD d n keep t) ∧ Grew P w P') ∧ DFrame w w' p P.all := by
  unfold armD
  by_cases h0 : n < 0
  · rw [if_pos h0, if_pos h0]
    refine (arm_neg p P d n _ w h h0 _ _ rfl).mono ?_
    rintro e w' ⟨rfl, hb⟩
    exact ⟨rfl, ⟨P, h.later hb, fun k hk => Or.inl hk⟩, DFrame.below hb⟩
  · rw [if_neg h0, if_neg h0]
    by_cases h1 : n = 0
    · rw [if_pos h1]
      subst h1
      exact arm_zero p P d _ _ w h
    · rw [if_neg h1]
      obtain ⟨N, rfl⟩ := Int.eq_ofNat_of_zero_le (show 0 ≤ n by omega)
      rw [Int.toNat_natCast]
      exact arm_pos p P d N ko kc keep t w h (by omega) (by omega) hr hk ht hkp

end Go.Proofs.Ytkgenmooepfhjaa
