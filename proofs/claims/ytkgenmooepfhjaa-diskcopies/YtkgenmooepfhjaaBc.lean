/- What disarm, Start, spare and Crash do to a disk; no statement of the seat is proved here. -/
import Derived.Test.YtkgenmooepfhjaaBb
namespace Go.Proofs.Ytkgenmooepfhjaa
open Go.RowKit Go.Maps

def disarmD (d : DS) : DS := { d with left := 0, keep := [], torn := 0 }

set_option maxHeartbeats 400000 in
theorem disarm_raw (p : Nat) (P : Parts) (d : DS) (w : World) (h : DiskP w p P d) :
    Calls Try.prog 50 #[.pointer (some ⟨p, 0, none⟩)] w fun e w' => e = .returned (.tuple #[]) ∧ w' = ((w.setCell ⟨p, 9, none⟩ (.int .i64 0)).setCell ⟨p, 10, none⟩ (.slice none 0 0)).setCell ⟨p, 11, none⟩ (.int .i64 0) := by
  have c9 := h.c9; have c10 := h.c10; have c11 := h.c11; have f9 := h.fz 9; have f10 := h.fz 10; have f11 := h.fz 11
  clear h
  go_enter Try.func50, Try.ntmps50
  go_wp2
  go_end0
  exact ⟨rfl, rfl⟩

theorem disarm_any (p : Nat) (P : Parts) (d : DS) (w : World) (h : DiskP w p P d) :
    Calls Try.prog 50 #[.pointer (some ⟨p, 0, none⟩)] w fun e w' => e = .returned (.tuple #[]) ∧ DiskP w' p { P with SK := fun _ => False, ko := none, kc := 0 } (disarmD d) ∧ DFrame w w' p (fun _ => False) ∧ w'.heap.size = w.heap.size := by
  refine (disarm_raw p P d w h).mono ?_
  rintro e w' ⟨rfl, rfl⟩
  have hb : ∀ k, k ≠ p → (((w.setCell ⟨p, 9, none⟩ (.int .i64 0)).setCell ⟨p, 10, none⟩ (.slice none 0 0)).setCell ⟨p, 11, none⟩ (.int .i64 0)).heap[k]? = w.heap[k]? := fun k hk => by
    rw [set_heap _ _ _ _ _ hk, set_heap _ _ _ _ _ hk, set_heap _ _ _ _ _ hk]
  have hz : (((w.setCell ⟨p, 9, none⟩ (.int .i64 0)).setCell ⟨p, 10, none⟩ (.slice none 0 0)).setCell ⟨p, 11, none⟩ (.int .i64 0)).heap.size = w.heap.size := by simp
  have hc : ∀ i, i < 9 → (((w.setCell ⟨p, 9, none⟩ (.int .i64 0)).setCell ⟨p, 10, none⟩ (.slice none 0 0)).setCell ⟨p, 11, none⟩ (.int .i64 0)).cell? ⟨p, i, none⟩ = w.cell? ⟨p, i, none⟩ := fun i hi => by
    rw [set_off _ _ _ (by omega), set_off _ _ _ (by omega), set_off _ _ _ (by omega)]
  refine ⟨rfl, ?_, ⟨rfl, rfl, rfl, Nat.le_of_eq hz.symm, fun k _ hk _ => hb k hk⟩, hz⟩
  refine h.turn (d' := disarmD d) (SK := fun _ => False) (ko := none) (kc := 0) (Nat.le_of_eq hz.symm) (fun k _ hk => hb k hk) (fun i _ hi => hc i (by omega)) (fun i => by rw [World.frozen?_setCell, World.frozen?_setCell, World.frozen?_setCell]) ((hc 0 (by omega)).trans h.c0) ((hc 1 (by omega)).trans h.c1) ((hc 2 (by omega)).trans h.c2) ?_ ?_ ?_ rfl rfl (fun hp => by simp [disarmD] at hp) (fun hp => by simp [disarmD] at hp) (fun _ hk => False.elim hk) (fun _ hk => False.elim hk) ?_
  · rw [set_off _ _ _ (by omega), set_off _ _ _ (by omega)]; exact set_same h.c9
  · rw [set_off _ _ _ (by omega)]; exact set_same ((set_off _ _ _ (by omega)).trans h.c10)
  · exact set_same ((set_off _ _ _ (by omega)).trans ((set_off _ _ _ (by omega)).trans h.c11))
  · exact ⟨h.ok.r1, h.ok.r2, h.ok.sum, h.ok.ok0, h.ok.ok1, by simp [disarmD], by simp [disarmD], by simp [disarmD], h.ok.op⟩

/-- The word on whether there is power turns. -/
theorem DiskP.power {w : World} {p : Nat} {P : Parts} {d : DS} (h : DiskP w p P d) (b : Bool) : DiskP (w.setCell ⟨p, 1, none⟩ (.bool b)) p P { d with off := b } ∧ DFrame w (w.setCell ⟨p, 1, none⟩ (.bool b)) p (fun _ => False) := by
  have hb : ∀ k, k ≠ p → (w.setCell ⟨p, 1, none⟩ (.bool b)).heap[k]? = w.heap[k]? := fun k hk => set_heap _ _ _ _ _ hk
  have hc : ∀ i, i ≠ 1 → (w.setCell ⟨p, 1, none⟩ (.bool b)).cell? ⟨p, i, none⟩ = w.cell? ⟨p, i, none⟩ := fun i hi => set_off _ _ _ (Ne.symm hi)
  have hz : (w.setCell ⟨p, 1, none⟩ (.bool b)).heap.size = w.heap.size := by simp
  exact ⟨h.turn (d' := { d with off := b }) (Nat.le_of_eq hz.symm) (fun k _ hk => hb k hk) (fun i _ _ => hc i (by omega)) (fun i => World.frozen?_setCell _ _ _ _) ((hc 0 (by omega)).trans h.c0) (set_same h.c1) ((hc 2 (by omega)).trans h.c2) ((hc 9 (by omega)).trans h.c9) ((hc 10 (by omega)).trans h.c10) ((hc 11 (by omega)).trans h.c11) rfl rfl
    (h.rk_stay (fun k _ hS => hb k (h.dk k hS).2.2)) h.ik h.dk (fun k hk => by rw [hz]; exact h.bk k hk) ⟨h.ok.r1, h.ok.r2, h.ok.sum, h.ok.ok0, h.ok.ok1, h.ok.kl, h.ok.tn, h.ok.lf, h.ok.op⟩,
   ⟨rfl, rfl, rfl, Nat.le_of_eq hz.symm, fun k _ hk _ => hb k hk⟩⟩

/-- Which blocks a disk has behind a call: those from before, or new ones. -/
def Grew (P : Parts) (w : World) (P' : Parts) : Prop := ∀ k, P'.all k → From P.all w k

def startD (d : DS) : DS := { disarmD d with off := false }

set_option maxHeartbeats 400000 in
theorem start_any (p : Nat) (P : Parts) (d : DS) (w : World) (h : DiskP w p P d) :
    Calls Try.prog 22 #[.pointer (some ⟨p, 0, none⟩)] w fun e w' => e = .returned (.int .i64 0) ∧ (∃ P', DiskP w' p P' (startD d) ∧ Grew P w P') ∧ DFrame w w' p (fun _ => False) := by
  have c := hid (made_yes p d.room w h.c0 h.ok.r1)
  obtain ⟨h1, fr1⟩ := h.power false
  have cd := hid (disarm_any p P _ _ h1)
  have FR := hid fr1
  have c1 := h.c1; have f1 := h.fz 1
  clear h h1 fr1
  go_enter Try.func22, Try.ntmps22
  go_wp2_with (first | (go_at_call 46; refine c.out.mono ?_; rintro e w' ⟨rfl, hw⟩; subst hw; clear c) | (go_at_call 50; refine cd.out.mono ?_; rintro e w2 ⟨rfl, hd, hfr, _⟩; replace hd := hid hd; replace hfr := hid hfr))
  go_ret
  exact ⟨rfl, ⟨_, hd.out, fun k hk => by rcases hk with h | h | h; exact Or.inl (Or.inl h); exact Or.inl (Or.inr (Or.inl h)); exact h.elim⟩, FR.out.trans (hfr.out.imp (fun _ _ h => h.elim))⟩

set_option maxHeartbeats 400000 in
theorem spare_any (p : Nat) (P : Parts) (d : DS) (w : World) (h : DiskP w p P d) :
    Calls Try.prog 43 #[.pointer (some ⟨p, 0, none⟩)] w fun e w' => e = .returned (.int .i64 ((d.room : Int) - (d.f0.now.length : Int) - (d.f1.now.length : Int))) ∧ ∃ n, w' = w.drewN n := by
  have c0 := h.c0; have c3 := h.f0.c0; have c6 := h.f1.c0
  have r2 := h.ok.r2; have hs := h.ok.sum
  clear h
  generalize d.f0.now.length = A at *
  generalize d.f1.now.length = B at *
  generalize d.room = R at *
  go_enter Try.func43, Try.ntmps43
  go_wp2_with fail
  go_quiet (fail)
  go_wp2
  go_ret
  exact ⟨rfl, _, rfl⟩

end Go.Proofs.Ytkgenmooepfhjaa
