/- An operation is counted, and done or not; no statement of the seat is proved here. -/
import Derived.Test.YtkgenmooepfhjaaBd
namespace Go.Proofs.Ytkgenmooepfhjaa
open Go.RowKit Go.Maps

def opsD (d : DS) : DS := { d with ops := d.ops + 1 }
def tickD (d : DS) : DS := { d with ops := d.ops + 1, left := d.left - 1 }

theorem DiskP.count {w : World} {p : Nat} {P : Parts} {d : DS} (h : DiskP w p P d) (n : Nat) (hn : n ≤ 1000000000) : DiskP (w.setCell ⟨p, 2, none⟩ (.int .i64 (n : Int))) p P { d with ops := n } ∧ DFrame w (w.setCell ⟨p, 2, none⟩ (.int .i64 (n : Int))) p (fun _ => False) := by
  have hb : ∀ k, k ≠ p → (w.setCell ⟨p, 2, none⟩ (.int .i64 (n : Int))).heap[k]? = w.heap[k]? := fun k hk => set_heap _ _ _ _ _ hk
  have hc : ∀ i, i ≠ 2 → (w.setCell ⟨p, 2, none⟩ (.int .i64 (n : Int))).cell? ⟨p, i, none⟩ = w.cell? ⟨p, i, none⟩ := fun i hi => set_off _ _ _ (Ne.symm hi)
  have hz : (w.setCell ⟨p, 2, none⟩ (.int .i64 (n : Int))).heap.size = w.heap.size := by simp
  exact ⟨h.turn (d' := { d with ops := n }) (Nat.le_of_eq hz.symm) (fun k _ hk => hb k hk) (fun i _ _ => hc i (by omega)) (fun i => World.frozen?_setCell _ _ _ _) ((hc 0 (by omega)).trans h.c0) ((hc 1 (by omega)).trans h.c1) (set_same h.c2) ((hc 9 (by omega)).trans h.c9) ((hc 10 (by omega)).trans h.c10) ((hc 11 (by omega)).trans h.c11) rfl rfl
    (h.rk_stay (fun k _ hS => hb k (h.dk k hS).2.2)) h.ik h.dk (fun k hk => by rw [hz]; exact h.bk k hk) ⟨h.ok.r1, h.ok.r2, h.ok.sum, h.ok.ok0, h.ok.ok1, h.ok.kl, h.ok.tn, h.ok.lf, hn⟩,
   ⟨rfl, rfl, rfl, Nat.le_of_eq hz.symm, fun k _ hk _ => hb k hk⟩⟩

theorem DiskP.toGo {w : World} {p : Nat} {P : Parts} {d : DS} (h : DiskP w p P d) (n : Nat) (hn : n ≤ 9223372036854775807) : DiskP (w.setCell ⟨p, 9, none⟩ (.int .i64 (n : Int))) p P { d with left := n } ∧ DFrame w (w.setCell ⟨p, 9, none⟩ (.int .i64 (n : Int))) p (fun _ => False) := by
  have hb : ∀ k, k ≠ p → (w.setCell ⟨p, 9, none⟩ (.int .i64 (n : Int))).heap[k]? = w.heap[k]? := fun k hk => set_heap _ _ _ _ _ hk
  have hc : ∀ i, i ≠ 9 → (w.setCell ⟨p, 9, none⟩ (.int .i64 (n : Int))).cell? ⟨p, i, none⟩ = w.cell? ⟨p, i, none⟩ := fun i hi => set_off _ _ _ (Ne.symm hi)
  have hz : (w.setCell ⟨p, 9, none⟩ (.int .i64 (n : Int))).heap.size = w.heap.size := by simp
  exact ⟨h.turn (d' := { d with left := n }) (Nat.le_of_eq hz.symm) (fun k _ hk => hb k hk) (fun i _ _ => hc i (by omega)) (fun i => World.frozen?_setCell _ _ _ _) ((hc 0 (by omega)).trans h.c0) ((hc 1 (by omega)).trans h.c1) ((hc 2 (by omega)).trans h.c2) (set_same h.c9) ((hc 10 (by omega)).trans h.c10) ((hc 11 (by omega)).trans h.c11) rfl rfl
    (h.rk_stay (fun k _ hS => hb k (h.dk k hS).2.2)) h.ik h.dk (fun k hk => by rw [hz]; exact h.bk k hk) ⟨h.ok.r1, h.ok.r2, h.ok.sum, h.ok.ok0, h.ok.ok1, h.ok.kl, h.ok.tn, hn, h.ok.op⟩,
   ⟨rfl, rfl, rfl, Nat.le_of_eq hz.symm, fun k _ hk _ => hb k hk⟩⟩

set_option maxHeartbeats 1000000 in
/-- The power goes instead. -/
theorem operate_crash (p : Nat) (P : Parts) (d : DS) (fv : Value) (w : World) (h : DiskP w p P d) (ho : d.off = false) (hl : d.left = 1) (hop : d.ops < 1000000000) :
    Calls Try.prog 41 #[.pointer (some ⟨p, 0, none⟩), fv] w fun e w' => e = .returned (.int .i64 4) ∧ (∃ P', DiskP w' p P' (crashD (opsD d) d.keep d.torn) ∧ Grew P w P') ∧ DFrame w w' p P.all := by
  obtain ⟨h1, fr1⟩ := h.count (d.ops + 1) (by omega)
  have e1 : ((d.ops + 1 : Nat) : Int) = (d.ops : Int) + 1 := by omega
  rw [e1] at h1 fr1
  have cc := crash_on p P _ P.ko P.kc d.keep d.torn _ h1 ho h1.rk h1.ok.kl h1.ok.tn (fun hp a ha => h.dk _ (h.ik hp a ha))
  have CC := hid cc; have FR := hid fr1
  have c2 := h.c2; have f2 := h.fz 2; have c9 := h.c9; have c10 := h.c10; have c11 := h.c11
  rw [hl] at c9
  clear cc h1 fr1
  have hop' : (d.ops : Int) < 1000000000 := by omega
  clear h
  generalize P.ko = ko at *
  generalize P.kc = kc at *
  go_enter Try.func41, Try.ntmps41
  go_wp2_with (go_at_call 21; refine CC.out.mono ?_; rintro e w2 ⟨rfl, hd, hfr⟩; replace hd := hid hd; replace hfr := hid hfr)
  go_ret
  obtain ⟨P', hd', hg⟩ := hd.out
  exact ⟨rfl, ⟨P', hd', fun k hk => by rcases hg k hk with h | h; exact Or.inl h; exact Or.inr (by simpa using h)⟩, (FR.out.imp (fun _ _ h => h.elim)).trans (hfr.out.imp (fun _ _ h => Or.inl h))⟩

set_option maxHeartbeats 1000000 in
/-- It is done. -/
theorem operate_do (p : Nat) (P : Parts) (d : DS) (q : Nat) (bb : Array Value) (w : World) (h : DiskP w p P d) (hl : d.left ≠ 1) (hop : d.ops < 1000000000) (eq : ∀ args w, (callFunc q args).run Try.prog w = .ok (.enter q args) w) (R : Int → World → Prop)
    (hdo : ∀ w1, DiskP w1 p P (tickD d) → DFrame w w1 p (fun _ => False) → Calls Try.prog q bb w1 fun e w' => ∃ x, e = .returned (.int .i64 x) ∧ R x w') :
    Calls Try.prog 41 #[.pointer (some ⟨p, 0, none⟩), .func (.func q) #[] bb] w fun e w' => ∃ x, e = .returned (.int .i64 x) ∧ R x w' := by
  obtain ⟨h1, fr1⟩ := h.count (d.ops + 1) (by omega)
  have e1 : ((d.ops + 1 : Nat) : Int) = (d.ops : Int) + 1 := by omega
  rw [e1] at h1 fr1
  have c2 := h.c2; have f2 := h.fz 2; have c9 := h.c9; have f9 := h.fz 9
  have hlf := h.ok.lf
  have hl1 : ((d.left : Int) == 1) = false := by simp; omega
  by_cases h0 : d.left = 0
  · have hd0 : tickD d = { d with ops := d.ops + 1 } := by simp [tickD, h0]
    rw [hd0] at hdo
    have C := hid (hdo _ h1 fr1)
    rw [h0] at c9
    clear hdo h1 fr1 h hl1
    generalize d.ops = n at *
    go_enter Try.func41, Try.ntmps41
    go_wp2_with (go_at_fn q; refine C.out.mono ?_; rintro e w2 ⟨x, rfl, hR⟩; replace hR := hid hR)
    go_ret
    exact ⟨x, rfl, hR.out⟩
  · obtain ⟨h2, fr2⟩ := h1.toGo (d.left - 1) (by omega)
    have e2 : ((d.left - 1 : Nat) : Int) = (d.left : Int) - 1 := by omega
    rw [e2] at h2 fr2
    have C := hid (hdo _ h2 (fr1.trans (fr2.imp (fun _ _ h => h.elim))))
    have h0' : (0 : Int) < (d.left : Int) := by omega
    have hlf' : (d.left : Int) ≤ 9223372036854775807 := by omega
    clear hdo h1 fr1 h2 fr2 h
    generalize d.ops = n at *
    generalize d.left = m at *
    go_enter Try.func41, Try.ntmps41
    go_wp2_with (go_at_fn q; refine C.out.mono ?_; rintro e w2 ⟨x, rfl, hR⟩; replace hR := hid hR)
    go_ret
    exact ⟨x, rfl, hR.out⟩

end Go.Proofs.Ytkgenmooepfhjaa
