/- New, Start, Sectors, Dirt of the document's disk; no statement of the seat is proved here. -/
import Derived.Test.YtkgenmooepfhjaaEc
namespace Go.Proofs.Ytkgenmooepfhjaa
open Go.RowKit Go.Maps

set_option maxHeartbeats 400000 in
theorem rnew_no (n : Int) (w : World) (h : n < 1 ∨ 32768 < n) : Calls Try.prog 11 #[.int .i64 n] w fun e w' => e = .returned (.pointer none) ∧ w' = w := by
  by_cases h1 : n < 1
  · go_enter Try.func11, Try.ntmps11
    go_wp2
    go_ret
    exact ⟨rfl, rfl⟩
  · have h2 : 32768 < n := by omega
    have h1' : decide (n < 1) = false := by simp; omega
    go_enter Try.func11, Try.ntmps11
    go_wp2
    go_ret
    exact ⟨rfl, rfl⟩

def noRP : RP := ⟨none, 0, [], none, 0, [], none, 0⟩
theorem refF_nil {W : World} {r o : Nat} (c0 : W.cell? ⟨r, o, none⟩ = some (.slice none 0 0)) (c1 : W.cell? ⟨r, o + 1, none⟩ = some (.slice none 0 0)) (c2 : W.cell? ⟨r, o + 2, none⟩ = some (.slice none 0 0)) : RefF W r o (fun _ => False) noRP ⟨[], [], []⟩ :=
  ⟨c0, c1, c2, World.ownsRow_nil _ _ _ _, World.ownsRow_nil _ _ _ _, World.ownsRow_nil _ _ _ _, ⟨rfl, fun i v x hv => by simp [noRP] at hv⟩, ⟨rfl, fun i v x hv => by simp [noRP] at hv⟩, fun h => h, fun a ha => (by cases ha), fun a ha => (by cases ha), fun a ha => (by cases ha), fun a b ha => (by cases ha)⟩

set_option maxHeartbeats 1000000 in
theorem rnew_yes (n : Nat) (w : World) (h1 : 1 ≤ n) (h2 : n ≤ 32768) : Calls Try.prog 11 #[.int .i64 (n : Int)] w fun e w' => e = .returned (.pointer (some ⟨w.heap.size, 0, none⟩)) ∧ (∃ R, RefP w' w.heap.size R (newD n) ∧ ∀ k, ¬ R.all k) ∧ Below w.heap.size w w' := by
  have h1' : ¬ ((n : Int) < 1) := by omega
  have h2' : ¬ (32768 < (n : Int)) := by omega
  go_enter Try.func11, Try.ntmps11
  go_wp2
  go_ret
  obtain ⟨W, hW⟩ : ∃ W, W = w.alloc (.cells #[.int .i64 (n : Int), .slice none 0 0, .slice none 0 0, .slice none 0 0, .slice none 0 0, .slice none 0 0, .slice none 0 0, .bool false, .int .i64 0, .int .i64 0, .slice none 0 0, .int .i64 0] 72) := ⟨_, rfl⟩
  rw [← hW]
  have hc : ∀ i, W.cell? ⟨w.heap.size, i, none⟩ = #[.int .i64 (n : Int), .slice none 0 0, .slice none 0 0, .slice none 0 0, .slice none 0 0, .slice none 0 0, .slice none 0 0, .bool false, .int .i64 0, .int .i64 0, .slice none 0 0, .int .i64 0][i]? := fun i => by rw [hW, World.cell?_alloc_at _ _ _ _ rfl]
  have hf : ∀ i, W.frozen? ⟨w.heap.size, i, none⟩ = false := fun i => by rw [hW, World.frozen?_alloc_at _ _ _ _ rfl]
  refine ⟨rfl, ⟨⟨fun _ => False, fun _ => False, fun _ => False, noRP, noRP, none, 0, 0, 0⟩, ⟨by rw [hc]; rfl, by rw [hc]; rfl, by rw [hc]; rfl, by rw [hc]; rfl, by rw [hc]; rfl, by rw [hc]; rfl, hf, refF_nil (by rw [hc]; rfl) (by rw [hc]; rfl) (by rw [hc]; rfl), refF_nil (by rw [hc]; rfl) (by rw [hc]; rfl) (by rw [hc]; rfl), fun h => by simp [newD] at h, fun _ h => h.elim, fun _ h => h.elim, fun _ h => h.elim, fun _ h => h.elim, fun _ h => h.elim, newD_ok n h1 h2⟩, fun k hk => by rcases hk with h | h | h <;> exact h⟩, ?_⟩
  rw [hW]; exact (Below.refl _ _).alloc (Nat.le_refl _) _

/-- Plain cells turn; what is armed stays, or nothing is armed. -/
theorem RefP.plain {w : World} {r : Nat} {R : RParts} {d d' : DS} (h : RefP w r R d) (w' : World) (hs : w'.heap.size = w.heap.size) (hb : ∀ k, k ≠ r → w'.heap[k]? = w.heap[k]?) (hc : ∀ i, i < 7 ∨ 9 < i → w'.cell? ⟨r, i, none⟩ = w.cell? ⟨r, i, none⟩)
    (hf : ∀ i, w'.frozen? ⟨r, i, none⟩ = w.frozen? ⟨r, i, none⟩) (ho : w'.os = w.os ∧ w'.tape = w.tape ∧ w'.output = w.output) (c7 : w'.cell? ⟨r, 7, none⟩ = some (.bool d'.off)) (c8 : w'.cell? ⟨r, 8, none⟩ = some (.int .i64 (d'.ops : Int)))
    (c9 : w'.cell? ⟨r, 9, none⟩ = some (.int .i64 (d'.left : Int))) (e0 : d'.f0 = d.f0) (e1 : d'.f1 = d.f1) (er : d'.room = d.room) (hk : 0 < d'.left → 0 < d.left ∧ d'.keep = d.keep ∧ d'.torn = d.torn) (ok : d'.Ok) :
    RefP w' r R d' ∧ DFrame w w' r R.mut := by
  have := h.turn (w' := w') (d' := d') (SK := R.SK) (ko := R.ko) (kn := R.kn) (kc := R.kc) (t := R.t) (Nat.le_of_eq hs.symm) (fun k _ hk => hb k hk) (fun i _ hi => hc i (by omega)) hf (by rw [er]; exact (hc 0 (by omega)).trans h.c0) c7 c8 c9 ((hc 10 (by omega)).trans h.c10) ((hc 11 (by omega)).trans h.c11) e0 e1
    (fun hl => by
      obtain ⟨q1, q2, q3⟩ := hk hl
      obtain ⟨p1, p2, p3, p4⟩ := h.rk q1
      rw [q2, q3]
      exact ⟨p1, p2, rdB_stay p3 (fun hp a ha _ => hb _ (h.dk _ (p4 hp a ha)).2.2), p4⟩) h.dk (fun k hk => by rw [hs]; exact h.bk k hk) ok
  exact ⟨this, ⟨ho.1, ho.2.1, ho.2.2, Nat.le_of_eq hs.symm, fun k _ hk _ => hb k hk⟩⟩

set_option maxHeartbeats 400000 in
theorem rstart_any (r : Nat) (R : RParts) (d : DS) (w : World) (h : RefP w r R d) :
    Calls Try.prog 36 #[.pointer (some ⟨r, 0, none⟩)] w fun e w' => e = .returned (.tuple #[]) ∧ RefP w' r R (startD d) ∧ DFrame w w' r R.mut := by
  have c7 := h.c7; have c9 := h.c9; have f7 := h.fz 7; have f9 := h.fz 9
  have H := hid h
  clear h
  go_enter Try.func36, Try.ntmps36
  go_wp2
  go_end0
  obtain ⟨W, hW⟩ : ∃ W, W = (w.setCell ⟨r, 7, none⟩ (.bool false)).setCell ⟨r, 9, none⟩ (.int .i64 0) := ⟨_, rfl⟩
  rw [← hW]
  have h := H.out
  refine ⟨rfl, h.plain (d' := startD d) W (by rw [hW]; simp) (fun k hk => by rw [hW, set_heap _ _ _ _ _ hk, set_heap _ _ _ _ _ hk]) (fun i hi => by rw [hW, set_off _ _ _ (by omega), set_off _ _ _ (by omega)]) (fun i => by rw [hW, World.frozen?_setCell, World.frozen?_setCell]) (by rw [hW]; exact ⟨rfl, rfl, rfl⟩) ?_ ?_ ?_ rfl rfl rfl (fun hl => by simp [startD, disarmD] at hl) ⟨h.ok.r1, h.ok.r2, h.ok.sum, h.ok.ok0, h.ok.ok1, by simp [startD, disarmD], by simp [startD, disarmD], by simp [startD, disarmD], h.ok.op⟩⟩
  · rw [hW, set_off _ _ _ (by omega)]; exact set_same c7
  · rw [hW, set_off _ _ _ (by omega), set_off _ _ _ (by omega)]; exact h.c8
  · rw [hW]; exact set_same ((set_off _ _ _ (by omega)).trans c9)

theorem known_false {f : Int} (h : known f = false) : f < 0 ∨ 1 < f := by
  simp only [known, Bool.or_eq_false_iff, beq_eq_false_iff_ne] at h; omega

set_option maxHeartbeats 400000 in
theorem rsectors_any (r : Nat) (R : RParts) (d : DS) (f : Int) (w : World) (h : RefP w r R d) :
    Calls Try.prog 38 #[.pointer (some ⟨r, 0, none⟩), .int .i64 f] w fun e w' => e = .returned (.int .i64 (lenD d f : Int)) ∧ w' = w := by
  have c1 := h.f0.c0; have c4 := h.f1.c0
  clear h
  cases hk : known f
  · have e : lenD d f = 0 := by simp [lenD, hk]
    rw [e]
    clear e
    by_cases h0 : f < 0
    · go_enter Try.func38, Try.ntmps38
      go_wp2
      go_ret
      exact ⟨rfl, rfl⟩
    · have h1 : 1 < f := by rcases known_false hk with h | h; omega; exact h
      have h0' : decide (f < 0) = false := by simp; omega
      go_enter Try.func38, Try.ntmps38
      go_wp2
      go_ret
      exact ⟨rfl, rfl⟩
  · rcases known_cases hk with rfl | rfl
    · have e : lenD d 0 = d.f0.now.length := rfl
      rw [e]
      clear e
      go_enter Try.func38, Try.ntmps38
      go_wp2
      go_ret
      exact ⟨rfl, rfl⟩
    · have e : lenD d 1 = d.f1.now.length := rfl
      rw [e]
      clear e
      go_enter Try.func38, Try.ntmps38
      go_wp2
      go_ret
      exact ⟨rfl, rfl⟩

set_option maxHeartbeats 400000 in
theorem rclip_any (t : Int) (w : World) : Calls Try.prog 57 #[.int .i64 t] w fun e w' => e = .returned (.int .i64 (clip t : Int)) ∧ w' = w := by
  by_cases h0 : t < 0
  · have e : (clip t : Int) = 0 := by unfold clip; split <;> (try split) <;> omega
    rw [e]
    go_enter Try.func57, Try.ntmps57
    go_wp2
    go_ret
    exact ⟨rfl, rfl⟩
  · by_cases h1 : 128 < t
    · have e : (clip t : Int) = 128 := by unfold clip; split <;> (try split) <;> omega
      rw [e]
      go_enter Try.func57, Try.ntmps57
      go_wp2
      go_ret
      exact ⟨rfl, rfl⟩
    · have e : (clip t : Int) = t := by unfold clip; split <;> (try split) <;> omega
      rw [e]
      go_enter Try.func57, Try.ntmps57
      go_wp2
      go_ret
      exact ⟨rfl, rfl⟩

theorem idx_snoc (l : List Bool) (b : Bool) : (idx (l ++ [b])).length = (idx l).length + (if b then 1 else 0) := by
  unfold idx
  rw [List.length_append, List.length_singleton, List.range_succ, List.filter_append, List.length_append]
  congr 1
  · congr 1
    refine List.filter_congr (fun i hi => ?_)
    have : i < l.length := by simpa using hi
    simp [List.getD, List.getElem?_append_left this]
  · cases b <;> simp [List.getD]
theorem idx_step (l : List Bool) (i : Nat) (hi : i < l.length) : (idx (l.take (i + 1))).length = (idx (l.take i)).length + (if l.getD i false then 1 else 0) := by
  rw [List.take_succ_eq_append_getElem hi, idx_snoc]
  simp [List.getD, List.getElem?_eq_getElem hi]

theorem bool_cell {w : World} {aD : Option Addr} {n c : Nat} {dirt : List Bool} (h : w.ownsRow 0 4 1 (.slice aD n c) n (vb dirt)) {i : Nat} (hi : i < n) : ∃ g, aD = some ⟨g, 0, none⟩ ∧ w.cell? ⟨g, i, none⟩ = some (.bool (dirt.getD i false)) ∧ g < w.heap.size := by
  have hl : dirt.length = n := by have := h.1; simpa [vb] using this
  rcases h.2 with ⟨hv, hz⟩ | ⟨g, cap', cur, hv, _, hg, _⟩
  · omega
  · simp only [Value.slice.injEq, true_and] at hv
    obtain ⟨rfl, rfl⟩ := hv
    refine ⟨g, rfl, ?_, (Array.getElem?_eq_some_iff.1 hg).1⟩
    rw [h.cellAt i (by omega)]
    simp [vb, List.getElem?_map, List.getElem?_eq_getElem (show i < dirt.length by omega), List.getD]

set_option maxHeartbeats 1000000 in
theorem rdirt_0 (r : Nat) (R : RParts) (d : DS) (w : World) (h : RefP w r R d) :
    Calls Try.prog 39 #[.pointer (some ⟨r, 0, none⟩), .int .i64 0] w fun e w' => e = .returned (.int .i64 (dirtyD d 0 : Int)) ∧ w' = w := by
  have e : dirtyD d 0 = (idx d.f0.dirt).length := rfl
  rw [e]
  clear e
  have c := h.f0.c2
  have hln : d.f0.dirt.length ≤ 32768 := by have := h.ok.ok0.ld; have := h.ok.sum; have := h.ok.r2; omega
  have RD := hid h.f0.rd
  obtain ⟨D, hD⟩ : ∃ D, D = d.f0.dirt := ⟨_, rfl⟩
  rw [← hD] at c hln RD ⊢
  obtain ⟨L, hL⟩ : ∃ L, L = D.length := ⟨_, rfl⟩
  rw [← hL] at c hln RD
  have HL := hid hL
  clear h hD hL
  go_enter Try.func39, Try.ntmps39
  go_wp2
  go_loopw [22, 5] (fun c n W => ∃ i : Nat, i ≤ L ∧ c = .int .i64 (i : Int) ∧ n = .int .i64 ((idx (D.take i)).length : Int) ∧ (idx (D.take i)).length ≤ i ∧ W = w) (fun c _ _ => L - (intOf c).toNat)
  case atStart => exact ⟨0, Nat.zero_le _, rfl, by simp [idx], by simp [idx], rfl⟩
  case round =>
    obtain ⟨i, hi, rfl, rfl, hle, rfl⟩ := hrel
    by_cases hiL : i < L
    · have hiL' : (i : Int) < (L : Int) := by omega
      obtain ⟨g, hg, hcell, _⟩ := bool_cell RD.out hiL
      rw [hg] at c
      have hst := idx_step D i (by rw [← HL.out]; exact hiL)
      obtain ⟨N, hN⟩ : ∃ N, N = (idx (D.take i)).length := ⟨_, rfl⟩
      rw [← hN] at hst hle ⊢
      have HST := hid hst; have HG := hid hg
      clear hst hN hg
      rw [HG.out]
      cases hb : D.getD i false <;> rw [hb] at hcell
      · go_wp2
        exact ⟨⟨i + 1, by omega, by simp, by rw [HST.out, hb]; simp, by rw [HST.out, hb]; simp; omega, trivial⟩, by simp [intOf]; omega⟩
      · go_wp2
        exact ⟨⟨i + 1, by omega, by simp, by rw [HST.out, hb]; simp, by rw [HST.out, hb]; simp; omega, trivial⟩, by simp [intOf]; omega⟩
    · have hiE : i = L := by omega
      subst hiE
      have hlast : ¬ ((i : Int) < (i : Int)) := by omega
      have hN : (idx (D.take i)).length = (idx D).length := by rw [List.take_of_length_le (by rw [← HL.out]; exact Nat.le_refl _)]
      rw [hN]
      clear hN hle
      go_wp2
      go_ret
      exact ⟨rfl, rfl⟩

set_option maxHeartbeats 1000000 in
theorem rdirt_1 (r : Nat) (R : RParts) (d : DS) (w : World) (h : RefP w r R d) :
    Calls Try.prog 39 #[.pointer (some ⟨r, 0, none⟩), .int .i64 1] w fun e w' => e = .returned (.int .i64 (dirtyD d 1 : Int)) ∧ w' = w := by
  have e : dirtyD d 1 = (idx d.f1.dirt).length := rfl
  rw [e]
  clear e
  have c := h.f1.c2
  have hln : d.f1.dirt.length ≤ 32768 := by have := h.ok.ok1.ld; have := h.ok.sum; have := h.ok.r2; omega
  have RD := hid h.f1.rd
  obtain ⟨D, hD⟩ : ∃ D, D = d.f1.dirt := ⟨_, rfl⟩
  rw [← hD] at c hln RD ⊢
  obtain ⟨L, hL⟩ : ∃ L, L = D.length := ⟨_, rfl⟩
  rw [← hL] at c hln RD
  have HL := hid hL
  clear h hD hL
  go_enter Try.func39, Try.ntmps39
  go_wp2
  go_loopw [22, 5] (fun c n W => ∃ i : Nat, i ≤ L ∧ c = .int .i64 (i : Int) ∧ n = .int .i64 ((idx (D.take i)).length : Int) ∧ (idx (D.take i)).length ≤ i ∧ W = w) (fun c _ _ => L - (intOf c).toNat)
  case atStart => exact ⟨0, Nat.zero_le _, rfl, by simp [idx], by simp [idx], rfl⟩
  case round =>
    obtain ⟨i, hi, rfl, rfl, hle, rfl⟩ := hrel
    by_cases hiL : i < L
    · have hiL' : (i : Int) < (L : Int) := by omega
      obtain ⟨g, hg, hcell, _⟩ := bool_cell RD.out hiL
      rw [hg] at c
      have hst := idx_step D i (by rw [← HL.out]; exact hiL)
      obtain ⟨N, hN⟩ : ∃ N, N = (idx (D.take i)).length := ⟨_, rfl⟩
      rw [← hN] at hst hle ⊢
      have HST := hid hst; have HG := hid hg
      clear hst hN hg
      rw [HG.out]
      cases hb : D.getD i false <;> rw [hb] at hcell
      · go_wp2
        exact ⟨⟨i + 1, by omega, by simp, by rw [HST.out, hb]; simp, by rw [HST.out, hb]; simp; omega, trivial⟩, by simp [intOf]; omega⟩
      · go_wp2
        exact ⟨⟨i + 1, by omega, by simp, by rw [HST.out, hb]; simp, by rw [HST.out, hb]; simp; omega, trivial⟩, by simp [intOf]; omega⟩
    · have hiE : i = L := by omega
      subst hiE
      have hlast : ¬ ((i : Int) < (i : Int)) := by omega
      have hN : (idx (D.take i)).length = (idx D).length := by rw [List.take_of_length_le (by rw [← HL.out]; exact Nat.le_refl _)]
      rw [hN]
      clear hN hle
      go_wp2
      go_ret
      exact ⟨rfl, rfl⟩

set_option maxHeartbeats 400000 in
theorem rdirt_any (r : Nat) (R : RParts) (d : DS) (f : Int) (w : World) (h : RefP w r R d) :
    Calls Try.prog 39 #[.pointer (some ⟨r, 0, none⟩), .int .i64 f] w fun e w' => e = .returned (.int .i64 (dirtyD d f : Int)) ∧ w' = w := by
  cases hk : known f
  · have e : dirtyD d f = 0 := by simp [dirtyD, hk]
    rw [e]
    clear e h
    by_cases h0 : f < 0
    · have h0' : ¬ (0 ≤ f) := by omega
      go_enter Try.func39, Try.ntmps39
      go_wp2
      go_ret
      exact ⟨rfl, rfl⟩
    · have h1 : 1 < f := by rcases known_false hk with h | h; omega; exact h
      have h0' : (0 ≤ f) := by omega
      have h1' : ¬ (f ≤ 1) := by omega
      go_enter Try.func39, Try.ntmps39
      go_wp2
      go_ret
      exact ⟨rfl, rfl⟩
  · rcases known_cases hk with rfl | rfl
    · exact rdirt_0 r R d w h
    · exact rdirt_1 r R d w h

end Go.Proofs.Ytkgenmooepfhjaa
