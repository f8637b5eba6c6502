/- The document's cache: pins and marks; no statement of the seat is proved here. -/
import Derived.Test.YtebjjibgkjgpgaaRb
namespace Go.Proofs.Ytebjjibgkjgpgaa
open Go.RowKit Go.Maps

structure RStep (w w' : World) (m : Nat) (R R' : RParts) (s' : CS) : Prop where
  rp : RP w' m R' s'
  fr : Fr (R.S m) w w'
  gr : ∀ k, R'.S m k → R.S m k ∨ w.heap.size ≤ k

theorem rvs_set (l : List (Row × RB)) (i j : Nat) (v : Value) (p : Row × RB) (hi : i < l.length) (hj : j < 4) (hp : rv p = (rv l[i]).set j v) : (rvs l).set (i * 4 + j) v = rvs (l.set i p) := by
  induction l generalizing i with
  | nil => simp at hi
  | cons q l ih =>
    cases i with
    | zero =>
      rw [List.set_cons_zero, rvs_cons, rvs_cons, Nat.zero_mul, Nat.zero_add, List.set_append_left _ _ (by simp [rv]; omega), hp]
      rfl
    | succ i =>
      rw [List.set_cons_succ, rvs_cons, rvs_cons, List.set_append_right _ _ (by simp [rv]; omega), show (i + 1) * 4 + j - (rv q).length = i * 4 + j by simp [rv]; omega, ih i (by simpa using hi) (by simpa using hp)]

theorem row4_set {w : World} {e : TypeId} {sz g n cap : Nat} {xs : List Value} (h : w.ownsRow 0 e sz (.slice (some ⟨g, 0, none⟩) n cap) n xs) (t : Nat) (v : Value) :
    (w.setCell ⟨g, t, none⟩ v).ownsRow 0 e sz (.slice (some ⟨g, 0, none⟩) n cap) n (xs.set t v) := by
  rcases h.2 with ⟨hv, _⟩ | ⟨g', cap', cur, hv, hb', hg, hnc, hm, hcs, htake⟩
  · simp at hv
  · simp only [Value.slice.injEq, Option.some.injEq, Addr.mk.injEq, and_true, true_and] at hv
    obtain ⟨rfl, rfl⟩ := hv
    have hset : (w.setCell ⟨g, t, none⟩ v).heap[g]? = some (.cells (cur.setIfInBounds t v) e (0, 0)) := by
      simp [World.setCell, Array.getElem?_modify, hg]
    refine ⟨by rw [List.length_set]; exact h.1, .inr ⟨g, cap, _, rfl, hb', hset, hnc, hm, by simpa using hcs, ?_⟩⟩
    rw [Array.toList_setIfInBounds, List.take_set, htake]

theorem RP.turn {w : World} {m g cap i j : Nat} {ps : List (Row × RB)} {s : CS} (h : RP w m ⟨some ⟨g, 0, none⟩, cap, ps⟩ s) (hi : i < ps.length) (hj : j < 4) {v : Value} {r : Row} (hp : rv (r, ps[i].2) = (rv ps[i]).set j v) (hb : r.bytes = ps[i].1.bytes) (hgm : g ≠ m) :
    RP (w.setCell ⟨g, i * 4 + j, none⟩ v) m ⟨some ⟨g, 0, none⟩, cap, ps.set i (r, ps[i].2)⟩ { s with l := s.l.set i r } := by
  have hblk : ∀ k, k ≠ g → (w.setCell ⟨g, i * 4 + j, none⟩ v).heap[k]? = w.heap[k]? := fun k hk => set_heap _ _ _ _ _ hk
  obtain ⟨cur0, hg0, _⟩ := row4_blk h.row (a := ⟨g, 0, none⟩) rfl
  have hby : ∀ p ∈ ps, ∀ a, p.2.bo = some a → a.block ≠ g := fun p hp a ha h0 => by
    obtain ⟨cur, hg, _⟩ := row4_blk (h.by_ p hp) ha
    rw [h0] at hg
    simp only at hg0
    rw [hg] at hg0
    simp at hg0
  refine ⟨?_, ?_, fun p hp => ?_, ?_⟩
  · have q := (hblk m hgm.symm).trans h.hd
    simpa using q
  · have q := row4_set h.row (i * 4 + j) v
    simp only at q ⊢
    rw [rvs_set ps i j v (r, ps[i].2) hi hj hp] at q
    simpa using q
  · simp only at hp
    rcases List.mem_or_eq_of_mem_set hp with h1 | rfl
    · exact row4_stay (h.by_ p h1) (fun a ha => hblk _ (hby p h1 a ha))
    · have q := h.by_ ps[i] (List.getElem_mem hi)
      simp only
      rw [hb]
      exact row4_stay q (fun a ha => hblk _ (hby _ (List.getElem_mem hi) a ha))
  · have q := h.ls
    simp only at q ⊢
    rw [q, List.map_set]

theorem upd_set {s : CS} {k : Int} {i : Nat} (hi : idx s.l k = some i) (hnd : (s.l.map Row.page).Nodup) (f : Row → Row) : ∃ h : i < s.l.length, s.upd k f = { s with l := s.l.set i (f s.l[i]) } := by
  obtain ⟨h1, h2, h3⟩ := idx_spec hi
  refine ⟨h1, ?_⟩
  unfold CS.upd
  congr 1
  refine List.ext_getElem (by simp) fun j hj1 hj2 => ?_
  rw [List.getElem_map, List.getElem_set]
  by_cases hji : i = j
  · subst hji; rw [if_pos rfl, if_pos h2]
  · rw [if_neg hji, if_neg ?_]
    intro hp
    have hj : j < s.l.length := by simpa using hj1
    have q : (s.l.map Row.page)[i]'(by simpa using h1) = (s.l.map Row.page)[j]'(by simpa using hj) := by simp [h2, hp]
    exact hji ((List.getElem_inj hnd).1 q)

theorem find_some_idx {s : CS} {k : Int} {i : Nat} (h : idx s.l k = some i) : ∃ hi : i < s.l.length, s.find k = some s.l[i] := by
  obtain ⟨h1, _⟩ := idx_spec h
  refine ⟨h1, ?_⟩
  rw [find_idx, h]
  simp [List.getElem?_eq_getElem h1]
theorem find_none_idx {s : CS} {k : Int} (h : idx s.l k = none) : s.find k = none := by rw [find_idx, h]; rfl

/-- Behind a look-up that found the page: where it lies. -/
theorem RP.at_ {w : World} {m : Nat} {R : RParts} {s : CS} (h : RP w m R s) {k : Int} {i : Nat} (hi : idx s.l k = some i) :
    ∃ g cap ps, R = ⟨some ⟨g, 0, none⟩, cap, ps⟩ ∧ ∃ (h1 : i < ps.length) (h2 : i < s.l.length), ps[i].1 = s.l[i] ∧ ps.length ≤ cap ∧ g ≠ m ∧ g < w.heap.size ∧
      w.cell? ⟨g, i * 4, none⟩ = some (.int .i64 ps[i].1.page) ∧ w.cell? ⟨g, i * 4 + 1, none⟩ = some (.slice ps[i].2.bo 512 ps[i].2.bc) ∧ w.cell? ⟨g, i * 4 + 2, none⟩ = some (.int .i64 (ps[i].1.pins : Int)) ∧ w.cell? ⟨g, i * 4 + 3, none⟩ = some (.bool ps[i].1.dirty) ∧ ∀ j, w.frozen? ⟨g, j, none⟩ = false := by
  obtain ⟨h1, _⟩ := idx_spec hi
  have hl := h.len
  obtain ⟨g, ha, r⟩ := h.cells (i := i) (by omega)
  obtain ⟨ao, cap, ps⟩ := R
  simp only at ha
  subst ha
  exact ⟨g, cap, ps, rfl, by simpa [hl] using h1, h1, by simp only [h.ls, List.getElem_map], r⟩

set_option maxHeartbeats 1000000 in
theorem rpins_call (m : Nat) (R : RParts) (s : CS) (k : Int) (w : World) (h : RP w m R s) (hn : R.ps.length ≤ 1000000) :
    Calls Try.prog 42 #[.pointer (some ⟨m, 0, none⟩), .int .i64 k] w fun e w' => e = .returned (.int .i64 (s.pinsOf k : Int)) ∧ Below w.heap.size w w' := by
  have k1 := hid (rfind_any m R s k w h hn)
  cases ho : idx s.l k with
  | none =>
    rw [ho] at k1
    have e1 : s.pinsOf k = 0 := by unfold CS.pinsOf; rw [find_none_idx ho]
    rw [e1]
    clear h e1
    go_enter Try.func42, Try.ntmps42
    go_wp2_with (go_at_call 57; refine k1.out.mono ?_; rintro e w1 ⟨rfl, h1⟩; have H1 := hid h1; clear h1; simp only [idV])
    go_ret
    exact ⟨rfl, H1.out⟩
  | some i =>
    rw [ho] at k1
    have c1 := h.c1
    obtain ⟨g, cap, ps, rfl, hi, hi2, hrow, hcap, hgm, hgl, y0, y1, y2, y3, _⟩ := h.at_ ho
    have e1 : s.pinsOf k = ps[i].1.pins := by unfold CS.pinsOf; obtain ⟨_, q⟩ := find_some_idx ho; rw [q, hrow]
    rw [e1]
    obtain ⟨n, hnn⟩ : ∃ n, n = ps.length := ⟨_, rfl⟩
    obtain ⟨pn, hpn⟩ : ∃ b, b = ps[i].1.pins := ⟨_, rfl⟩
    simp only at c1 y2
    rw [← hpn] at y2 ⊢
    rw [← hnn] at c1 hcap
    have hin : i < n := by omega
    have hi1 : (i : Int) < (n : Int) := by omega
    have hi0 : ¬ (i : Int) < 0 := by omega
    clear h e1 y0 y1 y3 hpn
    go_enter Try.func42, Try.ntmps42
    go_wp2_with (go_at_call 57; refine k1.out.mono ?_; rintro e w1 ⟨rfl, h1⟩; have z1 := keep_old h1 c1; have z2 := keep_old h1 y2; have H1 := hid h1; clear h1; simp only [idV])
    go_ret
    exact ⟨rfl, H1.out⟩

theorem rstep_turn {w w1 : World} {m g cap i j : Nat} {ps : List (Row × RB)} {s : CS} (h : RP w m ⟨some ⟨g, 0, none⟩, cap, ps⟩ s) (hb : Below w.heap.size w w1) (hi : i < ps.length) (hi2 : i < s.l.length) (hj : j < 4) {v : Value} {f : Row → Row} {k : Int} (hp : rv (f ps[i].1, ps[i].2) = (rv ps[i]).set j v) (hbt : (f ps[i].1).bytes = ps[i].1.bytes) (hgm : g ≠ m)
    (hrow : ps[i].1 = s.l[i]) (ho : idx s.l k = some i) (hnd : (s.l.map Row.page).Nodup) :
    ∃ R', RStep w (w1.setCell ⟨g, i * 4 + j, none⟩ v) m ⟨some ⟨g, 0, none⟩, cap, ps⟩ R' (s.upd k f) := by
  obtain ⟨_, e1⟩ := upd_set ho hnd f
  have q := (h.later hb).turn hi hj hp hbt hgm
  rw [hrow] at q
  rw [e1]
  refine ⟨_, q, (Fr.of_below hb).set (Or.inl (Or.inr ⟨_, rfl, rfl⟩)) _, fun k hk => Or.inl ?_⟩
  rcases hk with rfl | ⟨a, ha, rfl⟩
  · exact Or.inl rfl
  · exact Or.inr ⟨a, ha, rfl⟩

end Go.Proofs.Ytebjjibgkjgpgaa
