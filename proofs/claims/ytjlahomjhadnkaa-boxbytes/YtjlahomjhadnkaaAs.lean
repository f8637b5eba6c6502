/- What the program asks of a shape is what the document asks; no statement of the seat is proved here. -/
import Derived.Test.YtjlahomjhadnkaaAr
namespace Go.Proofs.Ytjlahomjhadnkaa
open Go.RowKit Go.Maps

theorem flat_nodes : ∀ (N : Nat) (s : Sh) (d : Nat), s.nodes.length ≤ N → (∀ x ∈ s.flat d, x.1 ≤ 16) → (s.flat d).map (·.2) = s.nodes := by
  intro N
  induction N with
  | zero => intro s d h; rw [nodes_eq] at h; simp at h
  | succ N ih =>
    intro s d h hx
    have hd : d ≤ 16 := hx (d, s) (by rw [flat_eq]; simp)
    have e : seenL d s = s.ps := seenL_all s (by omega)
    rw [flat_eq, e] at hx ⊢
    rw [nodes_eq, List.map_cons]
    have key : ∀ l : List Sh, (∀ p ∈ l, p ∈ s.ps) → (l.flatMap fun p => p.flat (din s.k p.k d)).map (·.2) = nodesL l := by
      intro l
      induction l with
      | nil => intro _; rw [nodesL]; rfl
      | cons a r ihl =>
        intro hl
        rw [List.flatMap_cons, List.map_append, nodesL, ihl fun p hp => hl p (by simp [hp])]
        rw [ih a _ (by have := nodes_lt (hl a (by simp)); omega) fun x hx' => hx x (List.mem_cons_of_mem _ (List.mem_flatMap.2 ⟨a, hl a (by simp), hx'⟩))]
    rw [key s.ps fun _ h => h]
theorem le_foldl (l : List (Nat × Sh)) : ∀ a, ∀ x ∈ l, x.1 ≤ l.foldl (fun a x => max a x.1) a := by
  induction l with
  | nil => intro a x h; cases h
  | cons b r ih =>
    intro a x h
    rcases List.mem_cons.1 h with rfl | h
    · exact Nat.le_trans (Nat.le_max_right a x.1) (depthN_mono r _)
    · exact ih _ x h
theorem depth_nodes {s : Sh} (h : depthN (s.flat 1) ≤ 16) : (s.flat 1).map (·.2) = s.nodes := flat_nodes _ s 1 (Nat.le_refl _) fun x hx => Nat.le_trans (le_foldl _ 0 x hx) h
theorem allB_nodes {s : Sh} (h : depthN (s.flat 1) ≤ 16) (f : Sh → Bool) : allB f (s.flat 1) = s.nodes.all f := by
  rw [← depth_nodes h, List.all_map]; rfl
theorem sum_pts {S : Nat → Prop} {w : World} {s : Sh} (hI : In S w s) (h : depthN (s.flat 1) ≤ 16) : sumX (s.flat 1) = (ptsOf s).length := by
  have e : sumX (s.flat 1) = (((s.flat 1).map (·.2)).map Sh.xn).sum := by unfold sumX; rw [List.map_map]; rfl
  rw [e, depth_nodes h]
  unfold ptsOf
  rw [List.length_flatMap]
  congr 1
  exact List.map_congr_left fun q hq => (hI q hq).xl.symm
theorem pts_le {S : Nat → Prop} {w : World} {s : Sh} (hI : In S w s) (h : depthN (s.flat 1) ≤ 16) (h4 : ptsN (s.flat 1) ≤ 4000) : (ptsOf s).length ≤ 4000 := by
  rw [← sum_pts hI h]; unfold ptsN at h4; omega
theorem placed_pts (s : Sh) : placedB (ptsOf s) = s.nodes.all fun q => placedB q.xy := by
  unfold ptsOf placedB
  rw [List.all_flatMap]

theorem all_none (l : List Sh) (a b : Int) (h : b < a) : (l.all fun p => decide (a ≤ p.k) && decide (p.k ≤ b)) = (l.length == 0) := by
  cases l with
  | nil => rfl
  | cons p r =>
    have : (decide (a ≤ p.k) && decide (p.k ≤ b)) = false := by simp; omega
    simp [this]
theorem all_one (l : List Sh) (a : Int) : (l.all fun p => decide (a ≤ p.k) && decide (p.k ≤ a)) = l.all fun p => p.k == a := by
  congr 1
  funext p
  rw [Bool.eq_iff_iff]; simp; omega
theorem len_all (l : List Sh) (f : Sh → Bool) : ((l.length == 0) && l.all f) = (l.length == 0) := by cases l <;> simp
theorem good_own {q : Sh} (h7 : q.k ≠ 7) : goodB q = own9 q := by
  unfold goodB own9 fitB gpB
  by_cases hk : 0 ≤ q.k ∧ q.k ≤ 7
  · have e : isK q.k = true := by unfold isK; simp; omega
    rw [e, Bool.true_and]
    rcases le7 hk.1 hk.2 with h | h | h | h | h | h | h | h
    · rw [h, show rlo 0 = 1 from rfl, show rhi 0 = 0 from rfl, all_none _ 1 0 (by omega), if_pos rfl, if_pos rfl, Bool.and_assoc, len_all]
    · rw [h, show rlo 1 = 1 from rfl, show rhi 1 = 0 from rfl, all_none _ 1 0 (by omega)]
      simp only [Int.reduceEq, if_false, if_true]
      rw [Bool.and_assoc, len_all]
    · rw [h, show rlo 2 = 1 from rfl, show rhi 2 = 0 from rfl, all_none _ 1 0 (by omega)]
      simp only [Int.reduceEq, if_false, if_true]
      rw [Bool.and_assoc, len_all]
    · rw [h, show rlo 3 = 0 from rfl, show rhi 3 = 0 from rfl, all_one]
      simp only [ok2, Int.reduceEq, if_false, Int.reduceLE, decide_true, Bool.true_and, show partK 3 = 0 from rfl]
    · rw [h, show rlo 4 = 1 from rfl, show rhi 4 = 1 from rfl, all_one]
      simp only [ok2, Int.reduceEq, if_false, Int.reduceLE, decide_true, Bool.true_and, show partK 4 = 1 from rfl]
    · rw [h, show rlo 5 = 2 from rfl, show rhi 5 = 2 from rfl, all_one]
      simp only [ok2, Int.reduceEq, if_false, Int.reduceLE, decide_true, Bool.true_and, show partK 5 = 2 from rfl]
    · rw [h, show rlo 6 = 3 from rfl, show rhi 6 = 3 from rfl, all_one]
      simp only [ok2, Int.reduceEq, if_false, Int.reduceLE, decide_true, Bool.true_and, show partK 6 = 3 from rfl]
    · exact absurd h h7
  · have e : isK q.k = false := by unfold isK; simp; omega
    rw [e, Bool.false_and, Bool.false_and, if_neg (by omega), if_neg (by omega), if_neg (by omega)]
    have : (decide (3 ≤ q.k) && decide (q.k ≤ 7)) = false := by simp; omega
    rw [this]; rfl
theorem good7 {q : Sh} (h : q.k = 7) : goodB q = ((q.xy.length == 0) && q.ps.all fun p => decide (1 ≤ p.k) && decide (p.k ≤ 7)) := by
  unfold goodB gpB
  rw [h, show rlo 7 = 1 from rfl, show rhi 7 = 7 from rfl, show isK 7 = true from rfl]
  simp
theorem own7 {q : Sh} (h : q.k = 7) : own9 q = ((q.xy.length == 0) && q.ps.all fun p => decide (1 ≤ p.k)) := by
  unfold own9 fitB ok2
  rw [h]
  simp
theorem nodes_trans {s q p : Sh} (hq : q ∈ s.nodes) (hp : p ∈ q.ps) : p ∈ s.nodes := by
  have key : ∀ (N : Nat) (s : Sh), s.nodes.length ≤ N → ∀ q ∈ s.nodes, ∀ p ∈ q.ps, p ∈ s.nodes := by
    intro N
    induction N with
    | zero => intro s h; rw [nodes_eq] at h; simp at h
    | succ N ih =>
      intro s h q hq p hp
      rw [nodes_eq] at hq
      rcases List.mem_cons.1 hq with rfl | hq
      · exact nodes_part hp p (nodes_self p)
      · have : ∃ a ∈ s.ps, q ∈ a.nodes := by
          generalize s.ps = l at hq
          induction l with
          | nil => rw [nodesL] at hq; cases hq
          | cons a r ihl =>
            rw [nodesL, List.mem_append] at hq
            rcases hq with hq | hq
            · exact ⟨a, by simp, hq⟩
            · obtain ⟨b, hb, hq⟩ := ihl hq
              exact ⟨b, by simp [hb], hq⟩
        obtain ⟨a, ha, hqa⟩ := this
        exact nodes_part ha p (ih a (by have := nodes_lt ha; omega) q hqa p hp)
  exact key _ s (Nat.le_refl _) q hq p hp
theorem good_right (s : Sh) : s.nodes.all goodB = rightB s := by
  unfold rightB
  rw [Bool.eq_iff_iff, List.all_eq_true, List.all_eq_true]
  constructor
  · intro h q hq
    by_cases h7 : q.k = 7
    · have := h q hq
      rw [good7 h7, Bool.and_eq_true, List.all_eq_true] at this
      rw [own7 h7, Bool.and_eq_true, List.all_eq_true]
      exact ⟨this.1, fun p hp => by have := this.2 p hp; rw [Bool.and_eq_true] at this; exact this.1⟩
    · rw [← good_own h7]; exact h q hq
  · intro h q hq
    by_cases h7 : q.k = 7
    · have := h q hq
      rw [own7 h7, Bool.and_eq_true, List.all_eq_true] at this
      rw [good7 h7, Bool.and_eq_true, List.all_eq_true]
      refine ⟨this.1, fun p hp => ?_⟩
      have h2 := h p (nodes_trans hq hp)
      unfold own9 at h2
      rw [Bool.and_eq_true] at h2
      have h3 := fitB_le h2.1
      rw [Bool.and_eq_true]
      exact ⟨this.2 p hp, by simp; omega⟩
    · rw [good_own h7]; exact h q hq

/-- What the document's Check answers. -/
theorem check_eq (s : Sh) : checkN s = if 16 < depthN (s.flat 1) then 10 else if 4000 < ptsN (s.flat 1) ∨ 1000 < partsN (s.flat 1) then 12 else if s.k < 1 ∨ rightB s = false then 9 else if placedB (ptsOf s) = false then 11 else 0 := by
  unfold checkN checkV
  by_cases h1 : 16 < depthN (s.flat 1)
  · rw [if_pos h1, if_pos h1]
  · have h16 : depthN (s.flat 1) ≤ 16 := by omega
    rw [if_neg h1, if_neg h1, allB_nodes h16, allB_nodes h16, good_right, placed_pts]
    by_cases h2 : 1000 < partsN (s.flat 1) ∨ 4000 < ptsN (s.flat 1)
    · rw [if_pos h2, if_pos (show 4000 < ptsN (s.flat 1) ∨ 1000 < partsN (s.flat 1) from h2.symm)]
    · rw [if_neg h2, if_neg (show ¬ (4000 < ptsN (s.flat 1) ∨ 1000 < partsN (s.flat 1)) from fun h => h2 h.symm)]
      by_cases hr : rightB s = false
      · rw [if_pos (show s.k = 0 ∨ rightB s = false from .inr hr), if_pos (show s.k < 1 ∨ rightB s = false from .inr hr)]
      · by_cases h0 : s.k = 0
        · rw [if_pos (show s.k = 0 ∨ rightB s = false from .inl h0), if_pos (show s.k < 1 ∨ rightB s = false from .inl (by omega))]
        · have hg : goodB s = true := by
            have : s.nodes.all goodB = true := by rw [good_right]; simpa using hr
            exact List.all_eq_true.1 this s (nodes_self s)
          have hk : isK s.k = true := by unfold goodB at hg; simp only [Bool.and_eq_true] at hg; exact hg.1.1
          have : 0 ≤ s.k := by unfold isK at hk; simp at hk; omega
          rw [if_neg (show ¬ (s.k = 0 ∨ rightB s = false) by simp [h0, hr]), if_neg (show ¬ (s.k < 1 ∨ rightB s = false) from fun h => h.elim (fun h => by omega) hr)]
end Go.Proofs.Ytjlahomjhadnkaa
