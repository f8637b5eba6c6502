/- A collection around a shape: the law's walk; no statement of the seat is proved here. -/
import Derived.Test.YtcneadohpbeahaaDoorAt
namespace Go.Proofs.YtcneadohpbeahaaDoor
open Go.RowKit Go.Maps

def wrap (s : Sh) (b : Nat) : Sh := .mk 7 none 0 0 [] (some ⟨b, 0, none⟩) 1 1 [s]
theorem Bx.at3 {W : World} {b : Nat} {s : Sh} (h : Bx W b s) : At3 W b 0 s := h.cells
theorem wrap_in {w W : World} {s : Sh} {b : Nat} (h : In (fun b => b < w.heap.size) w s) (hb : Below w.heap.size w W) (hB : Bx W b s) : In (fun b => b < W.heap.size) W (wrap s b) := by
  intro q hq
  rw [nodes_eq, show nodesL (wrap s b).ps = s.nodes ++ [] from by rw [show (wrap s b).ps = [s] from rfl, nodesL, nodesL], List.append_nil] at hq
  rcases List.mem_cons.1 hq with rfl | hq
  · exact { kI := by simp [wrap, Sh.k], xl := rfl, xm := Nat.le_refl _, xb := by simp [wrap, Sh.xn], x0 := fun _ => ⟨rfl, rfl⟩, xr := .inl rfl, pl := rfl, pm := Nat.le_refl _, pb := by simp [wrap, Sh.pn], p0 := fun h => by simp [wrap, Sh.po] at h, pr := .inr ⟨b, 0, rfl, hB.lt, fun i p hi => by
      match i, hi with
      | 0, hi =>
        simp [wrap, Sh.ps] at hi
        subst hi
        exact hB.at3
      | i + 1, hi => simp [wrap, Sh.ps] at hi⟩ }
  · exact h.grow hb q hq
theorem flat_up : ∀ (N : Nat) (s : Sh) (d : Nat), s.nodes.length ≤ N → (∀ x ∈ s.flat d, x.1 ≤ 16) → s.flat (d + 1) = (s.flat d).map fun x => (x.1 + 1, x.2) := by
  intro N
  induction N with
  | zero => intro s d h; rw [nodes_eq] at h; simp at h
  | succ N ih =>
    intro s d h hx
    have hd : d ≤ 16 := hx (d, s) (by rw [flat_eq]; simp)
    have e : seenL d s = s.ps := seenL_all s (by omega)
    have e2 : seenL (d + 1) s = s.ps := by
      unfold seenL
      rw [List.filter_eq_self]
      intro p hp
      have h1 : (din s.k p.k d, p) ∈ s.flat d := by
        rw [flat_eq, e]
        exact List.mem_cons_of_mem _ (List.mem_flatMap.2 ⟨p, hp, by rw [flat_eq]; simp⟩)
      have h2 := hx _ h1
      have h3 : din s.k p.k (d + 1) = din s.k p.k d + 1 := by unfold din; split <;> omega
      simp only at h2
      rw [h3]
      simp; omega
    rw [flat_eq s (d + 1), e2, flat_eq s d, e, List.map_cons]
    congr 1
    rw [List.map_flatMap]
    rw [flat_eq, e] at hx
    have key : ∀ l : List Sh, (∀ p ∈ l, p ∈ s.ps) → (l.flatMap fun p => p.flat (din s.k p.k (d + 1))) = l.flatMap fun p => (p.flat (din s.k p.k d)).map fun x => (x.1 + 1, x.2) := by
      intro l
      induction l with
      | nil => intro _; rfl
      | cons a r ihl =>
        intro hl
        rw [List.flatMap_cons, List.flatMap_cons, ihl fun p hp => hl p (by simp [hp])]
        congr 1
        rw [show din s.k a.k (d + 1) = din s.k a.k d + 1 by unfold din; split <;> omega]
        exact ih a _ (by have := nodes_lt (hl a (by simp)); omega) fun x hx' => hx x (List.mem_cons_of_mem _ (List.mem_flatMap.2 ⟨a, hl a (by simp), hx'⟩))
    exact key s.ps fun _ h => h
theorem wrap_flat (s : Sh) (b : Nat) (h : depthN (s.flat 1) ≤ 16) : (wrap s b).flat 1 = (1, wrap s b) :: (s.flat 1).map fun x => (x.1 + 1, x.2) := by
  rw [flat_eq, seenL_all _ (by omega), show (wrap s b).ps = [s] from rfl, List.flatMap_cons, List.flatMap_nil, List.append_nil, show din (wrap s b).k s.k 1 = 1 + 1 by unfold din; rw [if_neg (by simp [wrap, Sh.k])]]
  rw [flat_up _ s 1 (Nat.le_refl _) fun x hx => Nat.le_trans (le_foldl _ 0 x hx) h]
theorem sumX_map (l : List (Nat × Sh)) : sumX (l.map fun x => (x.1 + 1, x.2)) = sumX l := by
  unfold sumX
  rw [List.map_map]; rfl
theorem foldl_up (l : List (Nat × Sh)) : ∀ a, (l.map fun x => (x.1 + 1, x.2)).foldl (fun a x => max a x.1) (a + 1) = l.foldl (fun a x => max a x.1) a + 1 := by
  induction l with
  | nil => intro a; rfl
  | cons x r ih =>
    intro a
    rw [List.map_cons, List.foldl_cons, List.foldl_cons, ← ih]
    congr 1
    simp only; omega
theorem wrap_pts (s : Sh) (b : Nat) (h : depthN (s.flat 1) ≤ 16) : ptsN ((wrap s b).flat 1) = ptsN (s.flat 1) := by
  unfold ptsN
  rw [wrap_flat s b h, show sumX ((1, wrap s b) :: (s.flat 1).map fun x => (x.1 + 1, x.2)) = sumX ((s.flat 1).map fun x => (x.1 + 1, x.2)) by simp [sumX, wrap, Sh.xn], sumX_map]
theorem wrap_parts (s : Sh) (b : Nat) (h : depthN (s.flat 1) ≤ 16) (hp : partsN (s.flat 1) ≤ 1000) : partsN ((wrap s b).flat 1) = partsN (s.flat 1) + 1 := by
  have := flat_pos s 1
  unfold partsN at hp ⊢
  rw [wrap_flat s b h, List.length_cons, List.length_map]
  omega
theorem wrap_depth (s : Sh) (b : Nat) (h : depthN (s.flat 1) ≤ 16) : depthN ((wrap s b).flat 1) = depthN (s.flat 1) + 1 := by
  unfold depthN
  rw [wrap_flat s b h, List.foldl_cons]
  exact foldl_up (s.flat 1) 0
theorem wrap_good (s : Sh) (b : Nat) (h : depthN (s.flat 1) ≤ 15) : allB goodB ((wrap s b).flat 1) = (decide (1 ≤ s.k) && allB goodB (s.flat 1)) := by
  have hw := wrap_depth s b (by omega)
  rw [allB_nodes (by omega), allB_nodes (by omega), nodes_eq, show nodesL (wrap s b).ps = s.nodes from by rw [show (wrap s b).ps = [s] from rfl, nodesL, nodesL, List.append_nil], List.all_cons]
  have e : goodB (wrap s b) = (decide (1 ≤ s.k) && decide (s.k ≤ 7)) := by
    rw [good7 rfl]
    simp [wrap, Sh.xy, Sh.ps]
  rw [e]
  by_cases h7 : s.k ≤ 7
  · simp [h7]
  · have : s.nodes.all goodB = false := by
      rw [List.all_eq_false]
      refine ⟨s, nodes_self s, ?_⟩
      have : isK s.k = false := by unfold isK; simp; omega
      simp [goodB, this]
    rw [this]; simp
theorem wrap_placed (s : Sh) (b : Nat) (h : depthN (s.flat 1) ≤ 15) : allB (fun q => placedB q.xy) ((wrap s b).flat 1) = allB (fun q => placedB q.xy) (s.flat 1) := by
  have hw := wrap_depth s b (by omega)
  rw [allB_nodes (by omega), allB_nodes (by omega), nodes_eq, show nodesL (wrap s b).ps = s.nodes from by rw [show (wrap s b).ps = [s] from rfl, nodesL, nodesL, List.append_nil], List.all_cons]
  rfl
theorem wrap_check (s : Sh) (b : Nat) (h : depthN (s.flat 1) ≤ 15) (hp : partsN (s.flat 1) ≤ 999) (hx : ptsN (s.flat 1) ≤ 4000) : checkN (wrap s b) = checkN s := by
  unfold checkN checkV
  rw [wrap_depth s b (by omega), wrap_parts s b (by omega) (by omega), wrap_pts s b (by omega), wrap_good s b h, wrap_placed s b h]
  rw [if_neg (show ¬ 16 < depthN (s.flat 1) + 1 by omega), if_neg (show ¬ 16 < depthN (s.flat 1) by omega), if_neg (show ¬ (1000 < partsN (s.flat 1) + 1 ∨ 4000 < ptsN (s.flat 1)) by omega), if_neg (show ¬ (1000 < partsN (s.flat 1) ∨ 4000 < ptsN (s.flat 1)) by omega)]
  have hk7 : (wrap s b).k = 7 := rfl
  rw [hk7]
  cases hg : allB goodB (s.flat 1) with
  | false => rw [Bool.and_false, if_pos (.inr rfl), if_pos (.inr rfl)]
  | true =>
    have hgs : goodB s = true := by
      have : s.nodes.all goodB = true := by rw [← allB_nodes (by omega)]; exact hg
      exact List.all_eq_true.1 this s (nodes_self s)
    have hk : isK s.k = true := by unfold goodB at hgs; simp only [Bool.and_eq_true] at hgs; exact hgs.1.1
    have h0 : 0 ≤ s.k := by unfold isK at hk; simp at hk; omega
    rw [Bool.and_true]
    by_cases hz : s.k = 0
    · rw [if_pos (show (7 : Int) = 0 ∨ decide (1 ≤ s.k) = false from .inr (by simp; omega)), if_pos (show s.k = 0 ∨ true = false from .inl hz)]
    · rw [if_neg (show ¬ ((7 : Int) = 0 ∨ decide (1 ≤ s.k) = false) by simp; omega), if_neg (show ¬ (s.k = 0 ∨ true = false) by simp [hz])]
theorem wrap_deep (s : Sh) (b : Nat) (h : depthN (s.flat 1) = 16) : checkN (wrap s b) = 10 := by
  unfold checkN checkV
  rw [wrap_depth s b (by omega), if_pos (by omega)]
theorem wrap_long (s : Sh) (b : Nat) (h : depthN (s.flat 1) ≤ 15) (hp : partsN (s.flat 1) = 1000) : checkN (wrap s b) = 12 := by
  unfold checkN checkV
  rw [wrap_depth s b (by omega), wrap_parts s b (by omega) (by omega), if_neg (by omega), if_pos (.inl (by omega))]

/-- What is known of the two shapes, s and the one around it, from here on. -/
structure WH (s : Sh) (w : World) (b : Nat) (D P : Nat) (X : Nat) (E F : Int) : Prop where
  l16 : D ≤ 16
  c10 : ∀ W, Below w.heap.size w W → Calls Tryd.prog 10 #[.agg #[.int .i64 (s).k, .slice (s).xo (s).xn (s).xc, .slice (s).po (s).pn (s).pc]] W fun e w' => e = .returned (.int .i64 (X : Int)) ∧ Below W.heap.size W w'
  c12 : ∀ W, Below w.heap.size w W → Calls Tryd.prog 12 #[.agg #[.int .i64 (s).k, .slice (s).xo (s).xn (s).xc, .slice (s).po (s).pn (s).pc]] W fun e w' => e = .returned (.int .i64 (P : Int)) ∧ Below W.heap.size W w'
  c14 : ∀ W, Below w.heap.size w W → Calls Tryd.prog 14 #[.agg #[.int .i64 (s).k, .slice (s).xo (s).xn (s).xc, .slice (s).po (s).pn (s).pc]] W fun e w' => e = .returned (.int .i64 (D : Int)) ∧ Below W.heap.size W w'
  c16 : ∀ W, Below w.heap.size w W → Calls Tryd.prog 16 #[.agg #[.int .i64 (s).k, .slice (s).xo (s).xn (s).xc, .slice (s).po (s).pn (s).pc]] W fun e w' => e = .returned (.bool (decide (X = 0))) ∧ Below W.heap.size W w'
  c8 : ∀ W, Below w.heap.size w W → Calls Tryd.prog 8 #[.agg #[.int .i64 (s).k, .slice (s).xo (s).xn (s).xc, .slice (s).po (s).pn (s).pc]] W fun e w' => e = .returned (.int .i64 E) ∧ Below W.heap.size W w'
  d10 : ∀ W, Below w.heap.size w W → Bx W b s → Calls Tryd.prog 10 #[.agg #[.int .i64 7, .slice none 0 0, .slice (some ⟨b, 0, none⟩) 1 1]] W fun e w' => e = .returned (.int .i64 (X : Int)) ∧ Below W.heap.size W w'
  d12 : ∀ W, Below w.heap.size w W → Bx W b s → Calls Tryd.prog 12 #[.agg #[.int .i64 7, .slice none 0 0, .slice (some ⟨b, 0, none⟩) 1 1]] W fun e w' => e = .returned (.int .i64 ((P : Int) + 1)) ∧ Below W.heap.size W w'
  d14 : ∀ W, Below w.heap.size w W → Bx W b s → Calls Tryd.prog 14 #[.agg #[.int .i64 7, .slice none 0 0, .slice (some ⟨b, 0, none⟩) 1 1]] W fun e w' => e = .returned (.int .i64 ((D : Int) + 1)) ∧ Below W.heap.size W w'
  d16 : ∀ W, Below w.heap.size w W → Bx W b s → Calls Tryd.prog 16 #[.agg #[.int .i64 7, .slice none 0 0, .slice (some ⟨b, 0, none⟩) 1 1]] W fun e w' => e = .returned (.bool (decide (X = 0))) ∧ Below W.heap.size W w'
  d8 : ∀ W, Below w.heap.size w W → Bx W b s → Calls Tryd.prog 8 #[.agg #[.int .i64 7, .slice none 0 0, .slice (some ⟨b, 0, none⟩) 1 1]] W fun e w' => e = .returned (.int .i64 F) ∧ Below W.heap.size W w'
theorem wh_of {s : Sh} {w : World} (b : Nat) (hT : Tab w) (h : In (fun b => b < w.heap.size) w s) (h16 : depthN (s.flat 1) ≤ 16) (hp : partsN (s.flat 1) ≤ 1000) : WH s w b (depthN (s.flat 1)) (partsN (s.flat 1)) (ptsN (s.flat 1)) (checkN s) (checkN (wrap s b)) where
  l16 := h16
  c10 W hb := points_call s W (h.grow hb)
  c12 W hb := parts_call s W (h.grow hb)
  c14 W hb := depth_call s W (h.grow hb)
  c16 W hb := empty_call s W (h.grow hb)
  c8 W hb := check_call s W (hT.keep hb) (h.grow hb)
  d10 W hb hB := by have := points_call (wrap s b) W (wrap_in h hb hB); rw [wrap_pts s b h16] at this; exact this
  d12 W hb hB := by have := parts_call (wrap s b) W (wrap_in h hb hB); rw [wrap_parts s b h16 hp] at this; exact this
  d14 W hb hB := by have := depth_call (wrap s b) W (wrap_in h hb hB); rw [wrap_depth s b h16] at this; exact this
  d16 W hb hB := by have := empty_call (wrap s b) W (wrap_in h hb hB); rw [wrap_pts s b h16] at this; exact this
  d8 W hb hB := check_call (wrap s b) W (hT.keep hb) (wrap_in h hb hB)

set_option maxRecDepth 100000 in
set_option maxHeartbeats 8000000 in
theorem wraps_law (s : Sh) (w : World) (hT : Tab w) (h : In (fun b => b < w.heap.size) w s) : Calls Tryd.prog 7 #[.agg #[.int .i64 (s).k, .slice (s).xo (s).xn (s).xc, .slice (s).po (s).pn (s).pc]] w fun e w' => e = .returned (.bool true) ∧ Below w.heap.size w w' := by
  have B1 := hid (Bx.new w s)
  obtain ⟨x0, x1, x2⟩ := B1.out.cells
  have b0 : Hid (Below w.heap.size w (w.alloc (.cells #[.int .i64 (s).k, .slice (s).xo (s).xn (s).xc, .slice (s).po (s).pn (s).pc] 25))) := hid (ext1 _)
  have CL := hid (light_call s (w.alloc (.cells #[.int .i64 (s).k, .slice (s).xo (s).xn (s).xc, .slice (s).po (s).pn (s).pc] 25)) (h.grow (ext1 _)))
  have C18 := hid (fun W (hb : Below w.heap.size w W) => lives_call W (hT.keep hb))
  cases hl : lightB s with
  | false =>
    rw [hl] at CL
    clear h hT hl
    go_enter Tryd.func7, Tryd.ntmps7
    go_wp2_with (first
      | (go_at_call 25; refine CL.out.mono ?_; rintro e w1 ⟨rfl, hb1⟩; have K1 := hid (gt b0.out hb1); clear hb1)
      | (go_at_call 18; refine (C18.out _ K1.out).mono ?_; rintro e w2 ⟨rfl, hb2⟩; have K2 := hid (gt K1.out hb2); clear hb2))
    go_ret
    exact ⟨rfl, K2.out⟩
  | true =>
    rw [hl] at CL
    have hl3 : ptsN (s.flat 1) ≤ 4000 ∧ partsN (s.flat 1) ≤ 1000 ∧ depthN (s.flat 1) ≤ 16 := by unfold lightB at hl; simpa using hl
    have HWA := hid (fun b => wh_of b hT h hl3.2.2 hl3.2.1)
    have H3 := hid (fun b (h : depthN (s.flat 1) ≤ 15) (hp : partsN (s.flat 1) ≤ 999) => wrap_check s b h hp hl3.1)
    have H1 := hid (fun b (h : depthN (s.flat 1) = 16) => wrap_deep s b h)
    have H2 := hid (fun b (h : depthN (s.flat 1) ≤ 15) (hp : partsN (s.flat 1) = 1000) => wrap_long s b h hp)
    obtain ⟨_, hp3, hd3⟩ := hl3
    generalize checkN s = E at *
    generalize depthN (s.flat 1) = D at *
    generalize partsN (s.flat 1) = P at *
    generalize ptsN (s.flat 1) = X at *
    have wD : IntKind.i64.wrap ((D : Int) + 1) = (D : Int) + 1 := IntWalk.i64_in _ (by omega)
    have wP : IntKind.i64.wrap ((P : Int) + 1) = (P : Int) + 1 := IntWalk.i64_in _ (by omega)
    clear h hT hl
    go_enter Tryd.func7, Tryd.ntmps7
    go_wp2_with (go_at_call 25; refine CL.out.mono ?_; rintro e w1 ⟨rfl, hb1⟩; have K1 := hid (gt b0.out hb1); have D1 := hid (B1.out.keep hb1); clear hb1; obtain ⟨y0, y1, y2⟩ := D1.out.cells)
    have a0 := keep_old (gt (ext1 (w := w1) (.cells #[.int .i64 (s).k, .slice (s).xo (s).xn (s).xc, .slice (s).po (s).pn (s).pc] 25)) (ext1 (.cells #[.int .i64 7, .slice none 0 0, .slice (some ⟨w1.heap.size, 0, none⟩) 1 1] 25))) y0
    have a1 := keep_old (gt (ext1 (w := w1) (.cells #[.int .i64 (s).k, .slice (s).xo (s).xn (s).xc, .slice (s).po (s).pn (s).pc] 25)) (ext1 (.cells #[.int .i64 7, .slice none 0 0, .slice (some ⟨w1.heap.size, 0, none⟩) 1 1] 25))) y1
    have a2 := keep_old (gt (ext1 (w := w1) (.cells #[.int .i64 (s).k, .slice (s).xo (s).xn (s).xc, .slice (s).po (s).pn (s).pc] 25)) (ext1 (.cells #[.int .i64 7, .slice none 0 0, .slice (some ⟨w1.heap.size, 0, none⟩) 1 1] 25))) y2
    have KB := hid (Below.drew (gt K1.out (gt (ext1 (w := w1) (.cells #[.int .i64 (s).k, .slice (s).xo (s).xn (s).xc, .slice (s).po (s).pn (s).pc] 25)) (ext1 (.cells #[.int .i64 7, .slice none 0 0, .slice (some ⟨w1.heap.size, 0, none⟩) 1 1] 25)))))
    have BS := hid ((Bx.new w1 s).keep (ext1 (.cells #[.int .i64 7, .slice none 0 0, .slice (some ⟨w1.heap.size, 0, none⟩) 1 1] 25)))
    have BW := hid (show Bx ((w1.alloc (.cells #[.int .i64 (s).k, .slice (s).xo (s).xn (s).xc, .slice (s).po (s).pn (s).pc] 25)).alloc (.cells #[.int .i64 7, .slice none 0 0, .slice (some ⟨w1.heap.size, 0, none⟩) 1 1] 25)) (w1.heap.size + 1) (wrap s w1.heap.size) from (by have h := heap_alloc_new (w1.alloc (.cells #[.int .i64 (s).k, .slice (s).xo (s).xn (s).xc, .slice (s).po (s).pn (s).pc] 25)) (.cells #[.int .i64 7, .slice none 0 0, .slice (some ⟨w1.heap.size, 0, none⟩) 1 1] 25); rw [World.size_alloc] at h; exact h))
    obtain ⟨m0, m1, m2⟩ := BW.out.cells
    have HW := hid (HWA.out w1.heap.size)
    have J1 := hid (H1.out w1.heap.size)
    have J2 := hid (H2.out w1.heap.size)
    have J3 := hid (H3.out w1.heap.size)
    clear y0 y1 y2 x0 x1 x2 D1 K1 BW HWA H1 H2 H3 CL B1 b0
    generalize checkN (wrap s w1.heap.size) = F at *
    generalize hV : (w1.alloc (.cells #[.int .i64 (s).k, .slice (s).xo (s).xn (s).xc, .slice (s).po (s).pn (s).pc] 25)).alloc (.cells #[.int .i64 7, .slice none 0 0, .slice (some ⟨w1.heap.size, 0, none⟩) 1 1] 25) = V at *
    clear hV
    refine wp_region_K (S := (fun W : World => (W.cell? ⟨w.heap.size, 0, none⟩ = some (.int .i64 s.k) ∧ W.cell? ⟨w.heap.size, 1, none⟩ = some (.slice s.xo s.xn s.xc) ∧ W.cell? ⟨w.heap.size, 2, none⟩ = some (.slice s.po s.pn s.pc)) ∧ (W.cell? ⟨w1.heap.size + 1, 0, none⟩ = some (.int .i64 7) ∧ W.cell? ⟨w1.heap.size + 1, 1, none⟩ = some (.slice none 0 0) ∧ W.cell? ⟨w1.heap.size + 1, 2, none⟩ = some (.slice (some ⟨w1.heap.size, 0, none⟩) 1 1)) ∧ Bx W w1.heap.size s ∧ Below w.heap.size w W)) (fun _ => false) (by kernel_rfl) (by exact ⟨⟨a0, a1, a2⟩, ⟨m0, m1, m2⟩, BS, KB⟩) (fun hHeld => ?_)
    refine gkt 0 ?_ (h := by intro W hSw; obtain ⟨⟨r0, r1, r2⟩, ⟨s0, s1, s2⟩, _, _⟩ := hSw; go_simp; first | done | with_reducible rfl)
    refine gkt 2 ?_ (h := by intro W hSw; obtain ⟨⟨r0, r1, r2⟩, ⟨s0, s1, s2⟩, _, _⟩ := hSw; go_simp; first | done | with_reducible rfl)
    refine gk1 1 (fun K hK => ?_)
    go_simp
    go_at_call 10; refine (HW.out.d10 _ hHeld.2.2.2 hHeld.2.2.1).mono ?_; rintro e v1 ⟨rfl, hb⟩; have H9 := hid hb; clear hb; have hR : (fun W : World => (W.cell? ⟨w.heap.size, 0, none⟩ = some (.int .i64 s.k) ∧ W.cell? ⟨w.heap.size, 1, none⟩ = some (.slice s.xo s.xn s.xc) ∧ W.cell? ⟨w.heap.size, 2, none⟩ = some (.slice s.po s.pn s.pc)) ∧ (W.cell? ⟨w1.heap.size + 1, 0, none⟩ = some (.int .i64 7) ∧ W.cell? ⟨w1.heap.size + 1, 1, none⟩ = some (.slice none 0 0) ∧ W.cell? ⟨w1.heap.size + 1, 2, none⟩ = some (.slice (some ⟨w1.heap.size, 0, none⟩) 1 1)) ∧ Bx W w1.heap.size s ∧ Below w.heap.size w W) v1 := ⟨⟨keep_old H9.out hHeld.1.1, keep_old H9.out hHeld.1.2.1, keep_old H9.out hHeld.1.2.2⟩, ⟨keep_old H9.out hHeld.2.1.1, keep_old H9.out hHeld.2.1.2.1, keep_old H9.out hHeld.2.1.2.2⟩, hHeld.2.2.1.keep H9.out, gt hHeld.2.2.2 H9.out⟩; clear H9
    refine hK.out _ _ hR (fun hHeld => ?_)
    clear hK K
    (try simp only [Act.put, sA, sZ, sS])
    refine gk1 3 (fun K hK => ?_)
    go_simp
    go_at_call 10; refine (HW.out.c10 _ hHeld.2.2.2).mono ?_; rintro e v3 ⟨rfl, hb⟩; have H9 := hid hb; clear hb; have hR : (fun W : World => (W.cell? ⟨w.heap.size, 0, none⟩ = some (.int .i64 s.k) ∧ W.cell? ⟨w.heap.size, 1, none⟩ = some (.slice s.xo s.xn s.xc) ∧ W.cell? ⟨w.heap.size, 2, none⟩ = some (.slice s.po s.pn s.pc)) ∧ (W.cell? ⟨w1.heap.size + 1, 0, none⟩ = some (.int .i64 7) ∧ W.cell? ⟨w1.heap.size + 1, 1, none⟩ = some (.slice none 0 0) ∧ W.cell? ⟨w1.heap.size + 1, 2, none⟩ = some (.slice (some ⟨w1.heap.size, 0, none⟩) 1 1)) ∧ Bx W w1.heap.size s ∧ Below w.heap.size w W) v3 := ⟨⟨keep_old H9.out hHeld.1.1, keep_old H9.out hHeld.1.2.1, keep_old H9.out hHeld.1.2.2⟩, ⟨keep_old H9.out hHeld.2.1.1, keep_old H9.out hHeld.2.1.2.1, keep_old H9.out hHeld.2.1.2.2⟩, hHeld.2.2.1.keep H9.out, gt hHeld.2.2.2 H9.out⟩; clear H9
    refine hK.out _ _ hR (fun hHeld => ?_)
    clear hK K
    (try simp only [Act.put, sA, sZ, sS])
    refine gkp 4 ?_ (v := .bool false) (h := by intro W hSw; go_simp; first | done | with_reducible rfl)
    refine gkp 5 ?_ (v := .bool false) (h := by intro W hSw; go_simp; first | done | with_reducible rfl)
    refine gkt 6 ?_ (h := by intro W hSw; obtain ⟨⟨r0, r1, r2⟩, ⟨s0, s1, s2⟩, _, _⟩ := hSw; go_simp; first | done | with_reducible rfl)
    refine gkt 8 ?_ (h := by intro W hSw; obtain ⟨⟨r0, r1, r2⟩, ⟨s0, s1, s2⟩, _, _⟩ := hSw; go_simp; first | done | with_reducible rfl)
    refine gk1 7 (fun K hK => ?_)
    go_simp
    go_at_call 14; refine (HW.out.d14 _ hHeld.2.2.2 hHeld.2.2.1).mono ?_; rintro e v7 ⟨rfl, hb⟩; have H9 := hid hb; clear hb; have hR : (fun W : World => (W.cell? ⟨w.heap.size, 0, none⟩ = some (.int .i64 s.k) ∧ W.cell? ⟨w.heap.size, 1, none⟩ = some (.slice s.xo s.xn s.xc) ∧ W.cell? ⟨w.heap.size, 2, none⟩ = some (.slice s.po s.pn s.pc)) ∧ (W.cell? ⟨w1.heap.size + 1, 0, none⟩ = some (.int .i64 7) ∧ W.cell? ⟨w1.heap.size + 1, 1, none⟩ = some (.slice none 0 0) ∧ W.cell? ⟨w1.heap.size + 1, 2, none⟩ = some (.slice (some ⟨w1.heap.size, 0, none⟩) 1 1)) ∧ Bx W w1.heap.size s ∧ Below w.heap.size w W) v7 := ⟨⟨keep_old H9.out hHeld.1.1, keep_old H9.out hHeld.1.2.1, keep_old H9.out hHeld.1.2.2⟩, ⟨keep_old H9.out hHeld.2.1.1, keep_old H9.out hHeld.2.1.2.1, keep_old H9.out hHeld.2.1.2.2⟩, hHeld.2.2.1.keep H9.out, gt hHeld.2.2.2 H9.out⟩; clear H9
    refine hK.out _ _ hR (fun hHeld => ?_)
    clear hK K
    (try simp only [Act.put, sA, sZ, sS])
    refine gk1 9 (fun K hK => ?_)
    go_simp
    go_at_call 14; refine (HW.out.c14 _ hHeld.2.2.2).mono ?_; rintro e v9 ⟨rfl, hb⟩; have H9 := hid hb; clear hb; have hR : (fun W : World => (W.cell? ⟨w.heap.size, 0, none⟩ = some (.int .i64 s.k) ∧ W.cell? ⟨w.heap.size, 1, none⟩ = some (.slice s.xo s.xn s.xc) ∧ W.cell? ⟨w.heap.size, 2, none⟩ = some (.slice s.po s.pn s.pc)) ∧ (W.cell? ⟨w1.heap.size + 1, 0, none⟩ = some (.int .i64 7) ∧ W.cell? ⟨w1.heap.size + 1, 1, none⟩ = some (.slice none 0 0) ∧ W.cell? ⟨w1.heap.size + 1, 2, none⟩ = some (.slice (some ⟨w1.heap.size, 0, none⟩) 1 1)) ∧ Bx W w1.heap.size s ∧ Below w.heap.size w W) v9 := ⟨⟨keep_old H9.out hHeld.1.1, keep_old H9.out hHeld.1.2.1, keep_old H9.out hHeld.1.2.2⟩, ⟨keep_old H9.out hHeld.2.1.1, keep_old H9.out hHeld.2.1.2.1, keep_old H9.out hHeld.2.1.2.2⟩, hHeld.2.2.1.keep H9.out, gt hHeld.2.2.2 H9.out⟩; clear H9
    refine hK.out _ _ hR (fun hHeld => ?_)
    clear hK K
    (try simp only [Act.put, sA, sZ, sS])
    refine gkp 10 ?_ (v := .int .i64 ((D : Int) + 1)) (h := by intro W hSw; rw [← wD]; go_simp; first | done | with_reducible rfl)
    refine gkp 11 ?_ (v := .bool false) (h := by intro W hSw; go_simp; first | done | with_reducible rfl)
    refine gkp 12 ?_ (v := .bool false) (h := by intro W hSw; go_simp; first | done | with_reducible rfl)
    refine gkp 13 ?_ (v := .bool false) (h := by intro W hSw; go_simp; first | done | with_reducible rfl)
    refine gkt 14 ?_ (h := by intro W hSw; obtain ⟨⟨r0, r1, r2⟩, ⟨s0, s1, s2⟩, _, _⟩ := hSw; go_simp; first | done | with_reducible rfl)
    refine gkt 16 ?_ (h := by intro W hSw; obtain ⟨⟨r0, r1, r2⟩, ⟨s0, s1, s2⟩, _, _⟩ := hSw; go_simp; first | done | with_reducible rfl)
    refine gk1 15 (fun K hK => ?_)
    go_simp
    go_at_call 12; refine (HW.out.d12 _ hHeld.2.2.2 hHeld.2.2.1).mono ?_; rintro e v15 ⟨rfl, hb⟩; have H9 := hid hb; clear hb; have hR : (fun W : World => (W.cell? ⟨w.heap.size, 0, none⟩ = some (.int .i64 s.k) ∧ W.cell? ⟨w.heap.size, 1, none⟩ = some (.slice s.xo s.xn s.xc) ∧ W.cell? ⟨w.heap.size, 2, none⟩ = some (.slice s.po s.pn s.pc)) ∧ (W.cell? ⟨w1.heap.size + 1, 0, none⟩ = some (.int .i64 7) ∧ W.cell? ⟨w1.heap.size + 1, 1, none⟩ = some (.slice none 0 0) ∧ W.cell? ⟨w1.heap.size + 1, 2, none⟩ = some (.slice (some ⟨w1.heap.size, 0, none⟩) 1 1)) ∧ Bx W w1.heap.size s ∧ Below w.heap.size w W) v15 := ⟨⟨keep_old H9.out hHeld.1.1, keep_old H9.out hHeld.1.2.1, keep_old H9.out hHeld.1.2.2⟩, ⟨keep_old H9.out hHeld.2.1.1, keep_old H9.out hHeld.2.1.2.1, keep_old H9.out hHeld.2.1.2.2⟩, hHeld.2.2.1.keep H9.out, gt hHeld.2.2.2 H9.out⟩; clear H9
    refine hK.out _ _ hR (fun hHeld => ?_)
    clear hK K
    (try simp only [Act.put, sA, sZ, sS])
    refine gk1 17 (fun K hK => ?_)
    go_simp
    go_at_call 12; refine (HW.out.c12 _ hHeld.2.2.2).mono ?_; rintro e v17 ⟨rfl, hb⟩; have H9 := hid hb; clear hb; have hR : (fun W : World => (W.cell? ⟨w.heap.size, 0, none⟩ = some (.int .i64 s.k) ∧ W.cell? ⟨w.heap.size, 1, none⟩ = some (.slice s.xo s.xn s.xc) ∧ W.cell? ⟨w.heap.size, 2, none⟩ = some (.slice s.po s.pn s.pc)) ∧ (W.cell? ⟨w1.heap.size + 1, 0, none⟩ = some (.int .i64 7) ∧ W.cell? ⟨w1.heap.size + 1, 1, none⟩ = some (.slice none 0 0) ∧ W.cell? ⟨w1.heap.size + 1, 2, none⟩ = some (.slice (some ⟨w1.heap.size, 0, none⟩) 1 1)) ∧ Bx W w1.heap.size s ∧ Below w.heap.size w W) v17 := ⟨⟨keep_old H9.out hHeld.1.1, keep_old H9.out hHeld.1.2.1, keep_old H9.out hHeld.1.2.2⟩, ⟨keep_old H9.out hHeld.2.1.1, keep_old H9.out hHeld.2.1.2.1, keep_old H9.out hHeld.2.1.2.2⟩, hHeld.2.2.1.keep H9.out, gt hHeld.2.2.2 H9.out⟩; clear H9
    refine hK.out _ _ hR (fun hHeld => ?_)
    clear hK K
    (try simp only [Act.put, sA, sZ, sS])
    refine gkp 18 ?_ (v := .int .i64 ((P : Int) + 1)) (h := by intro W hSw; rw [← wP]; go_simp; first | done | with_reducible rfl)
    refine gkp 19 ?_ (v := .bool false) (h := by intro W hSw; go_simp; first | done | with_reducible rfl)
    refine gkp 20 ?_ (v := .bool false) (h := by intro W hSw; go_simp; first | done | with_reducible rfl)
    refine gkp 21 ?_ (v := .bool false) (h := by intro W hSw; go_simp; first | done | with_reducible rfl)
    refine gkt 22 ?_ (h := by intro W hSw; obtain ⟨⟨r0, r1, r2⟩, ⟨s0, s1, s2⟩, _, _⟩ := hSw; go_simp; first | done | with_reducible rfl)
    refine gkt 24 ?_ (h := by intro W hSw; obtain ⟨⟨r0, r1, r2⟩, ⟨s0, s1, s2⟩, _, _⟩ := hSw; go_simp; first | done | with_reducible rfl)
    refine gk1 23 (fun K hK => ?_)
    go_simp
    go_at_call 16; refine (HW.out.d16 _ hHeld.2.2.2 hHeld.2.2.1).mono ?_; rintro e v23 ⟨rfl, hb⟩; have H9 := hid hb; clear hb; have hR : (fun W : World => (W.cell? ⟨w.heap.size, 0, none⟩ = some (.int .i64 s.k) ∧ W.cell? ⟨w.heap.size, 1, none⟩ = some (.slice s.xo s.xn s.xc) ∧ W.cell? ⟨w.heap.size, 2, none⟩ = some (.slice s.po s.pn s.pc)) ∧ (W.cell? ⟨w1.heap.size + 1, 0, none⟩ = some (.int .i64 7) ∧ W.cell? ⟨w1.heap.size + 1, 1, none⟩ = some (.slice none 0 0) ∧ W.cell? ⟨w1.heap.size + 1, 2, none⟩ = some (.slice (some ⟨w1.heap.size, 0, none⟩) 1 1)) ∧ Bx W w1.heap.size s ∧ Below w.heap.size w W) v23 := ⟨⟨keep_old H9.out hHeld.1.1, keep_old H9.out hHeld.1.2.1, keep_old H9.out hHeld.1.2.2⟩, ⟨keep_old H9.out hHeld.2.1.1, keep_old H9.out hHeld.2.1.2.1, keep_old H9.out hHeld.2.1.2.2⟩, hHeld.2.2.1.keep H9.out, gt hHeld.2.2.2 H9.out⟩; clear H9
    refine hK.out _ _ hR (fun hHeld => ?_)
    clear hK K
    (try simp only [Act.put, sA, sZ, sS])
    refine gk1 25 (fun K hK => ?_)
    go_simp
    go_at_call 16; refine (HW.out.c16 _ hHeld.2.2.2).mono ?_; rintro e v25 ⟨rfl, hb⟩; have H9 := hid hb; clear hb; have hR : (fun W : World => (W.cell? ⟨w.heap.size, 0, none⟩ = some (.int .i64 s.k) ∧ W.cell? ⟨w.heap.size, 1, none⟩ = some (.slice s.xo s.xn s.xc) ∧ W.cell? ⟨w.heap.size, 2, none⟩ = some (.slice s.po s.pn s.pc)) ∧ (W.cell? ⟨w1.heap.size + 1, 0, none⟩ = some (.int .i64 7) ∧ W.cell? ⟨w1.heap.size + 1, 1, none⟩ = some (.slice none 0 0) ∧ W.cell? ⟨w1.heap.size + 1, 2, none⟩ = some (.slice (some ⟨w1.heap.size, 0, none⟩) 1 1)) ∧ Bx W w1.heap.size s ∧ Below w.heap.size w W) v25 := ⟨⟨keep_old H9.out hHeld.1.1, keep_old H9.out hHeld.1.2.1, keep_old H9.out hHeld.1.2.2⟩, ⟨keep_old H9.out hHeld.2.1.1, keep_old H9.out hHeld.2.1.2.1, keep_old H9.out hHeld.2.1.2.2⟩, hHeld.2.2.1.keep H9.out, gt hHeld.2.2.2 H9.out⟩; clear H9
    refine hK.out _ _ hR (fun hHeld => ?_)
    clear hK K
    (try simp only [Act.put, sA, sZ, sS])
    refine gkp 26 ?_ (v := .bool false) (h := by intro W hSw; go_simp; first | done | with_reducible rfl)
    refine gkp 27 ?_ (v := .bool false) (h := by intro W hSw; go_simp; first | done | with_reducible rfl)
    refine wpAnyK_done (by kernel_rfl) ?_ _
    go_wp2
    clear a0 a1 a2 m0 m1 m2 BS KB
    refine wp_region_K (S := (fun W : World => (W.cell? ⟨w.heap.size, 0, none⟩ = some (.int .i64 s.k) ∧ W.cell? ⟨w.heap.size, 1, none⟩ = some (.slice s.xo s.xn s.xc) ∧ W.cell? ⟨w.heap.size, 2, none⟩ = some (.slice s.po s.pn s.pc)) ∧ (W.cell? ⟨w1.heap.size + 1, 0, none⟩ = some (.int .i64 7) ∧ W.cell? ⟨w1.heap.size + 1, 1, none⟩ = some (.slice none 0 0) ∧ W.cell? ⟨w1.heap.size + 1, 2, none⟩ = some (.slice (some ⟨w1.heap.size, 0, none⟩) 1 1)) ∧ Bx W w1.heap.size s ∧ Below w.heap.size w W)) (fun _ => false) (by kernel_rfl) (by exact ⟨hHeld.1, hHeld.2.1, hHeld.2.2.1, hHeld.2.2.2.drew⟩) (fun hHeld => ?_)
    refine gkt 0 ?_ (h := by intro W hSw; obtain ⟨⟨r0, r1, r2⟩, ⟨s0, s1, s2⟩, _, _⟩ := hSw; go_simp; first | done | with_reducible rfl)
    refine gkt 2 ?_ (h := by intro W hSw; obtain ⟨⟨r0, r1, r2⟩, ⟨s0, s1, s2⟩, _, _⟩ := hSw; go_simp; first | done | with_reducible rfl)
    refine gk1 1 (fun K hK => ?_)
    go_simp
    go_at_call 8; refine (HW.out.c8 _ hHeld.2.2.2).mono ?_; rintro e v41 ⟨rfl, hb⟩; have H9 := hid hb; clear hb; have hR : (fun W : World => (W.cell? ⟨w.heap.size, 0, none⟩ = some (.int .i64 s.k) ∧ W.cell? ⟨w.heap.size, 1, none⟩ = some (.slice s.xo s.xn s.xc) ∧ W.cell? ⟨w.heap.size, 2, none⟩ = some (.slice s.po s.pn s.pc)) ∧ (W.cell? ⟨w1.heap.size + 1, 0, none⟩ = some (.int .i64 7) ∧ W.cell? ⟨w1.heap.size + 1, 1, none⟩ = some (.slice none 0 0) ∧ W.cell? ⟨w1.heap.size + 1, 2, none⟩ = some (.slice (some ⟨w1.heap.size, 0, none⟩) 1 1)) ∧ Bx W w1.heap.size s ∧ Below w.heap.size w W) v41 := ⟨⟨keep_old H9.out hHeld.1.1, keep_old H9.out hHeld.1.2.1, keep_old H9.out hHeld.1.2.2⟩, ⟨keep_old H9.out hHeld.2.1.1, keep_old H9.out hHeld.2.1.2.1, keep_old H9.out hHeld.2.1.2.2⟩, hHeld.2.2.1.keep H9.out, gt hHeld.2.2.2 H9.out⟩; clear H9
    refine hK.out _ _ hR (fun hHeld => ?_)
    clear hK K
    (try simp only [Act.put, sA, sZ, sS])
    refine gk1 3 (fun K hK => ?_)
    go_simp
    go_at_call 8; refine (HW.out.d8 _ hHeld.2.2.2 hHeld.2.2.1).mono ?_; rintro e v43 ⟨rfl, hb⟩; have H9 := hid hb; clear hb; have hR : (fun W : World => (W.cell? ⟨w.heap.size, 0, none⟩ = some (.int .i64 s.k) ∧ W.cell? ⟨w.heap.size, 1, none⟩ = some (.slice s.xo s.xn s.xc) ∧ W.cell? ⟨w.heap.size, 2, none⟩ = some (.slice s.po s.pn s.pc)) ∧ (W.cell? ⟨w1.heap.size + 1, 0, none⟩ = some (.int .i64 7) ∧ W.cell? ⟨w1.heap.size + 1, 1, none⟩ = some (.slice none 0 0) ∧ W.cell? ⟨w1.heap.size + 1, 2, none⟩ = some (.slice (some ⟨w1.heap.size, 0, none⟩) 1 1)) ∧ Bx W w1.heap.size s ∧ Below w.heap.size w W) v43 := ⟨⟨keep_old H9.out hHeld.1.1, keep_old H9.out hHeld.1.2.1, keep_old H9.out hHeld.1.2.2⟩, ⟨keep_old H9.out hHeld.2.1.1, keep_old H9.out hHeld.2.1.2.1, keep_old H9.out hHeld.2.1.2.2⟩, hHeld.2.2.1.keep H9.out, gt hHeld.2.2.2 H9.out⟩; clear H9
    refine hK.out _ _ hR (fun hHeld => ?_)
    clear hK K
    (try simp only [Act.put, sA, sZ, sS])
    refine gkp 4 ?_
    refine gkp 5 ?_
    refine wpAnyK_done (by kernel_rfl) ?_ _
    obtain ⟨⟨t0, t1, t2⟩, _, _, kk⟩ := hHeld
    have KK := hid kk
    clear kk
    by_cases h16 : D = 16
    · have n1 : ((D : Int) == 16) = true := by simp [h16]
      obtain rfl := J1.out h16
      clear J1 J2 J3 h16
      go_wp2_with (first
        | (go_at_call 14; refine (HW.out.c14 _ KK.out).mono ?_; rintro e z1 ⟨rfl, hb1⟩; have K5 := hid (gt KK.out hb1); clear hb1)
        | (go_at_call 18; refine (C18.out _ K5.out).mono ?_; rintro e z2 ⟨rfl, hb2⟩; have K6 := hid (gt K5.out hb2); clear hb2))
      go_ret
      exact ⟨rfl, K6.out⟩
    · have n1 : ((D : Int) == 16) = false := by simp; omega
      by_cases hP : P = 1000
      · have n2 : ((P : Int) == 1000) = true := by simp [hP]
        obtain rfl := J2.out (by omega) hP
        clear J1 J2 J3 h16 hP
        go_wp2_with (first
          | (go_at_call 14; refine (HW.out.c14 _ KK.out).mono ?_; rintro e z1 ⟨rfl, hb1⟩; have K5 := hid (gt KK.out hb1); have u0 := keep_old hb1 t0; have u1 := keep_old hb1 t1; have u2 := keep_old hb1 t2; clear hb1)
          | (go_at_call 12; refine (HW.out.c12 _ K5.out).mono ?_; rintro e z2 ⟨rfl, hb2⟩; have K6 := hid (gt K5.out hb2); clear hb2)
          | (go_at_call 18; refine (C18.out _ K6.out).mono ?_; rintro e z3 ⟨rfl, hb3⟩; have K7 := hid (gt K6.out hb3); clear hb3))
        go_ret
        exact ⟨rfl, K7.out⟩
      · have n2 : ((P : Int) == 1000) = false := by simp; omega
        obtain rfl := J3.out (by omega) (by omega)
        clear J1 J2 J3 h16 hP
        go_wp2_with (first
          | (go_at_call 14; refine (HW.out.c14 _ KK.out).mono ?_; rintro e z1 ⟨rfl, hb1⟩; have K5 := hid (gt KK.out hb1); have u0 := keep_old hb1 t0; have u1 := keep_old hb1 t1; have u2 := keep_old hb1 t2; clear hb1)
          | (go_at_call 12; refine (HW.out.c12 _ K5.out).mono ?_; rintro e z2 ⟨rfl, hb2⟩; have K6 := hid (gt K5.out hb2); clear hb2)
          | (go_at_call 18; refine (C18.out _ K6.out).mono ?_; rintro e z3 ⟨rfl, hb3⟩; have K7 := hid (gt K6.out hb3); clear hb3))
        go_ret
        exact ⟨rfl, K7.out⟩
end Go.Proofs.YtcneadohpbeahaaDoor
