/- Encode and Size; no statement of the seat is proved here. -/
import Derived.Test.YtjieegnmofimkaaDoorEd
namespace Go.Proofs.YtjieegnmofimkaaDoor
open Go.RowKit Go.Maps

/-- What may be is small. -/
theorem small_of {S : Nat → Prop} {w : World} {s : Sh} (h : In S w s) (hc : checkN s = 0) : (ptsOf s).length ≤ 4000 ∧ s.nodes.length ≤ 1001 := by
  rw [check_eq] at hc
  split at hc
  · cases hc
  rename_i h16
  split at hc
  · cases hc
  rename_i hl
  have h16' : depthN (s.flat 1) ≤ 16 := by omega
  have hpts := pts_le h h16' (by omega)
  have hnod := congrArg List.length (depth_nodes h16')
  rw [List.length_map] at hnod
  refine ⟨hpts, ?_⟩
  have : ¬ 1000 < partsN (s.flat 1) := fun e => hl (.inr e)
  unfold partsN at this; omega
theorem size_le (l : Bool) : ∀ (N : Nat) (s : Sh), s.nodes.length ≤ N → sizeI (s.t.items l) ≤ 25 * s.nodes.length + 16 * (ptsOf s).length := by
  intro N
  induction N with
  | zero => intro s h; rw [nodes_eq] at h; simp at h
  | succ N ih =>
    intro s h
    have hn : s.nodes.length = 1 + (nodesL s.ps).length := by rw [nodes_eq]; simp; omega
    have hp : (ptsOf s).length = s.xy.length + (s.ps.flatMap ptsOf).length := by rw [ptsOf_eq, List.length_append]
    by_cases h0 : s.k = 0
    · rw [ring_items l s.t (by rw [t_k, h0]), sizeI_cons, sizeI_pts, t_xy]; simp only; omega
    · by_cases h1 : s.k = 1
      · rw [items_point l s.t (by rw [t_k, h1]), sizeI_append]
        have e1 : sizeI [(if l then 1 else 0, 1), (U s.t.k, 4)] = 5 := rfl
        have e2 : sizeI (ptI (one s.t.xy)) = 16 := rfl
        omega
      · have e1 : sizeI [(if l then 1 else 0, 1), (U s.t.k, 4)] = 5 := rfl
        by_cases h2 : s.k = 2
        · rw [items_line l s.t (by rw [t_k, h2]), sizeI_append, e1, sizeI_cons, sizeI_pts, t_xy]
          simp only; omega
        · rw [items_other l s.t (by rw [t_k]; exact ⟨h0, h1, h2⟩), sizeI_append, e1, sizeI_cons, t_ps, List.flatMap_map]
          have key : ∀ L : List Sh, (∀ p ∈ L, p.nodes.length ≤ N) → sizeI (L.flatMap fun p => p.t.items l) ≤ 25 * (nodesL L).length + 16 * (L.flatMap ptsOf).length := by
            intro L
            induction L with
            | nil => intro _; simp [sizeI]
            | cons a r ihr =>
              intro hL
              have i1 := ih a (hL a (by simp))
              have i2 := ihr fun p hp => hL p (by simp [hp])
              rw [List.flatMap_cons, List.flatMap_cons, sizeI_append, nodesL, List.length_append, List.length_append]
              omega
          have := key s.ps fun p hp => by have := nodes_lt hp; omega
          simp only; omega
theorem size_small {S : Nat → Prop} {w : World} {s : Sh} (h : In S w s) (hc : checkN s = 0) (l : Bool) : sizeI (s.t.items l) ≤ 100000 := by
  have := small_of h hc
  have := size_le l _ s (Nat.le_refl _)
  omega

/-- A shape's bytes, as the program has them. -/
def encB (s : Sh) (l : Bool) : List Nat := if checkN s = 0 then bytesI l (s.t.items l) else []
set_option maxRecDepth 100000 in
set_option maxHeartbeats 2000000 in
theorem encode_call (s : Sh) (l : Bool) (w : World) (hT : Tab w) (h : In (fun b => b < w.heap.size) w s) : Calls Tryd.prog 9 #[.agg #[.int .i64 (s).k, .slice (s).xo (s).xn (s).xc, .slice (s).po (s).pn (s).pc], .bool l] w fun e w' => ∃ ao n cap, e = .returned (.slice ao n cap) ∧ w'.ownsRow w.heap.size 5 1 (.slice ao n cap) n (bs (encB s l)) ∧ n ≤ 100000 ∧ Below w.heap.size w w' := by
  have hg2 : Below w.heap.size w ((w.alloc (.cells #[.int .i64 (s).k, .slice (s).xo (s).xn (s).xc, .slice (s).po (s).pn (s).pc] 25)).alloc (.cells #[.bool l] 4)) := gt (ext1 _) (ext1 _)
  have H := hid h
  have G2 := hid hg2
  have CK := hid (check_call s _ (hT.keep hg2) (h.grow hg2))
  have BX := hid ((Bx.new w s).keep (ext1 (.cells #[.bool l] 4)))
  obtain ⟨x0, x1, x2⟩ := BX.out.cells
  have BL := hid (show Bo ((w.alloc (.cells #[.int .i64 (s).k, .slice (s).xo (s).xn (s).xc, .slice (s).po (s).pn (s).pc] 25)).alloc (.cells #[.bool l] 4)) (w.heap.size + 1) #[.bool l] 4 by have := Bo.new (w.alloc (.cells #[.int .i64 (s).k, .slice (s).xo (s).xn (s).xc, .slice (s).po (s).pn (s).pc] 25)) #[.bool l] 4; rwa [World.size_alloc] at this)
  have l0 := BL.out.cell 0 _ rfl
  by_cases hc : checkN s = 0
  · have SM := hid (size_small h hc l)
    rw [hc] at CK
    have EB := hid (show encB s l = bytesI l (s.t.items l) by unfold encB; rw [if_pos hc])
    have WC := hid (fun oa L G W hJ hb => Enc.write_call (je_cns w.heap.size w (Nat.le_refl _) oa (w.heap.size + 1) l) (enc_put w.heap.size w (Nat.le_refl _) oa (w.heap.size + 1) l) l s.nodes.length s (Nat.le_refl _) h L G W hJ hb)
    clear h hT hg2 hc
    go_enter Tryd.func9, Tryd.ntmps9
    go_wp2_with (first
      | (go_at_call 23; refine CK.out.mono ?_; rintro e w3 ⟨rfl, b3⟩; have H3 := hid b3; have X3 := hid ((BX.out.keep b3).keep (ext1 (.cells #[.slice none 0 0] 27))); obtain ⟨x0, x1, x2⟩ := X3.out.cells; have L3 := hid ((BL.out.keep b3).keep (ext1 (.cells #[.slice none 0 0] 27))); have l0 := L3.out.cell 0 _ rfl; have z3 := b3.size; simp only [World.size_alloc] at z3; have J0 := hid (show JE w.heap.size w w3.heap.size (w.heap.size + 1) l [] (fun _ => False) (w3.alloc (.cells #[.slice none 0 0] 27)) from { base := (G2.out.trans (b3.mono (by simp; omega))).alloc (by omega) _, at2 := ⟨by omega, by omega, by omega⟩, lit := L3.out, row := ⟨.slice none 0 0, Bo.new _ _ _, World.ownsRow_nil _ _ _ _, by simp [Value.ownBlock], by simp [Value.ownBlock], fun _ hi => hi.elim⟩, gd := fun _ hi => hi.elim }); clear b3)
      | (go_at_call 24; refine (WC.out w3.heap.size [] _ _ J0.out (by have := SM.out; have e0 : sizeI [] = 0 := rfl; omega)).mono ?_; rintro e w5 ⟨⟨y5, rfl⟩, s5, j5⟩; obtain ⟨v5, a5, r5, -⟩ := j5.row; obtain ⟨ao, cap, rfl⟩ := row_form r5; have R5 := hid r5; have B5 := hid j5.base; have c5 := a5.cell 0 _ rfl; clear s5 j5 a5 r5))
    go_ret
    exact ⟨ao, _, cap, rfl, by rw [EB.out]; exact R5.out, SM.out, B5.out⟩
  · have EB := hid (show encB s l = [] by unfold encB; rw [if_neg hc])
    have hc' : (checkN s == 0) = false := by simp [hc]
    generalize checkN s = cc at *
    clear h hT hg2 hc
    go_enter Tryd.func9, Tryd.ntmps9
    go_wp2_with (go_at_call 23; refine CK.out.mono ?_; rintro e w3 ⟨rfl, b3⟩; have H3 := hid b3; clear b3)
    go_ret
    exact ⟨none, 0, 0, rfl, by rw [EB.out]; exact World.ownsRow_nil _ _ _ _, by omega, G2.out.trans (H3.out.mono (by simp; omega))⟩

set_option maxRecDepth 100000 in
set_option maxHeartbeats 2000000 in
theorem size_call (s : Sh) (w : World) (hT : Tab w) (h : In (fun b => b < w.heap.size) w s) : Calls Tryd.prog 10 #[.agg #[.int .i64 (s).k, .slice (s).xo (s).xn (s).xc, .slice (s).po (s).pn (s).pc]] w fun e w' => e = .returned (.int .i64 (sizeI (if checkN s = 0 then s.t.items false else []) : Nat)) ∧ Below w.heap.size w w' := by
  have hg2 : Below w.heap.size w (w.alloc (.cells #[.int .i64 (s).k, .slice (s).xo (s).xn (s).xc, .slice (s).po (s).pn (s).pc] 25)) := ext1 _
  have H := hid h
  have G2 := hid hg2
  have CK := hid (check_call s _ (hT.keep hg2) (h.grow hg2))
  have BX := hid (Bx.new w s)
  obtain ⟨x0, x1, x2⟩ := BX.out.cells
  by_cases hc : checkN s = 0
  · have SM := hid (size_small h hc false)
    rw [if_pos hc]
    rw [hc] at CK
    have WC := hid (fun oa L G W hJ hb => Siz.write_call (js_cns w.heap.size w (Nat.le_refl _) oa) (siz_put w.heap.size w oa) false s.nodes.length s (Nat.le_refl _) h L G W hJ hb)
    obtain ⟨sz, hsz⟩ : ∃ sz, sz = sizeI (s.t.items false) := ⟨_, rfl⟩
    have HZ := hid hsz
    rw [← hsz]
    clear h hT hg2 hc hsz
    go_enter Tryd.func10, Tryd.ntmps10
    go_wp2_with (first
      | (go_at_call 23; refine CK.out.mono ?_; rintro e w3 ⟨rfl, b3⟩; have H3 := hid b3; have X3 := hid ((BX.out.keep b3).keep (ext1 (.cells #[.int .i64 0] 3))); obtain ⟨x0, x1, x2⟩ := X3.out.cells; have z3 := b3.size; simp only [World.size_alloc] at z3; have J0 := hid (show JS w.heap.size w w3.heap.size [] (fun _ => False) (w3.alloc (.cells #[.int .i64 0] 3)) from { base := (G2.out.trans (b3.mono (by simp))).alloc (by omega) _, lo := by omega, box := Bo.new _ _ _, gd := fun _ hi => hi.elim }); clear b3)
      | (go_at_call 24; refine (WC.out w3.heap.size [] _ _ J0.out (by have := SM.out; have e0 : sizeI [] = 0 := rfl; omega)).mono ?_; rintro e w5 ⟨⟨y5, rfl⟩, s5, j5⟩; have B5 := hid j5.base; have c5 := j5.box.cell 0 _ rfl; rw [List.nil_append] at c5; clear s5 j5))
    go_ret
    exact ⟨by rw [HZ.out]; rfl, B5.out⟩
  · rw [if_neg hc]
    have hc' : (checkN s == 0) = false := by simp [hc]
    generalize checkN s = cc at *
    clear h hT hg2 hc
    go_enter Tryd.func10, Tryd.ntmps10
    go_wp2_with (go_at_call 23; refine CK.out.mono ?_; rintro e w3 ⟨rfl, b3⟩; have H3 := hid b3; clear b3)
    go_ret
    exact ⟨rfl, G2.out.trans (H3.out.mono (by simp))⟩
end Go.Proofs.YtjieegnmofimkaaDoor
