/- The law WkbEncodes; no statement of the seat is proved here. -/
import Derived.Test.YtjieegnmofimkaaDoorEg
namespace Go.Proofs.YtjieegnmofimkaaDoor
open Go.RowKit Go.Maps

theorem size_any (l l' : Bool) : ∀ (N : Nat) (s : Sh), s.nodes.length ≤ N → sizeI (s.t.items l) = sizeI (s.t.items l') := by
  intro N
  induction N with
  | zero => intro s h; rw [nodes_eq] at h; simp at h
  | succ N ih =>
    intro s h
    by_cases h0 : s.k = 0
    · rw [ring_items l s.t (by rw [t_k, h0]), ring_items l' s.t (by rw [t_k, h0])]
    · have e : ∀ l : Bool, ∀ k, sizeI [(if l then 1 else 0, 1), (k, 4)] = 5 := fun _ _ => rfl
      by_cases h1 : s.k = 1
      · rw [items_point l s.t (by rw [t_k, h1]), items_point l' s.t (by rw [t_k, h1]), sizeI_append, sizeI_append, e, e]
      · by_cases h2 : s.k = 2
        · rw [items_line l s.t (by rw [t_k, h2]), items_line l' s.t (by rw [t_k, h2]), sizeI_append, sizeI_append, e, e]
        · rw [items_other l s.t (by rw [t_k]; exact ⟨h0, h1, h2⟩), items_other l' s.t (by rw [t_k]; exact ⟨h0, h1, h2⟩), sizeI_append, sizeI_append, e, e, sizeI_cons, sizeI_cons, t_ps, List.flatMap_map, List.flatMap_map]
          congr 2
          have key : ∀ L : List Sh, (∀ p ∈ L, p.nodes.length ≤ N) → sizeI (L.flatMap fun p => p.t.items l) = sizeI (L.flatMap fun p => p.t.items l') := by
            intro L
            induction L with
            | nil => intro _; rfl
            | cons a r ihr =>
              intro hL
              rw [List.flatMap_cons, List.flatMap_cons, sizeI_append, sizeI_append, ih a (hL a (by simp)), ihr fun p hp => hL p (by simp [hp])]
          exact key s.ps fun p hp => by have := nodes_lt hp; omega
theorem dark_check {s : Sh} (h : lightB s = false) : checkN s ≠ 0 := by
  intro hc
  rw [check_eq] at hc
  split at hc
  · cases hc
  rename_i h16
  split at hc
  · cases hc
  rename_i hl
  have a1 : ptsN (s.flat 1) ≤ 4000 := by
    have : ¬ 4000 < ptsN (s.flat 1) := fun e => hl (.inl e)
    omega
  have a2 : partsN (s.flat 1) ≤ 1000 := by
    have : ¬ 1000 < partsN (s.flat 1) := fun e => hl (.inr e)
    omega
  have a3 : depthN (s.flat 1) ≤ 16 := by omega
  unfold lightB at h
  simp [a1, a2, a3] at h
/-- How many bytes the program says. -/
def encN (s : Sh) : Nat := sizeI (if checkN s = 0 then s.t.items false else [])
theorem encB_len (s : Sh) (l : Bool) : (encB s l).length = encN s := by
  unfold encB encN
  split
  · rw [bytesI_length]; exact size_any l false _ s (Nat.le_refl _)
  · rfl

set_option maxRecDepth 100000 in
set_option maxHeartbeats 4000000 in
theorem encodes_law (s : Sh) (l : Bool) (w : World) (hT : Tab w) (h : In (fun b => b < w.heap.size) w s) : Calls Tryd.prog 3 #[.agg #[.int .i64 (s).k, .slice (s).xo (s).xn (s).xc, .slice (s).po (s).pn (s).pc], .bool l] w fun e w' => e = .returned (.bool true) ∧ Below w.heap.size w w' := by
  have hg : Below w.heap.size w (w.alloc (.cells #[.int .i64 (s).k, .slice (s).xo (s).xn (s).xc, .slice (s).po (s).pn (s).pc] 25)) := ext1 _
  have HG := hid hg
  have BX := hid (Bx.new w s)
  obtain ⟨x0, x1, x2⟩ := BX.out.cells
  have LC := hid (light_call s _ (h.grow hg))
  have EC := hid (fun W (hb : Below w.heap.size w W) => encode_call s l W (hT.keep hb) (h.grow hb))
  have SC := hid (fun W (hb : Below w.heap.size w W) => size_call s W (hT.keep hb) (h.grow hb))
  have RC := hid (fun W (hb : Below w.heap.size w W) => refEncode_call s l W (h.grow hb))
  have LV := hid (fun W (hb : Below w.heap.size w W) => lives_call W (hT.keep hb))
  have EN := hid (encB_len s l)
  have SN := hid (show sizeI (if checkN s = 0 then s.t.items false else []) = encN s from rfl)
  rw [SN.out] at SC
  cases hl : lightB s with
  | false =>
    have E0 := hid (show encB s l = [] by unfold encB; rw [if_neg (dark_check hl)])
    have N0 := hid (show encN s = 0 by have := EN.out; rw [E0.out] at this; exact this.symm)
    rw [hl] at LC
    rw [N0.out] at SC
    rw [E0.out] at EC
    clear h hT hg hl
    go_enter Tryd.func3, Tryd.ntmps3
    go_wp2_with (first
      | (go_at_call 8; refine LC.out.mono ?_; rintro e w3 ⟨rfl, b3⟩; have H3 := hid (gt HG.out b3); have X3 := hid (BX.out.keep b3); obtain ⟨x0, x1, x2⟩ := X3.out.cells; clear b3)
      | (go_at_call 9; refine (EC.out _ H3.out).mono ?_; rintro e w4 ⟨a4, n4, c4, rfl, o4, -, b4⟩; have H4 := hid (gt H3.out b4); have X4 := hid (X3.out.keep b4); obtain ⟨x0, x1, x2⟩ := X4.out.cells; obtain rfl : n4 = 0 := (by have := o4.1; simpa [bs] using this.symm); clear o4 b4)
      | (go_at_call 10; refine (SC.out _ H4.out).mono ?_; rintro e w5 ⟨rfl, b5⟩; have H5 := hid (gt H4.out b5); clear b5)
      | (go_at_call 11; refine (LV.out _ H5.out).mono ?_; rintro e w6 ⟨rfl, b6⟩; have H6 := hid (gt H5.out b6); clear b6))
    go_ret
    exact ⟨rfl, H6.out⟩
  | true =>
    rw [hl] at LC
    clear h hT hg hl
    generalize encN s = en at *
    go_enter Tryd.func3, Tryd.ntmps3
    go_wp2_with (first
      | (go_at_call 8; refine LC.out.mono ?_; rintro e w3 ⟨rfl, b3⟩; have H3 := hid (gt HG.out b3); have X3 := hid (BX.out.keep b3); obtain ⟨x0, x1, x2⟩ := X3.out.cells; clear b3)
      | (go_at_call 12; refine (RC.out _ H3.out).mono ?_; rintro e w4 ⟨a4, n4, c4, rfl, o4, b4⟩; have H4 := hid (gt H3.out b4); have X4 := hid (X3.out.keep b4); obtain ⟨x0, x1, x2⟩ := X4.out.cells; have O4 := hid o4; have N4 := hid (show n4 = en by have := o4.1; rw [bs_length, EN.out] at this; omega); clear o4 b4))
    have CV4 := hid (fun W (h : Below w4.heap.size w4 W) => conv_rd (P := Tryd.prog) ((rd_at O4.out).keep h) 27 9 5 Tryd.underlying27 Tryd.underlying5 Tryd.underlying9)
    obtain rfl := N4.out
    obtain ⟨sx, hsx⟩ : ∃ sx, sx = str (encB s l) := ⟨_, rfl⟩
    rw [← hsx] at CV4
    have HSX := hid hsx
    clear hsx
    refine wp_region_K (S := (fun W => (W.cell? ⟨w.heap.size, 0, none⟩ = some (.int .i64 s.k) ∧ W.cell? ⟨w.heap.size, 1, none⟩ = some (.slice s.xo s.xn s.xc) ∧ W.cell? ⟨w.heap.size, 2, none⟩ = some (.slice s.po s.pn s.pc)) ∧ (convert 27 9 (.slice a4 n4 c4)).run Tryd.prog W = .ok (.string sx) W)) (fun _ => false) (by kernel_rfl) (by exact ⟨⟨x0, x1, x2⟩, CV4.out _ (Below.refl _ _).drew⟩) (fun hHeld => ?_)
    refine gkt 0 ?_ (h := by intro W hSw; obtain ⟨⟨r0, r1, r2⟩, r3⟩ := hSw; go_simp; first | done | with_reducible rfl)
    refine gkp 1 ?_
    refine gkp 4 ?_
    refine gkt 5 ?_ (h := by intro W hSw; obtain ⟨⟨r0, r1, r2⟩, r3⟩ := hSw; go_simp; first | done | with_reducible rfl)
    refine gk1 2 (fun K hK => ?_)
    go_simp
    go_at_call 9; refine (EC.out _ (H4.out.trans ((Below.refl _ _).drew.mono H4.out.size))).mono ?_; rintro e w5 ⟨a5, n5, c5, rfl, o5, -, b5⟩; have B5 := hid (undrew b5); have X5 := hid (X4.out.keep (undrew b5)); have hR : (fun W : World => (W.cell? ⟨w.heap.size, 0, none⟩ = some (.int .i64 s.k) ∧ W.cell? ⟨w.heap.size, 1, none⟩ = some (.slice s.xo s.xn s.xc) ∧ W.cell? ⟨w.heap.size, 2, none⟩ = some (.slice s.po s.pn s.pc)) ∧ (convert 27 9 (.slice a4 n4 c4)).run Tryd.prog W = .ok (.string sx) W) w5 := ⟨X5.out.cells, CV4.out _ (undrew b5)⟩
    refine hK.out _ _ hR (fun hHeld => ?_)
    clear hK K hR
    (try simp only [Act.put, sA, sZ, sS])
    have CV5 := hid (fun W (h : Below w5.heap.size w5 W) => conv_rd (P := Tryd.prog) ((rd_at o5).keep h) 27 9 5 Tryd.underlying27 Tryd.underlying5 Tryd.underlying9)
    rw [← HSX.out] at CV5
    clear o5 b5
    refine wpAnyK_more (S' := (fun W : World => ((W.cell? ⟨w.heap.size, 0, none⟩ = some (.int .i64 s.k) ∧ W.cell? ⟨w.heap.size, 1, none⟩ = some (.slice s.xo s.xn s.xc) ∧ W.cell? ⟨w.heap.size, 2, none⟩ = some (.slice s.po s.pn s.pc)) ∧ (convert 27 9 (.slice a4 n4 c4)).run Tryd.prog W = .ok (.string sx) W) ∧ (convert 27 9 (.slice a5 n5 c5)).run Tryd.prog W = .ok (.string sx) W)) (fun _ h => h.1) ?_
    have hHeld := And.intro hHeld (CV5.out _ (Below.refl _ _))
    refine gkt 3 ?_ (h := by intro W hSw; obtain ⟨⟨⟨r0, r1, r2⟩, r3⟩, r4⟩ := hSw; go_simp; first | done | with_reducible rfl)
    refine gkp 6 ?_ (v := .bool true) (h := by intro W hSw; go_simp)
    refine gkp 7 ?_
    refine gkt 8 ?_ (h := by intro W hSw; obtain ⟨⟨⟨r0, r1, r2⟩, r3⟩, r4⟩ := hSw; go_simp; first | done | with_reducible rfl)
    refine gkp 10 ?_
    refine gkp 11 ?_
    refine gk1 9 (fun K hK => ?_)
    go_simp
    go_at_call 10; refine (SC.out _ (gt H4.out B5.out)).mono ?_; rintro e w6 ⟨rfl, b6⟩; have B6 := hid b6; have X6 := hid (X5.out.keep b6); have hR : (fun W : World => ((W.cell? ⟨w.heap.size, 0, none⟩ = some (.int .i64 s.k) ∧ W.cell? ⟨w.heap.size, 1, none⟩ = some (.slice s.xo s.xn s.xc) ∧ W.cell? ⟨w.heap.size, 2, none⟩ = some (.slice s.po s.pn s.pc)) ∧ (convert 27 9 (.slice a4 n4 c4)).run Tryd.prog W = .ok (.string sx) W) ∧ (convert 27 9 (.slice a5 n5 c5)).run Tryd.prog W = .ok (.string sx) W) w6 := ⟨⟨X6.out.cells, CV4.out _ (gt B5.out b6)⟩, CV5.out _ b6⟩; clear b6
    refine hK.out _ _ hR (fun hHeld => ?_)
    clear hK K hR
    (try simp only [Act.put, sA, sZ, sS])
    refine gkp 12 ?_ (v := .bool true) (h := by intro W hSw; go_simp)
    refine gkp 13 ?_
    refine gkp 14 ?_
    refine gk1 15 (fun K hK => ?_)
    go_simp
    go_at_call 11; refine (LV.out _ (gt H4.out (gt B5.out B6.out))).mono ?_; rintro e w7 ⟨rfl, b7⟩; have B7 := hid b7; have X7 := hid (X6.out.keep b7); have hR : (fun W : World => ((W.cell? ⟨w.heap.size, 0, none⟩ = some (.int .i64 s.k) ∧ W.cell? ⟨w.heap.size, 1, none⟩ = some (.slice s.xo s.xn s.xc) ∧ W.cell? ⟨w.heap.size, 2, none⟩ = some (.slice s.po s.pn s.pc)) ∧ (convert 27 9 (.slice a4 n4 c4)).run Tryd.prog W = .ok (.string sx) W) ∧ (convert 27 9 (.slice a5 n5 c5)).run Tryd.prog W = .ok (.string sx) W) w7 := ⟨⟨X7.out.cells, CV4.out _ (gt B5.out (gt B6.out b7))⟩, CV5.out _ (gt B6.out b7)⟩; clear b7
    refine hK.out _ _ hR (fun hHeld => ?_)
    clear hK K hR
    (try simp only [Act.put, sA, sZ, sS])
    refine gkp 16 ?_
    refine gkp 17 ?_
    refine wpAnyK_done (by kernel_rfl) ?_ _
    go_wp2
    go_ret
    exact ⟨rfl, gt H4.out (gt B5.out (gt B6.out B7.out))⟩
end Go.Proofs.YtjieegnmofimkaaDoor
