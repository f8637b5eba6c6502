/- What is counted and asked of any shape, as the document has it: the law's walk; no statement of the seat is proved here. -/
import Derived.Test.YtcneadohpbeahaaDoorAt
namespace Go.Proofs.YtcneadohpbeahaaDoor
open Go.RowKit Go.Maps

set_option maxRecDepth 100000 in
set_option maxHeartbeats 8000000 in
theorem checks_law (s : Sh) (w : World) (hT : Tab w) (h : In (fun b => b < w.heap.size) w s) : Calls Tryd.prog 3 #[.agg #[.int .i64 (s).k, .slice (s).xo (s).xn (s).xc, .slice (s).po (s).pn (s).pc]] w fun e w' => e = .returned (.bool true) ∧ Below w.heap.size w w' := by
  have B1 := hid (Bx.new w s)
  obtain ⟨x0, x1, x2⟩ := B1.out.cells
  have b0 : Hid (Below w.heap.size w (w.alloc (.cells #[.int .i64 (s).k, .slice (s).xo (s).xn (s).xc, .slice (s).po (s).pn (s).pc] 25)).drew) := hid (ext1 _).drew
  have C8 := hid (fun W (hb : Below w.heap.size w W) => check_call s W (hT.keep hb) (h.grow hb))
  have C9 := hid (fun W (hb : Below w.heap.size w W) => refCheck_call s W (h.grow hb))
  have C10 := hid (fun W (hb : Below w.heap.size w W) => points_call s W (h.grow hb))
  have C11 := hid (fun W (hb : Below w.heap.size w W) => refPoints_call s W (h.grow hb))
  have C12 := hid (fun W (hb : Below w.heap.size w W) => parts_call s W (h.grow hb))
  have C13 := hid (fun W (hb : Below w.heap.size w W) => refParts_call s W (h.grow hb))
  have C14 := hid (fun W (hb : Below w.heap.size w W) => depth_call s W (h.grow hb))
  have C15 := hid (fun W (hb : Below w.heap.size w W) => refDepth_call s W (h.grow hb))
  have C16 := hid (fun W (hb : Below w.heap.size w W) => empty_call s W (h.grow hb))
  have C17 := hid (fun W (hb : Below w.heap.size w W) => refEmpty_call s W (h.grow hb))
  have C18 := hid (fun W (hb : Below w.heap.size w W) => lives_call W (hT.keep hb))
  clear h hT
  generalize checkN s = R at *
  generalize depthN (s.flat 1) = D at *
  generalize partsN (s.flat 1) = P at *
  generalize ptsN (s.flat 1) = X at *
  generalize decide (X = 0) = E at *
  go_enter Tryd.func3, Tryd.ntmps3
  go_wp2
  refine wp_region_K (S := (fun W : World => (W.cell? ⟨w.heap.size, 0, none⟩ = some (.int .i64 s.k) ∧ W.cell? ⟨w.heap.size, 1, none⟩ = some (.slice s.xo s.xn s.xc) ∧ W.cell? ⟨w.heap.size, 2, none⟩ = some (.slice s.po s.pn s.pc)) ∧ Below w.heap.size w W)) (fun _ => false) (by kernel_rfl) (by exact ⟨⟨x0, x1, x2⟩, b0.out⟩) (fun hHeld => ?_)
  refine gkt 0 ?_ (h := by intro W hSw; obtain ⟨⟨r0, r1, r2⟩, _⟩ := hSw; go_simp; first | done | with_reducible rfl)
  refine gkt 2 ?_ (h := by intro W hSw; obtain ⟨⟨r0, r1, r2⟩, _⟩ := hSw; go_simp; first | done | with_reducible rfl)
  refine gk1 1 (fun K hK => ?_)
  go_simp
  go_at_call 8; refine (C8.out _ hHeld.2).mono ?_; rintro e w1 ⟨rfl, hb⟩; have H9 := hid hb; clear hb; have hR : (fun W : World => (W.cell? ⟨w.heap.size, 0, none⟩ = some (.int .i64 s.k) ∧ W.cell? ⟨w.heap.size, 1, none⟩ = some (.slice s.xo s.xn s.xc) ∧ W.cell? ⟨w.heap.size, 2, none⟩ = some (.slice s.po s.pn s.pc)) ∧ Below w.heap.size w W) w1 := ⟨⟨keep_old H9.out hHeld.1.1, keep_old H9.out hHeld.1.2.1, keep_old H9.out hHeld.1.2.2⟩, gt hHeld.2 H9.out⟩; clear H9
  refine hK.out _ _ hR (fun hHeld => ?_)
  clear hK K
  (try simp only [Act.put, sA, sZ, sS])
  refine gk1 3 (fun K hK => ?_)
  go_simp
  go_at_call 9; refine (C9.out _ hHeld.2).mono ?_; rintro e w3 ⟨rfl, hb⟩; have H9 := hid hb; clear hb; have hR : (fun W : World => (W.cell? ⟨w.heap.size, 0, none⟩ = some (.int .i64 s.k) ∧ W.cell? ⟨w.heap.size, 1, none⟩ = some (.slice s.xo s.xn s.xc) ∧ W.cell? ⟨w.heap.size, 2, none⟩ = some (.slice s.po s.pn s.pc)) ∧ Below w.heap.size w W) w3 := ⟨⟨keep_old H9.out hHeld.1.1, keep_old H9.out hHeld.1.2.1, keep_old H9.out hHeld.1.2.2⟩, gt hHeld.2 H9.out⟩; clear H9
  refine hK.out _ _ hR (fun hHeld => ?_)
  clear hK K
  (try simp only [Act.put, sA, sZ, sS])
  refine gkp 4 ?_ (v := .bool true) (h := by intro W hSw; go_simp; first | done | with_reducible rfl)
  refine gkp 5 ?_ (v := .bool true) (h := by intro W hSw; go_simp; first | done | with_reducible rfl)
  refine gkt 6 ?_ (h := by intro W hSw; obtain ⟨⟨r0, r1, r2⟩, _⟩ := hSw; go_simp; first | done | with_reducible rfl)
  refine gkt 8 ?_ (h := by intro W hSw; obtain ⟨⟨r0, r1, r2⟩, _⟩ := hSw; go_simp; first | done | with_reducible rfl)
  refine gk1 7 (fun K hK => ?_)
  go_simp
  go_at_call 10; refine (C10.out _ hHeld.2).mono ?_; rintro e w7 ⟨rfl, hb⟩; have H9 := hid hb; clear hb; have hR : (fun W : World => (W.cell? ⟨w.heap.size, 0, none⟩ = some (.int .i64 s.k) ∧ W.cell? ⟨w.heap.size, 1, none⟩ = some (.slice s.xo s.xn s.xc) ∧ W.cell? ⟨w.heap.size, 2, none⟩ = some (.slice s.po s.pn s.pc)) ∧ Below w.heap.size w W) w7 := ⟨⟨keep_old H9.out hHeld.1.1, keep_old H9.out hHeld.1.2.1, keep_old H9.out hHeld.1.2.2⟩, gt hHeld.2 H9.out⟩; clear H9
  refine hK.out _ _ hR (fun hHeld => ?_)
  clear hK K
  (try simp only [Act.put, sA, sZ, sS])
  refine gk1 9 (fun K hK => ?_)
  go_simp
  go_at_call 11; refine (C11.out _ hHeld.2).mono ?_; rintro e w9 ⟨rfl, hb⟩; have H9 := hid hb; clear hb; have hR : (fun W : World => (W.cell? ⟨w.heap.size, 0, none⟩ = some (.int .i64 s.k) ∧ W.cell? ⟨w.heap.size, 1, none⟩ = some (.slice s.xo s.xn s.xc) ∧ W.cell? ⟨w.heap.size, 2, none⟩ = some (.slice s.po s.pn s.pc)) ∧ Below w.heap.size w W) w9 := ⟨⟨keep_old H9.out hHeld.1.1, keep_old H9.out hHeld.1.2.1, keep_old H9.out hHeld.1.2.2⟩, gt hHeld.2 H9.out⟩; clear H9
  refine hK.out _ _ hR (fun hHeld => ?_)
  clear hK K
  (try simp only [Act.put, sA, sZ, sS])
  refine gkp 10 ?_ (v := .bool true) (h := by intro W hSw; go_simp; first | done | with_reducible rfl)
  refine gkp 11 ?_ (v := .bool true) (h := by intro W hSw; go_simp; first | done | with_reducible rfl)
  refine gkp 12 ?_ (v := .bool true) (h := by intro W hSw; go_simp; first | done | with_reducible rfl)
  refine gkt 13 ?_ (h := by intro W hSw; obtain ⟨⟨r0, r1, r2⟩, _⟩ := hSw; go_simp; first | done | with_reducible rfl)
  refine gkt 15 ?_ (h := by intro W hSw; obtain ⟨⟨r0, r1, r2⟩, _⟩ := hSw; go_simp; first | done | with_reducible rfl)
  refine gk1 14 (fun K hK => ?_)
  go_simp
  go_at_call 12; refine (C12.out _ hHeld.2).mono ?_; rintro e w14 ⟨rfl, hb⟩; have H9 := hid hb; clear hb; have hR : (fun W : World => (W.cell? ⟨w.heap.size, 0, none⟩ = some (.int .i64 s.k) ∧ W.cell? ⟨w.heap.size, 1, none⟩ = some (.slice s.xo s.xn s.xc) ∧ W.cell? ⟨w.heap.size, 2, none⟩ = some (.slice s.po s.pn s.pc)) ∧ Below w.heap.size w W) w14 := ⟨⟨keep_old H9.out hHeld.1.1, keep_old H9.out hHeld.1.2.1, keep_old H9.out hHeld.1.2.2⟩, gt hHeld.2 H9.out⟩; clear H9
  refine hK.out _ _ hR (fun hHeld => ?_)
  clear hK K
  (try simp only [Act.put, sA, sZ, sS])
  refine gk1 16 (fun K hK => ?_)
  go_simp
  go_at_call 13; refine (C13.out _ hHeld.2).mono ?_; rintro e w16 ⟨rfl, hb⟩; have H9 := hid hb; clear hb; have hR : (fun W : World => (W.cell? ⟨w.heap.size, 0, none⟩ = some (.int .i64 s.k) ∧ W.cell? ⟨w.heap.size, 1, none⟩ = some (.slice s.xo s.xn s.xc) ∧ W.cell? ⟨w.heap.size, 2, none⟩ = some (.slice s.po s.pn s.pc)) ∧ Below w.heap.size w W) w16 := ⟨⟨keep_old H9.out hHeld.1.1, keep_old H9.out hHeld.1.2.1, keep_old H9.out hHeld.1.2.2⟩, gt hHeld.2 H9.out⟩; clear H9
  refine hK.out _ _ hR (fun hHeld => ?_)
  clear hK K
  (try simp only [Act.put, sA, sZ, sS])
  refine gkp 17 ?_ (v := .bool true) (h := by intro W hSw; go_simp; first | done | with_reducible rfl)
  refine gkp 18 ?_ (v := .bool true) (h := by intro W hSw; go_simp; first | done | with_reducible rfl)
  refine gkp 19 ?_ (v := .bool true) (h := by intro W hSw; go_simp; first | done | with_reducible rfl)
  refine gkt 20 ?_ (h := by intro W hSw; obtain ⟨⟨r0, r1, r2⟩, _⟩ := hSw; go_simp; first | done | with_reducible rfl)
  refine gkt 22 ?_ (h := by intro W hSw; obtain ⟨⟨r0, r1, r2⟩, _⟩ := hSw; go_simp; first | done | with_reducible rfl)
  refine gk1 21 (fun K hK => ?_)
  go_simp
  go_at_call 14; refine (C14.out _ hHeld.2).mono ?_; rintro e w21 ⟨rfl, hb⟩; have H9 := hid hb; clear hb; have hR : (fun W : World => (W.cell? ⟨w.heap.size, 0, none⟩ = some (.int .i64 s.k) ∧ W.cell? ⟨w.heap.size, 1, none⟩ = some (.slice s.xo s.xn s.xc) ∧ W.cell? ⟨w.heap.size, 2, none⟩ = some (.slice s.po s.pn s.pc)) ∧ Below w.heap.size w W) w21 := ⟨⟨keep_old H9.out hHeld.1.1, keep_old H9.out hHeld.1.2.1, keep_old H9.out hHeld.1.2.2⟩, gt hHeld.2 H9.out⟩; clear H9
  refine hK.out _ _ hR (fun hHeld => ?_)
  clear hK K
  (try simp only [Act.put, sA, sZ, sS])
  refine gk1 23 (fun K hK => ?_)
  go_simp
  go_at_call 15; refine (C15.out _ hHeld.2).mono ?_; rintro e w23 ⟨rfl, hb⟩; have H9 := hid hb; clear hb; have hR : (fun W : World => (W.cell? ⟨w.heap.size, 0, none⟩ = some (.int .i64 s.k) ∧ W.cell? ⟨w.heap.size, 1, none⟩ = some (.slice s.xo s.xn s.xc) ∧ W.cell? ⟨w.heap.size, 2, none⟩ = some (.slice s.po s.pn s.pc)) ∧ Below w.heap.size w W) w23 := ⟨⟨keep_old H9.out hHeld.1.1, keep_old H9.out hHeld.1.2.1, keep_old H9.out hHeld.1.2.2⟩, gt hHeld.2 H9.out⟩; clear H9
  refine hK.out _ _ hR (fun hHeld => ?_)
  clear hK K
  (try simp only [Act.put, sA, sZ, sS])
  refine gkp 24 ?_ (v := .bool true) (h := by intro W hSw; go_simp; first | done | with_reducible rfl)
  refine gkp 25 ?_ (v := .bool true) (h := by intro W hSw; go_simp; first | done | with_reducible rfl)
  refine gkp 26 ?_ (v := .bool true) (h := by intro W hSw; go_simp; first | done | with_reducible rfl)
  refine gkt 27 ?_ (h := by intro W hSw; obtain ⟨⟨r0, r1, r2⟩, _⟩ := hSw; go_simp; first | done | with_reducible rfl)
  refine gkt 29 ?_ (h := by intro W hSw; obtain ⟨⟨r0, r1, r2⟩, _⟩ := hSw; go_simp; first | done | with_reducible rfl)
  refine gk1 28 (fun K hK => ?_)
  go_simp
  go_at_call 16; refine (C16.out _ hHeld.2).mono ?_; rintro e w28 ⟨rfl, hb⟩; have H9 := hid hb; clear hb; have hR : (fun W : World => (W.cell? ⟨w.heap.size, 0, none⟩ = some (.int .i64 s.k) ∧ W.cell? ⟨w.heap.size, 1, none⟩ = some (.slice s.xo s.xn s.xc) ∧ W.cell? ⟨w.heap.size, 2, none⟩ = some (.slice s.po s.pn s.pc)) ∧ Below w.heap.size w W) w28 := ⟨⟨keep_old H9.out hHeld.1.1, keep_old H9.out hHeld.1.2.1, keep_old H9.out hHeld.1.2.2⟩, gt hHeld.2 H9.out⟩; clear H9
  refine hK.out _ _ hR (fun hHeld => ?_)
  clear hK K
  (try simp only [Act.put, sA, sZ, sS])
  refine gk1 30 (fun K hK => ?_)
  go_simp
  go_at_call 17; refine (C17.out _ hHeld.2).mono ?_; rintro e w30 ⟨rfl, hb⟩; have H9 := hid hb; clear hb; have hR : (fun W : World => (W.cell? ⟨w.heap.size, 0, none⟩ = some (.int .i64 s.k) ∧ W.cell? ⟨w.heap.size, 1, none⟩ = some (.slice s.xo s.xn s.xc) ∧ W.cell? ⟨w.heap.size, 2, none⟩ = some (.slice s.po s.pn s.pc)) ∧ Below w.heap.size w W) w30 := ⟨⟨keep_old H9.out hHeld.1.1, keep_old H9.out hHeld.1.2.1, keep_old H9.out hHeld.1.2.2⟩, gt hHeld.2 H9.out⟩; clear H9
  refine hK.out _ _ hR (fun hHeld => ?_)
  clear hK K
  (try simp only [Act.put, sA, sZ, sS])
  refine gkp 31 ?_ (v := .bool true) (h := by intro W hSw; go_simp; first | done | with_reducible rfl)
  refine gkp 32 ?_ (v := .bool true) (h := by intro W hSw; go_simp; first | done | with_reducible rfl)
  refine gkp 33 ?_ (v := .bool true) (h := by intro W hSw; go_simp; first | done | with_reducible rfl)
  refine gk1 34 (fun K hK => ?_)
  go_simp
  go_at_call 18; refine (C18.out _ hHeld.2).mono ?_; rintro e w34 ⟨rfl, hb⟩; have H9 := hid hb; clear hb; have hR : (fun W : World => (W.cell? ⟨w.heap.size, 0, none⟩ = some (.int .i64 s.k) ∧ W.cell? ⟨w.heap.size, 1, none⟩ = some (.slice s.xo s.xn s.xc) ∧ W.cell? ⟨w.heap.size, 2, none⟩ = some (.slice s.po s.pn s.pc)) ∧ Below w.heap.size w W) w34 := ⟨⟨keep_old H9.out hHeld.1.1, keep_old H9.out hHeld.1.2.1, keep_old H9.out hHeld.1.2.2⟩, gt hHeld.2 H9.out⟩; clear H9
  refine hK.out _ _ hR (fun hHeld => ?_)
  clear hK K
  (try simp only [Act.put, sA, sZ, sS])
  refine gkp 35 ?_ (v := .bool true) (h := by intro W hSw; go_simp; first | done | with_reducible rfl)
  refine gkp 36 ?_
  refine wpAnyK_done (by kernel_rfl) ?_ _
  go_wp2
  go_ret
  exact ⟨rfl, hHeld.2⟩
end Go.Proofs.YtcneadohpbeahaaDoor
