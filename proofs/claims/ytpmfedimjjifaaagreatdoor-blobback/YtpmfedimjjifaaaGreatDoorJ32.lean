/- The program's Peek; no statement of the seat is proved here. -/
import Derived.Test.YtpmfedimjjifaaaGreatDoorJ31
import Derived.Test.YtpmfedimjjifaaaGreatDoorJ00
import Derived.ProofKit
import Derived.OpenShut
import Derived.ChangeSlices
import Derived.SizedLaws
namespace Go.Proofs.YtpmfedimjjifaaaGreatDoor
open Go.RowKit Go.Maps
open Bxs (Rect noR goodR)

theorem ret_h3 {fn : Func} {p u v : Tmp} (h : fn.results = #[.cell p 29, .tmp u, .tmp v]) {tmps : Array Value} {W : World} {q : Nat} {x : Hd}
    (hp : tmps.getD p undef = .pointer (some ⟨q, 0, none⟩)) (hb : B9 W q x) : (results fn tmps).run Tryz.prog W = .ok (.tuple #[.agg #[.int .i64 (x).srs, .bool (x).l, .bool (x).b, .bool (x).e, .bool (x).x.n, .int .i64 (x).x.lx, .int .i64 (x).x.ly, .int .i64 (x).x.hx, .int .i64 (x).x.hy], tmps.getD u undef, tmps.getD v undef]) W := by
  rw [results_cell_tmp2 h, hp]
  simp [asAddr, load9 Tryz.isAgg29 Tryz.sizeOf29 hb]
theorem B9.other9 {W : World} {b c : Nat} {h : Hd} (k : B9 W c h) (hne : c ≠ b) (q : Hd) : B9 (((((((((W.setCell ⟨b, 0, none⟩ (.int .i64 q.srs)).setCell ⟨b, 1, none⟩ (.bool q.l)).setCell ⟨b, 2, none⟩ (.bool q.b)).setCell ⟨b, 3, none⟩ (.bool q.e)).setCell ⟨b, 4, none⟩ (.bool q.x.n)).setCell ⟨b, 5, none⟩ (.int .i64 q.x.lx)).setCell ⟨b, 6, none⟩ (.int .i64 q.x.ly)).setCell ⟨b, 7, none⟩ (.int .i64 q.x.hx)).setCell ⟨b, 8, none⟩ (.int .i64 q.x.hy)) c h := by
  unfold B9 at *
  rw [heap_setCell_other _ _ _ _ hne, heap_setCell_other _ _ _ _ hne, heap_setCell_other _ _ _ _ hne, heap_setCell_other _ _ _ _ hne, heap_setCell_other _ _ _ _ hne, heap_setCell_other _ _ _ _ hne, heap_setCell_other _ _ _ _ hne, heap_setCell_other _ _ _ _ hne, heap_setCell_other _ _ _ _ hne]
  exact k
theorem done_any {P : Program} {ops : Array Oper} {Q : Exit → Act → World → Prop} {md : Region.Mode} {S : World → Prop} {E : Nat → Bool} {listed : Array Bool} {a : Act} {w : World} {R : World → Prop} (hr : Region.ready md ops listed = []) (hR : R w) (h : ∀ W, R W → Q .normal a W) : ∀ fuel, wpAnyK P md ops Q S E fuel listed a w := wpAnyK_done hr (h w hR)
/-- What Peek returns. -/
def pkV : Pk → Value
  | .bad e => .tuple #[.agg #[.int .i64 (noH).srs, .bool (noH).l, .bool (noH).b, .bool (noH).e, .bool (noH).x.n, .int .i64 (noH).x.lx, .int .i64 (noH).x.ly, .int .i64 (noH).x.hx, .int .i64 (noH).x.hy], .int .i64 0, .int .i64 (e : Int)]
  | .ok h => .tuple #[.agg #[.int .i64 (h).srs, .bool (h).l, .bool (h).b, .bool (h).e, .bool (h).x.n, .int .i64 (h).x.lx, .int .i64 (h).x.ly, .int .i64 (h).x.hx, .int .i64 (h).x.hy], .int .i64 (szH h.b : Nat), .int .i64 0]
def pkE : Pk → Nat
  | .bad e => e
  | .ok _ => 1
set_option maxRecDepth 100000 in
set_option maxHeartbeats 8000000 in
theorem peek_call (o : Option Addr) (n c : Nat) (xs : List Nat) (w : World) (h : Rd w o n c xs) (hx : ∀ x ∈ xs, x < 256) (hn : n ≤ 1000000000) : Calls Tryz.prog 6 #[.slice o n c] w fun x w' => x = .returned (pkV (peekV xs)) ∧ (1 ≤ pkE (peekV xs) ∧ pkE (peekV xs) ≤ 20) ∧ Below w.heap.size w w' := by
  have BZ := hid (B9.new w noH)
  have BG := hid (begun_call o n c xs _ (h.keep (ext1 (.cells #[.int .i64 0, .bool false, .bool false, .bool false, .bool false, .int .i64 0, .int .i64 0, .int .i64 0, .int .i64 0] 29))) hx hn)
  unfold peekV
  obtain ⟨B, hB⟩ : ∃ B, B = (begunV xs).1 := ⟨_, rfl⟩
  obtain ⟨g, hg⟩ : ∃ g, g = (begunV xs).2 := ⟨_, rfl⟩
  rw [← hB, ← hg] at BG ⊢
  have HS := hid (headSize_call B)
  have hsz : szH B.b ≤ 40 ∧ 8 ≤ szH B.b := by unfold szH; split <;> omega
  clear hB hg
  cases g with
  | false =>
    rw [if_pos rfl]
    generalize szH B.b = sz at *
    clear h hx hn
    go_enter Tryz.func6, Tryz.ntmps6
    go_wp2_with (first | (go_at_call 20; refine BG.out.mono ?_; rintro e w1 ⟨rfl, b1⟩; have H1 := hid (gt (gt (ext1 _) b1) (ext1 (.cells #[.int .i64 (B).srs, .bool (B).l, .bool (B).b, .bool (B).e, .bool (B).x.n, .int .i64 (B).x.lx, .int .i64 (B).x.ly, .int .i64 (B).x.hx, .int .i64 (B).x.hy] 29))); have Z1 := hid ((BZ.out.keep b1).keep (ext1 (.cells #[.int .i64 (B).srs, .bool (B).l, .bool (B).b, .bool (B).e, .bool (B).x.n, .int .i64 (B).x.lx, .int .i64 (B).x.ly, .int .i64 (B).x.hx, .int .i64 (B).x.hy] 29))); have D1 := hid (B9.new w1 B); have hz1 := hid (show w.heap.size < w1.heap.size by have h1 := b1.size; simp only [World.size_alloc] at h1; omega); clear b1; obtain ⟨d0, d1, d2, d3, d4, d5, d6, d7, d8⟩ := D1.out.c; have df0 := D1.out.fz 0; have df1 := D1.out.fz 1; have df2 := D1.out.fz 2; have df3 := D1.out.fz 3; have df4 := D1.out.fz 4; have df5 := D1.out.fz 5; have df6 := D1.out.fz 6; have df7 := D1.out.fz 7; have df8 := D1.out.fz 8; obtain ⟨z0, z1, z2, z3, z4, z5, z6, z7, z8⟩ := Z1.out.c; have zf0 := Z1.out.fz 0; have zf1 := Z1.out.fz 1; have zf2 := Z1.out.fz 2; have zf3 := Z1.out.fz 3; have zf4 := Z1.out.fz 4; have zf5 := Z1.out.fz 5; have zf6 := Z1.out.fz 6; have zf7 := Z1.out.fz 7; have zf8 := Z1.out.fz 8; have hlow := H1.out) | (go_at_call 21; refine (HS.out _).mono ?_; rintro e w2 ⟨rfl, b2⟩; clear d0 df0 d1 df1 d2 df2 d3 df3 d4 df4 d5 df5 d6 df6 d7 df7 d8 df8 z0 zf0 z1 zf1 z2 zf2 z3 zf3 z4 zf4 z5 zf5 z6 zf6 z7 zf7 z8 zf8; clear hlow; have H2 := hid (gt H1.out b2); have Z2 := hid (Z1.out.keep b2); have D2 := hid (D1.out.keep b2); clear b2; obtain ⟨d0, d1, d2, d3, d4, d5, d6, d7, d8⟩ := D2.out.c; have df0 := D2.out.fz 0; have df1 := D2.out.fz 1; have df2 := D2.out.fz 2; have df3 := D2.out.fz 3; have df4 := D2.out.fz 4; have df5 := D2.out.fz 5; have df6 := D2.out.fz 6; have df7 := D2.out.fz 7; have df8 := D2.out.fz 8; obtain ⟨z0, z1, z2, z3, z4, z5, z6, z7, z8⟩ := Z2.out.c; have zf0 := Z2.out.fz 0; have zf1 := Z2.out.fz 1; have zf2 := Z2.out.fz 2; have zf3 := Z2.out.fz 3; have zf4 := Z2.out.fz 4; have zf5 := Z2.out.fz 5; have zf6 := Z2.out.fz 6; have zf7 := Z2.out.fz 7; have zf8 := Z2.out.fz 8; have hlow := H2.out))
    exact bodyPost_ret (ret_h3 rfl rfl (Z2.out.put noH)) rfl ⟨rfl, ⟨by decide, by decide⟩, fr9 H2.out (Nat.le_refl _) noH⟩
  | true =>
    rw [if_neg (by decide)]
    by_cases hl : xs.length < szH B.b
    · rw [if_pos hl]
      have hl' : (n : Int) < ((szH B.b : Nat) : Int) := by rw [← h.1]; omega
      generalize szH B.b = sz at *
      clear h hx hn hl
      go_enter Tryz.func6, Tryz.ntmps6
      go_wp2_with (first | (go_at_call 20; refine BG.out.mono ?_; rintro e w1 ⟨rfl, b1⟩; have H1 := hid (gt (gt (ext1 _) b1) (ext1 (.cells #[.int .i64 (B).srs, .bool (B).l, .bool (B).b, .bool (B).e, .bool (B).x.n, .int .i64 (B).x.lx, .int .i64 (B).x.ly, .int .i64 (B).x.hx, .int .i64 (B).x.hy] 29))); have Z1 := hid ((BZ.out.keep b1).keep (ext1 (.cells #[.int .i64 (B).srs, .bool (B).l, .bool (B).b, .bool (B).e, .bool (B).x.n, .int .i64 (B).x.lx, .int .i64 (B).x.ly, .int .i64 (B).x.hx, .int .i64 (B).x.hy] 29))); have D1 := hid (B9.new w1 B); have hz1 := hid (show w.heap.size < w1.heap.size by have h1 := b1.size; simp only [World.size_alloc] at h1; omega); clear b1; obtain ⟨d0, d1, d2, d3, d4, d5, d6, d7, d8⟩ := D1.out.c; have df0 := D1.out.fz 0; have df1 := D1.out.fz 1; have df2 := D1.out.fz 2; have df3 := D1.out.fz 3; have df4 := D1.out.fz 4; have df5 := D1.out.fz 5; have df6 := D1.out.fz 6; have df7 := D1.out.fz 7; have df8 := D1.out.fz 8; obtain ⟨z0, z1, z2, z3, z4, z5, z6, z7, z8⟩ := Z1.out.c; have zf0 := Z1.out.fz 0; have zf1 := Z1.out.fz 1; have zf2 := Z1.out.fz 2; have zf3 := Z1.out.fz 3; have zf4 := Z1.out.fz 4; have zf5 := Z1.out.fz 5; have zf6 := Z1.out.fz 6; have zf7 := Z1.out.fz 7; have zf8 := Z1.out.fz 8; have hlow := H1.out) | (go_at_call 21; refine (HS.out _).mono ?_; rintro e w2 ⟨rfl, b2⟩; clear d0 df0 d1 df1 d2 df2 d3 df3 d4 df4 d5 df5 d6 df6 d7 df7 d8 df8 z0 zf0 z1 zf1 z2 zf2 z3 zf3 z4 zf4 z5 zf5 z6 zf6 z7 zf7 z8 zf8; clear hlow; have H2 := hid (gt H1.out b2); have Z2 := hid (Z1.out.keep b2); have D2 := hid (D1.out.keep b2); clear b2; obtain ⟨d0, d1, d2, d3, d4, d5, d6, d7, d8⟩ := D2.out.c; have df0 := D2.out.fz 0; have df1 := D2.out.fz 1; have df2 := D2.out.fz 2; have df3 := D2.out.fz 3; have df4 := D2.out.fz 4; have df5 := D2.out.fz 5; have df6 := D2.out.fz 6; have df7 := D2.out.fz 7; have df8 := D2.out.fz 8; obtain ⟨z0, z1, z2, z3, z4, z5, z6, z7, z8⟩ := Z2.out.c; have zf0 := Z2.out.fz 0; have zf1 := Z2.out.fz 1; have zf2 := Z2.out.fz 2; have zf3 := Z2.out.fz 3; have zf4 := Z2.out.fz 4; have zf5 := Z2.out.fz 5; have zf6 := Z2.out.fz 6; have zf7 := Z2.out.fz 7; have zf8 := Z2.out.fz 8; have hlow := H2.out))
      exact bodyPost_ret (ret_h3 rfl rfl (Z2.out.put noH)) rfl ⟨rfl, ⟨by decide, by decide⟩, fr9 H2.out (Nat.le_refl _) noH⟩
    · rw [if_neg hl]
      have hl' : ¬ (n : Int) < ((szH B.b : Nat) : Int) := by rw [← h.1]; omega
      have hln : szH B.b ≤ n := by rw [← h.1]; omega
      obtain ⟨o', SL, SR⟩ := slice_lh h 4 (szH B.b) (by omega) hln
      have SL' : ∀ W, (Instr.slice 22 (.slice o n c) (some (.int .i64 4)) (some (.int .i64 ((szH B.b : Nat) : Int))) none).run Tryz.prog W = .ok (.slice o' (szH B.b - 4) (c - 4)) W := SL
      clear SL
      have FC := hid (fun W (hb : Below w.heap.size w W) => filled_call B o' (szH B.b - 4) (c - 4) ((xs.drop 4).take (szH B.b - 4)) W (SR W (h.keep hb)) (fun x hx' => hx x (List.mem_of_mem_drop (List.mem_of_mem_take hx'))) (by omega) (by rw [List.length_take, List.length_drop, h.1]; omega))
      have hFb : (fillV B ((xs.drop 4).take (szH B.b - 4))).b = B.b := rfl
      obtain ⟨F, hF⟩ : ∃ F, F = fillV B ((xs.drop 4).take (szH B.b - 4)) := ⟨_, rfl⟩
      rw [← hF] at FC hFb ⊢
      have GC := hid (Bxs.good_call F.x)
      have EP : pkV (.ok F) = .tuple #[.agg #[.int .i64 (F).srs, .bool (F).l, .bool (F).b, .bool (F).e, .bool (F).x.n, .int .i64 (F).x.lx, .int .i64 (F).x.ly, .int .i64 (F).x.hx, .int .i64 (F).x.hy], .int .i64 (szH B.b : Nat), .int .i64 0] := by rw [← hFb]; rfl
      clear hF hFb SR
      generalize szH B.b - 4 = s4 at *
      generalize szH B.b = sz at *
      clear h hx hn hl hsz hln
      obtain ⟨gd, hgd⟩ : ∃ gd, gd = goodR F.x := ⟨_, rfl⟩
      rw [← hgd] at GC ⊢
      clear hgd
      go_enter Tryz.func6, Tryz.ntmps6
      go_wp2_with (first | (go_at_call 20; refine BG.out.mono ?_; rintro e w1 ⟨rfl, b1⟩; have H1 := hid (gt (gt (ext1 _) b1) (ext1 (.cells #[.int .i64 (B).srs, .bool (B).l, .bool (B).b, .bool (B).e, .bool (B).x.n, .int .i64 (B).x.lx, .int .i64 (B).x.ly, .int .i64 (B).x.hx, .int .i64 (B).x.hy] 29))); have Z1 := hid ((BZ.out.keep b1).keep (ext1 (.cells #[.int .i64 (B).srs, .bool (B).l, .bool (B).b, .bool (B).e, .bool (B).x.n, .int .i64 (B).x.lx, .int .i64 (B).x.ly, .int .i64 (B).x.hx, .int .i64 (B).x.hy] 29))); have D1 := hid (B9.new w1 B); have hz1 := hid (show w.heap.size < w1.heap.size by have h1 := b1.size; simp only [World.size_alloc] at h1; omega); clear b1; obtain ⟨d0, d1, d2, d3, d4, d5, d6, d7, d8⟩ := D1.out.c; have df0 := D1.out.fz 0; have df1 := D1.out.fz 1; have df2 := D1.out.fz 2; have df3 := D1.out.fz 3; have df4 := D1.out.fz 4; have df5 := D1.out.fz 5; have df6 := D1.out.fz 6; have df7 := D1.out.fz 7; have df8 := D1.out.fz 8; obtain ⟨z0, z1, z2, z3, z4, z5, z6, z7, z8⟩ := Z1.out.c; have zf0 := Z1.out.fz 0; have zf1 := Z1.out.fz 1; have zf2 := Z1.out.fz 2; have zf3 := Z1.out.fz 3; have zf4 := Z1.out.fz 4; have zf5 := Z1.out.fz 5; have zf6 := Z1.out.fz 6; have zf7 := Z1.out.fz 7; have zf8 := Z1.out.fz 8; have hlow := H1.out) | (go_at_call 21; refine (HS.out _).mono ?_; rintro e w2 ⟨rfl, b2⟩; clear d0 df0 d1 df1 d2 df2 d3 df3 d4 df4 d5 df5 d6 df6 d7 df7 d8 df8 z0 zf0 z1 zf1 z2 zf2 z3 zf3 z4 zf4 z5 zf5 z6 zf6 z7 zf7 z8 zf8; clear hlow; have H2 := hid (gt H1.out b2); have Z2 := hid (Z1.out.keep b2); have D2 := hid (D1.out.keep b2); clear b2; obtain ⟨d0, d1, d2, d3, d4, d5, d6, d7, d8⟩ := D2.out.c; have df0 := D2.out.fz 0; have df1 := D2.out.fz 1; have df2 := D2.out.fz 2; have df3 := D2.out.fz 3; have df4 := D2.out.fz 4; have df5 := D2.out.fz 5; have df6 := D2.out.fz 6; have df7 := D2.out.fz 7; have df8 := D2.out.fz 8; obtain ⟨z0, z1, z2, z3, z4, z5, z6, z7, z8⟩ := Z2.out.c; have zf0 := Z2.out.fz 0; have zf1 := Z2.out.fz 1; have zf2 := Z2.out.fz 2; have zf3 := Z2.out.fz 3; have zf4 := Z2.out.fz 4; have zf5 := Z2.out.fz 5; have zf6 := Z2.out.fz 6; have zf7 := Z2.out.fz 7; have zf8 := Z2.out.fz 8; have hlow := H2.out))
      refine wp_region_K (S := (fun W : World => C9 W w1.heap.size B ∧ B9 W w1.heap.size B ∧ B9 W w.heap.size noH ∧ Below w.heap.size w W)) (fun i => i == 5) (by kernel_rfl) (by exact ⟨(D2.out.keep (Below.refl _ _).drew).c, D2.out.keep (Below.refl _ _).drew, Z2.out.keep (Below.refl _ _).drew, H2.out.drew⟩) (fun hHeld => ?_)
      refine gkt 0 ?_ (h := by intro W hSw; obtain ⟨⟨y0, y1, y2, y3, y4, y5, y6, y7, y8⟩, _⟩ := hSw; go_simp; first | done | with_reducible rfl)
      refine gkp 1 ?_
      refine gkp 2 ?_
      refine gkp 3 ?_
      refine gk1 4 (fun K hK => ?_)
      go_simp
      go_at_call 22; refine (FC.out _ hHeld.2.2.2).mono ?_; rintro e w3 ⟨rfl, b3⟩; have hR : (fun W : World => C9 W w1.heap.size B ∧ B9 W w1.heap.size B ∧ B9 W w.heap.size noH ∧ Below w.heap.size w W) w3 := ⟨hHeld.1.keep b3, hHeld.2.1.keep b3, hHeld.2.2.1.keep b3, gt hHeld.2.2.2 b3⟩; clear b3
      refine hK.out _ _ hR (fun hHeld => ?_)
      clear hK K
      (try simp only [Act.put, sA, sZ, sS])
      refine gkl 5 (fun K hK => ?_)
      have D3 := hid hHeld.2.1; have Z3 := hid hHeld.2.2.1; have H3 := hid hHeld.2.2.2; clear d0 df0 d1 df1 d2 df2 d3 df3 d4 df4 d5 df5 d6 df6 d7 df7 d8 df8 z0 zf0 z1 zf1 z2 zf2 z3 zf3 z4 zf4 z5 zf5 z6 zf6 z7 zf7 z8 zf8; obtain ⟨d0, d1, d2, d3, d4, d5, d6, d7, d8⟩ := D3.out.c; have df0 := D3.out.fz 0; have df1 := D3.out.fz 1; have df2 := D3.out.fz 2; have df3 := D3.out.fz 3; have df4 := D3.out.fz 4; have df5 := D3.out.fz 5; have df6 := D3.out.fz 6; have df7 := D3.out.fz 7; have df8 := D3.out.fz 8
      go_simp
      refine hK.out _ _ ?_
      clear hK K
      (try simp only [Act.put, sA, sZ, sS])
      refine done_any (R := (fun W : World => B9 W w1.heap.size F ∧ B9 W w.heap.size noH ∧ Below w.heap.size w W)) (by kernel_rfl) ⟨D3.out.put F, B9.other9 (b := w1.heap.size) Z3.out (by have := hz1.out; omega) F, fr9 H3.out (by have := hz1.out; omega) F⟩ ?_ _
      clear d0 df0 d1 df1 d2 df2 d3 df3 d4 df4 d5 df5 d6 df6 d7 df7 d8 df8 D3 Z3 H3 hHeld hlow
      intro W4 hS4
      have D4 := hid hS4.1
      have Z4 := hid hS4.2.1
      have H4 := hid hS4.2.2
      clear hS4
      obtain ⟨d0, d1, d2, d3, d4, d5, d6, d7, d8⟩ := D4.out.c; have df0 := D4.out.fz 0; have df1 := D4.out.fz 1; have df2 := D4.out.fz 2; have df3 := D4.out.fz 3; have df4 := D4.out.fz 4; have df5 := D4.out.fz 5; have df6 := D4.out.fz 6; have df7 := D4.out.fz 7; have df8 := D4.out.fz 8
      have hlow := H4.out
      cases gd with
      | true =>
        go_wp2_with (go_at_call 23; refine (GC.out _).mono ?_; rintro e w5 ⟨rfl, b5⟩; clear d0 df0 d1 df1 d2 df2 d3 df3 d4 df4 d5 df5 d6 df6 d7 df7 d8 df8; clear hlow; have H5 := hid (gt H4.out b5); have Z5 := hid (Z4.out.keep b5); have D5 := hid (D4.out.keep b5); clear b5; obtain ⟨d0, d1, d2, d3, d4, d5, d6, d7, d8⟩ := D5.out.c; have df0 := D5.out.fz 0; have df1 := D5.out.fz 1; have df2 := D5.out.fz 2; have df3 := D5.out.fz 3; have df4 := D5.out.fz 4; have df5 := D5.out.fz 5; have df6 := D5.out.fz 6; have df7 := D5.out.fz 7; have df8 := D5.out.fz 8; obtain ⟨z0, z1, z2, z3, z4, z5, z6, z7, z8⟩ := Z5.out.c; have zf0 := Z5.out.fz 0; have zf1 := Z5.out.fz 1; have zf2 := Z5.out.fz 2; have zf3 := Z5.out.fz 3; have zf4 := Z5.out.fz 4; have zf5 := Z5.out.fz 5; have zf6 := Z5.out.fz 6; have zf7 := Z5.out.fz 7; have zf8 := Z5.out.fz 8; have hlow := H5.out)
        exact bodyPost_ret (ret_h3 rfl rfl (Z5.out.put F)) rfl ⟨by first | rfl | (rw [EP]; rfl), (show 1 ≤ 1 ∧ 1 ≤ 20 from ⟨by decide, by decide⟩), fr9 H5.out (Nat.le_refl _) F⟩
      | false =>
        go_wp2_with (go_at_call 23; refine (GC.out _).mono ?_; rintro e w5 ⟨rfl, b5⟩; clear d0 df0 d1 df1 d2 df2 d3 df3 d4 df4 d5 df5 d6 df6 d7 df7 d8 df8; clear hlow; have H5 := hid (gt H4.out b5); have Z5 := hid (Z4.out.keep b5); clear b5; obtain ⟨z0, z1, z2, z3, z4, z5, z6, z7, z8⟩ := Z5.out.c; have zf0 := Z5.out.fz 0; have zf1 := Z5.out.fz 1; have zf2 := Z5.out.fz 2; have zf3 := Z5.out.fz 3; have zf4 := Z5.out.fz 4; have zf5 := Z5.out.fz 5; have zf6 := Z5.out.fz 6; have zf7 := Z5.out.fz 7; have zf8 := Z5.out.fz 8; have hlow := H5.out)
        exact bodyPost_ret (ret_h3 rfl rfl (Z5.out.put noH)) rfl ⟨rfl, ⟨by decide, by decide⟩, fr9 H5.out (Nat.le_refl _) noH⟩
end Go.Proofs.YtpmfedimjjifaaaGreatDoor

/- How a shape that came in as an argument is read; no statement of the seat is proved here. -/
namespace Go.Proofs.YtpmfedimjjifaaaGreatDoor
open Go.ChangeShapes Go.WideShapes Go.ChangeAt Go.RowKit

set_option maxRecDepth 100000 in
theorem bounds_i64' {z : Int} (h : (Lit.int .i64 z).wf = true) : -9223372036854775808 ≤ z ∧ z ≤ 9223372036854775807 := by
  simp [Lit.wf, IntKind.min, IntKind.max, IntKind.bits, IntKind.signed] at h
  omega
def shapeOf : TypeDesc → Option (List (TypeId × Nat))
  | .struct fs => some (fs.toList.map fun f => (f.type, f.offset))
  | _ => none

set_option maxRecDepth 100000 in
theorem struct_of {P : Program} {t : TypeId} {L : List (TypeId × Nat)} (h : (P.underlying t).bind shapeOf = some L) :
    ∃ fs : Array Field, P.underlying t = some (.struct fs) ∧ ∀ (i : Nat) (ty : TypeId) (off : Nat), L[i]? = some (ty, off) → ∃ f : Field, fs[i]? = some f ∧ f.type = ty ∧ f.offset = off := by
  obtain ⟨d, hd, hs⟩ := Option.bind_eq_some_iff.1 h
  cases d with
  | struct fs =>
    refine ⟨fs, hd, fun i ty off hi => ?_⟩
    simp only [shapeOf, Option.some.injEq] at hs
    subst hs
    rw [List.getElem?_map] at hi
    obtain ⟨f, hf, he⟩ := Option.map_eq_some_iff.1 hi
    simp only [Prod.mk.injEq] at he
    exact ⟨f, by simpa using hf, he.1, he.2⟩
  | _ => simp [shapeOf] at hs

section
variable {H : Type} {enc : TypeId × Value → H} {P : Program} {w : World} {base : Nat} {spare : Nat → Bool} {held : Bool}

set_option maxRecDepth 100000 in
theorem int_at {ty : TypeId} {k : IntKind} (hu : P.underlying ty = some (.int k)) (hc : P.cellsOf ty = 1) {n off : Nat} {cs : List Value} {y : DataW H × List MemPlace}
    (h : DataW.trod enc P w base spare held n ty ((cs.drop off).take (P.cellsOf ty)) = some y) : ∃ z : Int, cs[off]? = some (.int k z) ∧ (Lit.int k z).wf = true := by
  obtain ⟨z, hz, _, hw⟩ := DataW.trod_int hu h
  refine ⟨z, ?_, hw⟩
  have h3 := congrArg (fun l : List Value => l[0]?) hz
  simp [hc] at h3
  simpa using h3

set_option maxRecDepth 100000 in
theorem field_ofW {t : TypeId} {L : List (TypeId × Nat)} (h : (P.underlying t).bind shapeOf = some L) {fuel : Nat} {cs : List Value} {x : DataW H × List MemPlace}
    (hx : DataW.trod enc P w base spare held fuel t cs = some x) : cs.length = P.cellsOf t ∧ ∀ (i : Nat) (ty : TypeId) (off : Nat), L[i]? = some (ty, off) → ∃ y n, n < fuel ∧ DataW.trod enc P w base spare held n ty ((cs.drop off).take (P.cellsOf ty)) = some y ∧ ∀ m ∈ y.1.weights P ty, m ∈ x.1.weights P t := by
  obtain ⟨fs, hu, hf⟩ := struct_of h
  obtain ⟨xs, n, hfu, rfl, hl, hxl, hi⟩ := DataW.trod_struct hu hx
  refine ⟨hl, fun i ty off hL => ?_⟩
  obtain ⟨f, h1, rfl, rfl⟩ := hf i ty off hL
  have h2 := hi i f h1
  have hlt : i < xs.length := by
    rw [hxl]; exact (Array.getElem?_eq_some_iff.1 h1).1
  refine ⟨xs[i], n, by omega, by rw [h2, List.getElem?_eq_getElem hlt], fun m hm => ?_⟩
  simp only [DataW.weights, hu]
  exact DataW.weights_mem_each (j := i) (t := f.type) (d := xs[i].1) (by rw [List.getElem?_map, Array.getElem?_toList, h1]; rfl) (by rw [List.getElem?_map, List.getElem?_eq_getElem hlt]; rfl) m hm

set_option maxRecDepth 100000 in
theorem weights_mem_all {e : TypeId} {d : DataW H} : ∀ {l : List (DataW H)}, d ∈ l → ∀ m ∈ d.weights P e, m ∈ DataW.weightsAll P e l
  | [], h, _, _ => by cases h
  | a :: r, h, m, hm => by
    simp only [DataW.weightsAll, List.mem_append]
    rcases List.mem_cons.1 h with rfl | h
    · exact Or.inl hm
    · exact Or.inr (weights_mem_all h m hm)

set_option maxRecDepth 100000 in
theorem at_off {ty : TypeId} (hc : P.cellsOf ty = 1) {cs : List Value} {off : Nat} {v : Value} (h : (cs.drop off).take (P.cellsOf ty) = [v]) : cs[off]? = some v := by
  have h3 := congrArg (fun l : List Value => l[0]?) h
  rw [hc] at h3
  simpa using h3
end

set_option maxRecDepth 100000 in
theorem point_shape : (Tryz.prog.underlying 25).bind shapeOf = some [(3, 0), (3, 1)] := by kernel_rfl
set_option maxRecDepth 100000 in
theorem sh_shape : (Tryz.prog.underlying 39).bind shapeOf = some [(3, 0), (36, 1), (37, 2)] := by kernel_rfl
set_option maxRecDepth 100000 in
theorem co3 : Tryz.prog.cellsOf 3 = 1 := by kernel_rfl
set_option maxRecDepth 100000 in
theorem co22 : Tryz.prog.cellsOf 36 = 1 := by kernel_rfl
set_option maxRecDepth 100000 in
theorem co23 : Tryz.prog.cellsOf 37 = 1 := by kernel_rfl
set_option maxRecDepth 100000 in
theorem co41 : Tryz.prog.cellsOf 25 = 2 := by kernel_rfl
set_option maxRecDepth 100000 in
theorem co25 : Tryz.prog.cellsOf 39 = 3 := by kernel_rfl
set_option maxRecDepth 100000 in
theorem by41 : Tryz.prog.bytesOf 25 = 16 := by kernel_rfl
set_option maxRecDepth 100000 in
theorem by25 : Tryz.prog.bytesOf 39 = 56 := by kernel_rfl

section
variable {H : Type} {enc : TypeId × Value → H} {w : World} {base : Nat} {held : Bool}

set_option maxRecDepth 100000 in
theorem one_pt {n : Nat} {cs : List Value} {y : DataW H × List MemPlace} (h : DataW.trod enc Tryz.prog w base (fun _ => true) held n 25 cs = some y) :
    ∃ a : Int × Int, cs[0]? = some (.int .i64 a.1) ∧ cs[1]? = some (.int .i64 a.2) := by
  obtain ⟨_, hx⟩ := field_ofW point_shape h
  obtain ⟨y0, n0, _, h0, _⟩ := hx 0 3 0 rfl
  obtain ⟨y1, n1, _, h1, _⟩ := hx 1 3 1 rfl
  obtain ⟨k, hk, _⟩ := int_at Tryz.underlying3 co3 h0
  obtain ⟨c, hc, _⟩ := int_at Tryz.underlying3 co3 h1
  exact ⟨(k, c), hk, hc⟩
set_option maxRecDepth 100000 in
theorem pts_open {n : Nat} {cs : List Value} {y : DataW H × List MemPlace} (h : DataW.trod enc Tryz.prog w base (fun _ => true) held n 36 cs = some y) (hw : ∀ m ∈ y.1.weights Tryz.prog 36, m ≤ reachBytes) :
    ∃ xo xn xc l, cs = [.slice xo xn xc] ∧ l.length = xn ∧ xn ≤ xc ∧ xn * 16 ≤ 140737488355328 ∧ (xo = none → xn = 0 ∧ xc = 0) ∧ XR (fun b => b < w.heap.size) w xo l := by
  rcases DataW.trod_slice Tryz.underlying36 h with ⟨rfl, _⟩ | ⟨a, len, cap, elems, rest, n', _, rfl, rfl, _, hl, hm, hlen, hel, _, _⟩
  · exact ⟨none, 0, 0, [], rfl, rfl, by omega, by omega, fun _ => ⟨rfl, rfl⟩, .inl rfl⟩
  · rw [co41] at hel
    have hb : len * 16 ≤ 140737488355328 := by
      have := hw ((elems.length + rest.length) * 16) (by simp [DataW.weights, Tryz.underlying36, by41])
      have h2 : reachBytes < 2 ^ 47 := reachBytes_lt
      omega
    have each : ∀ i, i < len → ∃ cs y, w.cells? base (a.add (i * 2)) 2 = some cs ∧ DataW.trod enc Tryz.prog w base (fun _ => true) held n' 25 cs = some y := by
      intro i hi
      have h1 := hel i hi
      rw [List.getElem?_eq_getElem (by omega), Option.bind_eq_some_iff] at h1
      obtain ⟨cs, hc, ht⟩ := h1
      exact ⟨cs, _, hc, ht⟩
    by_cases h0 : len = 0
    · subst h0
      exact ⟨some a, 0, cap, [], rfl, rfl, by omega, by omega, fun e => (by cases e), .inl rfl⟩
    obtain ⟨b, off, spot⟩ := a
    have hspot : spot = none := by
      obtain ⟨cs, y, hc, ht⟩ := each 0 (by omega)
      obtain ⟨t, t0, _⟩ := one_pt ht
      have h2 := (World.cells?_some hc).2.2 0 (by omega)
      rw [t0] at h2
      have := World.cell?_spot h2
      simpa [Addr.add] using this
    subst hspot
    have each2 : ∀ i, ∃ t : Int × Int, i < len → w.cell? ⟨b, off + i * 2, none⟩ = some (.int .i64 t.1) ∧ w.cell? ⟨b, off + i * 2 + 1, none⟩ = some (.int .i64 t.2) := by
      intro i
      by_cases hi : i < len
      · obtain ⟨cs, y, hc, ht⟩ := each i hi
        obtain ⟨t, t0, t1⟩ := one_pt ht
        have h2 := (World.cells?_some hc).2.2
        refine ⟨t, fun _ => ⟨?_, ?_⟩⟩
        · have := h2 0 (by omega); rw [t0, Addr.add_lit, Addr.add_lit] at this; simpa using this
        · have := h2 1 (by omega); rw [t1, Addr.add_lit, Addr.add_lit] at this; exact this
      · exact ⟨(0, 0), fun h => absurd h hi⟩
    obtain ⟨f, hf2⟩ := Classical.axiomOfChoice each2
    refine ⟨_, len, cap, (List.range len).map f, rfl, by simp, hl, hb, fun e => (by cases e), .inr ⟨b, off, rfl, lt_cell (hf2 0 (by omega)).1, fun i p hi => ?_⟩⟩
    have hil : i < len := by simpa using (List.getElem?_eq_some_iff.1 hi).1
    have : p = f i := by simpa [hil] using hi.symm
    rw [this]
    exact hf2 i hil
set_option maxRecDepth 100000 in
theorem In.mk' {S : Nat → Prop} {w : World} {s : Sh} (h : Here S w s) (hp : ∀ p ∈ s.ps, In S w p) : In S w s := by
  intro q hq
  rw [nodes_eq] at hq
  rcases List.mem_cons.1 hq with rfl | hq
  · exact h
  · generalize s.ps = l at hq hp
    induction l with
    | nil => rw [nodesL] at hq; cases hq
    | cons a r ih =>
      rw [nodesL, List.mem_append] at hq
      rcases hq with hq | hq
      · exact hp a (by simp) q hq
      · exact ih hq fun p h => hp p (by simp [h])

set_option maxRecDepth 100000 in
theorem open_sh : ∀ (n : Nat) (cs : List Value) (y : DataW H × List MemPlace), DataW.trod enc Tryz.prog w base (fun _ => true) held n 39 cs = some y → (∀ m ∈ y.1.weights Tryz.prog 39, m ≤ reachBytes) →
    ∃ s : Sh, cs = [.int .i64 (s).k, .slice (s).xo (s).xn (s).xc, .slice (s).po (s).pn (s).pc] ∧ In (fun b => b < w.heap.size) w s := by
  intro n
  induction n using Nat.strongRecOn with
  | _ n ih =>
    intro cs y h hw
    obtain ⟨hlen3, hx⟩ := field_ofW sh_shape h
    rw [co25] at hlen3
    obtain ⟨y0, n0, _, h0, _⟩ := hx 0 3 0 rfl
    obtain ⟨y1, n1, _, h1, w1⟩ := hx 1 36 1 rfl
    obtain ⟨y2, n2, l2, h2, w2⟩ := hx 2 37 2 rfl
    obtain ⟨k, hk, kw⟩ := int_at Tryz.underlying3 co3 h0
    obtain ⟨xo, xn, xc, l, hxs, xl, xm, xb, x0, xr⟩ := pts_open h1 (fun m hm => hw m (w1 m hm))
    have hc1 := at_off co22 hxs
    have kb := bounds_i64' kw
    have parts : ∃ po pn pc ps, cs[2]? = some (.slice po pn pc) ∧ ps.length = pn ∧ pn ≤ pc ∧ pn * 56 ≤ 140737488355328 ∧ (po = none → pn = 0 ∧ pc = 0) ∧ PR (fun b => b < w.heap.size) w po ps ∧ ∀ p ∈ ps, In (fun b => b < w.heap.size) w p := by
      rcases DataW.trod_slice Tryz.underlying37 h2 with ⟨e, _⟩ | ⟨a, len, cap, elems, rest, n', hn', e, hy, _, hl, hm, hlen, hel, _, _⟩
      · exact ⟨none, 0, 0, [], at_off co23 e, rfl, by omega, by omega, fun _ => ⟨rfl, rfl⟩, .inl rfl, fun p hp => by cases hp⟩
      · have hc2 := at_off co23 e
        rw [co25] at hel
        have hb : len * 56 ≤ 140737488355328 := by
          have := hw ((elems.length + rest.length) * 56) (w2 _ (by rw [hy]; simp [DataW.weights, Tryz.underlying37, by25]))
          have h2 : reachBytes < 2 ^ 47 := reachBytes_lt
          omega
        have hww : ∀ z ∈ elems, ∀ m ∈ z.1.weights Tryz.prog 39, m ≤ reachBytes := fun z hz m hm => hw m (w2 m (by
          rw [hy]
          simp only [DataW.weights, Tryz.underlying37, List.mem_cons, List.mem_append]
          exact Or.inr (Or.inl (weights_mem_all (List.mem_map.2 ⟨z, hz, rfl⟩) m hm))))
        have each : ∀ i, i < len → ∃ cs z, w.cells? base (a.add (i * 3)) 3 = some cs ∧ DataW.trod enc Tryz.prog w base (fun _ => true) held n' 39 cs = some z ∧ z ∈ elems := by
          intro i hi
          have h1 := hel i hi
          rw [List.getElem?_eq_getElem (by omega), Option.bind_eq_some_iff] at h1
          obtain ⟨cs, hc, ht⟩ := h1
          exact ⟨cs, _, hc, ht, List.getElem_mem _⟩
        by_cases h0 : len = 0
        · subst h0
          exact ⟨some a, 0, cap, [], hc2, rfl, by omega, by omega, fun e => (by cases e), .inl rfl, fun p hp => by cases hp⟩
        obtain ⟨b, off, spot⟩ := a
        have hspot : spot = none := by
          obtain ⟨cs, z, hc, ht, hz⟩ := each 0 (by omega)
          obtain ⟨t, rfl, _⟩ := ih n' (by omega) cs z ht (hww z hz)
          have h2 := (World.cells?_some hc).2.2 0 (by omega)
          have := World.cell?_spot (v := .int .i64 t.k) (by simpa using h2)
          simpa [Addr.add] using this
        subst hspot
        have each2 : ∀ i, ∃ t : Sh, i < len → At3 w b (off + i * 3) t ∧ In (fun b => b < w.heap.size) w t := by
          intro i
          by_cases hi : i < len
          · obtain ⟨cs, z, hc, ht, hz⟩ := each i hi
            obtain ⟨t, rfl, ti⟩ := ih n' (by omega) cs z ht (hww z hz)
            have h2 := (World.cells?_some hc).2.2
            refine ⟨t, fun _ => ⟨⟨?_, ?_, ?_⟩, ti⟩⟩
            · have := h2 0 (by omega); rw [Addr.add_lit, Addr.add_lit] at this; simpa using this
            · have := h2 1 (by omega); rw [Addr.add_lit, Addr.add_lit] at this; exact this
            · have := h2 2 (by omega); rw [Addr.add_lit, Addr.add_lit] at this; exact this
          · exact ⟨default, fun h => absurd h hi⟩
        obtain ⟨f, hf2⟩ := Classical.axiomOfChoice each2
        refine ⟨_, len, cap, (List.range len).map f, hc2, by simp, hl, hb, fun e => (by cases e), .inr ⟨b, off, rfl, lt_cell (hf2 0 (by omega)).1.1, fun i p hi => ?_⟩, fun p hp => ?_⟩
        · have hil : i < len := by simpa using (List.getElem?_eq_some_iff.1 hi).1
          have : p = f i := by simpa [hil] using hi.symm
          rw [this]
          exact (hf2 i hil).1
        · obtain ⟨i, hi, rfl⟩ := List.mem_map.1 hp
          exact (hf2 i (by simpa using hi)).2
    obtain ⟨po, pn, pc, ps, hc2, pl, pm, pb, p0, pr, pin⟩ := parts
    refine ⟨.mk k xo xn xc l po pn pc ps, ?_, In.mk' { kI := kb, xl := xl, xm := xm, xb := xb, x0 := x0, xr := xr, pl := pl, pm := pm, pb := pb, p0 := p0, pr := pr } pin⟩
    obtain ⟨c0, c1, c2, rfl⟩ : ∃ a b c, cs = [a, b, c] := by
      match cs, hlen3 with
      | [a, b, c], _ => exact ⟨a, b, c, rfl⟩
    have a0 : c0 = _ := Option.some.inj hk
    have a1 : c1 = _ := Option.some.inj hc1
    have a2 : c2 = _ := Option.some.inj hc2
    rw [a0, a1, a2]
    rfl

set_option maxRecDepth 100000 in
theorem open_shape {r : Reach} {b0 : Nat} {v : Value} {d : DataW H} {p : List MemPlace} (hv : Value.okWide Tryz.prog w r b0 39 v) (h : DataW.Trod enc Tryz.prog w base (fun _ => true) held 39 v d p) (hw : ∀ m ∈ d.weights Tryz.prog 39, m ≤ reachBytes) :
    ∃ s : Sh, v = .agg #[.int .i64 (s).k, .slice (s).xo (s).xn (s).xc, .slice (s).po (s).pn (s).pc] ∧ In (fun b => b < w.heap.size) w s := by
  obtain ⟨fs, hu, _⟩ := struct_of sh_shape
  simp only [Value.okWide, hu] at hv
  obtain ⟨cs', rfl, _⟩ := hv
  obtain ⟨cs, rfl⟩ : ∃ cs : List Value, cs' = cs.toArray := ⟨cs'.toList, by simp⟩
  obtain ⟨fuel, hf⟩ := h
  have hf' : DataW.trod enc Tryz.prog w base (fun _ => true) held fuel 39 cs = some (d, p) := by simpa [Value.cells] using hf
  obtain ⟨s, rfl, hs⟩ := open_sh fuel cs _ hf' hw
  exact ⟨s, rfl, hs⟩
set_option maxRecDepth 100000 in
theorem open_point {r : Reach} {b0 : Nat} {v : Value} {d : DataW H} {p : List MemPlace} (hv : Value.okWide Tryz.prog w r b0 25 v) (h : DataW.Trod enc Tryz.prog w base (fun _ => true) held 25 v d p) :
    ∃ a b : Int, v = .agg #[.int .i64 a, .int .i64 b] := by
  obtain ⟨fs, hu, _⟩ := struct_of point_shape
  simp only [Value.okWide, hu] at hv
  obtain ⟨cs', rfl, _⟩ := hv
  obtain ⟨cs, rfl⟩ : ∃ cs : List Value, cs' = cs.toArray := ⟨cs'.toList, by simp⟩
  obtain ⟨fuel, hf⟩ := h
  have hf' : DataW.trod enc Tryz.prog w base (fun _ => true) held fuel 25 cs = some (d, p) := by simpa [Value.cells] using hf
  obtain ⟨hl, _⟩ := field_ofW point_shape hf'
  rw [co41] at hl
  obtain ⟨⟨a, b⟩, h0, h1⟩ := one_pt hf'
  match cs, hl with
  | [c0, c1], _ =>
    simp at h0 h1
    exact ⟨a, b, by rw [h0, h1]⟩
end
end Go.Proofs.YtpmfedimjjifaaaGreatDoor
