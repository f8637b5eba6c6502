/- The law BoxOf: the walk; no statement of the seat is proved here. -/
import Derived.Test.YtjlahomjhadnkaaFb
import Derived.Test.YtjlahomjhadnkaaCg
namespace Go.Proofs.Ytjlahomjhadnkaa
open Go.RowKit Go.Maps

/-- A shape in a block of its own, as it is read. -/
def C3 (W : World) (b : Nat) (s : Sh) : Prop := W.cell? ⟨b, 0, none⟩ = some (.int .i64 s.k) ∧ W.cell? ⟨b, 1, none⟩ = some (.slice s.xo s.xn s.xc) ∧ W.cell? ⟨b, 2, none⟩ = some (.slice s.po s.pn s.pc)
theorem C3.keep {w w' : World} {b : Nat} {s : Sh} (h : C3 w b s) (k : Below w.heap.size w w') : C3 w' b s := ⟨keep_old k h.1, keep_old k h.2.1, keep_old k h.2.2⟩
theorem C3.bx {W : World} {b : Nat} {s : Sh} (h : Bx W b s) : C3 W b s := h.cells

set_option maxRecDepth 100000 in
set_option maxHeartbeats 4000000 in
theorem of_law (s : Sh) (bo : Option Addr) (n c : Nat) (l : List Rect) (w : World) (h : In (fun b => b < w.heap.size) w s) (hr : RB (fun b => b < w.heap.size) w bo l) (hl : l.length = n) : Calls Try.prog 4 #[.agg #[.int .i64 (s).k, .slice (s).xo (s).xn (s).xc, .slice (s).po (s).pn (s).pc], .slice bo n c] w fun e w' => e = .returned (.bool true) ∧ Below w.heap.size w w' := by
  have BX := hid (Bx.new w s)
  obtain ⟨x0, x1, x2⟩ := BX.out.cells
  have CL := hid (fun W (hb : Below w.heap.size w W) => light_call s W (h.grow hb))
  have LC := hid lives_call
  cases hli : lightB s with
  | false =>
    rw [hli] at CL
    clear hli h hr hl
    go_enter Try.func4, Try.ntmps4
    go_wp2_with (first | (go_at_call 26; refine (CL.out _ (ext1 _)).mono ?_; rintro e v1 ⟨rfl, h1⟩; have K1 := hid (gt (ext1 _) h1); clear h1) | (go_at_call 25; refine (LC.out _).mono ?_; rintro e v2 ⟨rfl, h2⟩; have K2 := hid (gt K1.out h2); clear h2))
    go_ret
    exact ⟨rfl, K2.out⟩
  | true =>
    by_cases hn : 100 < n
    · rw [hli] at CL
      clear hli h hr hl
      have hn' : (100 : Int) < (n : Int) := by omega
      go_enter Try.func4, Try.ntmps4
      go_wp2_with (first | (go_at_call 26; refine (CL.out _ (ext1 _)).mono ?_; rintro e v1 ⟨rfl, h1⟩; have K1 := hid (gt (ext1 _) h1); clear h1) | (go_at_call 25; refine (LC.out _).mono ?_; rintro e v2 ⟨rfl, h2⟩; have K2 := hid (gt K1.out h2); clear h2))
      go_ret
      exact ⟨rfl, K2.out⟩
    · have la3 : ptsN (s.flat 1) ≤ 4000 ∧ partsN (s.flat 1) ≤ 1000 ∧ depthN (s.flat 1) ≤ 16 := by unfold lightB at hli; simpa using hli
      have h4 : (ptsOf s).length ≤ 4000 := pts_le h la3.2.2 la3.1
      have ePF := ptsF_of la3.2.2
      have OC := hid (fun W (hb : Below w.heap.size w W) => bof_call s W (h.grow hb) (by rw [ePF]; exact h4))
      rw [ePF] at OC
      have RC := hid (fun W (hb : Below w.heap.size w W) => rof_call s W (h.grow hb) h4)
      have hgr : ∀ W, Below w.heap.size w W → RB (fun b => b < W.heap.size) W bo l := fun W hb => hr.of fun b hbl => ⟨hb.block b hbl, Nat.lt_of_lt_of_le hbl hb.size⟩
      have AC := hid (fun W (hb : Below w.heap.size w W) => ball_call bo n c l W (hgr W hb) hl (by omega))
      have BC := hid (fun W (hb : Below w.heap.size w W) => rall_call bo n c l W (hgr W hb) hl (by omega))
      have PE := fun W => (box_eql (boxL (ptsOf s)) (boxL (ptsOf s)) W).trans (by rw [eqR_iff.2 rfl])
      have PA := fun W => (box_eql (boxB l) (boxB l) W).trans (by rw [eqR_iff.2 rfl])
      rw [hli] at CL
      have hn' : ¬ (100 : Int) < (n : Int) := by omega
      clear hli h hr hl la3 h4 ePF hgr hn
      generalize boxL (ptsOf s) = R at *
      generalize boxB l = Q at *
      go_enter Try.func4, Try.ntmps4
      go_wp2_with (go_at_call 26; refine (CL.out _ (ext1 _)).mono ?_; rintro e v1 ⟨rfl, h1⟩; have K1 := hid (gt (ext1 _) h1); have D1 := hid (BX.out.keep h1); clear h1 x0 x1 x2)
      have hlow := K1.out
      refine wp_region_K (S := (fun W : World => C3 W (w.heap.size) s ∧ Below w.heap.size w W)) (fun _ => false) (by kernel_rfl) (by exact ⟨C3.bx D1.out, (by repeat (first | with_reducible exact Below.refl _ _ | with_reducible assumption | with_reducible refine Below.drew ?_ | with_reducible refine below_drewN ?_ _ | with_reducible refine Below.alloc ?_ (by simp <;> omega) _ | with_reducible refine Below.setCell ?_ (by simp <;> omega) _))⟩) (fun hHeld => ?_)
      refine gkt 0 ?_ (h := by intro W hSw; obtain ⟨⟨y0, y1, y2⟩, _⟩ := hSw; go_simp; first | done | with_reducible rfl)
      refine gkt 2 ?_ (h := by intro W hSw; obtain ⟨⟨y0, y1, y2⟩, _⟩ := hSw; go_simp; first | done | with_reducible rfl)
      refine gk1 1 (fun K hK => ?_)
      go_simp
      go_at_call 27; refine (OC.out _ hHeld.2).mono ?_; rintro e w6 ⟨rfl, h6⟩; have hR : (fun W : World => C3 W (w.heap.size) s ∧ Below w.heap.size w W) w6 := ⟨hHeld.1.keep h6, gt hHeld.2 h6⟩; clear h6
      refine hK.out _ _ hR (fun hHeld => ?_)
      clear hK K
      (try simp only [Act.put, sA, sZ, sS])
      refine gk1 3 (fun K hK => ?_)
      go_simp
      go_at_call 28; refine (RC.out _ hHeld.2).mono ?_; rintro e w6 ⟨rfl, h6⟩; have hR : (fun W : World => C3 W (w.heap.size) s ∧ Below w.heap.size w W) w6 := ⟨hHeld.1.keep h6, gt hHeld.2 h6⟩; clear h6
      refine hK.out _ _ hR (fun hHeld => ?_)
      clear hK K
      (try simp only [Act.put, sA, sZ, sS])
      refine gkp 4 ?_ (v := .bool true) (h := by intro W hSw; go_simp; first | done | with_reducible rfl)
      refine gkp 5 ?_
      refine gkp 6 ?_
      refine gkp 8 ?_
      refine gk1 7 (fun K hK => ?_)
      go_simp
      go_at_call 29; refine (AC.out _ hHeld.2).mono ?_; rintro e w6 ⟨rfl, h6⟩; have hR : (fun W : World => C3 W (w.heap.size) s ∧ Below w.heap.size w W) w6 := ⟨hHeld.1.keep h6, gt hHeld.2 h6⟩; clear h6
      refine hK.out _ _ hR (fun hHeld => ?_)
      clear hK K
      (try simp only [Act.put, sA, sZ, sS])
      refine gk1 9 (fun K hK => ?_)
      go_simp
      go_at_call 30; refine (BC.out _ hHeld.2).mono ?_; rintro e w6 ⟨rfl, h6⟩; have hR : (fun W : World => C3 W (w.heap.size) s ∧ Below w.heap.size w W) w6 := ⟨hHeld.1.keep h6, gt hHeld.2 h6⟩; clear h6
      refine hK.out _ _ hR (fun hHeld => ?_)
      clear hK K
      (try simp only [Act.put, sA, sZ, sS])
      refine gkp 10 ?_ (v := .bool true) (h := by intro W hSw; go_simp; first | done | with_reducible rfl)
      refine gkp 11 ?_
      refine gkp 12 ?_
      refine gk1 13 (fun K hK => ?_)
      go_simp
      go_at_call 25; refine (LC.out _).mono ?_; rintro e w6 ⟨rfl, h6⟩; have hR : (fun W : World => C3 W (w.heap.size) s ∧ Below w.heap.size w W) w6 := ⟨hHeld.1.keep h6, gt hHeld.2 h6⟩; clear h6
      refine hK.out _ _ hR (fun hHeld => ?_)
      clear hK K
      (try simp only [Act.put, sA, sZ, sS])
      refine gkp 14 ?_
      refine gkp 15 ?_
      refine wpAnyK_done (by kernel_rfl) ?_ _
      have hlow := hHeld.2
      go_wp2
      go_ret
      exact ⟨rfl, (by repeat (first | with_reducible exact Below.refl _ _ | with_reducible assumption | with_reducible refine Below.drew ?_ | with_reducible refine below_drewN ?_ _ | with_reducible refine Below.alloc ?_ (by simp <;> omega) _ | with_reducible refine Below.setCell ?_ (by simp <;> omega) _))⟩
end Go.Proofs.Ytjlahomjhadnkaa
