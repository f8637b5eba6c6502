/- All points of a shape as the document has them, and how much room their row has; no statement of the seat is proved here. -/
import Derived.Test.YtcneadohpbeahaaDoorAr
namespace Go.Proofs.YtcneadohpbeahaaDoor
open Go.RowKit Go.Maps

theorem own_cap {w : World} {base cap : Nat} {e : TypeId} {size : Nat} {ao : Option Addr} {n : Nat} {xs : List Value} (h : w.ownsRow base e size (.slice ao n cap) n xs) : n ≤ cap := by
  rcases h.2 with ⟨h1, h2⟩ | ⟨g, cap', cur, h1, _, _, h2, _⟩
  · omega
  · simp at h1; omega
set_option maxRecDepth 100000 in
set_option maxHeartbeats 8000000 in
theorem refAll2_call : ∀ (N : Nat) (s : Sh), s.nodes.length ≤ N → (ptsOf s).length ≤ 4000 → ∀ (w : World), In (fun b => b < w.heap.size) w s →
    Calls Tryd.prog 27 #[.agg #[.int .i64 (s).k, .slice (s).xo (s).xn (s).xc, .slice (s).po (s).pn (s).pc]] w fun e w' => (∃ ao c, e = .returned (.slice ao (ptsOf s).length c) ∧ (ao = none → (ptsOf s).length = 0 ∧ c = 0) ∧ XR (fun b => w.heap.size ≤ b ∧ b < w'.heap.size) w' ao (ptsOf s) ∧ (ptsOf s).length ≤ c) ∧ Below w.heap.size w w' := by
  intro N
  induction N with
  | zero => intro s h; rw [nodes_eq] at h; simp at h
  | succ N ih =>
    intro s hs h4 w hI
    have IH := hid ih
    have HS := hid hs
    have HI := hid hI
    have H4 := hid h4
    have B1 := hid (Bx.new w s)
    have b0 : Hid (Below w.heap.size w (w.alloc (.cells #[.int .i64 (s).k, .slice (s).xo (s).xn (s).xc, .slice (s).po (s).pn (s).pc] 25))) := hid (ext1 _)
    obtain ⟨x0, x1, x2⟩ := B1.out.cells
    have hxn := hI.here.lenI
    have HX4 := hid (show s.xn ≤ 4000 by have := preP_le s 0; have h2 := hI.here.xl; unfold preP at this; rw [List.take_zero, List.flatMap_nil, List.append_nil] at this; omega)
    have OW := hid (World.ownsRow_lit (base := w.heap.size + 1) (size := 2) (e := 41) (w.alloc (.cells #[.int .i64 (s).k, .slice (s).xo (s).xn (s).xc, .slice (s).po (s).pn (s).pc] 25)) #[] 0 (by simp) (by unfold maxLen; omega) rfl)
    rw [World.size_alloc] at OW
    have XH := hid (hI.here.xr.of (w' := (w.alloc (.cells #[.int .i64 (s).k, .slice (s).xo (s).xn (s).xc, .slice (s).po (s).pn (s).pc] 25)).alloc (.cells #[] 41)) (T := fun b => b < w.heap.size) fun b hb => ⟨(below2 (w := w)).block b hb, hb⟩)
    clear ih hs hI h4
    go_enter Tryd.func27, Tryd.ntmps27
    go_wp2_with ((with_reducible refine here_op 9 ?_); refine append_pts rfl (.tmp 6) (.tmp 8) rfl (w.heap.size + 1) _ 0 [] rfl OW.out (fun b => b < w.heap.size) s.xo s.xn s.xc s.xy rfl XH.out HI.out.here.xl HI.out.here.x0 (by have := HX4.out; omega) (by simp only [World.size_alloc]; omega) ?_; intro v1 w1 ho1 hb1 _; have O1 := hid ho1; have K1 : Hid (Below (w.heap.size + 1) (w.alloc (.cells #[.int .i64 (s).k, .slice (s).xo (s).xn (s).xc, .slice (s).po (s).pn (s).pc] 25)) w1) := hid ((Below.mono (ext1 (w := w.alloc (.cells #[.int .i64 (s).k, .slice (s).xo (s).xn (s).xc, .slice (s).po (s).pn (s).pc] 25)) (.cells #[] 41)) (by simp only [World.size_alloc]; omega)).trans hb1); clear ho1 hb1; have D1 := hid (show Bx w1 w.heap.size s from (K1.out.block w.heap.size (by omega)).trans B1.out); obtain ⟨y0, y1, y2⟩ := D1.out.cells)
    go_loopw [3, 13] (RaI s w) (fun _ c _ => s.pn - (intOf c).toNat)
    case atStart =>
      refine ⟨0, by omega, rfl, hid ?_, K1⟩
      have h := O1.out
      rw [List.nil_append, Nat.zero_add] at h
      unfold preP
      rw [List.take_zero, List.flatMap_nil, List.append_nil, HI.out.here.xl]
      exact h
    case round =>
      clear x0 x1 x2 y0 y1 y2 D1 K1 O1 OW XH
      obtain ⟨i, hi, rfl, hO, hb⟩ := hrel
      obtain ⟨va, vc, rfl⟩ := row_form hO.out
      have B2 := hid (show Bx wr w.heap.size s from (hb.out.block _ (by omega)).trans B1.out)
      obtain ⟨y0, y1, y2⟩ := B2.out.cells
      have hwr := hb.out.size
      rw [World.size_alloc] at hwr
      by_cases hik : i < s.pn
      · obtain ⟨p, hp⟩ : ∃ p, s.ps[i]? = some p := ⟨_, List.getElem?_eq_getElem (by rw [HI.out.here.pl]; exact hik)⟩
        obtain ⟨b, off, hpo, hbl, hat⟩ := HI.out.here.pr.resolve_left (by intro e; rw [e] at hp; simp at hp)
        obtain ⟨z0, z1, z2⟩ := (hat i p hp).of (w' := wr) ((hb.out.block b (by omega)).trans (b0.out.block b hbl))
        rw [hpo] at *
        have PS := hid (preP_snoc hp)
        have PP := hid (ptsOf_part hp)
        have hpm := List.mem_of_getElem? hp
        have BW : Below w.heap.size w wr := b0.out.trans (hb.out.mono (by omega))
        have CC := hid (IH.out p (by have := nodes_lt hpm; have := HS.out; omega) (by have := PP.out; have := H4.out; omega) (wr.alloc (.cells #[.int .i64 (p).k, .slice (p).xo (p).xn (p).xc, .slice (p).po (p).pn (p).pc] 25)) ((HI.out.part hpm).grow (gt BW (ext1 _))))
        have BP0 := hid (Bx.new wr p)
        obtain ⟨q0, q1, q2⟩ := BP0.out.cells
        have y0' := keep_old (ext1 (.cells #[.int .i64 (p).k, .slice (p).xo (p).xn (p).xc, .slice (p).po (p).pn (p).pc] 25)) y0; have y1' := keep_old (ext1 (.cells #[.int .i64 (p).k, .slice (p).xo (p).xn (p).xc, .slice (p).po (p).pn (p).pc] 25)) y1; have y2' := keep_old (ext1 (.cells #[.int .i64 (p).k, .slice (p).xo (p).xn (p).xc, .slice (p).po (p).pn (p).pc] 25)) y2
        have H44 := hid (show (preP s i).length + (ptsOf p).length ≤ 4000 by have := PP.out; have := H4.out; omega)
        clear hat hpo hp hpm BW
        generalize hl1 : (preP s i).length = n1 at *
        generalize hl2 : (ptsOf p).length = n2 at *
        have L1 := hid hl1; have L2 := hid hl2
        clear hl1 hl2
        go_wp2_with (first
          | (go_at_call 27; refine CC.out.mono ?_; rintro e w2 ⟨⟨ao, c, rfl, h0, hx, _⟩, hb2⟩; have H2 := hid hb2; have X2 := hid hx; have Z2 := hid h0; clear hb2 hx h0; have O2 := hid (own_below (own_below hO.out (ext1 (.cells #[.int .i64 (p).k, .slice (p).xo (p).xn (p).xc, .slice (p).po (p).pn (p).pc] 25))) H2.out); have hz2 := H2.out.size; simp only [World.size_alloc] at hz2)
          | ((with_reducible refine here_op 20 ?_); refine append_pts rfl (.tmp 17) (.tmp 19) rfl (w.heap.size + 1) _ n1 _ rfl O2.out _ ao n2 c (ptsOf p) rfl X2.out L2.out Z2.out (by have := H44.out; omega) (by omega) ?_; intro v3 w3 ho3 hb3 _; have O3 := hid ho3; have K3 := hid hb3; clear ho3 hb3))
        go_roundw
        case measure => simp [intOf]; omega
        case rel =>
          refine ⟨i + 1, by omega, by go_num, hid ?_, hid ?_⟩
          · rw [PS.out, List.length_append, L1.out, L2.out]; exact O3.out
          · exact ((hb.out.trans ((ext1 _).mono (by omega))).trans (H2.out.mono (by simp only [World.size_alloc]; omega))).trans K3.out
      · obtain rfl : i = s.pn := by omega
        have e : preP s s.pn = ptsOf s := by rw [← HI.out.here.pl]; exact preP_all s
        have E := hid e
        clear e
        go_wp2
        go_ret
        have O9 := hO.out
        rw [E.out] at O9 ⊢
        replace hO := hid O9
        exact ⟨⟨va, vc, rfl, own_none hO.out, (xr_own hO.out rfl).of fun b hb => ⟨rfl, by omega, hb.2⟩, own_cap hO.out⟩, b0.out.trans (hb.out.mono (by omega))⟩
end Go.Proofs.YtcneadohpbeahaaDoor
