/- A copy is equal, and its own: the law's walk; no statement of the seat is proved here. -/
import Derived.Test.YtcneadohpbeahaaDoorBm
import Derived.Test.YtcneadohpbeahaaDoorAt
namespace Go.Proofs.YtcneadohpbeahaaDoor
open Go.RowKit Go.Maps

theorem cp_go {s : Sh} {w w5 w6 : World} {R S : Nat → Prop} {ao : Option Addr} {pts : List (Int × Int)} (K5 : Below w.heap.size w w5) (B5 : Bx w5 w.heap.size s) (X5 : XR S w5 ao pts) (hS : ∀ b, S b → b < w5.heap.size ∧ ¬ R b) (hR : ∀ b, R b → w.heap.size < b) (hF : Fr R w5 w6) :
    Below w.heap.size w w6 ∧ Bx w6 w.heap.size s ∧ XR S w6 ao pts :=
  ⟨K5.trans (hF.below K5.size fun b hb h => by have := hR b h; omega), (hF.blk _ B5.lt fun h => by have := hR _ h; omega).trans B5, X5.of fun b hb => ⟨hF.blk b (hS b hb).1 (hS b hb).2, hb⟩⟩
theorem cp_same {w6 W : World} {S T : Nat → Prop} {ao bo : Option Addr} {pts : List (Int × Int)} {cc bc : Nat} (h4 : pts.length ≤ 4000) (h6 : XR S w6 ao pts) (hS : ∀ b, S b → b < w6.heap.size) (hW : Below w6.heap.size w6 W) (hx : XR T W bo pts) (hT : ∀ b, T b → b < W.heap.size) :
    Calls Tryd.prog 30 #[.slice bo pts.length bc, .slice ao pts.length cc] W fun e w' => e = .returned (.bool true) ∧ Below W.heap.size W w' := by
  have h := same_call T S bo ao pts.length pts.length bc cc pts pts W hx (h6.of fun b hb => ⟨hW.block b (hS b hb), hb⟩) rfl rfl (by omega) (by omega) hT (fun b hb => Nat.lt_of_lt_of_le (hS b hb) hW.size)
  rw [show (pts == pts) = true by simp] at h
  exact h
theorem len_ne {c s : Sh} (he : eqS c s = true) (h : ptsOf c ≠ []) : (((ptsOf s).length : Int) == 0) = false := by
  rw [(eqS_all _ c s (Nat.le_refl _) he).1] at h
  have h2 : (ptsOf s).length ≠ 0 := fun e => h (List.eq_nil_of_length_eq_zero e)
  simp only [beq_eq_false_iff_ne]
  omega
theorem nodes_parts {s : Sh} (h : depthN (s.flat 1) ≤ 16) (hp : partsN (s.flat 1) ≤ 1000) : s.nodes.length ≤ 65536 := by
  rw [← depth_nodes h, List.length_map]
  unfold partsN at hp
  omega
set_option maxRecDepth 100000 in
set_option maxHeartbeats 8000000 in
theorem copies_law (s : Sh) (u v : Int) (w : World) (hT : Tab w) (hS : In (fun b => b < w.heap.size) w s) : Calls Tryd.prog 6 #[.agg #[.int .i64 (s).k, .slice (s).xo (s).xn (s).xc, .slice (s).po (s).pn (s).pc], .agg #[.int .i64 u, .int .i64 v]] w fun e w' => e = .returned (.bool true) ∧ Below w.heap.size w w' := by
  have B0 := hid ((Bx.new w s).keep (ext1 (.cells #[.int .i64 u, .int .i64 v] 41)))
  have T0 := hid (Tx.new2 w (.cells #[.int .i64 (s).k, .slice (s).xo (s).xn (s).xc, .slice (s).po (s).pn (s).pc] 25) u v)
  have b0 : Hid (Below w.heap.size w ((w.alloc (.cells #[.int .i64 (s).k, .slice (s).xo (s).xn (s).xc, .slice (s).po (s).pn (s).pc] 25)).alloc (.cells #[.int .i64 u, .int .i64 v] 41))) := hid (gt (ext1 _) (ext1 _))
  obtain ⟨x0, x1, x2⟩ := B0.out.cells
  obtain ⟨t0, t1⟩ := T0.out.cells
  have CL := hid (fun W (hb : Below w.heap.size w W) => light_call s W (hS.grow hb))
  have C18 := hid (fun W (hb : Below w.heap.size w W) => lives_call W (hT.keep hb))
  cases hl : lightB s with
  | false =>
    rw [hl] at CL
    clear hT hS hl
    go_enter Tryd.func6, Tryd.ntmps6
    go_wp2_with (first
      | (go_at_call 25; refine (CL.out _ b0.out).mono ?_; rintro e w1 ⟨rfl, hb1⟩; have K1 := hid (gt b0.out hb1); clear hb1)
      | (go_at_call 18; refine (C18.out _ K1.out).mono ?_; rintro e w2 ⟨rfl, hb2⟩; have K2 := hid (gt K1.out hb2); clear hb2))
    go_ret
    exact ⟨rfl, K2.out⟩
  | true =>
    have l3 : ptsN (s.flat 1) ≤ 4000 ∧ partsN (s.flat 1) ≤ 1000 ∧ depthN (s.flat 1) ≤ 16 := by unfold lightB at hl; simpa using hl
    have h4 : (ptsOf s).length ≤ 4000 := pts_le hS l3.2.2 l3.1
    have hnl := nodes_parts l3.2.2 l3.2.1
    rw [hl] at CL
    have C31 := hid (fun W (hb : Below w.heap.size w W) => copy_call s W (hS.grow hb) hnl h4)
    have C27 := hid (fun W (hb : Below w.heap.size w W) => refAll_call _ s (Nat.le_refl _) h4 W (hS.grow hb))
    have E1 := hid (fun (c : Sh) W (he : eqS c s = true) (hb : Below w.heap.size w W) (hc : In (fun b => b < W.heap.size) W c) => (by have h := equal_call c s W (by rw [eqS_depth he]; exact l3.2.2) hc (hS.grow hb); rw [he] at h; exact h : Calls Tryd.prog 28 #[.agg #[.int .i64 (c).k, .slice (c).xo (c).xn (c).xc, .slice (c).po (c).pn (c).pc], .agg #[.int .i64 (s).k, .slice (s).xo (s).xn (s).xc, .slice (s).po (s).pn (s).pc]] W fun e w' => e = .returned (.bool true) ∧ Below W.heap.size W w'))
    have E2 := hid (fun (c : Sh) W (he : eqS c s = true) (hb : Below w.heap.size w W) (hc : In (fun b => b < W.heap.size) W c) => (by have h := equal_call s c W l3.2.2 (hS.grow hb) hc; rw [(eqS_all _ c s (Nat.le_refl _) he).2.1] at h; exact h : Calls Tryd.prog 28 #[.agg #[.int .i64 (s).k, .slice (s).xo (s).xn (s).xc, .slice (s).po (s).pn (s).pc], .agg #[.int .i64 (c).k, .slice (c).xo (c).xn (c).xc, .slice (c).po (c).pn (c).pc]] W fun e w' => e = .returned (.bool true) ∧ Below W.heap.size W w'))
    have HSS := hid hS
    have H4 := hid h4
    clear hT hS hl l3 h4 hnl
    have t9 := hid trivial
    go_enter Tryd.func6, Tryd.ntmps6
    go_wp2_with (first
      | (go_at_call 25; refine (CL.out _ b0.out).mono ?_; rintro e w1 ⟨rfl, hb1⟩; have K1 := hid (gt b0.out hb1); have B1 := hid (B0.out.keep hb1); have T1 := hid (T0.out.keep hb1); clear hb1; obtain ⟨y0, y1, y2⟩ := B1.out.cells)
      | (go_at_call 31; refine (C31.out _ K1.out).mono ?_; rintro e w2 ⟨⟨c, R, rfl, hce, hcin, hcnf, hcb⟩, hb2⟩; have H2 := hid hb2; have K2 := hid (gt K1.out hb2); have HCE := hid hce; have HCI := hid (hcin.of (w' := w2.alloc (.cells #[.int .i64 (c).k, .slice (c).xo (c).xn (c).xc, .slice (c).po (c).pn (c).pc] 25)) (T := R) fun b hb => ⟨(ext1 _).block b (hcb b hb).2, hb⟩); have HCN := hid (show NF (w2.alloc (.cells #[.int .i64 (c).k, .slice (c).xo (c).xn (c).xc, .slice (c).po (c).pn (c).pc] 25)) R from hcnf.of fun b hb => ⟨hb, (ext1 _).block b (hcb b hb).2⟩); have HCB := hid hcb; have B2 := hid ((B1.out.keep hb2).keep (ext1 (.cells #[.int .i64 (c).k, .slice (c).xo (c).xn (c).xc, .slice (c).po (c).pn (c).pc] 25))); have T2 := hid ((T1.out.keep hb2).keep (ext1 (.cells #[.int .i64 (c).k, .slice (c).xo (c).xn (c).xc, .slice (c).po (c).pn (c).pc] 25))); have D2 := hid (Bx.new w2 c); have K2' := hid (gt K2.out (ext1 (w := w2) (.cells #[.int .i64 (c).k, .slice (c).xo (c).xn (c).xc, .slice (c).po (c).pn (c).pc] 25))); clear hb2 hce hcin hcnf hcb; obtain ⟨z0, z1, z2⟩ := B2.out.cells; obtain ⟨d0, d1, d2⟩ := D2.out.cells; obtain ⟨e1, e2⟩ := T2.out.cells; have hz21 := H2.out.size)
      | (clear t9; go_at_call 28; refine (E1.out c _ HCE.out K2'.out (HCI.out.of fun b hb => ⟨rfl, Nat.lt_of_lt_of_le (HCB.out b hb).2 (by simp)⟩)).mono ?_; rintro e w3 ⟨rfl, hb3⟩; have K3 := hid (gt K2'.out hb3); have C3 := hid hb3; have B3 := hid (B2.out.keep hb3); have D3 := hid (D2.out.keep hb3); clear hb3; obtain ⟨f0, f1, f2⟩ := B3.out.cells; obtain ⟨g0, g1, g2⟩ := D3.out.cells)
      | (go_at_call 28; refine (E2.out c _ HCE.out K3.out (HCI.out.of fun b hb => ⟨C3.out.block b (Nat.lt_of_lt_of_le (HCB.out b hb).2 (by simp)), Nat.lt_of_lt_of_le (HCB.out b hb).2 (Nat.le_trans (by simp) C3.out.size)⟩)).mono ?_; rintro e w4 ⟨rfl, hb4⟩; have K4 := hid (gt K3.out hb4); have C4 := hid (gt C3.out hb4); have B4 := hid (B3.out.keep hb4); have D4 := hid (D3.out.keep hb4); have T4 := hid (T2.out.keep C4.out); clear hb4; have t8 := hid trivial; obtain ⟨h0, h1, h2⟩ := B4.out.cells; obtain ⟨i0, i1, i2⟩ := D4.out.cells)
      | (clear t8; go_at_call 27; refine (C27.out _ K4.out).mono ?_; rintro e w5 ⟨⟨ao, cc, rfl, hno, hxr⟩, hb5⟩; have K5 := hid (gt K4.out hb5); have C5 := hid (gt C4.out hb5); have XR5 := hid hxr; have B5 := hid (B4.out.keep hb5); have D5 := hid (D4.out.keep hb5); have T5 := hid (T4.out.keep hb5); clear hb5 hno hxr; obtain ⟨j0, j1, j2⟩ := B5.out.cells; obtain ⟨k0, k1, k2⟩ := D5.out.cells; obtain ⟨l0, l1⟩ := T5.out.cells)
      | (go_at_call 32; refine (turn_call R u v _ c 0 (Nat.le_refl _) (by omega) _ (HCI.out.of fun b hb => ⟨C5.out.block b (Nat.lt_of_lt_of_le (HCB.out b hb).2 (by simp)), hb⟩) (HCN.out.of fun b hb => ⟨hb, C5.out.block b (Nat.lt_of_lt_of_le (HCB.out b hb).2 (by simp))⟩) (fun b hb => Nat.lt_of_lt_of_le (HCB.out b hb).2 (Nat.le_trans (by simp) C5.out.size))).mono ?_; rintro e w6 h6; have hF : Fr R w5 w6 := h6.elim (fun h => Fr.b h.2) (fun h => h.2.2); have hw1 := K1.out.size; have hb0 := HCB.out; have h24 := C4.out.size; (simp only [World.size_alloc] at h24); obtain ⟨k6, b6, x6⟩ := cp_go K5.out B5.out XR5.out (fun b hb => ⟨hb.2, fun h => by have := (hb0 b h).2; omega⟩) (fun b hb => by have := (hb0 b hb).1; have := B1.out.lt; omega) hF; have S6 := hid (fun b (hb : w4.heap.size ≤ b ∧ b < w5.heap.size) => Nat.lt_of_lt_of_le hb.2 hF.size); have K6 := hid k6; have X6 := hid x6; obtain ⟨m0, m1, m2⟩ := b6.cells; clear hF hw1 hb0 h24 k6 b6 x6; rcases h6 with ⟨rfl, _⟩ | ⟨rfl, hnp, _⟩; rotate_left; have hl1 := len_ne HCE.out hnp; clear hnp; rotate_left)
      | (go_at_call 27; refine (C27.out _ K6.out).mono ?_; rintro e w7 ⟨⟨bo, bc, rfl, hno, hxr⟩, hb7⟩; have K7 := hid (gt K6.out hb7); have C7 := hid hb7; have XR7 := hid hxr; clear hb7 hno hxr)
      | (go_at_call 30; refine (cp_same H4.out X6.out S6.out C7.out XR7.out (fun b hb => hb.2)).mono ?_; rintro e w8 ⟨rfl, hb8⟩; have K8 := hid (gt K7.out hb8); clear hb8)
      | (go_at_call 18; refine (C18.out _ K8.out).mono ?_; rintro e w9 ⟨rfl, hb9⟩; have K9 := hid (gt K8.out hb9); clear hb9))
    · go_ret
      exact ⟨rfl, K9.out⟩
    · go_ret
      exact ⟨rfl, K9.out⟩
end Go.Proofs.YtcneadohpbeahaaDoor
