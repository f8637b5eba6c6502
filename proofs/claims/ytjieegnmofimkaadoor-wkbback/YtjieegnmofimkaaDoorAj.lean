/- Check, Empty, and the document's example; no statement of the seat is proved here. -/
import Derived.Test.YtjieegnmofimkaaDoorAi
namespace Go.Proofs.YtjieegnmofimkaaDoor
open Go.RowKit Go.Maps

/-- What Check answers. -/
def checkV (D P X : Nat) (k : Int) (g p : Bool) : Int := if 16 < D then 10 else if 1000 < P ∨ 4000 < X then 12 else if k = 0 ∨ g = false then 9 else if p = false then 11 else 0
def checkN (s : Sh) : Int := checkV (depthN (s.flat 1)) (partsN (s.flat 1)) (ptsN (s.flat 1)) s.k (allB goodB (s.flat 1)) (allB (fun q => placedB q.xy) (s.flat 1))
theorem In.grow {w W : World} {s : Sh} (h : In (fun b => b < w.heap.size) w s) (hb : Below w.heap.size w W) : In (fun b => b < W.heap.size) W s := h.of fun b hb' => ⟨hb.block b hb', Nat.lt_of_lt_of_le hb' hb.size⟩
theorem ptsN_le (l : List (Nat × Sh)) : ptsN l ≤ 4001 := by unfold ptsN; omega
theorem partsN_le (l : List (Nat × Sh)) : partsN l ≤ 1001 := by unfold partsN; omega

set_option maxRecDepth 100000 in
set_option maxHeartbeats 4000000 in
theorem check_call (s : Sh) (w : World) (hT : Tab w) (h : In (fun b => b < w.heap.size) w s) : Calls Tryd.prog 23 #[.agg #[.int .i64 (s).k, .slice (s).xo (s).xn (s).xc, .slice (s).po (s).pn (s).pc]] w fun e w' => e = .returned (.int .i64 (checkN s)) ∧ Below w.heap.size w w' := by
  have B1 := hid (Bx.new w s)
  obtain ⟨x0, x1, x2⟩ := B1.out.cells
  have b0 : Hid (Below w.heap.size w (w.alloc (.cells #[.int .i64 (s).k, .slice (s).xo (s).xn (s).xc, .slice (s).po (s).pn (s).pc] 25))) := hid (ext1 _)
  have C14 := hid (fun W (hb : Below w.heap.size w W) => depth_call s W (h.grow hb))
  have C12 := hid (fun W (hb : Below w.heap.size w W) => parts_call s W (h.grow hb))
  have C10 := hid (fun W (hb : Below w.heap.size w W) => points_call s W (h.grow hb))
  have C34 := hid (fun W (hb : Below w.heap.size w W) => every_34 s W (hT.keep hb) (h.grow hb))
  have C35 := hid (fun W (hb : Below w.heap.size w W) => every_35 s W (hT.keep hb) (h.grow hb))
  have l1 := partsN_le (s.flat 1)
  have l2 := ptsN_le (s.flat 1)
  have HC := hid (show checkN s = checkV (depthN (s.flat 1)) (partsN (s.flat 1)) (ptsN (s.flat 1)) s.k (allB goodB (s.flat 1)) (allB (fun q => placedB q.xy) (s.flat 1)) from rfl)
  clear h hT
  generalize checkN s = R at *
  generalize depthN (s.flat 1) = D at *
  generalize partsN (s.flat 1) = P at *
  generalize ptsN (s.flat 1) = X at *
  generalize allB goodB (s.flat 1) = g at *
  generalize allB (fun q => placedB q.xy) (s.flat 1) = p at *
  by_cases h1 : 16 < D
  · have h1' : (16 : Int) < (D : Int) := by omega
    rw [HC.out, show checkV D P X s.k g p = 10 by unfold checkV; rw [if_pos h1]]
    clear HC
    go_enter Tryd.func23, Tryd.ntmps23
    go_wp2_with (first
        | (go_at_call 38; refine (C14.out _ b0.out).mono ?_; rintro e w1 ⟨rfl, hb1⟩; have H1 := hid hb1; clear hb1; have D1 := hid (B1.out.keep H1.out); obtain ⟨y10, y11, y12⟩ := D1.out.cells; have K1 := hid (gt b0.out H1.out)))
    go_ret
    exact ⟨rfl, K1.out⟩
  · by_cases h2 : 1000 < P
    · have h1' : (D : Int) ≤ 16 := by omega
      have h2' : (1000 : Int) < (P : Int) := by omega
      rw [HC.out, show checkV D P X s.k g p = 12 by unfold checkV; rw [if_neg h1, if_pos (.inl h2)]]
      clear HC
      go_enter Tryd.func23, Tryd.ntmps23
      go_wp2_with (first
          | (go_at_call 38; refine (C14.out _ b0.out).mono ?_; rintro e w1 ⟨rfl, hb1⟩; have H1 := hid hb1; clear hb1; have D1 := hid (B1.out.keep H1.out); obtain ⟨y10, y11, y12⟩ := D1.out.cells; have K1 := hid (gt b0.out H1.out))
          | (go_at_call 39; refine (C12.out _ K1.out).mono ?_; rintro e w2 ⟨rfl, hb2⟩; have H2 := hid hb2; clear hb2; have D2 := hid (D1.out.keep H2.out); obtain ⟨y20, y21, y22⟩ := D2.out.cells; have K2 := hid (gt K1.out H2.out)))
      go_ret
      exact ⟨rfl, K2.out⟩
    · by_cases h3 : 4000 < X
      · have h1' : (D : Int) ≤ 16 := by omega
        have h2' : (P : Int) ≤ 1000 := by omega
        have h3' : (4000 : Int) < (X : Int) := by omega
        rw [HC.out, show checkV D P X s.k g p = 12 by unfold checkV; rw [if_neg h1, if_pos (.inr h3)]]
        clear HC
        go_enter Tryd.func23, Tryd.ntmps23
        go_wp2_with (first
            | (go_at_call 38; refine (C14.out _ b0.out).mono ?_; rintro e w1 ⟨rfl, hb1⟩; have H1 := hid hb1; clear hb1; have D1 := hid (B1.out.keep H1.out); obtain ⟨y10, y11, y12⟩ := D1.out.cells; have K1 := hid (gt b0.out H1.out))
            | (go_at_call 39; refine (C12.out _ K1.out).mono ?_; rintro e w2 ⟨rfl, hb2⟩; have H2 := hid hb2; clear hb2; have D2 := hid (D1.out.keep H2.out); obtain ⟨y20, y21, y22⟩ := D2.out.cells; have K2 := hid (gt K1.out H2.out))
            | (go_at_call 40; refine (C10.out _ K2.out).mono ?_; rintro e w3 ⟨rfl, hb3⟩; have H3 := hid hb3; clear hb3; have D3 := hid (D2.out.keep H3.out); obtain ⟨y30, y31, y32⟩ := D3.out.cells; have K3 := hid (gt K2.out H3.out)))
        go_ret
        exact ⟨rfl, K3.out⟩
      · have n3 : ¬ (1000 < P ∨ 4000 < X) := by omega
        by_cases h4 : s.k = 0
        · have h1' : (D : Int) ≤ 16 := by omega
          have h2' : (P : Int) ≤ 1000 := by omega
          have h3' : (X : Int) ≤ 4000 := by omega
          rw [HC.out, show checkV D P X s.k g p = 9 by unfold checkV; rw [if_neg h1, if_neg n3, if_pos (.inl h4)]]
          clear HC
          have n4 : (s.k == 0) = true := by simp [h4]
          clear h4
          go_enter Tryd.func23, Tryd.ntmps23
          go_wp2_with (first
              | (go_at_call 38; refine (C14.out _ b0.out).mono ?_; rintro e w1 ⟨rfl, hb1⟩; have H1 := hid hb1; clear hb1; have D1 := hid (B1.out.keep H1.out); obtain ⟨y10, y11, y12⟩ := D1.out.cells; have K1 := hid (gt b0.out H1.out))
              | (go_at_call 39; refine (C12.out _ K1.out).mono ?_; rintro e w2 ⟨rfl, hb2⟩; have H2 := hid hb2; clear hb2; have D2 := hid (D1.out.keep H2.out); obtain ⟨y20, y21, y22⟩ := D2.out.cells; have K2 := hid (gt K1.out H2.out))
              | (go_at_call 40; refine (C10.out _ K2.out).mono ?_; rintro e w3 ⟨rfl, hb3⟩; have H3 := hid hb3; clear hb3; have D3 := hid (D2.out.keep H3.out); obtain ⟨y30, y31, y32⟩ := D3.out.cells; have K3 := hid (gt K2.out H3.out)))
          go_ret
          exact ⟨rfl, K3.out⟩
        · have n4 : (s.k == 0) = false := by simp [h4]
          cases g with
          | false =>
            have h1' : (D : Int) ≤ 16 := by omega
            have h2' : (P : Int) ≤ 1000 := by omega
            have h3' : (X : Int) ≤ 4000 := by omega
            have t4 := hid trivial
            rw [HC.out, show checkV D P X s.k false p = 9 by unfold checkV; rw [if_neg h1, if_neg n3, if_pos (.inr rfl)]]
            clear HC
            go_enter Tryd.func23, Tryd.ntmps23
            go_wp2_with (first
                | (go_at_call 38; refine (C14.out _ b0.out).mono ?_; rintro e w1 ⟨rfl, hb1⟩; have H1 := hid hb1; clear hb1; have D1 := hid (B1.out.keep H1.out); obtain ⟨y10, y11, y12⟩ := D1.out.cells; have K1 := hid (gt b0.out H1.out))
                | (go_at_call 39; refine (C12.out _ K1.out).mono ?_; rintro e w2 ⟨rfl, hb2⟩; have H2 := hid hb2; clear hb2; have D2 := hid (D1.out.keep H2.out); obtain ⟨y20, y21, y22⟩ := D2.out.cells; have K2 := hid (gt K1.out H2.out))
                | (go_at_call 40; refine (C10.out _ K2.out).mono ?_; rintro e w3 ⟨rfl, hb3⟩; have H3 := hid hb3; clear hb3; have D3 := hid (D2.out.keep H3.out); obtain ⟨y30, y31, y32⟩ := D3.out.cells; have K3 := hid (gt K2.out H3.out))
                | (clear t4; go_at_call 41; refine (C34.out _ K3.out).mono ?_; rintro e w4 ⟨rfl, hb4⟩; have H4 := hid hb4; clear hb4; have D4 := hid (D3.out.keep H4.out); obtain ⟨y40, y41, y42⟩ := D4.out.cells; have K4 := hid (gt K3.out H4.out)))
            go_ret
            exact ⟨rfl, K4.out⟩
          | true =>
            cases p with
            | false =>
              have h1' : (D : Int) ≤ 16 := by omega
              have h2' : (P : Int) ≤ 1000 := by omega
              have h3' : (X : Int) ≤ 4000 := by omega
              have t4 := hid trivial
              rw [HC.out, show checkV D P X s.k true false = 11 by unfold checkV; rw [if_neg h1, if_neg n3, if_neg (by simp [h4]), if_pos rfl]]
              clear HC
              go_enter Tryd.func23, Tryd.ntmps23
              go_wp2_with (first
                  | (go_at_call 38; refine (C14.out _ b0.out).mono ?_; rintro e w1 ⟨rfl, hb1⟩; have H1 := hid hb1; clear hb1; have D1 := hid (B1.out.keep H1.out); obtain ⟨y10, y11, y12⟩ := D1.out.cells; have K1 := hid (gt b0.out H1.out))
                  | (go_at_call 39; refine (C12.out _ K1.out).mono ?_; rintro e w2 ⟨rfl, hb2⟩; have H2 := hid hb2; clear hb2; have D2 := hid (D1.out.keep H2.out); obtain ⟨y20, y21, y22⟩ := D2.out.cells; have K2 := hid (gt K1.out H2.out))
                  | (go_at_call 40; refine (C10.out _ K2.out).mono ?_; rintro e w3 ⟨rfl, hb3⟩; have H3 := hid hb3; clear hb3; have D3 := hid (D2.out.keep H3.out); obtain ⟨y30, y31, y32⟩ := D3.out.cells; have K3 := hid (gt K2.out H3.out))
                  | (clear t4; go_at_call 41; refine (C34.out _ K3.out).mono ?_; rintro e w4 ⟨rfl, hb4⟩; have H4 := hid hb4; clear hb4; have D4 := hid (D3.out.keep H4.out); obtain ⟨y40, y41, y42⟩ := D4.out.cells; have K4 := hid (gt K3.out H4.out))
                  | (go_at_call 41; refine (C35.out _ K4.out).mono ?_; rintro e w5 ⟨rfl, hb5⟩; have H5 := hid hb5; clear hb5; have D5 := hid (D4.out.keep H5.out); obtain ⟨y50, y51, y52⟩ := D5.out.cells; have K5 := hid (gt K4.out H5.out)))
              go_ret
              exact ⟨rfl, K5.out⟩
            | true =>
              have h1' : (D : Int) ≤ 16 := by omega
              have h2' : (P : Int) ≤ 1000 := by omega
              have h3' : (X : Int) ≤ 4000 := by omega
              have t4 := hid trivial
              rw [HC.out, show checkV D P X s.k true true = 0 by unfold checkV; rw [if_neg h1, if_neg n3, if_neg (by simp [h4]), if_neg (by simp)]]
              clear HC
              go_enter Tryd.func23, Tryd.ntmps23
              go_wp2_with (first
                  | (go_at_call 38; refine (C14.out _ b0.out).mono ?_; rintro e w1 ⟨rfl, hb1⟩; have H1 := hid hb1; clear hb1; have D1 := hid (B1.out.keep H1.out); obtain ⟨y10, y11, y12⟩ := D1.out.cells; have K1 := hid (gt b0.out H1.out))
                  | (go_at_call 39; refine (C12.out _ K1.out).mono ?_; rintro e w2 ⟨rfl, hb2⟩; have H2 := hid hb2; clear hb2; have D2 := hid (D1.out.keep H2.out); obtain ⟨y20, y21, y22⟩ := D2.out.cells; have K2 := hid (gt K1.out H2.out))
                  | (go_at_call 40; refine (C10.out _ K2.out).mono ?_; rintro e w3 ⟨rfl, hb3⟩; have H3 := hid hb3; clear hb3; have D3 := hid (D2.out.keep H3.out); obtain ⟨y30, y31, y32⟩ := D3.out.cells; have K3 := hid (gt K2.out H3.out))
                  | (clear t4; go_at_call 41; refine (C34.out _ K3.out).mono ?_; rintro e w4 ⟨rfl, hb4⟩; have H4 := hid hb4; clear hb4; have D4 := hid (D3.out.keep H4.out); obtain ⟨y40, y41, y42⟩ := D4.out.cells; have K4 := hid (gt K3.out H4.out))
                  | (go_at_call 41; refine (C35.out _ K4.out).mono ?_; rintro e w5 ⟨rfl, hb5⟩; have H5 := hid hb5; clear hb5; have D5 := hid (D4.out.keep H5.out); obtain ⟨y50, y51, y52⟩ := D5.out.cells; have K5 := hid (gt K4.out H5.out)))
              go_ret
              exact ⟨rfl, K5.out⟩

end Go.Proofs.YtjieegnmofimkaaDoor
