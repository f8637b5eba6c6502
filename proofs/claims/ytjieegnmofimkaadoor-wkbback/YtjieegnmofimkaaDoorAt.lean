/- Check, as the document has it; no statement of the seat is proved here. -/
import Derived.Test.YtjieegnmofimkaaDoorAs
namespace Go.Proofs.YtjieegnmofimkaaDoor
open Go.RowKit Go.Maps

theorem CB.new (w : World) (X : Nat) (P : Int) (D : Nat) : CB (w.alloc (.cells #[.int .i64 (X : Int), .int .i64 P, .int .i64 (D : Int)] 75)) w.heap.size (X, P, D) := heap_alloc_new w _
/-- A row of points that lies in blocks of S, and how long it is. -/
structure XRow (S : Nat → Prop) (w : World) (ao : Option Addr) (n c : Nat) (l : List (Int × Int)) : Prop where
  len : l.length = n
  no : ao = none → n = 0 ∧ c = 0
  xr : XR S w ao l
theorem XRow.of {S T : Nat → Prop} {w w' : World} {ao : Option Addr} {n c : Nat} {l : List (Int × Int)} (h : XRow S w ao n c l) (hb : ∀ b, S b → w'.heap[b]? = w.heap[b]? ∧ T b) : XRow T w' ao n c l := ⟨h.len, h.no, h.xr.of hb⟩
def RcI (l : List (Int × Int)) (n : Nat) (w2 : World) (c : Value) (W : World) : Prop := ∃ i : Nat, i ≤ n ∧ c = .int .i64 (i : Int) ∧ Hid (placedB l = placedB (l.drop i)) ∧ Hid (Below w2.heap.size w2 W)
theorem pt_cells (w : World) (a b : Int) : (w.alloc (.cells #[.int .i64 a, .int .i64 b] 56)).cell? ⟨w.heap.size, 0, none⟩ = some (.int .i64 a) ∧ (w.alloc (.cells #[.int .i64 a, .int .i64 b] 56)).cell? ⟨w.heap.size, 1, none⟩ = some (.int .i64 b) := by
  have h := heap_alloc_new w (.cells #[.int .i64 a, .int .i64 b] 56)
  unfold World.cell?
  rw [h]
  exact ⟨rfl, rfl⟩
set_option maxRecDepth 100000 in
set_option maxHeartbeats 8000000 in
theorem refCheck_call (s : Sh) (w : World) (h : In (fun b => b < w.heap.size) w s) : Calls Tryd.prog 19 #[.agg #[.int .i64 (s).k, .slice (s).xo (s).xn (s).xc, .slice (s).po (s).pn (s).pc]] w fun e w' => e = .returned (.int .i64 (checkN s)) ∧ Below w.heap.size w w' := by
  have B1 := hid (Bx.new w s)
  obtain ⟨x0, x1, x2⟩ := B1.out.cells
  have b0 : Hid (Below w.heap.size w (w.alloc (.cells #[.int .i64 (s).k, .slice (s).xo (s).xn (s).xc, .slice (s).po (s).pn (s).pc] 25))) := hid (ext1 _)
  have C36 := hid (of_call s (w.alloc (.cells #[.int .i64 (s).k, .slice (s).xo (s).xn (s).xc, .slice (s).po (s).pn (s).pc] 25)) (h.grow (ext1 _)))
  have C37 := hid (fun W (hb : Below w.heap.size w W) => right_call _ s (Nat.le_refl _) W (h.grow hb))
  have C27 := hid (fun (h4 : (ptsOf s).length ≤ 4000) W (hb : Below w.heap.size w W) => refAll_call _ s (Nat.le_refl _) h4 W (h.grow hb))
  have P4 := hid (fun h1 h2 => pts_le h (s := s) h1 h2)
  have HC := hid (check_eq s)
  clear h
  generalize checkN s = R at *
  generalize depthN (s.flat 1) = D at *
  generalize partsN (s.flat 1) = P at *
  generalize ptsN (s.flat 1) = X at *
  generalize rightB s = g at *
  generalize ptsOf s = L at *
  by_cases h1 : 16 < D
  · rw [HC.out, if_pos h1]
    clear HC
    have h1' : (16 : Int) < (D : Int) := by omega
    go_enter Tryd.func19, Tryd.ntmps19
    go_wp2_with (first
        | (go_at_call 35; refine C36.out.mono ?_; rintro e w1 ⟨rfl, hb1⟩; have H1 := hid hb1; clear hb1; have E1 := hid (CB.new w1 X (P : Int) D); obtain ⟨g0, g1, g2⟩ := E1.out.cells; have D1 := hid ((B1.out.keep H1.out).keep (ext1 (.cells #[.int .i64 (X : Int), .int .i64 (P : Int), .int .i64 (D : Int)] 75))); obtain ⟨y0, y1, y2⟩ := D1.out.cells; have K1 := hid (gt (gt b0.out H1.out) (ext1 (.cells #[.int .i64 (X : Int), .int .i64 (P : Int), .int .i64 (D : Int)] 75)))))
    go_ret
    exact ⟨rfl, K1.out⟩
  · by_cases h2 : 4000 < X
    · rw [HC.out, if_neg h1, if_pos (.inl h2)]
      clear HC
      have h1' : (D : Int) ≤ 16 := by omega
      have h2' : (4000 : Int) < (X : Int) := by omega
      go_enter Tryd.func19, Tryd.ntmps19
      go_wp2_with (first
          | (go_at_call 35; refine C36.out.mono ?_; rintro e w1 ⟨rfl, hb1⟩; have H1 := hid hb1; clear hb1; have E1 := hid (CB.new w1 X (P : Int) D); obtain ⟨g0, g1, g2⟩ := E1.out.cells; have D1 := hid ((B1.out.keep H1.out).keep (ext1 (.cells #[.int .i64 (X : Int), .int .i64 (P : Int), .int .i64 (D : Int)] 75))); obtain ⟨y0, y1, y2⟩ := D1.out.cells; have K1 := hid (gt (gt b0.out H1.out) (ext1 (.cells #[.int .i64 (X : Int), .int .i64 (P : Int), .int .i64 (D : Int)] 75)))))
      go_ret
      exact ⟨rfl, K1.out⟩
    · by_cases h3 : 1000 < P
      · rw [HC.out, if_neg h1, if_pos (.inr h3)]
        clear HC
        have h1' : (D : Int) ≤ 16 := by omega
        have h2' : (X : Int) ≤ 4000 := by omega
        have h3' : (1000 : Int) < (P : Int) := by omega
        go_enter Tryd.func19, Tryd.ntmps19
        go_wp2_with (first
            | (go_at_call 35; refine C36.out.mono ?_; rintro e w1 ⟨rfl, hb1⟩; have H1 := hid hb1; clear hb1; have E1 := hid (CB.new w1 X (P : Int) D); obtain ⟨g0, g1, g2⟩ := E1.out.cells; have D1 := hid ((B1.out.keep H1.out).keep (ext1 (.cells #[.int .i64 (X : Int), .int .i64 (P : Int), .int .i64 (D : Int)] 75))); obtain ⟨y0, y1, y2⟩ := D1.out.cells; have K1 := hid (gt (gt b0.out H1.out) (ext1 (.cells #[.int .i64 (X : Int), .int .i64 (P : Int), .int .i64 (D : Int)] 75)))))
        go_ret
        exact ⟨rfl, K1.out⟩
      · have n3 : ¬ (4000 < X ∨ 1000 < P) := by omega
        by_cases h4 : s.k < 1
        · rw [HC.out, if_neg h1, if_neg n3, if_pos (.inl h4)]
          clear HC
          have h1' : (D : Int) ≤ 16 := by omega
          have h2' : (X : Int) ≤ 4000 := by omega
          have h3' : (P : Int) ≤ 1000 := by omega
          go_enter Tryd.func19, Tryd.ntmps19
          go_wp2_with (first
              | (go_at_call 35; refine C36.out.mono ?_; rintro e w1 ⟨rfl, hb1⟩; have H1 := hid hb1; clear hb1; have E1 := hid (CB.new w1 X (P : Int) D); obtain ⟨g0, g1, g2⟩ := E1.out.cells; have D1 := hid ((B1.out.keep H1.out).keep (ext1 (.cells #[.int .i64 (X : Int), .int .i64 (P : Int), .int .i64 (D : Int)] 75))); obtain ⟨y0, y1, y2⟩ := D1.out.cells; have K1 := hid (gt (gt b0.out H1.out) (ext1 (.cells #[.int .i64 (X : Int), .int .i64 (P : Int), .int .i64 (D : Int)] 75)))))
          go_ret
          exact ⟨rfl, K1.out⟩
        · have h4' : 1 ≤ s.k := by omega
          cases g with
          | false =>
            rw [HC.out, if_neg h1, if_neg n3, if_pos (.inr rfl)]
            clear HC
            have h1' : (D : Int) ≤ 16 := by omega
            have h2' : (X : Int) ≤ 4000 := by omega
            have h3' : (P : Int) ≤ 1000 := by omega
            clear h4
            go_enter Tryd.func19, Tryd.ntmps19
            go_wp2_with (first
                | (go_at_call 35; refine C36.out.mono ?_; rintro e w1 ⟨rfl, hb1⟩; have H1 := hid hb1; clear hb1; have E1 := hid (CB.new w1 X (P : Int) D); obtain ⟨g0, g1, g2⟩ := E1.out.cells; have D1 := hid ((B1.out.keep H1.out).keep (ext1 (.cells #[.int .i64 (X : Int), .int .i64 (P : Int), .int .i64 (D : Int)] 75))); obtain ⟨y0, y1, y2⟩ := D1.out.cells; have K1 := hid (gt (gt b0.out H1.out) (ext1 (.cells #[.int .i64 (X : Int), .int .i64 (P : Int), .int .i64 (D : Int)] 75))))
                | (go_at_call 36; refine (C37.out _ K1.out).mono ?_; rintro e w2 ⟨rfl, hb2⟩; have H2 := hid hb2; clear hb2; have D2 := hid (D1.out.keep H2.out); obtain ⟨z0, z1, z2⟩ := D2.out.cells; have K2 := hid (gt K1.out H2.out)))
            go_ret
            exact ⟨rfl, K2.out⟩
          | true =>
            have HR := hid (show R = if placedB L = false then 11 else 0 by rw [HC.out, if_neg h1, if_neg n3, if_neg (by simp; omega)])
            clear HC
            have h1' : (D : Int) ≤ 16 := by omega
            have h2' : (X : Int) ≤ 4000 := by omega
            have h3' : (P : Int) ≤ 1000 := by omega
            clear h4
            go_enter Tryd.func19, Tryd.ntmps19
            go_wp2_with (first
                | (go_at_call 35; refine C36.out.mono ?_; rintro e w1 ⟨rfl, hb1⟩; have H1 := hid hb1; clear hb1; have E1 := hid (CB.new w1 X (P : Int) D); obtain ⟨g0, g1, g2⟩ := E1.out.cells; have D1 := hid ((B1.out.keep H1.out).keep (ext1 (.cells #[.int .i64 (X : Int), .int .i64 (P : Int), .int .i64 (D : Int)] 75))); obtain ⟨y0, y1, y2⟩ := D1.out.cells; have K1 := hid (gt (gt b0.out H1.out) (ext1 (.cells #[.int .i64 (X : Int), .int .i64 (P : Int), .int .i64 (D : Int)] 75))))
                | (go_at_call 36; refine (C37.out _ K1.out).mono ?_; rintro e w2 ⟨rfl, hb2⟩; have H2 := hid hb2; clear hb2; have D2 := hid (D1.out.keep H2.out); obtain ⟨z0, z1, z2⟩ := D2.out.cells; have K2 := hid (gt K1.out H2.out))
                | (go_at_call 37; refine (C27.out (P4.out (by omega) (by omega)) _ K2.out).mono ?_; rintro e w3 ⟨⟨ao, cc, rfl, h0, hx⟩, hb3⟩; have X3 := hid hx; have H3 := hid hb3; have Z3 := hid h0; clear hx hb3 h0; have K3 := hid (gt K2.out H3.out)))
            go_loopw [33] (RcI L L.length w3) (fun c _ => L.length - (intOf c).toNat)
            case atStart => exact ⟨0, by omega, rfl, hid rfl, hid (Below.refl _ _)⟩
            case round =>
              clear x0 x1 x2 y0 y1 y2 z0 z1 z2 g0 g1 g2
              obtain ⟨i, hi, rfl, hp, hb⟩ := hrel
              by_cases hik : i < L.length
              · obtain ⟨p, hpt⟩ : ∃ p, L[i]? = some p := ⟨_, List.getElem?_eq_getElem hik⟩
                obtain ⟨b, off, hao, hS, hat⟩ := X3.out.resolve_left (by intro e; rw [e] at hpt; simp at hpt)
                obtain ⟨c0, c1⟩ := hat i p hpt
                replace c0 := keep_cell hb.out c0 (by exact hS.2)
                replace c1 := keep_cell hb.out c1 (by exact hS.2)
                subst hao
                have HP := hid (show placedB L = placedB (p :: L.drop (i + 1)) by rw [hp.out, drop_at hpt])
                obtain ⟨q0, q1⟩ := pt_cells wr p.1 p.2
                have hI : L.length ≤ 4000 := by exact P4.out (by omega) (by omega)
                have KK := hid (gt hb.out (ext1 (.cells #[.int .i64 p.1, .int .i64 p.2] 56)))
                clear hat hpt hp
                by_cases e1 : p.1 = -9223372036854775808
                · have HF := hid (show placedB L = false by rw [HP.out]; simp [placedB, e1])
                  have n1 : (p.1 == -9223372036854775808) = true := by simp [e1]
                  clear e1
                  go_wp2
                  go_ret
                  exact ⟨by rw [HR.out, HF.out]; rfl, gt K3.out KK.out⟩
                · have n1 : (p.1 == -9223372036854775808) = false := by simp [e1]
                  clear e1
                  by_cases e2 : p.2 = -9223372036854775808
                  · have HF := hid (show placedB L = false by rw [HP.out]; simp [placedB, e2])
                    have n2 : (p.2 == -9223372036854775808) = true := by simp [e2]
                    clear e2
                    go_wp2
                    go_ret
                    exact ⟨by rw [HR.out, HF.out]; rfl, gt K3.out KK.out⟩
                  · have n2 : (p.2 == -9223372036854775808) = false := by simp [e2]
                    clear e2
                    have HF := hid (show placedB L = placedB (L.drop (i + 1)) by rw [HP.out]; simp [placedB, n1, n2])
                    go_wp2
                    go_roundw
                    case measure => simp [intOf]; omega
                    case rel => exact ⟨i + 1, by omega, by go_num, HF, KK⟩
              · obtain rfl : i = L.length := by omega
                have HF := hid (show placedB L = true by rw [hp.out, List.drop_length]; rfl)
                go_wp2
                go_ret
                exact ⟨by rw [HR.out, HF.out]; rfl, gt K3.out hb.out⟩
end Go.Proofs.YtjieegnmofimkaaDoor
