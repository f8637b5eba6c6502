/- Check, as the document has it; no statement of the seat is proved here. -/
import Derived.Test.YtpmfedimjjifaaaGreatDoorJ09
import Derived.Test.YtpmfedimjjifaaaGreatDoorJ14
import Derived.Maps.OwnIn
namespace Go.Proofs.YtpmfedimjjifaaaGreatDoor
open Go.RowKit Go.Maps

set_option maxRecDepth 100000 in
theorem CB.new (w : World) (X : Nat) (P : Int) (D : Nat) : CB (w.alloc (.cells #[.int .i64 (X : Int), .int .i64 P, .int .i64 (D : Int)] 90)) w.heap.size (X, P, D) := heap_alloc_new w _
/-- A row of points that lies in blocks of S, and how long it is. -/
structure XRow (S : Nat → Prop) (w : World) (ao : Option Addr) (n c : Nat) (l : List (Int × Int)) : Prop where
  len : l.length = n
  no : ao = none → n = 0 ∧ c = 0
  xr : XR S w ao l
set_option maxRecDepth 100000 in
theorem XRow.of {S T : Nat → Prop} {w w' : World} {ao : Option Addr} {n c : Nat} {l : List (Int × Int)} (h : XRow S w ao n c l) (hb : ∀ b, S b → w'.heap[b]? = w.heap[b]? ∧ T b) : XRow T w' ao n c l := ⟨h.len, h.no, h.xr.of hb⟩
def RcI (l : List (Int × Int)) (n : Nat) (w2 : World) (c : Value) (W : World) : Prop := ∃ i : Nat, i ≤ n ∧ c = .int .i64 (i : Int) ∧ Hid (placedB l = placedB (l.drop i)) ∧ Hid (Below w2.heap.size w2 W)
set_option maxRecDepth 100000 in
theorem pt_cells (w : World) (a b : Int) : (w.alloc (.cells #[.int .i64 a, .int .i64 b] 25)).cell? ⟨w.heap.size, 0, none⟩ = some (.int .i64 a) ∧ (w.alloc (.cells #[.int .i64 a, .int .i64 b] 25)).cell? ⟨w.heap.size, 1, none⟩ = some (.int .i64 b) := by
  have h := heap_alloc_new w (.cells #[.int .i64 a, .int .i64 b] 25)
  unfold World.cell?
  rw [h]
  exact ⟨rfl, rfl⟩
set_option maxRecDepth 100000 in
set_option maxHeartbeats 8000000 in
theorem refCheck_call (s : Sh) (w : World) (h : In (fun b => b < w.heap.size) w s) : Calls Tryz.prog 18 #[.agg #[.int .i64 (s).k, .slice (s).xo (s).xn (s).xc, .slice (s).po (s).pn (s).pc]] w fun e w' => e = .returned (.int .i64 (checkN s)) ∧ Below w.heap.size w w' := by
  have B1 := hid (Bx.new w s)
  obtain ⟨x0, x1, x2⟩ := B1.out.cells
  have b0 : Hid (Below w.heap.size w (w.alloc (.cells #[.int .i64 (s).k, .slice (s).xo (s).xn (s).xc, .slice (s).po (s).pn (s).pc] 39))) := hid (ext1 _)
  have C36 := hid (of_call s (w.alloc (.cells #[.int .i64 (s).k, .slice (s).xo (s).xn (s).xc, .slice (s).po (s).pn (s).pc] 39)) (h.grow (ext1 _)))
  have C37 := hid (fun W (hb : Below w.heap.size w W) => right_call _ s (Nat.le_refl _) W (h.grow hb))
  have C27 := hid (fun (h4 : (ptsOf s).length ≤ 4000) W (hb : Below w.heap.size w W) => refAll_call _ s (Nat.le_refl _) h4 W (h.grow hb))
  have P4 := hid (fun h1 h2 => pts_le h (s := s) h1 h2)
  have HC := hid (check_eq s)
  clear h
  generalize checkN s = R at *
  generalize depthN (s.flat 1) = D at *
  generalize partsN (s.flat 1) = P at *
  generalize ptsN (s.flat 1) = X at *
  generalize rightB s = g at *
  generalize ptsOf s = L at *
  by_cases h1 : 16 < D
  · rw [HC.out, if_pos h1]
    clear HC
    have h1' : (16 : Int) < (D : Int) := by omega
    go_enter Tryz.func18, Tryz.ntmps18
    go_wp2_with (first
        | (go_at_call 42; refine C36.out.mono ?_; rintro e w1 ⟨rfl, hb1⟩; have H1 := hid hb1; clear hb1; have E1 := hid (CB.new w1 X (P : Int) D); obtain ⟨g0, g1, g2⟩ := E1.out.cells; have D1 := hid ((B1.out.keep H1.out).keep (ext1 (.cells #[.int .i64 (X : Int), .int .i64 (P : Int), .int .i64 (D : Int)] 90))); obtain ⟨y0, y1, y2⟩ := D1.out.cells; have K1 := hid (gt (gt b0.out H1.out) (ext1 (.cells #[.int .i64 (X : Int), .int .i64 (P : Int), .int .i64 (D : Int)] 90)))))
    go_ret
    exact ⟨rfl, K1.out⟩
  · by_cases h2 : 4000 < X
    · rw [HC.out, if_neg h1, if_pos (.inl h2)]
      clear HC
      have h1' : (D : Int) ≤ 16 := by omega
      have h2' : (4000 : Int) < (X : Int) := by omega
      go_enter Tryz.func18, Tryz.ntmps18
      go_wp2_with (first
          | (go_at_call 42; refine C36.out.mono ?_; rintro e w1 ⟨rfl, hb1⟩; have H1 := hid hb1; clear hb1; have E1 := hid (CB.new w1 X (P : Int) D); obtain ⟨g0, g1, g2⟩ := E1.out.cells; have D1 := hid ((B1.out.keep H1.out).keep (ext1 (.cells #[.int .i64 (X : Int), .int .i64 (P : Int), .int .i64 (D : Int)] 90))); obtain ⟨y0, y1, y2⟩ := D1.out.cells; have K1 := hid (gt (gt b0.out H1.out) (ext1 (.cells #[.int .i64 (X : Int), .int .i64 (P : Int), .int .i64 (D : Int)] 90)))))
      go_ret
      exact ⟨rfl, K1.out⟩
    · by_cases h3 : 1000 < P
      · rw [HC.out, if_neg h1, if_pos (.inr h3)]
        clear HC
        have h1' : (D : Int) ≤ 16 := by omega
        have h2' : (X : Int) ≤ 4000 := by omega
        have h3' : (1000 : Int) < (P : Int) := by omega
        go_enter Tryz.func18, Tryz.ntmps18
        go_wp2_with (first
            | (go_at_call 42; refine C36.out.mono ?_; rintro e w1 ⟨rfl, hb1⟩; have H1 := hid hb1; clear hb1; have E1 := hid (CB.new w1 X (P : Int) D); obtain ⟨g0, g1, g2⟩ := E1.out.cells; have D1 := hid ((B1.out.keep H1.out).keep (ext1 (.cells #[.int .i64 (X : Int), .int .i64 (P : Int), .int .i64 (D : Int)] 90))); obtain ⟨y0, y1, y2⟩ := D1.out.cells; have K1 := hid (gt (gt b0.out H1.out) (ext1 (.cells #[.int .i64 (X : Int), .int .i64 (P : Int), .int .i64 (D : Int)] 90)))))
        go_ret
        exact ⟨rfl, K1.out⟩
      · have n3 : ¬ (4000 < X ∨ 1000 < P) := by omega
        by_cases h4 : s.k < 1
        · rw [HC.out, if_neg h1, if_neg n3, if_pos (.inl h4)]
          clear HC
          have h1' : (D : Int) ≤ 16 := by omega
          have h2' : (X : Int) ≤ 4000 := by omega
          have h3' : (P : Int) ≤ 1000 := by omega
          go_enter Tryz.func18, Tryz.ntmps18
          go_wp2_with (first
              | (go_at_call 42; refine C36.out.mono ?_; rintro e w1 ⟨rfl, hb1⟩; have H1 := hid hb1; clear hb1; have E1 := hid (CB.new w1 X (P : Int) D); obtain ⟨g0, g1, g2⟩ := E1.out.cells; have D1 := hid ((B1.out.keep H1.out).keep (ext1 (.cells #[.int .i64 (X : Int), .int .i64 (P : Int), .int .i64 (D : Int)] 90))); obtain ⟨y0, y1, y2⟩ := D1.out.cells; have K1 := hid (gt (gt b0.out H1.out) (ext1 (.cells #[.int .i64 (X : Int), .int .i64 (P : Int), .int .i64 (D : Int)] 90)))))
          go_ret
          exact ⟨rfl, K1.out⟩
        · have h4' : 1 ≤ s.k := by omega
          cases g with
          | false =>
            rw [HC.out, if_neg h1, if_neg n3, if_pos (.inr rfl)]
            clear HC
            have h1' : (D : Int) ≤ 16 := by omega
            have h2' : (X : Int) ≤ 4000 := by omega
            have h3' : (P : Int) ≤ 1000 := by omega
            clear h4
            go_enter Tryz.func18, Tryz.ntmps18
            go_wp2_with (first
                | (go_at_call 42; refine C36.out.mono ?_; rintro e w1 ⟨rfl, hb1⟩; have H1 := hid hb1; clear hb1; have E1 := hid (CB.new w1 X (P : Int) D); obtain ⟨g0, g1, g2⟩ := E1.out.cells; have D1 := hid ((B1.out.keep H1.out).keep (ext1 (.cells #[.int .i64 (X : Int), .int .i64 (P : Int), .int .i64 (D : Int)] 90))); obtain ⟨y0, y1, y2⟩ := D1.out.cells; have K1 := hid (gt (gt b0.out H1.out) (ext1 (.cells #[.int .i64 (X : Int), .int .i64 (P : Int), .int .i64 (D : Int)] 90))))
                | (go_at_call 43; refine (C37.out _ K1.out).mono ?_; rintro e w2 ⟨rfl, hb2⟩; have H2 := hid hb2; clear hb2; have D2 := hid (D1.out.keep H2.out); obtain ⟨z0, z1, z2⟩ := D2.out.cells; have K2 := hid (gt K1.out H2.out)))
            go_ret
            exact ⟨rfl, K2.out⟩
          | true =>
            have HR := hid (show R = if placedB L = false then 11 else 0 by rw [HC.out, if_neg h1, if_neg n3, if_neg (by simp; omega)])
            clear HC
            have h1' : (D : Int) ≤ 16 := by omega
            have h2' : (X : Int) ≤ 4000 := by omega
            have h3' : (P : Int) ≤ 1000 := by omega
            clear h4
            go_enter Tryz.func18, Tryz.ntmps18
            go_wp2_with (first
                | (go_at_call 42; refine C36.out.mono ?_; rintro e w1 ⟨rfl, hb1⟩; have H1 := hid hb1; clear hb1; have E1 := hid (CB.new w1 X (P : Int) D); obtain ⟨g0, g1, g2⟩ := E1.out.cells; have D1 := hid ((B1.out.keep H1.out).keep (ext1 (.cells #[.int .i64 (X : Int), .int .i64 (P : Int), .int .i64 (D : Int)] 90))); obtain ⟨y0, y1, y2⟩ := D1.out.cells; have K1 := hid (gt (gt b0.out H1.out) (ext1 (.cells #[.int .i64 (X : Int), .int .i64 (P : Int), .int .i64 (D : Int)] 90))))
                | (go_at_call 43; refine (C37.out _ K1.out).mono ?_; rintro e w2 ⟨rfl, hb2⟩; have H2 := hid hb2; clear hb2; have D2 := hid (D1.out.keep H2.out); obtain ⟨z0, z1, z2⟩ := D2.out.cells; have K2 := hid (gt K1.out H2.out))
                | (go_at_call 44; refine (C27.out (P4.out (by omega) (by omega)) _ K2.out).mono ?_; rintro e w3 ⟨⟨ao, cc, rfl, h0, hx⟩, hb3⟩; have X3 := hid hx; have H3 := hid hb3; have Z3 := hid h0; clear hx hb3 h0; have K3 := hid (gt K2.out H3.out)))
            go_loopw [33] (RcI L L.length w3) (fun c _ => L.length - (intOf c).toNat)
            case atStart => exact ⟨0, by omega, rfl, hid rfl, hid (Below.refl _ _)⟩
            case round =>
              clear x0 x1 x2 y0 y1 y2 z0 z1 z2 g0 g1 g2
              obtain ⟨i, hi, rfl, hp, hb⟩ := hrel
              by_cases hik : i < L.length
              · obtain ⟨p, hpt⟩ : ∃ p, L[i]? = some p := ⟨_, List.getElem?_eq_getElem hik⟩
                obtain ⟨b, off, hao, hS, hat⟩ := X3.out.resolve_left (by intro e; rw [e] at hpt; simp at hpt)
                obtain ⟨c0, c1⟩ := hat i p hpt
                replace c0 := keep_cell hb.out c0 (by exact hS.2)
                replace c1 := keep_cell hb.out c1 (by exact hS.2)
                subst hao
                have HP := hid (show placedB L = placedB (p :: L.drop (i + 1)) by rw [hp.out, drop_at hpt])
                obtain ⟨q0, q1⟩ := pt_cells wr p.1 p.2
                have hI : L.length ≤ 4000 := by exact P4.out (by omega) (by omega)
                have KK := hid (gt hb.out (ext1 (.cells #[.int .i64 p.1, .int .i64 p.2] 25)))
                clear hat hpt hp
                by_cases e1 : p.1 = -9223372036854775808
                · have HF := hid (show placedB L = false by rw [HP.out]; simp [placedB, e1])
                  have n1 : (p.1 == -9223372036854775808) = true := by simp [e1]
                  clear e1
                  go_wp2
                  go_ret
                  exact ⟨by rw [HR.out, HF.out]; rfl, gt K3.out KK.out⟩
                · have n1 : (p.1 == -9223372036854775808) = false := by simp [e1]
                  clear e1
                  by_cases e2 : p.2 = -9223372036854775808
                  · have HF := hid (show placedB L = false by rw [HP.out]; simp [placedB, e2])
                    have n2 : (p.2 == -9223372036854775808) = true := by simp [e2]
                    clear e2
                    go_wp2
                    go_ret
                    exact ⟨by rw [HR.out, HF.out]; rfl, gt K3.out KK.out⟩
                  · have n2 : (p.2 == -9223372036854775808) = false := by simp [e2]
                    clear e2
                    have HF := hid (show placedB L = placedB (L.drop (i + 1)) by rw [HP.out]; simp [placedB, n1, n2])
                    go_wp2
                    go_roundw
                    case measure => simp [intOf]; omega
                    case rel => exact ⟨i + 1, by omega, by go_num, HF, KK⟩
              · obtain rfl : i = L.length := by omega
                have HF := hid (show placedB L = true by rw [hp.out, List.drop_length]; rfl)
                go_wp2
                go_ret
                exact ⟨by rw [HR.out, HF.out]; rfl, gt K3.out hb.out⟩
end Go.Proofs.YtpmfedimjjifaaaGreatDoor

/- Points of a row are told, one by one; no statement of the seat is proved here. -/
namespace Go.Proofs.YtpmfedimjjifaaaGreatDoor
namespace Bxs
open Go.RowKit Go.Maps

/-- A box of a row. -/
def Rx (w : World) (b : Nat) (ao : Option Addr) (n c : Nat) : Prop := w.heap[b]? = some (.cells #[.slice ao n c] 36)
set_option maxRecDepth 100000 in
theorem Rx.cell {w : World} {b : Nat} {ao : Option Addr} {n c : Nat} (h : Rx w b ao n c) : w.cell? ⟨b, 0, none⟩ = some (.slice ao n c) := by unfold Rx at h; simp [World.cell?, h]
set_option maxRecDepth 100000 in
theorem Rx.lt {w : World} {b : Nat} {ao : Option Addr} {n c : Nat} (h : Rx w b ao n c) : b < w.heap.size := (Array.getElem?_eq_some_iff.1 h).1
set_option maxRecDepth 100000 in
theorem Rx.keep {w w' : World} {b : Nat} {ao : Option Addr} {n c : Nat} (h : Rx w b ao n c) (hb : Below w.heap.size w w') : Rx w' b ao n c := (hb.block b h.lt).trans h
set_option maxRecDepth 100000 in
theorem Rx.fz {w : World} {b : Nat} {ao : Option Addr} {n c : Nat} (h : Rx w b ao n c) : w.frozen? ⟨b, 0, none⟩ = false := by unfold Rx at h; simp [World.frozen?, h]

set_option maxRecDepth 100000 in
set_option maxHeartbeats 1000000 in
theorem values_call (ao : Option Addr) (n c : Nat) (w : World) : Calls Tryz.prog 94 #[.slice ao n c] w fun e w' => e = .returned (.func (.func 124) #[] #[.pointer (some ⟨w.heap.size, 0, none⟩)]) ∧ w' = w.alloc (.cells #[.slice ao n c] 36) := by
  go_enter Tryz.func94, Tryz.ntmps94
  go_wp2
  go_ret
  exact ⟨rfl, rfl⟩

/-- What a round is asked, at a point that is told. -/
def YdsP (m l : Nat) (pts : List (Int × Int)) (J : Nat → (Nat → Prop) → World → Prop) (Jx : (Nat → Prop) → World → Prop) : Prop :=
  ∀ k p G W, pts[k]? = some p → J k G W → YieldAt Fence.wide m Tryz.prog l #[.agg #[.int .i64 p.1, .int .i64 p.2]] W fun e W' => Sm G W W' ∧ ((e = .returned (.bool true) ∧ J (k + 1) G W') ∨ (e = .returned (.bool false) ∧ Jx G W'))
set_option maxRecDepth 100000 in
theorem YdsP.any {m l : Nat} {pts : List (Int × Int)} {J : Nat → (Nat → Prop) → World → Prop} {Jx : (Nat → Prop) → World → Prop} (h : YdsP m l pts J Jx) (m' : Nat) : YdsP m' l pts J Jx := fun k p G W h1 h2 => yield_any rfl m' (h k p G W h1 h2)

attribute [local go_sem] Oper.semAt_some
set_option maxRecDepth 100000 in
set_option maxHeartbeats 8000000 in
theorem values_in (N : Nat) (w0 : World) (pts : List (Int × Int)) (xo : Option Addr) (n c q m l : Nat) (J : Nat → (Nat → Prop) → World → Prop) (Jx : (Nat → Prop) → World → Prop) (G : Nat → Prop) (W : World)
    (hJ : ∀ k, Cns N w0 (J k)) (hJx : Cns N w0 Jx) (hY : YdsP (m - 1) l pts J Jx) (h0 : J 0 G W) (hq : Rx W q xo n c) (hr : XR G W xo pts) (hl : pts.length = n) (hn : n ≤ 9223372036854775806) :
    CallsIn Fence.wide m Tryz.prog 124 #[.func (.yield l) #[] #[], .pointer (some ⟨q, 0, none⟩)] W fun e W' => (∃ v, e = .returned v) ∧ (J n G W' ∨ Jx G W') := by
  have HJ := hid hJ; have HJx := hid hJx; have HY := hid hY; have HL := hid hl; have HR := hid hr
  have y0 := hq.cell
  have H0 := hid h0
  have HG := hid (fun i (h : G i) => (hJ 0).gd _ _ h0 i h)
  clear hJ hJx hY hl hr h0
  refine callsIn_of_wp_marks Tryz.func124 rfl trivial ?_ rfl
  simp only [Tryz.ntmps124, List.size_toArray, List.length_cons, List.length_nil, Nat.reduceAdd, Nat.reduceSub, Array.replicate_succ, Array.replicate_zero, List.push_toArray, List.append_toArray, List.nil_append, List.cons_append]
  gi_wp2
  refine wpIn_loop_ghost (fun g a V => ∃ (i : Nat) (u4 u8 u9 u10 u11 u12 u13 u14 u15 : Value), g = n - i ∧ i ≤ n ∧ a = ⟨#[.func (.yield l) #[] #[], .pointer (some ⟨q, 0, none⟩), undef, undef, u4, .slice xo n c, .int .i64 (n : Int), .int .i64 ((i : Int)), u8, u9, u10, u11, u12, u13, u14, u15], []⟩ ∧ J i G V ∧ Sm G W V) n ⟨0, _, _, _, _, _, _, _, _, _, rfl, by omega, rfl, H0.out, Sm.refl _ _⟩ ?_
  rintro g a V ⟨i, u4, u8, u9, u10, u11, u12, u13, u14, u15, rfl, hi, rfl, hj, hs⟩
  have HS := hid hs
  have HV := hid hj
  by_cases hin : i < n
  · have hlt : (i : Int) < (n : Int) := by omega
    obtain ⟨p, hp⟩ : ∃ p, pts[i]? = some p := ⟨_, List.getElem?_eq_getElem (by rw [HL.out]; exact hin)⟩
    obtain ⟨b, off, hxo, hGb, hat⟩ := HR.out.resolve_left (by intro e; rw [e] at hp; simp at hp)
    obtain ⟨z0, z1⟩ := hat i p hp
    have hV : ∀ j, V.cell? ⟨b, j, none⟩ = W.cell? ⟨b, j, none⟩ := fun j => World.cell?_of_block (a := ⟨b, j, none⟩) (hs.same b hGb)
    rw [← hV] at z0 z1
    obtain ⟨fn, tms, asg, bdy, hy, hYR⟩ := HY.out.any (m - 1) i p G (V.alloc (.cells #[.int .i64 p.1, .int .i64 p.2] 25)) hp ((HJ.out _).mv _ _ _ _ hj (Fr.alloc _ _ _) fun j hj => .inl hj)
    have HYR := hid hYR
    have HGV := hid (fun j (h : G j) => ((HJ.out _).gd _ _ hj j h).2)
    obtain ⟨c0, c1⟩ := pt_cells V p.1 p.2
    subst hxo
    clear hat hp hj hs hV hYR y0
    gi_wp2
    refine ⟨fun h => (by cases h), HYR.out.mono ?_⟩
    have SV := hid (HS.out.trans ((Fr.alloc (fun _ => False) V (.cells #[.int .i64 p.1, .int .i64 p.2] 25)).sm fun j hj => ⟨HGV.out j hj, fun h => h⟩))
    rintro e W2 ⟨hs2, ⟨rfl, hJ2⟩ | ⟨rfl, hJx2⟩⟩
    · have S2 := hid (SV.out.trans hs2)
      have J2 := hid hJ2
      clear hs2 hJ2 hy HYR z0 z1 c0 c1
      gi_wp2
      exact ⟨n - (i + 1), by omega, i + 1, _, _, _, _, _, _, _, _, _, rfl, by omega, rfl, J2.out, S2.out⟩
    · have J2 := hid hJx2
      clear hs2 hJx2 hy HYR z0 z1 c0 c1
      gi_wp2
      exact ⟨_, results_none rfl _ _ _, ⟨_, rfl⟩, .inr J2.out⟩
  · obtain rfl : i = n := by omega
    clear y0
    gi_wp2
    exact ⟨_, results_none rfl _ _ _, ⟨_, rfl⟩, .inl HV.out⟩
end Bxs
end Go.Proofs.YtpmfedimjjifaaaGreatDoor

/- All points of a shape, as the program takes them; no statement of the seat is proved here. -/
namespace Go.Proofs.YtpmfedimjjifaaaGreatDoor
namespace Bxs
open Go.RowKit Go.Maps

section
variable {F : Fence} {nF : Nat} {ops : Array Oper} {rest : List Oper} {o : Oper} {a : Act} {w : World} {Q : Exit → Act → World → Prop}
set_option maxRecDepth 100000 in
theorem here_in (k : Nat) {op : Op} {t : TypeId} {pos : String} {after : Array Edge} {gd : Option (Nat × Bool)}
    (h : wpListIn F nF Tryz.prog ops Q (⟨some k, op, t, pos, after, gd⟩ :: rest) a w) : wpListIn F nF Tryz.prog ops Q (⟨some k, op, t, pos, after, gd⟩ :: rest) a w := h
set_option maxRecDepth 100000 in
theorem appendIn_pts (hgd : o.guard = none) (s x : Operand) (ho : o.op = .call { callee := .builtin .append, args := #[s, x], argTypes := #[36, 36] }) (B : Nat) (v : Value) (n : Nat) (xs : List (Int × Int)) (hs : a.eval s = v) (hown : w.ownsRow B 25 2 v n (pv xs))
    (S : Nat → Prop) (ao : Option Addr) (m c : Nat) (ys : List (Int × Int)) (hx : a.eval x = .slice ao m c) (hr : XR S w ao ys) (hl : ys.length = m) (h0 : ao = none → m = 0 ∧ c = 0) (hb : n + m ≤ 1000000000) (hB : B ≤ w.heap.size)
    (h : ∀ v' w', w'.ownsRow B 25 2 v' (n + m) (pv (xs ++ ys)) → w.grownBy w' v.ownBlock → (v'.ownBlock = v.ownBlock ∨ v'.ownBlock = some w.heap.size) → wpListIn F nF Tryz.prog ops Q rest (a.put o.dst v') w') : wpListIn F nF Tryz.prog ops Q (o :: rest) a w := by
  obtain ⟨i5, hi5, hz0, hz1, hz2⟩ := info_parts info41
  cases ao with
  | none =>
    obtain ⟨rfl, rfl⟩ := h0 rfl
    obtain rfl : ys = [] := List.eq_nil_of_length_eq_zero hl
    have hr := run_append_owned_none (P := Tryz.prog) w B 36 o.type 25 i5 2 Tryz.underlying36 hi5 v n (pv xs) hown
    refine wpListIn_plain hgd fun K hK => ?_
    unfold Oper.wpIn
    refine ⟨by simp [Oper.about, ho, resolve, Target.leads, Sem.run_pure], ?_⟩
    rw [Oper.semAt_plain F _ _ (by rw [ho]; intro c hc'; cases hc')]
    simp [execOp, ho, resolve, invoke, builtin, hs, hx, hr, Result.andThen]
    exact hK _ _ (h v w (by simpa using hown) ⟨rfl, rfl, rfl, Nat.le_refl _, fun _ _ _ => rfl⟩ (.inl rfl))
  | some ad =>
    refine wpListIn_append_own_at w hgd s x 36 ho B 25 i5 (.agg #[.int .i64 0, .int .i64 0]) 2 16 Tryz.underlying36 hi5 hz0 hz1 hz2 rfl (by decide) v n (pv xs) hs hown ad m c (pv ys) hx (by rw [pv_len, hl]) ?_ (pv_one ys) (by unfold maxLen; omega) (by omega) hB ?_
    · intro j u hu
      obtain ⟨i, p, hi, hj⟩ := pv_get ys j u hu
      rcases hr with rfl | ⟨b, off, e, _, hat⟩
      · simp at hi
      · simp only [Option.some.injEq] at e
        subst e
        obtain ⟨c0, c1⟩ := hat i p hi
        rw [Addr.add_lit]
        rcases hj with ⟨rfl, rfl⟩ | ⟨rfl, rfl⟩
        · exact c0
        · rw [← Nat.add_assoc]; exact c1
    · intro v' w' h1 h2 _ h5
      exact h v' w' (by rw [pv_append]; exact h1) h2 h5
end

/-- A row of points of one's own, with boxes beside it. -/
def RowF (N : Nat) (w0 : World) (bs : List (Nat × Obj)) (ao : Option Addr) (n cap : Nat) (xs : List (Int × Int)) (G : Nat → Prop) (W : World) : Prop :=
  Own N w0 bs G W ∧ W.ownsRow N 25 2 (.slice ao n cap) n (pv xs) ∧ ∀ a, ao = some a → ¬ G a.block ∧ a.block < W.heap.size
set_option maxRecDepth 100000 in
theorem row_keep {W W' : World} {N cap n : Nat} {ao : Option Addr} {xs : List Value} (h : W.ownsRow N 25 2 (.slice ao n cap) n xs) (hb : ∀ a, ao = some a → W'.heap[a.block]? = W.heap[a.block]?) : W'.ownsRow N 25 2 (.slice ao n cap) n xs := by
  refine ⟨h.1, ?_⟩
  rcases h.2 with h2 | ⟨g, cap', cur, hv, h3, h4, h5⟩
  · exact .inl h2
  · refine .inr ⟨g, cap', cur, hv, h3, ?_, h5⟩
    have e : ao = some ⟨g, 0, none⟩ := by simp at hv; exact hv.1
    exact (hb _ e).trans h4
set_option maxRecDepth 100000 in
theorem rowf_cns (N : Nat) (w0 : World) (hN : N ≤ w0.heap.size) (bs : List (Nat × Obj)) (ao : Option Addr) (n cap : Nat) (xs : List (Int × Int)) : Cns N w0 (RowF N w0 bs ao n cap xs) := by
  refine ⟨fun G W h => h.1.1, fun G W h i hi => (own_cns N w0 hN bs).gd _ _ h.1 i hi, fun G G' W W' h hf hs => ⟨(own_cns N w0 hN bs).mv _ _ _ _ h.1 hf hs, row_keep h.2.1 fun a ha => hf.blk _ (h.2.2 a ha).2 (h.2.2 a ha).1, fun a ha => ⟨fun hg => ?_, Nat.lt_of_lt_of_le (h.2.2 a ha).2 hf.size⟩⟩⟩
  rcases hs _ hg with h1 | h1
  · exact (h.2.2 a ha).1 h1
  · have := (h.2.2 a ha).2; omega
def RowO (N : Nat) (w0 : World) (bs : List (Nat × Obj)) (b : Nat) (xs : List (Int × Int)) (G : Nat → Prop) (W : World) : Prop :=
  ∃ ao n cap, xs.length = n ∧ RowF N w0 ((b, .cells #[.slice ao n cap] 36) :: bs) ao n cap xs G W
set_option maxRecDepth 100000 in
theorem rowo_cns (N : Nat) (w0 : World) (hN : N ≤ w0.heap.size) (bs : List (Nat × Obj)) (b : Nat) (xs : List (Int × Int)) : Cns N w0 (RowO N w0 bs b xs) :=
  ⟨fun _ _ ⟨ao, n, cap, _, h⟩ => (rowf_cns N w0 hN _ ao n cap xs).base _ _ h, fun _ _ ⟨ao, n, cap, _, h⟩ => (rowf_cns N w0 hN _ ao n cap xs).gd _ _ h, fun _ _ _ _ ⟨ao, n, cap, hl, h⟩ hf hs => ⟨ao, n, cap, hl, (rowf_cns N w0 hN _ ao n cap xs).mv _ _ _ _ h hf hs⟩⟩
set_option maxRecDepth 100000 in
/-- The row has grown, and its box is told. -/
theorem row_step {N : Nat} {w0 : World} {bs : List (Nat × Obj)} {b : Nat} {ao : Option Addr} {n cap : Nat} {xs ys : List (Int × Int)} {G : Nat → Prop} {V W' : World} {v' : Value} (hN : N ≤ w0.heap.size) (hb : N ≤ b) (h : RowF N w0 ((b, .cells #[.slice ao n cap] 36) :: bs) ao n cap xs G V) (hl : xs.length = n)
    (hbs : ∀ x ∈ bs, x.1 ≠ b ∧ ∃ c t, x.2 = .cells c t ∧ t ≠ 25)
    (h1 : W'.ownsRow N 25 2 v' (n + ys.length) (pv (xs ++ ys))) (h2 : V.grownBy W' (Value.slice ao n cap).ownBlock) (h5 : v'.ownBlock = (Value.slice ao n cap).ownBlock ∨ v'.ownBlock = some V.heap.size) :
    Rx W' b ao n cap ∧ ∃ ao' cap', v' = .slice ao' (n + ys.length) cap' ∧ RowO N w0 bs b (xs ++ ys) G (W'.setCell ⟨b, 0, none⟩ v') ∧ Sm G V (W'.setCell ⟨b, 0, none⟩ v') := by
  obtain ⟨hO, hR, hA⟩ := h
  have own_ne : ∀ a, ao = some a → ∀ (x : Nat) (c : Array Value) (t : TypeId), V.heap[x]? = some (.cells c t) → t ≠ 25 → x ≠ a.block := by
    intro a ha x c t hx ht e
    rcases hR.2 with ⟨h3, _⟩ | ⟨g, cap', cur, hv, _, hg, _⟩
    · rw [ha] at h3; simp at h3
    · have e2 : a = ⟨g, 0, none⟩ := by simp at hv; rw [hv.1] at ha; simpa using ha.symm
      rw [e, e2] at hx
      rw [hg] at hx
      simp at hx
      exact ht hx.2.symm
  have keep : ∀ x ∈ ((b, Obj.cells #[.slice ao n cap] 36) :: bs), W'.heap[x.1]? = some x.2 := by
    intro x hx
    have hV := hO.2.2 x hx
    have hlt : x.1 < V.heap.size := (Array.getElem?_eq_some_iff.1 hV).1
    refine (h2.block x.1 hlt ?_).trans hV
    intro e
    cases hao : ao with
    | none => rw [hao] at e; simp [Value.ownBlock] at e
    | some a =>
      rw [hao] at e
      simp only [Value.ownBlock, Option.some.injEq] at e
      rcases List.mem_cons.1 hx with rfl | hx
      · exact own_ne a hao b _ 36 hV (by decide) e
      · obtain ⟨_, c, t, he, ht⟩ := hbs x hx
        rw [he] at hV
        exact own_ne a hao x.1 c t hV ht e
  have hB := keep _ (List.mem_cons_self)
  obtain ⟨ao', cap', rfl⟩ := row_form h1
  refine ⟨hB, ao', cap', rfl, ?_, ?_⟩
  · have sF : Fr (fun i => i = b) W' (W'.setCell ⟨b, 0, none⟩ (.slice ao' (n + ys.length) cap')) := Fr.set _ _ _ _
    have blk' : ∀ a, ao' = some a → (∃ cur, W'.heap[a.block]? = some (.cells cur 25)) ∧ N ≤ a.block := by
      intro a ha
      rcases h1.2 with ⟨h3, _⟩ | ⟨g, cap2, cur, hv, hng, hg, _⟩
      · rw [ha] at h3; simp at h3
      · have e2 : a = ⟨g, 0, none⟩ := by simp at hv; rw [hv.1] at ha; simpa using ha.symm
        rw [e2]; exact ⟨⟨cur, hg⟩, hng⟩
    have neb : ∀ a, ao' = some a → a.block ≠ b := by
      intro a ha e
      obtain ⟨⟨cur, hc⟩, _⟩ := blk' a ha
      rw [e, hB] at hc
      simp at hc
    refine ⟨ao', n + ys.length, cap', by rw [List.length_append, hl], ⟨?_, ?_, ?_⟩, ?_, ?_⟩
    · refine (hO.1.trans ?_)
      refine ⟨sF.os.trans h2.os, sF.tape.trans h2.tape, sF.output.trans h2.output, Nat.le_trans h2.size sF.size, fun k hk => ?_⟩
      have hkV : k < V.heap.size := Nat.lt_of_lt_of_le hk (Nat.le_trans hN hO.1.size)
      refine (sF.blk k (Nat.lt_of_lt_of_le hkV h2.size) (by omega)).trans (h2.block k hkV fun e => ?_)
      cases hao : ao with
      | none => rw [hao] at e; simp [Value.ownBlock] at e
      | some a =>
        rw [hao] at e
        simp only [Value.ownBlock, Option.some.injEq] at e
        rcases hR.2 with ⟨h3, _⟩ | ⟨g, cap2, cur, hv, hng, hg, _⟩
        · rw [hao] at h3; simp at h3
        · have e2 : a = ⟨g, 0, none⟩ := by simp at hv; rw [hv.1] at hao; simpa using hao.symm
          rw [e2] at e
          simp only at e
          omega
    · intro i hi
      have h3 := hO.2.1 i hi
      refine ⟨⟨h3.1.1, Nat.lt_of_lt_of_le h3.1.2 (Nat.le_trans h2.size sF.size)⟩, fun x hx => ?_⟩
      rcases List.mem_cons.1 hx with rfl | hx
      · exact (h3.2 _ (List.mem_cons_self) : i ≠ b)
      · exact h3.2 x (List.mem_cons_of_mem _ hx)
    · intro x hx
      rcases List.mem_cons.1 hx with rfl | hx
      · exact heap_setCell_same _ _ 0 _ _ _ hB
      · exact (sF.blk x.1 (Array.getElem?_eq_some_iff.1 (keep x (List.mem_cons_of_mem _ hx))).1 (hbs x hx).1).trans (keep x (List.mem_cons_of_mem _ hx))
    · exact row_keep h1 fun a ha => sF.blk _ (Array.getElem?_eq_some_iff.1 (blk' a ha).1.choose_spec).1 (neb a ha)
    · intro a ha
      have hlt := (Array.getElem?_eq_some_iff.1 (blk' a ha).1.choose_spec).1
      refine ⟨fun hg => ?_, Nat.lt_of_lt_of_le hlt sF.size⟩
      rcases h5 with h5 | h5
      · cases hao : ao with
        | none => rw [ha, hao] at h5; simp [Value.ownBlock] at h5
        | some a0 =>
          rw [ha, hao] at h5
          simp only [Value.ownBlock, Option.some.injEq] at h5
          rw [h5] at hg
          exact (hA a0 hao).1 hg
      · rw [ha] at h5
        simp only [Value.ownBlock, Option.some.injEq] at h5
        have := (hO.2.1 _ hg).1.2
        omega
  · refine ⟨Nat.le_trans h2.size (by simp), fun i hi => ?_⟩
    have h3 := hO.2.1 i hi
    refine (heap_setCell_other _ _ _ _ (h3.2 _ (List.mem_cons_self))).trans (h2.block i h3.1.2 fun e => ?_)
    cases hao : ao with
    | none => rw [hao] at e; simp [Value.ownBlock] at e
    | some a =>
      rw [hao] at e
      simp only [Value.ownBlock, Option.some.injEq] at e
      rw [e] at hi
      exact (hA a hao).1 hi
end Bxs
end Go.Proofs.YtpmfedimjjifaaaGreatDoor

/- All points of a shape, as the program takes them: the walk; no statement of the seat is proved here. -/
namespace Go.Proofs.YtpmfedimjjifaaaGreatDoor
namespace Bxs
open Go.RowKit Go.Maps

/-- The points of what is told. -/
def ptsF (l : List (Nat × Sh)) : List (Int × Int) := l.flatMap fun x => x.2.xy
set_option maxRecDepth 100000 in
theorem ptsF_snoc (l : List (Nat × Sh)) (k : Nat) (x : Nat × Sh) (h : l[k]? = some x) : ptsF (l.take (k + 1)) = ptsF (l.take k) ++ x.2.xy := by
  unfold ptsF; rw [List.take_add_one, h]; simp
set_option maxRecDepth 100000 in
theorem ptsF_le (l : List (Nat × Sh)) (k : Nat) : (ptsF (l.take k)).length ≤ (ptsF l).length := by
  unfold ptsF
  conv => rhs; rw [← List.take_append_drop k l, List.flatMap_append, List.length_append]
  omega
set_option maxRecDepth 100000 in
theorem ptsF_of {s : Sh} (h : depthN (s.flat 1) ≤ 16) : ptsF (s.flat 1) = ptsOf s := by
  unfold ptsF ptsOf
  rw [← depth_nodes h, List.flatMap_map]

attribute [local go_sem] Oper.semAt_some
set_option maxRecDepth 100000 in
set_option maxHeartbeats 4000000 in
theorem all_call (s : Sh) (w : World) (h : In (fun b => b < w.heap.size) w s) (h4 : (ptsF (s.flat 1)).length ≤ 4000) : Calls Tryz.prog 58 #[.agg #[.int .i64 (s).k, .slice (s).xo (s).xn (s).xc, .slice (s).po (s).pn (s).pc]] w fun e w' => ∃ q ao n c, e = .returned (.func (.func 124) #[] #[.pointer (some ⟨q, 0, none⟩)]) ∧ w.heap.size ≤ q ∧ Rx w' q ao n c ∧ (ptsF (s.flat 1)).length = n ∧ w'.ownsRow w.heap.size 25 2 (.slice ao n c) n (pv (ptsF (s.flat 1))) ∧ Below w.heap.size w w' := by
  have H := hid h
  have H4 := hid h4
  have WC := hid (fun d W => whole_call s d W)
  clear h h4
  obtain ⟨m, -⟩ : ∃ m : Nat, m = 3 := ⟨3, rfl⟩
  refine (callsIn_wide (n := m)).1 ?_
  refine callsIn_of_wp_marks Tryz.func58 rfl trivial ?_ rfl
  simp only [Tryz.ntmps58, List.size_toArray, List.length_cons, List.length_nil, Nat.reduceAdd, Nat.reduceSub, Array.replicate_succ, Array.replicate_zero, List.push_toArray, List.append_toArray, List.nil_append, List.cons_append]
  gi_wp2_with (refine ⟨trivial, fun h => (by cases h), ?_⟩; gi_at_call 93; refine (callsIn_wide.2 (WC.out _ _)).mono ?_; rintro e W6 ⟨rfl, h6⟩; subst h6)
  have hz : ∀ n : Nat, w.heap.size ≤ w.heap.size + n := fun n => by omega
  refine range_whole (N := w.heap.size) (w0 := w) (Nat.le_refl _) s 1 (by omega) H.out (w.heap.size + 1 + 1) rfl (by repeat (first | (refine at_new ?_; first | with_reducible rfl | (simp only [World.size_alloc]; done)) | refine at_old ?_)) (show Bx _ _ _ from (by repeat (first | (refine at_new ?_; first | with_reducible rfl | (simp only [World.size_alloc]; done)) | refine at_old ?_))) rfl
    (fun k G W => RowO w.heap.size w [] (w.heap.size + 1) (ptsF ((s.flat 1).take k)) G W)
    (fun _ _ _ => False)
    (fun k => rowo_cns _ _ (Nat.le_refl _) _ _ _) (fun _ => ⟨fun _ _ h => h.elim, fun _ _ h => h.elim, fun _ _ _ _ h => h.elim⟩) ?h0 (fun x W => W.alloc (.cells #[.int .i64 (x.2).k, .slice (x.2).xo (x.2).xn (x.2).xc, .slice (x.2).po (x.2).pn (x.2).pc] 39)) (fun x W => Fr.alloc _ _ _)
    (fun x Wa => ⟨#[.agg #[.int .i64 (s).k, .slice (s).xo (s).xn (s).xc, .slice (s).po (s).pn (s).pc], .pointer (some ⟨w.heap.size, 0, none⟩), .nilFunc, .pointer (some ⟨w.heap.size + 1, 0, none⟩), undef, .pointer (some ⟨Wa.heap.size, 0, none⟩), .agg #[.int .i64 (s).k, .slice (s).xo (s).xn (s).xc, .slice (s).po (s).pn (s).pc], .func (.func 121) #[] #[.pointer (some ⟨w.heap.size + 1 + 1 + 1, 0, none⟩), .pointer (some ⟨w.heap.size + 1 + 1, 0, none⟩)], .int .i64 (x.1 : Int), .agg #[.int .i64 (x.2).k, .slice (x.2).xo (x.2).xn (x.2).xc, .slice (x.2).po (x.2).pn (x.2).pc], undef, undef, undef, undef, undef, undef], []⟩) ?hassign ?hbody ?hdone ?hstop
  case h0 =>
    refine ⟨none, 0, 0, by simp [ptsF], ⟨(by repeat (first | with_reducible exact Below.refl _ _ | with_reducible refine Below.alloc ?_ (by simp <;> omega) _)), fun i hi => ⟨⟨by omega, by simp only [World.size_alloc]; omega⟩, fun x hx => by simp at hx; subst hx; show i ≠ _; omega⟩, fun x hx => ?_⟩, ?_, fun a ha => by cases ha⟩
    · simp at hx
      subst hx
      exact (by repeat (first | (refine at_new ?_; first | with_reducible rfl | (simp only [World.size_alloc]; done)) | refine at_old ?_))
    · rw [show pv (ptsF ((s.flat 1).take 0)) = [] by simp [ptsF, pv]]
      exact World.ownsRow_nil _ _ _ _
  case hassign =>
    intro l' x W' K hK
    gi_wp2
    exact hK
  case hbody =>
    intro l' k x G Wa V hx hI hsz hnew
    obtain ⟨ao, n, cap, hl, hF⟩ := hI
    have hbx : Bx V Wa.heap.size x.2 := ((hnew _ (Nat.le_refl _)).1).trans (heap_alloc_new Wa _)
    have hin : Here (fun b => b < w.heap.size) V x.2 := (H.out.below hF.1.1).node (flat_mem _ s 1 (Nat.le_refl _) (by omega) x (List.mem_of_getElem? hx)).1
    have hr : Rx V (w.heap.size + 1) ao n cap := hF.1.2.2 _ (List.mem_cons_self)
    obtain ⟨-, t1, -⟩ := hbx.cells
    have r0 := hr.cell; have r1 := hr.fz
    have hs := ptsF_snoc _ _ _ hx
    have hle : n + x.2.xn ≤ 4000 := by
      have h1 := ptsF_le (s.flat 1) (k + 1)
      have h2 := H4.out
      rw [hs, List.length_append, hl, hin.xl] at h1
      omega
    have HF := hid hF; have HIN := hid hin; have HL := hid hl; have HS := hid hs
    have hV := hF.1.1.size
    have hn := HIN.out.xl
    clear hF hin hl hs hsz hnew hbx hx
    obtain ⟨P, hP⟩ : ∃ P, P = ptsF ((s.flat 1).take k) := ⟨_, rfl⟩
    rw [← hP] at HF HL HS
    clear hP
    gi_wp2_with ((with_reducible refine here_in 13 ?_); refine appendIn_pts rfl (.tmp 10) (.tmp 12) rfl w.heap.size (.slice ao n cap) n P rfl HF.out.2.1 (fun b => b < w.heap.size) x.2.xo x.2.xn x.2.xc x.2.xy rfl HIN.out.xr HIN.out.xl HIN.out.x0 (by omega) hV ?_; intro v1 W1 ho1 hg1 h51; obtain ⟨hrx, ao1, cap1, e1, hro, hsm⟩ := row_step (b := w.heap.size + 1) (Nat.le_refl _) (by omega) HF.out HL.out (fun y hy => by cases hy) (by rw [hn]; exact ho1) hg1 h51; subst e1; rw [hn] at hro hsm; have k0 := hrx.cell; have k1 := hrx.fz; have RO := hid hro; have SM := hid hsm; clear hro hsm ho1 hg1 h51 hrx)
    exact ⟨SM.out, by rw [HS.out]; exact RO.out⟩
  case hdone =>
    rintro W9 ⟨ao, n, cap, hl, hF⟩ hM
    rw [List.take_length] at hl hF
    have hr : Rx W9 (w.heap.size + 1) ao n cap := hF.1.2.2 _ (List.mem_cons_self)
    have r0 := hr.cell
    have HF := hid hF; have HL := hid hl; have HM := hid hM
    have VC := hid (fun W => values_call ao n cap W)
    clear hF hl hM
    gi_wp2_with (refine ⟨trivial, fun h => (by cases h), ?_⟩; gi_at_call 94; refine (callsIn_wide.2 (VC.out _)).mono ?_; rintro e W7 ⟨rfl, h7⟩; subst h7)
    have hq := hid (show w.heap.size ≤ W9.heap.size from HF.out.1.1.size)
    have J1 : RowF w.heap.size w [(W9.heap.size, .cells #[.slice ao n cap] 36)] ao n cap (ptsF (s.flat 1)) (fun i => i = w.heap.size + 1 + 1 + 1 + 1) (W9.alloc (.cells #[.slice ao n cap] 36)) := by
      have h1 := (rowf_cns w.heap.size w (Nat.le_refl _) _ ao n cap (ptsF (s.flat 1))).mv _ (fun i => i = w.heap.size + 1 + 1 + 1 + 1) _ (W9.alloc (.cells #[.slice ao n cap] 36)) HF.out (Fr.alloc _ _ _) (fun i hi => .inl (by simpa using hi))
      refine ⟨⟨h1.1.1, fun i hi => ⟨(h1.1.2.1 i hi).1, fun x hx => ?_⟩, fun x hx => ?_⟩, h1.2⟩
      · simp at hx
        subst hx
        have := (HF.out.1.2.1 i (by simpa using hi)).1.2
        show i ≠ W9.heap.size
        omega
      · simp at hx
        subst hx
        exact heap_alloc_new _ _
    have M1 : Mark (w.heap.size + 1 + 1 + 1 + 1) (W9.alloc (.cells #[.slice ao n cap] 36)) := by
      have h9 := HM.out
      simp only [World.size_alloc] at h9
      exact ((ext1 _).block _ (Array.getElem?_eq_some_iff.1 h9).1).trans h9
    refine leave1 (rowf_cns _ _ (Nat.le_refl _) _ _ _ _ _) J1 M1 (fun W' h' => ⟨_, results_tmp rfl _ _ _, W9.heap.size, ao, n, cap, rfl, hq.out, h'.1.2.2 _ (List.mem_cons_self), HL.out, h'.2.1, h'.1.1⟩)
  case hstop =>
    rintro c W9 h
    exact h.elim
end Bxs
end Go.Proofs.YtpmfedimjjifaaaGreatDoor
