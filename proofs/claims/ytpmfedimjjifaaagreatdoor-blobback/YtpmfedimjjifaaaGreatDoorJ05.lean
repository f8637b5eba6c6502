/- Check, Empty, and the document's example; no statement of the seat is proved here. -/
import Derived.Test.YtpmfedimjjifaaaGreatDoorJ04
namespace Go.Proofs.YtpmfedimjjifaaaGreatDoor
open Go.RowKit Go.Maps

/-- What Check answers. -/
def checkV (D P X : Nat) (k : Int) (g p : Bool) : Int := if 16 < D then 10 else if 1000 < P ∨ 4000 < X then 12 else if k = 0 ∨ g = false then 9 else if p = false then 11 else 0
def checkN (s : Sh) : Int := checkV (depthN (s.flat 1)) (partsN (s.flat 1)) (ptsN (s.flat 1)) s.k (allB goodB (s.flat 1)) (allB (fun q => placedB q.xy) (s.flat 1))
set_option maxRecDepth 100000 in
theorem In.grow {w W : World} {s : Sh} (h : In (fun b => b < w.heap.size) w s) (hb : Below w.heap.size w W) : In (fun b => b < W.heap.size) W s := h.of fun b hb' => ⟨hb.block b hb', Nat.lt_of_lt_of_le hb' hb.size⟩
set_option maxRecDepth 100000 in
theorem ptsN_le (l : List (Nat × Sh)) : ptsN l ≤ 4001 := by unfold ptsN; omega
set_option maxRecDepth 100000 in
theorem partsN_le (l : List (Nat × Sh)) : partsN l ≤ 1001 := by unfold partsN; omega

set_option maxRecDepth 100000 in
set_option maxHeartbeats 4000000 in
theorem check_call (s : Sh) (w : World) (hT : Tab w) (h : In (fun b => b < w.heap.size) w s) : Calls Tryz.prog 39 #[.agg #[.int .i64 (s).k, .slice (s).xo (s).xn (s).xc, .slice (s).po (s).pn (s).pc]] w fun e w' => e = .returned (.int .i64 (checkN s)) ∧ Below w.heap.size w w' := by
  have B1 := hid (Bx.new w s)
  obtain ⟨x0, x1, x2⟩ := B1.out.cells
  have b0 : Hid (Below w.heap.size w (w.alloc (.cells #[.int .i64 (s).k, .slice (s).xo (s).xn (s).xc, .slice (s).po (s).pn (s).pc] 39))) := hid (ext1 _)
  have C14 := hid (fun W (hb : Below w.heap.size w W) => depth_call s W (h.grow hb))
  have C12 := hid (fun W (hb : Below w.heap.size w W) => parts_call s W (h.grow hb))
  have C10 := hid (fun W (hb : Below w.heap.size w W) => points_call s W (h.grow hb))
  have C34 := hid (fun W (hb : Below w.heap.size w W) => every_34 s W (hT.keep hb) (h.grow hb))
  have C35 := hid (fun W (hb : Below w.heap.size w W) => every_35 s W (hT.keep hb) (h.grow hb))
  have l1 := partsN_le (s.flat 1)
  have l2 := ptsN_le (s.flat 1)
  have HC := hid (show checkN s = checkV (depthN (s.flat 1)) (partsN (s.flat 1)) (ptsN (s.flat 1)) s.k (allB goodB (s.flat 1)) (allB (fun q => placedB q.xy) (s.flat 1)) from rfl)
  clear h hT
  generalize checkN s = R at *
  generalize depthN (s.flat 1) = D at *
  generalize partsN (s.flat 1) = P at *
  generalize ptsN (s.flat 1) = X at *
  generalize allB goodB (s.flat 1) = g at *
  generalize allB (fun q => placedB q.xy) (s.flat 1) = p at *
  by_cases h1 : 16 < D
  · have h1' : (16 : Int) < (D : Int) := by omega
    rw [HC.out, show checkV D P X s.k g p = 10 by unfold checkV; rw [if_pos h1]]
    clear HC
    go_enter Tryz.func39, Tryz.ntmps39
    go_wp2_with (first
        | (go_at_call 61; refine (C14.out _ b0.out).mono ?_; rintro e w1 ⟨rfl, hb1⟩; have H1 := hid hb1; clear hb1; have D1 := hid (B1.out.keep H1.out); obtain ⟨y10, y11, y12⟩ := D1.out.cells; have K1 := hid (gt b0.out H1.out)))
    go_ret
    exact ⟨rfl, K1.out⟩
  · by_cases h2 : 1000 < P
    · have h1' : (D : Int) ≤ 16 := by omega
      have h2' : (1000 : Int) < (P : Int) := by omega
      rw [HC.out, show checkV D P X s.k g p = 12 by unfold checkV; rw [if_neg h1, if_pos (.inl h2)]]
      clear HC
      go_enter Tryz.func39, Tryz.ntmps39
      go_wp2_with (first
          | (go_at_call 61; refine (C14.out _ b0.out).mono ?_; rintro e w1 ⟨rfl, hb1⟩; have H1 := hid hb1; clear hb1; have D1 := hid (B1.out.keep H1.out); obtain ⟨y10, y11, y12⟩ := D1.out.cells; have K1 := hid (gt b0.out H1.out))
          | (go_at_call 62; refine (C12.out _ K1.out).mono ?_; rintro e w2 ⟨rfl, hb2⟩; have H2 := hid hb2; clear hb2; have D2 := hid (D1.out.keep H2.out); obtain ⟨y20, y21, y22⟩ := D2.out.cells; have K2 := hid (gt K1.out H2.out)))
      go_ret
      exact ⟨rfl, K2.out⟩
    · by_cases h3 : 4000 < X
      · have h1' : (D : Int) ≤ 16 := by omega
        have h2' : (P : Int) ≤ 1000 := by omega
        have h3' : (4000 : Int) < (X : Int) := by omega
        rw [HC.out, show checkV D P X s.k g p = 12 by unfold checkV; rw [if_neg h1, if_pos (.inr h3)]]
        clear HC
        go_enter Tryz.func39, Tryz.ntmps39
        go_wp2_with (first
            | (go_at_call 61; refine (C14.out _ b0.out).mono ?_; rintro e w1 ⟨rfl, hb1⟩; have H1 := hid hb1; clear hb1; have D1 := hid (B1.out.keep H1.out); obtain ⟨y10, y11, y12⟩ := D1.out.cells; have K1 := hid (gt b0.out H1.out))
            | (go_at_call 62; refine (C12.out _ K1.out).mono ?_; rintro e w2 ⟨rfl, hb2⟩; have H2 := hid hb2; clear hb2; have D2 := hid (D1.out.keep H2.out); obtain ⟨y20, y21, y22⟩ := D2.out.cells; have K2 := hid (gt K1.out H2.out))
            | (go_at_call 63; refine (C10.out _ K2.out).mono ?_; rintro e w3 ⟨rfl, hb3⟩; have H3 := hid hb3; clear hb3; have D3 := hid (D2.out.keep H3.out); obtain ⟨y30, y31, y32⟩ := D3.out.cells; have K3 := hid (gt K2.out H3.out)))
        go_ret
        exact ⟨rfl, K3.out⟩
      · have n3 : ¬ (1000 < P ∨ 4000 < X) := by omega
        by_cases h4 : s.k = 0
        · have h1' : (D : Int) ≤ 16 := by omega
          have h2' : (P : Int) ≤ 1000 := by omega
          have h3' : (X : Int) ≤ 4000 := by omega
          rw [HC.out, show checkV D P X s.k g p = 9 by unfold checkV; rw [if_neg h1, if_neg n3, if_pos (.inl h4)]]
          clear HC
          have n4 : (s.k == 0) = true := by simp [h4]
          clear h4
          go_enter Tryz.func39, Tryz.ntmps39
          go_wp2_with (first
              | (go_at_call 61; refine (C14.out _ b0.out).mono ?_; rintro e w1 ⟨rfl, hb1⟩; have H1 := hid hb1; clear hb1; have D1 := hid (B1.out.keep H1.out); obtain ⟨y10, y11, y12⟩ := D1.out.cells; have K1 := hid (gt b0.out H1.out))
              | (go_at_call 62; refine (C12.out _ K1.out).mono ?_; rintro e w2 ⟨rfl, hb2⟩; have H2 := hid hb2; clear hb2; have D2 := hid (D1.out.keep H2.out); obtain ⟨y20, y21, y22⟩ := D2.out.cells; have K2 := hid (gt K1.out H2.out))
              | (go_at_call 63; refine (C10.out _ K2.out).mono ?_; rintro e w3 ⟨rfl, hb3⟩; have H3 := hid hb3; clear hb3; have D3 := hid (D2.out.keep H3.out); obtain ⟨y30, y31, y32⟩ := D3.out.cells; have K3 := hid (gt K2.out H3.out)))
          go_ret
          exact ⟨rfl, K3.out⟩
        · have n4 : (s.k == 0) = false := by simp [h4]
          cases g with
          | false =>
            have h1' : (D : Int) ≤ 16 := by omega
            have h2' : (P : Int) ≤ 1000 := by omega
            have h3' : (X : Int) ≤ 4000 := by omega
            have t4 := hid trivial
            rw [HC.out, show checkV D P X s.k false p = 9 by unfold checkV; rw [if_neg h1, if_neg n3, if_pos (.inr rfl)]]
            clear HC
            go_enter Tryz.func39, Tryz.ntmps39
            go_wp2_with (first
                | (go_at_call 61; refine (C14.out _ b0.out).mono ?_; rintro e w1 ⟨rfl, hb1⟩; have H1 := hid hb1; clear hb1; have D1 := hid (B1.out.keep H1.out); obtain ⟨y10, y11, y12⟩ := D1.out.cells; have K1 := hid (gt b0.out H1.out))
                | (go_at_call 62; refine (C12.out _ K1.out).mono ?_; rintro e w2 ⟨rfl, hb2⟩; have H2 := hid hb2; clear hb2; have D2 := hid (D1.out.keep H2.out); obtain ⟨y20, y21, y22⟩ := D2.out.cells; have K2 := hid (gt K1.out H2.out))
                | (go_at_call 63; refine (C10.out _ K2.out).mono ?_; rintro e w3 ⟨rfl, hb3⟩; have H3 := hid hb3; clear hb3; have D3 := hid (D2.out.keep H3.out); obtain ⟨y30, y31, y32⟩ := D3.out.cells; have K3 := hid (gt K2.out H3.out))
                | (clear t4; go_at_call 64; refine (C34.out _ K3.out).mono ?_; rintro e w4 ⟨rfl, hb4⟩; have H4 := hid hb4; clear hb4; have D4 := hid (D3.out.keep H4.out); obtain ⟨y40, y41, y42⟩ := D4.out.cells; have K4 := hid (gt K3.out H4.out)))
            go_ret
            exact ⟨rfl, K4.out⟩
          | true =>
            cases p with
            | false =>
              have h1' : (D : Int) ≤ 16 := by omega
              have h2' : (P : Int) ≤ 1000 := by omega
              have h3' : (X : Int) ≤ 4000 := by omega
              have t4 := hid trivial
              rw [HC.out, show checkV D P X s.k true false = 11 by unfold checkV; rw [if_neg h1, if_neg n3, if_neg (by simp [h4]), if_pos rfl]]
              clear HC
              go_enter Tryz.func39, Tryz.ntmps39
              go_wp2_with (first
                  | (go_at_call 61; refine (C14.out _ b0.out).mono ?_; rintro e w1 ⟨rfl, hb1⟩; have H1 := hid hb1; clear hb1; have D1 := hid (B1.out.keep H1.out); obtain ⟨y10, y11, y12⟩ := D1.out.cells; have K1 := hid (gt b0.out H1.out))
                  | (go_at_call 62; refine (C12.out _ K1.out).mono ?_; rintro e w2 ⟨rfl, hb2⟩; have H2 := hid hb2; clear hb2; have D2 := hid (D1.out.keep H2.out); obtain ⟨y20, y21, y22⟩ := D2.out.cells; have K2 := hid (gt K1.out H2.out))
                  | (go_at_call 63; refine (C10.out _ K2.out).mono ?_; rintro e w3 ⟨rfl, hb3⟩; have H3 := hid hb3; clear hb3; have D3 := hid (D2.out.keep H3.out); obtain ⟨y30, y31, y32⟩ := D3.out.cells; have K3 := hid (gt K2.out H3.out))
                  | (clear t4; go_at_call 64; refine (C34.out _ K3.out).mono ?_; rintro e w4 ⟨rfl, hb4⟩; have H4 := hid hb4; clear hb4; have D4 := hid (D3.out.keep H4.out); obtain ⟨y40, y41, y42⟩ := D4.out.cells; have K4 := hid (gt K3.out H4.out))
                  | (go_at_call 64; refine (C35.out _ K4.out).mono ?_; rintro e w5 ⟨rfl, hb5⟩; have H5 := hid hb5; clear hb5; have D5 := hid (D4.out.keep H5.out); obtain ⟨y50, y51, y52⟩ := D5.out.cells; have K5 := hid (gt K4.out H5.out)))
              go_ret
              exact ⟨rfl, K5.out⟩
            | true =>
              have h1' : (D : Int) ≤ 16 := by omega
              have h2' : (P : Int) ≤ 1000 := by omega
              have h3' : (X : Int) ≤ 4000 := by omega
              have t4 := hid trivial
              rw [HC.out, show checkV D P X s.k true true = 0 by unfold checkV; rw [if_neg h1, if_neg n3, if_neg (by simp [h4]), if_neg (by simp)]]
              clear HC
              go_enter Tryz.func39, Tryz.ntmps39
              go_wp2_with (first
                  | (go_at_call 61; refine (C14.out _ b0.out).mono ?_; rintro e w1 ⟨rfl, hb1⟩; have H1 := hid hb1; clear hb1; have D1 := hid (B1.out.keep H1.out); obtain ⟨y10, y11, y12⟩ := D1.out.cells; have K1 := hid (gt b0.out H1.out))
                  | (go_at_call 62; refine (C12.out _ K1.out).mono ?_; rintro e w2 ⟨rfl, hb2⟩; have H2 := hid hb2; clear hb2; have D2 := hid (D1.out.keep H2.out); obtain ⟨y20, y21, y22⟩ := D2.out.cells; have K2 := hid (gt K1.out H2.out))
                  | (go_at_call 63; refine (C10.out _ K2.out).mono ?_; rintro e w3 ⟨rfl, hb3⟩; have H3 := hid hb3; clear hb3; have D3 := hid (D2.out.keep H3.out); obtain ⟨y30, y31, y32⟩ := D3.out.cells; have K3 := hid (gt K2.out H3.out))
                  | (clear t4; go_at_call 64; refine (C34.out _ K3.out).mono ?_; rintro e w4 ⟨rfl, hb4⟩; have H4 := hid hb4; clear hb4; have D4 := hid (D3.out.keep H4.out); obtain ⟨y40, y41, y42⟩ := D4.out.cells; have K4 := hid (gt K3.out H4.out))
                  | (go_at_call 64; refine (C35.out _ K4.out).mono ?_; rintro e w5 ⟨rfl, hb5⟩; have H5 := hid hb5; clear hb5; have D5 := hid (D4.out.keep H5.out); obtain ⟨y50, y51, y52⟩ := D5.out.cells; have K5 := hid (gt K4.out H5.out)))
              go_ret
              exact ⟨rfl, K5.out⟩

end Go.Proofs.YtpmfedimjjifaaaGreatDoor

/- Names and parts of kinds, as the document has them, and Kind; no statement of the seat is proved here. -/
namespace Go.Proofs.YtpmfedimjjifaaaGreatDoor
open Go.RowKit Go.Maps

set_option maxRecDepth 100000 in
theorem le7 {k : Int} (h : 0 ≤ k) (h2 : k ≤ 7) : k = 0 ∨ k = 1 ∨ k = 2 ∨ k = 3 ∨ k = 4 ∨ k = 5 ∨ k = 6 ∨ k = 7 := by omega
set_option maxRecDepth 100000 in
set_option maxHeartbeats 2000000 in
theorem refPart_call (k : Int) (w : World) : Calls Tryz.prog 71 #[.int .i64 k] w fun e w' => e = .returned (.int .i64 (partK k)) ∧ Below w.heap.size w w' := by
  by_cases h : 0 ≤ k ∧ k ≤ 7
  · rcases le7 h.1 h.2 with rfl | rfl | rfl | rfl | rfl | rfl | rfl | rfl
    · clear h; go_enter Tryz.func71, Tryz.ntmps71; go_wp2; go_ret; exact ⟨rfl, Below.refl _ _⟩
    · clear h; go_enter Tryz.func71, Tryz.ntmps71; go_wp2; go_ret; exact ⟨rfl, Below.refl _ _⟩
    · clear h; go_enter Tryz.func71, Tryz.ntmps71; go_wp2; go_ret; exact ⟨rfl, Below.refl _ _⟩
    · clear h; go_enter Tryz.func71, Tryz.ntmps71; go_wp2; go_ret; exact ⟨rfl, Below.refl _ _⟩
    · clear h; go_enter Tryz.func71, Tryz.ntmps71; go_wp2; go_ret; exact ⟨rfl, Below.refl _ _⟩
    · clear h; go_enter Tryz.func71, Tryz.ntmps71; go_wp2; go_ret; exact ⟨rfl, Below.refl _ _⟩
    · clear h; go_enter Tryz.func71, Tryz.ntmps71; go_wp2; go_ret; exact ⟨rfl, Below.refl _ _⟩
    · clear h; go_enter Tryz.func71, Tryz.ntmps71; go_wp2; go_ret; exact ⟨rfl, Below.refl _ _⟩
  · rw [show partK k = -1 by
      have : isK k = false := by unfold isK; simp; omega
      simp [partK, this]]
    have n3 : (k == 3) = false := by simp; omega
    have n4 : (k == 4) = false := by simp; omega
    have n5 : (k == 5) = false := by simp; omega
    have n6 : (k == 6) = false := by simp; omega
    clear h
    go_enter Tryz.func71, Tryz.ntmps71
    go_wp2
    go_ret
    exact ⟨rfl, Below.refl _ _⟩

set_option maxRecDepth 100000 in
theorem nm_inj : ∀ i j : Fin 8, nmT.getD i.val [] = nmT.getD j.val [] → i = j := by decide
set_option maxRecDepth 100000 in
theorem nm_list (i : Nat) : (nm i).toList = nmT.getD i [] := by rw [ByteArray.toList_eq]; simp [nm]
set_option maxRecDepth 100000 in
theorem nm_eq {i j : Nat} (hi : i < 8) (hj : j < 8) (h : (nm i).toList = (nm j).toList) : i = j := by
  rw [nm_list, nm_list] at h
  simpa using nm_inj ⟨i, hi⟩ ⟨j, hj⟩ h
/-- The kind of a name. -/
def KindIs (x : ByteArray) (k : Int) (ok : Bool) : Prop := (ok = true ∧ ∃ n : Nat, k = (n : Int) ∧ 1 ≤ n ∧ n ≤ 7 ∧ (nm n).toList = x.toList) ∨ (ok = false ∧ k = 0 ∧ ∀ n : Nat, 1 ≤ n → n ≤ 7 → (nm n).toList ≠ x.toList)
set_option maxRecDepth 100000 in
theorem KindIs.one {x : ByteArray} {k l : Int} {a b : Bool} (h : KindIs x k a) (g : KindIs x l b) : k = l ∧ a = b := by
  rcases h with ⟨rfl, n, rfl, h1, h2, h3⟩ | ⟨rfl, rfl, h⟩ <;> rcases g with ⟨rfl, m, rfl, g1, g2, g3⟩ | ⟨rfl, rfl, g⟩
  · exact ⟨by rw [nm_eq (by omega) (by omega) (h3.trans g3.symm)], rfl⟩
  · exact absurd h3 (g n h1 h2)
  · exact absurd g3 (h m g1 g2)
  · exact ⟨rfl, rfl⟩

def RkI (x : ByteArray) (w : World) (c : Value) (W : World) : Prop := ∃ i : Nat, 1 ≤ i ∧ i ≤ 8 ∧ c = .int .i64 (i : Int) ∧ Hid (∀ n : Nat, 1 ≤ n → n < i → (nm n).toList ≠ x.toList) ∧ Hid (Below w.heap.size w W)
def PkI (x : ByteArray) (w : World) (c : Value) (W : World) : Prop := ∃ i : Nat, i ≤ 8 ∧ c = .int .i64 (i : Int) ∧ Hid (∀ n : Nat, 1 ≤ n → n < i → (nm n).toList ≠ x.toList) ∧ Hid (Below w.heap.size w W)
set_option maxRecDepth 100000 in
theorem idx58 : ∀ k : Nat, k < 8 → ∀ W, (Instr.index 181 (.agg #[.string ⟨#[]⟩, .int .i64 1, .int .i64 0, .string ⟨#[80, 79, 73, 78, 84]⟩, .int .i64 1, .int .i64 0, .string ⟨#[76, 73, 78, 69, 83, 84, 82, 73, 78, 71]⟩, .int .i64 1, .int .i64 0, .string ⟨#[80, 79, 76, 89, 71, 79, 78]⟩, .int .i64 0, .int .i64 0, .string ⟨#[77, 85, 76, 84, 73, 80, 79, 73, 78, 84]⟩, .int .i64 1, .int .i64 1, .string ⟨#[77, 85, 76, 84, 73, 76, 73, 78, 69, 83, 84, 82, 73, 78, 71]⟩, .int .i64 2, .int .i64 2, .string ⟨#[77, 85, 76, 84, 73, 80, 79, 76, 89, 71, 79, 78]⟩, .int .i64 3, .int .i64 3, .string ⟨#[71, 69, 79, 77, 69, 84, 82, 89, 67, 79, 76, 76, 69, 67, 84, 73, 79, 78]⟩, .int .i64 1, .int .i64 7]) (.int .i64 (k : Int))).run Tryz.prog W = .ok (.agg #[.string (nm k), .int .i64 (lo k), .int .i64 (hi k)]) W
  | 0, _, W => by kernel_rfl
  | 1, _, W => by kernel_rfl
  | 2, _, W => by kernel_rfl
  | 3, _, W => by kernel_rfl
  | 4, _, W => by kernel_rfl
  | 5, _, W => by kernel_rfl
  | 6, _, W => by kernel_rfl
  | 7, _, W => by kernel_rfl
  | k + 8, h, _ => by omega
section
variable {P : Program} {ops : Array Oper} {rest : List Oper} {o : Oper} {a : Act} {w : World} {Q : Exit → Act → World → Prop}
set_option maxRecDepth 100000 in
theorem wpList_load_run (hgd : o.guard = none) (ty : TypeId) (x : Operand) (ho : o.op = .load ty x) (ad : Addr) (hx : a.eval x = .pointer (some ad)) (v : Value)
    (hrun : (loadVar ty ad).run P w = .ok v w) (h : wpList P ops Q rest (a.put o.dst v) w) : wpList P ops Q (o :: rest) a w := by
  refine wpList_plain hgd fun K hK => ?_
  unfold Oper.wp
  simp [execOp, ho, hx, Instr.loadAt, Instr.sureAddr, hrun, Result.andThen]
  exact hK _ _ h
end
set_option maxRecDepth 100000 in
theorem cellsOf58 : Tryz.prog.cellsOf 181 = 24 := by kernel_rfl
set_option maxRecDepth 100000 in
theorem load58 {w : World} (hT : Tab w) : (loadVar 181 ⟨0, 0, none⟩).run Tryz.prog w = .ok (.agg #[.string ⟨#[]⟩, .int .i64 1, .int .i64 0, .string ⟨#[80, 79, 73, 78, 84]⟩, .int .i64 1, .int .i64 0, .string ⟨#[76, 73, 78, 69, 83, 84, 82, 73, 78, 71]⟩, .int .i64 1, .int .i64 0, .string ⟨#[80, 79, 76, 89, 71, 79, 78]⟩, .int .i64 0, .int .i64 0, .string ⟨#[77, 85, 76, 84, 73, 80, 79, 73, 78, 84]⟩, .int .i64 1, .int .i64 1, .string ⟨#[77, 85, 76, 84, 73, 76, 73, 78, 69, 83, 84, 82, 73, 78, 71]⟩, .int .i64 2, .int .i64 2, .string ⟨#[77, 85, 76, 84, 73, 80, 79, 76, 89, 71, 79, 78]⟩, .int .i64 3, .int .i64 3, .string ⟨#[71, 69, 79, 77, 69, 84, 82, 89, 67, 79, 76, 76, 69, 67, 84, 73, 79, 78]⟩, .int .i64 1, .int .i64 7]) w := by
  have hl := run_loadCells_list (P := Tryz.prog) w ⟨0, 0, none⟩ [.string ⟨#[]⟩, .int .i64 1, .int .i64 0, .string ⟨#[80, 79, 73, 78, 84]⟩, .int .i64 1, .int .i64 0, .string ⟨#[76, 73, 78, 69, 83, 84, 82, 73, 78, 71]⟩, .int .i64 1, .int .i64 0, .string ⟨#[80, 79, 76, 89, 71, 79, 78]⟩, .int .i64 0, .int .i64 0, .string ⟨#[77, 85, 76, 84, 73, 80, 79, 73, 78, 84]⟩, .int .i64 1, .int .i64 1, .string ⟨#[77, 85, 76, 84, 73, 76, 73, 78, 69, 83, 84, 82, 73, 78, 71]⟩, .int .i64 2, .int .i64 2, .string ⟨#[77, 85, 76, 84, 73, 80, 79, 76, 89, 71, 79, 78]⟩, .int .i64 3, .int .i64 3, .string ⟨#[71, 69, 79, 77, 69, 84, 82, 89, 67, 79, 76, 76, 69, 67, 84, 73, 79, 78]⟩, .int .i64 1, .int .i64 7] (by
    intro j v hj
    rw [Addr.add_lit]
    have hj24 : j < 24 := by simpa using (List.getElem?_eq_some_iff.1 hj).1
    obtain ⟨a0, b0, c0⟩ := hT 0 (by omega)
    obtain ⟨a1, b1, c1⟩ := hT 1 (by omega)
    obtain ⟨a2, b2, c2⟩ := hT 2 (by omega)
    obtain ⟨a3, b3, c3⟩ := hT 3 (by omega)
    obtain ⟨a4, b4, c4⟩ := hT 4 (by omega)
    obtain ⟨a5, b5, c5⟩ := hT 5 (by omega)
    obtain ⟨a6, b6, c6⟩ := hT 6 (by omega)
    obtain ⟨a7, b7, c7⟩ := hT 7 (by omega)
    match j, hj24, hj with
    | 0, _, hj => simp at hj; subst hj; exact a0
    | 1, _, hj => simp at hj; subst hj; exact b0
    | 2, _, hj => simp at hj; subst hj; exact c0
    | 3, _, hj => simp at hj; subst hj; exact a1
    | 4, _, hj => simp at hj; subst hj; exact b1
    | 5, _, hj => simp at hj; subst hj; exact c1
    | 6, _, hj => simp at hj; subst hj; exact a2
    | 7, _, hj => simp at hj; subst hj; exact b2
    | 8, _, hj => simp at hj; subst hj; exact c2
    | 9, _, hj => simp at hj; subst hj; exact a3
    | 10, _, hj => simp at hj; subst hj; exact b3
    | 11, _, hj => simp at hj; subst hj; exact c3
    | 12, _, hj => simp at hj; subst hj; exact a4
    | 13, _, hj => simp at hj; subst hj; exact b4
    | 14, _, hj => simp at hj; subst hj; exact c4
    | 15, _, hj => simp at hj; subst hj; exact a5
    | 16, _, hj => simp at hj; subst hj; exact b5
    | 17, _, hj => simp at hj; subst hj; exact c5
    | 18, _, hj => simp at hj; subst hj; exact a6
    | 19, _, hj => simp at hj; subst hj; exact b6
    | 20, _, hj => simp at hj; subst hj; exact c6
    | 21, _, hj => simp at hj; subst hj; exact a7
    | 22, _, hj => simp at hj; subst hj; exact b7
    | 23, _, hj => simp at hj; subst hj; exact c7
    | j + 24, h, _ => omega)
  simp at hl
  simp [loadVar, Tryz.isAgg181, Tryz.sizeOf181, hl]
end Go.Proofs.YtpmfedimjjifaaaGreatDoor

/- The document's count of a shape; no statement of the seat is proved here. -/
namespace Go.Proofs.YtpmfedimjjifaaaGreatDoor
open Go.RowKit Go.Maps

set_option maxRecDepth 100000 in
set_option maxHeartbeats 1000000 in
theorem least_call (a b : Int) (w : World) : Calls Tryz.prog 103 #[.int .i64 a, .int .i64 b] w fun e w' => e = .returned (.int .i64 (min a b)) ∧ Below w.heap.size w w' := by
  by_cases h : a < b
  · rw [show min a b = a by omega]
    go_enter Tryz.func103, Tryz.ntmps103
    go_wp2
    go_ret
    exact ⟨rfl, Below.refl _ _⟩
  · rw [show min a b = b by omega]
    have h' : b ≤ a := by omega
    go_enter Tryz.func103, Tryz.ntmps103
    go_wp2
    go_ret
    exact ⟨rfl, Below.refl _ _⟩
set_option maxRecDepth 100000 in
set_option maxHeartbeats 1000000 in
theorem deeper_call (s p : Sh) (d : Nat) (w : World) (hd : d ≤ 1000000) : Calls Tryz.prog 104 #[.agg #[.int .i64 (s).k, .slice (s).xo (s).xn (s).xc, .slice (s).po (s).pn (s).pc], .agg #[.int .i64 (p).k, .slice (p).xo (p).xn (p).xc, .slice (p).po (p).pn (p).pc], .int .i64 (d : Int)] w fun e w' => e = .returned (.int .i64 (din s.k p.k d : Nat)) ∧ Below w.heap.size w w' := by
  have B1 := hid (Bx.new w s)
  have B2 := hid (Bx.new (w.alloc (.cells #[.int .i64 (s).k, .slice (s).xo (s).xn (s).xc, .slice (s).po (s).pn (s).pc] 39)) p)
  have B3 := hid (B1.out.keep (ext1 (.cells #[.int .i64 (p).k, .slice (p).xo (p).xn (p).xc, .slice (p).po (p).pn (p).pc] 39)))
  obtain ⟨x0, _, _⟩ := B3.out.cells
  obtain ⟨y0, _, _⟩ := B2.out.cells
  rw [World.size_alloc] at y0
  clear B1 B2 B3
  by_cases h3 : s.k = 3
  · by_cases h0 : p.k = 0
    · rw [show din s.k p.k d = d by simp [din, h3, h0]]
      rw [h3, h0] at *
      go_enter Tryz.func104, Tryz.ntmps104
      go_wp2
      go_ret
      exact ⟨rfl, gt (ext1 _) (ext1 _)⟩
    · rw [show din s.k p.k d = d + 1 by simp [din, h0]]
      have n1 : (p.k == 0) = false := by simp [h0]
      rw [h3] at *
      clear h0
      go_enter Tryz.func104, Tryz.ntmps104
      go_wp2
      go_ret
      exact ⟨by go_num, gt (ext1 _) (ext1 _)⟩
  · rw [show din s.k p.k d = d + 1 by simp [din, h3]]
    have n1 : (s.k == 3) = false := by simp [h3]
    clear h3
    go_enter Tryz.func104, Tryz.ntmps104
    go_wp2
    go_ret
    exact ⟨by go_num, gt (ext1 _) (ext1 _)⟩
end Go.Proofs.YtpmfedimjjifaaaGreatDoor
