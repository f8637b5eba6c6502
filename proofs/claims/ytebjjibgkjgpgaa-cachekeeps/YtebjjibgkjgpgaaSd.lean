/- The law CacheActs returns true and turns nothing that was there, whatever it is called with; the walk alone. -/
import Derived.Test.YtebjjibgkjgpgaaSc
namespace Go.Proofs.Ytebjjibgkjgpgaa
open Go.RowKit Go.Maps

/-- Acts that came in. -/
def ActsV (w : World) (lo : Option Addr) (L : Nat) (X : Nat → Av) : Prop := 0 < L → ∃ b off, lo = some ⟨b, off, none⟩ ∧ Acts w b off L X

theorem keep_acts {w W : World} {b off L : Nat} {X : Nat → Av} (hb : Below w.heap.size w W) (h : Acts w b off L X) : Acts W b off L X := h.keep hb

/-- Both are new. -/
theorem both_new {w0 w1 w2 w3 : World} {c m r : Nat} {C : Parts} {R : RParts} (h0 : Below w0.heap.size w0 w1) (h1 : CP w2 c C ⟨r, [], 0, 0⟩) (h2 : ∀ k, C.S c k → w1.heap.size ≤ k) (h3 : Below w1.heap.size w1 w2) (h4 : RP w3 m R ⟨r, [], 0, 0⟩) (h5 : ∀ k, R.T m k → w2.heap.size ≤ k) (h6 : Below w2.heap.size w2 w3) : Both w0 w3 c m C R ⟨r, [], 0, 0⟩ ⟨r, [], 0, 0⟩ :=
  ⟨h1.later h6, h4, fun k hk => by have := h2 k hk; have := h0.size; omega, fun k hk => by have := h5 k (Or.inl hk); have := h3.size; have := h0.size; omega, gt h0 (gt h3 h6)⟩
theorem ok_new (r : Nat) : OkS 0 ⟨r, [], 0, 0⟩ := ⟨Nat.le_refl _, Nat.le_refl _, Nat.le_refl _, fun r hr => by simp at hr⟩

set_option maxHeartbeats 1000000 in
set_option maxRecDepth 20000 in
theorem acts_long (room : Int) (lo : Option Addr) (L C : Nat) (w : World) (hL : 150 < L) :
    Calls Try.prog 3 #[.int .i64 room, .slice lo L C] w fun e w' => e = .returned (.bool true) ∧ Below w.heap.size w w' := by
  have h1 : (150 : Int) < (L : Int) := by omega
  go_enter Try.func3, Try.ntmps3
  go_wp2_with (go_at_call 8; refine (lives_any _).mono ?_; rintro e w3 ⟨rfl, hb3⟩; replace hb3 := hid hb3)
  go_ret
  exact ⟨rfl, hb3.out⟩

set_option maxHeartbeats 1000000 in
set_option maxRecDepth 20000 in
theorem acts_no (room : Int) (hroom : room < 1 ∨ 4096 < room) (lo : Option Addr) (L C : Nat) (w : World) (hL : L ≤ 150) :
    Calls Try.prog 3 #[.int .i64 room, .slice lo L C] w fun e w' => e = .returned (.bool true) ∧ Below w.heap.size w w' := by
  have h1 : ¬ (150 : Int) < (L : Int) := by omega
  have HRM := hid hroom
  clear hroom
  go_enter Try.func3, Try.ntmps3
  go_wp2_with (first
      | (go_at_call 9; refine (new_no room w HRM.out).mono ?_; rintro e wx ⟨rfl, hwx⟩; obtain rfl := hwx.symm)
      | (go_at_call 10; refine (rnew_no room w HRM.out).mono ?_; rintro e wx ⟨rfl, hwx⟩; obtain rfl := hwx.symm)
      | (go_at_call 8; refine (lives_any _).mono ?_; rintro e w3 ⟨rfl, hb3⟩; replace hb3 := hid hb3))
  go_ret
  exact ⟨rfl, hb3.out⟩

set_option maxHeartbeats 8000000 in
set_option maxRecDepth 20000 in
theorem acts_yes (rm : Nat) (hr1 : 1 ≤ rm) (hr2 : rm ≤ 4096) (lo : Option Addr) (L C : Nat) (X : Nat → Av) (w : World) (h : ActsV w lo L X) (hL : L ≤ 150) :
    Calls Try.prog 3 #[.int .i64 (rm : Int), .slice lo L C] w fun e w' => e = .returned (.bool true) ∧ Below w.heap.size w w' := by
  have h1 : ¬ (150 : Int) < (L : Int) := by omega
  have H := hid h
  clear h
  go_enter Try.func3, Try.ntmps3
  go_wp2_with (first
    | (go_at_call 9; refine (new_yes rm w hr1 hr2).mono ?_; rintro e w1 ⟨c, rfl, C1, hc, _, hn, hb⟩; have HC := hid hc; have HN := hid hn; have HB := hid hb; clear hc hn hb)
    | (go_at_call 10; refine (rnew_yes rm w1 hr1 hr2).mono ?_; rintro e w2 ⟨m, rfl, R1, hr, hn, hb, _⟩; have HPR := hid (both_new (Below.refl _ w) HC.out HN.out HB.out hr hn hb); clear hr hn hb HC HN HB))
  go_loopg [27] L (fun k v W => ∃ (i : Nat) (C : Parts) (R : RParts) (s : CS), i + k = L ∧ v = .int .i64 (i : Int) ∧ Hid (Both w W c m C R s s) ∧ Hid (OkS i s))
  case atStart => exact ⟨0, _, _, _, by omega, rfl, HPR, hid (ok_new rm)⟩
  case round =>
    clear HPR
    obtain ⟨i, C2, R2, s, hik, rfl, HPR, HOK⟩ := hrel
    by_cases hiL : i < L
    · obtain ⟨b, off, rfl, hacts⟩ := H.out (by omega)
      have hiL' : (i : Int) < (L : Int) := by omega
      obtain ⟨c0, c1, c2, c3, ok⟩ := keep_acts HPR.out.bl hacts i hiL
      have OK := hid ok
      have hbl : b < wr.heap.size := lt_cell c0
      have hbl' : ¬ b = wr.heap.size := by omega
      clear hacts ok
      obtain ⟨W0, hW0⟩ : ∃ W0, W0 = wr.alloc (.cells #[.int .i64 (X i).k, .int .i64 (X i).p, .int .u8 ((X i).s : Int), .bool (X i).sh] 29) := ⟨_, rfl⟩
      have hb0 : Below wr.heap.size wr W0 := by rw [hW0]; exact (Below.refl _ _).alloc (Nat.le_refl _) _
      have hx0 : Box wr.heap.size (X i) W0 := by rw [hW0]; exact Box.new wr (X i)
      have CA := hid (act_any w W0 c m C2 R2 s s (X i) (HPR.out.later hb0) HPR.out.cp.pg (HOK.out.up (by omega)) (HOK.out.up (by omega)) OK.out)
      have HW0 := hid hW0; have HX0 := hid hx0
      clear hW0 hb0 hx0
      go_wp2_with (first
        | (go_at_call 11; rw [← HW0.out]; refine CA.out.mono ?_; rintro e w5 ⟨v, rfl, hv, C5, R5, hb5, kb5⟩; obtain rfl := hv rfl; have y1 := (kb5 _ _ HX0.out).cells.2.1; replace hb5 := hid hb5; clear CA kb5)
        | (go_at_call 12; refine (alike_any w w5 c m C5 R5 _ (X i).p hb5.out ((HOK.out.did (X i)).up (by omega)) OK.out.p).mono ?_; rintro e w6 ⟨rfl, hb6⟩; replace hb6 := hid hb6))
      go_roundg (gk - 1)
      case measure => omega
      case rel => exact ⟨i + 1, C5, R5, s.did (X i), by omega, by simp, hid (hb5.out.later hb6.out), hid (HOK.out.did (X i))⟩
    · have hiL' : ¬ ((i : Int) < (L : Int)) := by omega
      go_wp2_with (go_at_call 8; refine (lives_any _).mono ?_; rintro e w3 ⟨rfl, hb3⟩; replace hb3 := hid hb3)
      go_ret
      exact ⟨rfl, gt HPR.out.bl hb3.out⟩

theorem acts_any (room : Int) (lo : Option Addr) (L C : Nat) (X : Nat → Av) (w : World) (h : ActsV w lo L X) :
    Calls Try.prog 3 #[.int .i64 room, .slice lo L C] w fun e w' => e = .returned (.bool true) ∧ Below w.heap.size w w' := by
  rcases Nat.lt_or_ge 150 L with hL | hL
  · exact acts_long room lo L C w hL
  · rcases Int.lt_or_le room 1 with h1 | h1
    · exact acts_no room (Or.inl h1) lo L C w hL
    · rcases Int.lt_or_le 4096 room with h2 | h2
      · exact acts_no room (Or.inr h2) lo L C w hL
      · obtain ⟨rm, rfl⟩ := Int.eq_ofNat_of_zero_le (show 0 ≤ room by omega)
        exact acts_yes rm (by omega) (by omega) lo L C X w h hL

theorem acts_v {w : World} {v : Value} (h : (∃ lo C, v = .slice lo 0 C) ∨ ∃ b off L C X, 0 < L ∧ L ≤ 9223372036854775807 ∧ v = .slice (some ⟨b, off, none⟩) L C ∧ Acts w b off L X) : ∃ lo L C X, v = .slice lo L C ∧ ActsV w lo L X := by
  rcases h with ⟨lo, C, rfl⟩ | ⟨b, off, L, C, X, _, _, rfl, h⟩
  · exact ⟨lo, 0, C, fun _ => ⟨0, 0, 0, false⟩, rfl, fun h => by omega⟩
  · exact ⟨_, L, C, X, rfl, fun _ => ⟨b, off, rfl, h⟩⟩

end Go.Proofs.Ytebjjibgkjgpgaa
