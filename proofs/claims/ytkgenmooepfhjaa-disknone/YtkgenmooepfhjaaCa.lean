/- The law DiskNone returns true and turns nothing that was there, whatever it is called with; the walk alone. -/
import Derived.Test.YtkgenmooepfhjaaBk
namespace Go.Proofs.Ytkgenmooepfhjaa
open Go.RowKit Go.Maps

/-- An act lies in block b. -/
def ActAt (W : World) (b : Nat) (k f a n s : Int) (ko : Option Addr) (kn kc : Nat) (t : Int) : Prop :=
  W.cell? ⟨b, 0, none⟩ = some (.int .i64 k) ∧ W.cell? ⟨b, 1, none⟩ = some (.int .i64 f) ∧ W.cell? ⟨b, 2, none⟩ = some (.int .i64 a) ∧ W.cell? ⟨b, 3, none⟩ = some (.int .i64 n) ∧ W.cell? ⟨b, 4, none⟩ = some (.int .u8 s) ∧ W.cell? ⟨b, 5, none⟩ = some (.slice ko kn kc) ∧ W.cell? ⟨b, 6, none⟩ = some (.int .i64 t)
theorem ActAt.keep {W W' : World} {b : Nat} {k f a n s : Int} {ko : Option Addr} {kn kc : Nat} {t : Int} (h : ActAt W b k f a n s ko kn kc t) (hb : Below W.heap.size W W') : ActAt W' b k f a n s ko kn kc t :=
  ⟨keep_old hb h.1, keep_old hb h.2.1, keep_old hb h.2.2.1, keep_old hb h.2.2.2.1, keep_old hb h.2.2.2.2.1, keep_old hb h.2.2.2.2.2.1, keep_old hb h.2.2.2.2.2.2⟩
theorem ActAt.new (W : World) (k f a n s : Int) (ko : Option Addr) (kn kc : Nat) (t : Int) (ty : TypeId) : ActAt (W.alloc (.cells #[.int .i64 k, .int .i64 f, .int .i64 a, .int .i64 n, .int .u8 s, .slice ko kn kc, .int .i64 t] ty)) W.heap.size k f a n s ko kn kc t := by
  refine ⟨?_, ?_, ?_, ?_, ?_, ?_, ?_⟩ <;> (rw [World.cell?_alloc_at _ _ _ _ rfl]; rfl)

/-- What the long test asks of the world, while it goes on. -/
abbrev NS (w : World) (b : Nat) (v : Value) (f a n : Int) (ko : Option Addr) (kn kc : Nat) (t : Int) (W : World) : Prop :=
  W.cell? ⟨b, 1, none⟩ = some (.int .i64 f) ∧ W.cell? ⟨b, 2, none⟩ = some (.int .i64 a) ∧ W.cell? ⟨b, 3, none⟩ = some (.int .i64 n) ∧ W.cell? ⟨b, 5, none⟩ = some (.slice ko kn kc) ∧ W.cell? ⟨b, 6, none⟩ = some (.int .i64 t) ∧ NoDisk W v ∧ Below w.heap.size w W
theorem NS.keep {w : World} {b : Nat} {v : Value} {f a n : Int} {ko : Option Addr} {kn kc : Nat} {t : Int} {W W' : World} (h : NS w b v f a n ko kn kc t W) (hb : Below W.heap.size W W') : NS w b v f a n ko kn kc t W' :=
  ⟨keep_old hb h.1, keep_old hb h.2.1, keep_old hb h.2.2.1, keep_old hb h.2.2.2.1, keep_old hb h.2.2.2.2.1, h.2.2.2.2.2.1.later hb, gt h.2.2.2.2.2.2 hb⟩
theorem NS.turn {w : World} {b : Nat} {v v' : Value} {f a n : Int} {ko : Option Addr} {kn kc : Nat} {t : Int} {W : World} (h : NS w b v f a n ko kn kc t W) (no : NoDisk W v') : NS w b v' f a n ko kn kc t W.drew :=
  ⟨h.1, h.2.1, h.2.2.1, h.2.2.2.1, h.2.2.2.2.1, no, Below.drew h.2.2.2.2.2.2⟩
theorem NS.below {w : World} {b : Nat} {v : Value} {f a n : Int} {ko : Option Addr} {kn kc : Nat} {t : Int} {W : World} (h : NS w b v f a n ko kn kc t W) : Below w.heap.size w W := h.2.2.2.2.2.2
theorem NS.no {w : World} {b : Nat} {v : Value} {f a n : Int} {ko : Option Addr} {kn kc : Nat} {t : Int} {W : World} (h : NS w b v f a n ko kn kc t W) : NoDisk W v := h.2.2.2.2.2.1

set_option maxHeartbeats 1000000 in
theorem none_long (k f a n s : Int) (ko : Option Addr) (kn kc : Nat) (t : Int) (w : World) (h : 100 < kn) :
    Calls Try.prog 7 #[.agg #[.int .i64 k, .int .i64 f, .int .i64 a, .int .i64 n, .int .u8 s, .slice ko kn kc, .int .i64 t]] w fun e w' => e = .returned (.bool true) ∧ Below w.heap.size w w' := by
  have h' : (100 : Int) < (kn : Int) := by omega
  go_enter Try.func7, Try.ntmps7
  go_wp2_with (go_at_call 9; refine (lives_any _).mono ?_; rintro e w1 ⟨rfl, hb1⟩; replace hb1 := hid hb1)
  go_ret
  exact ⟨rfl, ((Below.refl _ w).alloc (Nat.le_refl _) _).trans (hb1.out.mono (by simp))⟩

set_option maxHeartbeats 8000000 in
set_option maxRecDepth 20000 in
theorem none_short (k f a n s : Int) (ko : Option Addr) (kn kc : Nat) (t : Int) (w : World) (h : kn ≤ 100) :
    Calls Try.prog 7 #[.agg #[.int .i64 k, .int .i64 f, .int .i64 a, .int .i64 n, .int .u8 s, .slice ko kn kc, .int .i64 t]] w fun e w' => e = .returned (.bool true) ∧ Below w.heap.size w w' := by
  have h' : ¬ ((100 : Int) < (kn : Int)) := by omega
  obtain ⟨w1, hw1⟩ : ∃ w1, w1 = (w.alloc (.cells #[.int .i64 k, .int .i64 f, .int .i64 a, .int .i64 n, .int .u8 s, .slice ko kn kc, .int .i64 t] 34)).alloc (.cells #[.int .i64 0, .bool false, .int .i64 0, .slice none 0 0, .int .i64 0, .map none, .slice none 0 0, .int .i64 0, .map none, .int .i64 0, .slice none 0 0, .int .i64 0] 63) := ⟨_, rfl⟩
  have ha : ActAt w1 w.heap.size k f a n s ko kn kc t := by rw [hw1]; exact (ActAt.new w k f a n s ko kn kc t 34).keep ((Below.refl _ _).alloc (Nat.le_refl _) _)
  have hz : NoDisk w1 (.pointer (some ⟨w.heap.size + 1, 0, none⟩)) := Or.inr ⟨_, rfl, by rw [hw1, World.cell?_alloc_at _ _ _ _ (by simp)]; rfl⟩
  have hn : NoDisk w1 (.pointer none) := Or.inl rfl
  have hbw : Below w.heap.size w w1 := by rw [hw1]; exact (by repeat (first | with_reducible exact Below.refl _ _ | with_reducible assumption | with_reducible refine Below.drew ?_ | with_reducible refine below_drewN ?_ _ | with_reducible refine Below.alloc ?_ (by simp <;> omega) _ | with_reducible refine Below.setCell ?_ (by simp <;> omega) _))
  have HA := hid ha; have HZ := hid hz; have HN := hid hn; have HB := hid hbw; have HW1 := hid hw1
  clear ha hz hn hbw hw1
  have ix : ∀ i : Nat, i < 2 → ∃ v, (∀ W, (Instr.index 64 (.agg #[.pointer none, .pointer (some ⟨w.heap.size + 1, 0, none⟩)]) (.int .i64 (i : Int))).run Try.prog W = .ok v W) ∧ NoDisk w1 v := by
    intro i hi
    rcases i with _ | _ | i
    · exact ⟨_, fun W => by kernel_rfl, HN.out⟩
    · exact ⟨_, fun W => by kernel_rfl, HZ.out⟩
    · omega
  have IX := hid ix
  clear ix HN HZ
  go_enter Try.func7, Try.ntmps7
  go_wp2
  rw [← HW1.out]
  go_loopw [15] (fun c W => ∃ i : Nat, i ≤ 2 ∧ c = .int .i64 (i : Int) ∧ Hid (Below w1.heap.size w1 W)) (fun c _ => 2 - (intOf c).toNat)
  case atStart => exact ⟨0, by omega, rfl, hid (Below.refl _ _)⟩
  case round =>
    obtain ⟨i, hi, rfl, hbw⟩ := hrel
    by_cases hi2 : i < 2
    · obtain ⟨v, ixv, hnv⟩ := IX.out i hi2
      have hi2' : (i : Int) < 2 := by omega
      have hnw := hnv.later hbw.out
      have HNW := hid hnw
      obtain ⟨a0, a1, a2, a3, a4, a5, a6⟩ := HA.out.keep hbw.out
      clear hnv hnw
      go_wp2_with (go_at_call 14; refine (read_no _ _ _ _ _ HNW.out).mono ?_; rintro e wx ⟨rfl, hwx⟩; obtain rfl := hwx.symm)
      have HS0 : NS w1 w.heap.size v f a n ko kn kc t wr := ⟨a1, a2, a3, a5, a6, HNW.out, hbw.out⟩
      have HS := HS0.turn HNW.out
      clear HS0 a0 a1 a2 a3 a4 a5 a6 HNW ixv
      go_region_held3 (NS w1 w.heap.size v f a n ko kn kc t) (with_reducible assumption) (first
        | (go_at_call 17; have hSx := HS; refine (sectors_any 1 1 _ (by omega)).mono ?_; rintro e wx ⟨rfl, _, hbx⟩; replace HS := hSx.keep hbx; clear hSx hbx)
        | (go_at_call 16; have hSx := HS; refine (write_no _ _ _ _ _ _ _ HS.no).mono ?_; rintro e wx ⟨rfl, hbx⟩; replace HS := hSx.keep hbx; clear hSx hbx)
        | (go_at_call 18; have hSx := HS; refine (sync_no _ _ _ HS.no).mono ?_; rintro e wx ⟨rfl, hbx⟩; replace HS := hSx.keep hbx; clear hSx hbx)
        | (go_at_call 25; have hSx := HS; refine (cut_no _ _ _ _ HS.no).mono ?_; rintro e wx ⟨rfl, hbx⟩; replace HS := hSx.keep hbx; clear hSx hbx)
        | (go_at_call 24; have hSx := HS; refine (arm_no _ _ _ _ _ _ _ HS.no).mono ?_; rintro e wx ⟨rfl, hbx⟩; replace HS := hSx.keep hbx; clear hSx hbx)
        | (go_at_call 22; refine (start_no _ _ HS.no).mono ?_; rintro e wx ⟨rfl, hwx⟩; obtain rfl := hwx.symm)
        | (go_at_call 21; have hSx := HS; refine (crash_no _ _ _ _ _ _ HS.no).mono ?_; rintro e wx ⟨rfl, hbx⟩; replace HS := hSx.keep hbx; clear hSx hbx)
        | (go_at_call 27; refine (on_no _ _ HS.no).mono ?_; rintro e wx ⟨rfl, hwx⟩; obtain rfl := hwx.symm)
        | (go_at_call 19; refine (sectors_no _ _ _ HS.no).mono ?_; rintro e wx ⟨rfl, hwx⟩; obtain rfl := hwx.symm)
        | (go_at_call 23; refine (dirty_no _ _ _ HS.no).mono ?_; rintro e wx ⟨rfl, hwx⟩; obtain rfl := hwx.symm)
        | (go_at_call 26; refine (ops_no _ _ HS.no).mono ?_; rintro e wx ⟨rfl, hwx⟩; obtain rfl := hwx.symm)
        | (go_at_call 29; refine (room_no _ _ HS.no).mono ?_; rintro e wx ⟨rfl, hwx⟩; obtain rfl := hwx.symm)
        | (go_at_call 20; refine (copy_no _ _ HS.no).mono ?_; rintro e wx ⟨rfl, hwx⟩; obtain rfl := hwx.symm))
      have HBZ := hid HS.below
      clear HS
      go_wp2
      exact ⟨⟨i + 1, by omega, by simp, HBZ⟩, by simp [intOf]; omega⟩
    · have hiE : i = 2 := by omega
      subst hiE
      go_wp2_with (go_at_call 9; refine (lives_any _).mono ?_; rintro e wx ⟨rfl, hbx⟩; replace hbx := hid hbx)
      go_ret
      exact ⟨rfl, gt (gt HB.out hbw.out) hbx.out⟩

end Go.Proofs.Ytkgenmooepfhjaa
