/- Heaps that no call made; no statement of the seat is proved here. -/
import Derived.Test.YtgjgkpnjchflaaaGreatDoorG44
namespace Go.Proofs.YtgjgkpnjchflaaaGreatDoor
open Go.RowKit Go.Maps
open Dsk (gt hid undrew keep_old keep_cell lt_cell Rd DS FS Sec DiskP newD)
open Cch (CS CP Fr)
open Jrn (Pv2 Row5 numAt RB fr_two trunkN rootN putN nul)

/-- A heap that no call made. -/
def HZ (w : World) (v : Value) : Prop := v = .pointer none ∨ ∃ b, v = .pointer (some ⟨b, 0, none⟩) ∧ w.cell? ⟨b, 0, none⟩ = some (.pointer none)
theorem HZ.keep {w w' : World} {v : Value} (h : HZ w v) (hb : Below w.heap.size w w') : HZ w' v := by
  rcases h with h | ⟨b, h, c⟩
  · exact Or.inl h
  · exact Or.inr ⟨b, h, keep_old hb c⟩
theorem bad_nil (w : World) : Bad w (.pointer none) 1 := ⟨by decide, Or.inl ⟨rfl, rfl⟩⟩

set_option maxHeartbeats 1000000 in
theorem hwithin_nil (w : World) : Calls Tryz.prog 45 #[.pointer none] w fun e w' => e = .returned (.int .i64 1) ∧ Below w.heap.size w w' := by
  have t : True := trivial
  go_enter Tryz.func45, Tryz.ntmps45
  go_wp2_with (first
    | (go_at_call 85; refine (bad_busy _ 1 w (bad_nil w)).mono ?_; rintro e w1 ⟨rfl, hb1⟩; have B1 := hid hb1; clear hb1)
    | (go_at_call 10; refine (bad_pages _ 1 w1 (bad_nil w1)).mono ?_; rintro e w2 ⟨rfl, hb2⟩; have B2 := hid (gt B1.out hb2); clear hb2)
    | (go_at_call 61; refine (bad_shrink _ 1 _ w2 (bad_nil w2)).mono ?_; rintro e w3 ⟨rfl, hb3⟩; have B3 := hid (gt B2.out hb3); clear hb3))
  go_ret
  exact ⟨rfl, B3.out⟩

set_option maxHeartbeats 1000000 in
theorem hget_nil (b : Nat) (n : Int) (w : World) (c : w.cell? ⟨b, 0, none⟩ = some (.pointer none)) :
    Calls Tryz.prog 63 #[.pointer (some ⟨b, 0, none⟩), .int .i64 n] w fun e w' => e = .returned (.tuple #[.agg #[.int .i64 n, .slice none 0 0], .int .i64 1]) ∧ Below w.heap.size w w' := by
  have B0 := hid (show Below w.heap.size w (w.alloc (.cells #[.int .i64 0, .slice none 0 0] 81)) from Below.alloc (Below.refl _ _) (Nat.le_refl _) _)
  have HX := hid (RB.new 81 w 0 none 0 0)
  have c0 := keep_old B0.out c
  clear c
  go_enter Tryz.func63, Tryz.ntmps63
  go_wp2_with (go_at_call 100; refine (bad_get _ 1 n _ (bad_nil _)).mono ?_; rintro e w1 ⟨rfl, hb1⟩; have B1 := hid hb1; have X1 := hid (HX.out.keep hb1); obtain ⟨x0, x1, x2, x3⟩ := X1.out.cells; clear hb1)
  refine bodyPost_ret (Jrn.ret_rec rfl agg81 size81 rfl (RB.set X1.out _ _ _ _)) rfl ?_
  exact ⟨rfl, Jrn.below_fr ((Fr.of_below (gt B0.out B1.out)).trans (fr_two w1 w.heap.size _ _) (fun j hj h => by omega))⟩

set_option maxHeartbeats 1000000 in
theorem hroot_bad (v : Value) (w : World) (h : HZ w v) : Calls Tryz.prog 31 #[v] w fun e w' => ∃ n, e = .returned (.tuple #[.agg #[.int .i64 n, .slice none 0 0], .int .i64 1]) ∧ Below w.heap.size w w' := by
  have B0 := hid (show Below w.heap.size w (w.alloc (.cells #[.int .i64 0, .slice none 0 0] 83)) from Below.alloc (Below.refl _ _) (Nat.le_refl _) _)
  have HX := hid (RB.new 83 w 0 none 0 0)
  rcases h with rfl | ⟨b, rfl, c⟩
  · go_enter Tryz.func31, Tryz.ntmps31
    go_wp2
    refine bodyPost_ret (Jrn.ret_rec rfl agg83 size83 rfl HX.out) rfl ?_
    exact ⟨0, rfl, B0.out⟩
  · have C := hid (hget_nil b 1 _ (keep_old B0.out c))
    have hbl := lt_cell c
    clear c
    go_enter Tryz.func31, Tryz.ntmps31
    go_wp2_with (go_at_call 63; refine C.out.mono ?_; rintro e w1 ⟨rfl, hb1⟩; have B1 := hid hb1; have X1 := hid ((HX.out.keep hb1).keep (Below.alloc (Below.refl _ _) (Nat.le_refl _) (.cells #[.int .i64 1, .slice none 0 0] 81))); obtain ⟨x0, x1, x2, x3⟩ := X1.out.cells; clear hb1)
    refine bodyPost_ret (Jrn.ret_rec rfl agg83 size83 rfl (RB.set X1.out _ _ _ _)) rfl ?_
    exact ⟨1, rfl, Jrn.below_fr ((Fr.of_below (gt (gt B0.out B1.out) (Below.alloc (Below.refl _ _) (Nat.le_refl _) (.cells #[.int .i64 1, .slice none 0 0] 81)))).trans (fr_two _ w.heap.size _ _) (fun j hj h => by omega))⟩

set_option maxHeartbeats 1000000 in
theorem hchg_bad (v : Value) (w : World) (h : HZ w v) : Calls Tryz.prog 34 #[v] w fun e w' => ∃ n, e = .returned (.tuple #[.agg #[.int .i64 n, .slice none 0 0], .int .i64 1]) ∧ Below w.heap.size w w' := by
  have B0 := hid (show Below w.heap.size w (w.alloc (.cells #[.int .i64 0, .slice none 0 0] 83)) from Below.alloc (Below.refl _ _) (Nat.le_refl _) _)
  have HX := hid (RB.new 83 w 0 none 0 0)
  rcases h with rfl | ⟨b, rfl, c⟩
  · go_enter Tryz.func34, Tryz.ntmps34
    go_wp2
    refine bodyPost_ret (Jrn.ret_rec rfl agg83 size83 rfl HX.out) rfl ?_
    exact ⟨0, rfl, B0.out⟩
  · have c0 := keep_old B0.out c
    clear c
    go_enter Tryz.func34, Tryz.ntmps34
    go_wp2_with (go_at_call 45; refine (hwithin_nil _).mono ?_; rintro e w1 ⟨rfl, hb1⟩; have B1 := hid hb1; have X1 := hid (HX.out.keep hb1); obtain ⟨x0, x1, x2, x3⟩ := X1.out.cells; clear hb1)
    refine bodyPost_ret (Jrn.ret_rec rfl agg83 size83 rfl (RB.set X1.out _ _ _ _)) rfl ?_
    exact ⟨0, rfl, Jrn.below_fr ((Fr.of_below (gt B0.out B1.out)).trans (fr_two w1 w.heap.size _ _) (fun j hj h => by omega))⟩

set_option maxHeartbeats 1000000 in
theorem Take_bad (v : Value) (w : World) (h : HZ w v) : Calls Tryz.prog 15 #[v] w fun e w' => e = .returned (.tuple #[.int .i64 0, .int .i64 1]) ∧ Below w.heap.size w w' := by
  have C := hid (hchg_bad v w h)
  clear h
  go_enter Tryz.func15, Tryz.ntmps15
  go_wp2_with (go_at_call 34; refine C.out.mono ?_; rintro e w1 ⟨n1, rfl, hb1⟩; have B1 := hid hb1; clear hb1)
  go_ret2
  exact ⟨rfl, gt B1.out (Below.alloc (Below.refl _ _) (Nat.le_refl _) _)⟩

set_option maxHeartbeats 1000000 in
theorem All_bad (v : Value) (w : World) (h : HZ w v) : Calls Tryz.prog 11 #[v] w fun e w' => e = .returned (.tuple #[.slice none 0 0, .int .i64 1]) ∧ Below w.heap.size w w' := by
  have C := hid (hroot_bad v w h)
  clear h
  go_enter Tryz.func11, Tryz.ntmps11
  go_wp2_with (go_at_call 31; refine C.out.mono ?_; rintro e w1 ⟨n1, rfl, hb1⟩; have B1 := hid hb1; clear hb1)
  go_ret2
  exact ⟨rfl, gt B1.out (Below.alloc (Below.refl _ _) (Nat.le_refl _) _)⟩

set_option maxHeartbeats 1000000 in
theorem Count_bad (v : Value) (w : World) (h : HZ w v) : Calls Tryz.prog 12 #[v] w fun e w' => e = .returned (.tuple #[.int .i64 0, .int .i64 1]) ∧ Below w.heap.size w w' := by
  have C := hid (hroot_bad v w h)
  clear h
  go_enter Tryz.func12, Tryz.ntmps12
  go_wp2_with (go_at_call 31; refine C.out.mono ?_; rintro e w1 ⟨n1, rfl, hb1⟩; have B1 := hid hb1; clear hb1)
  go_ret2
  exact ⟨rfl, gt B1.out (Below.alloc (Below.refl _ _) (Nat.le_refl _) _)⟩

set_option maxHeartbeats 1000000 in
theorem Word_bad (v : Value) (i : Int) (w : World) (h : HZ w v) : Calls Tryz.prog 24 #[v, .int .i64 i] w fun e w' => e = .returned (.tuple #[.int .i64 0, .int .i64 1]) ∧ Below w.heap.size w w' := by
  have C := hid (hroot_bad v w h)
  clear h
  go_enter Tryz.func24, Tryz.ntmps24
  go_wp2_with (go_at_call 31; refine C.out.mono ?_; rintro e w1 ⟨n1, rfl, hb1⟩; have B1 := hid hb1; clear hb1)
  go_ret2
  exact ⟨rfl, gt B1.out (Below.alloc (Below.refl _ _) (Nat.le_refl _) _)⟩

set_option maxHeartbeats 1000000 in
theorem Give_bad (v : Value) (i : Int) (w : World) (h : HZ w v) : Calls Tryz.prog 16 #[v, .int .i64 i] w fun e w' => e = .returned (.int .i64 1) ∧ Below w.heap.size w w' := by
  have C := hid (hchg_bad v w h)
  clear h
  go_enter Tryz.func16, Tryz.ntmps16
  go_wp2_with (go_at_call 34; refine C.out.mono ?_; rintro e w1 ⟨n1, rfl, hb1⟩; have B1 := hid hb1; clear hb1)
  go_ret
  exact ⟨rfl, gt B1.out (Below.alloc (Below.refl _ _) (Nat.le_refl _) _)⟩

set_option maxHeartbeats 1000000 in
theorem Set_bad (v : Value) (i n : Int) (w : World) (h : HZ w v) : Calls Tryz.prog 21 #[v, .int .i64 i, .int .i64 n] w fun e w' => e = .returned (.int .i64 1) ∧ Below w.heap.size w w' := by
  have C := hid (hchg_bad v w h)
  clear h
  go_enter Tryz.func21, Tryz.ntmps21
  go_wp2_with (go_at_call 34; refine C.out.mono ?_; rintro e w1 ⟨n1, rfl, hb1⟩; have B1 := hid hb1; clear hb1)
  go_ret
  exact ⟨rfl, gt B1.out (Below.alloc (Below.refl _ _) (Nat.le_refl _) _)⟩

set_option maxHeartbeats 1000000 in
theorem Trim_bad (v : Value) (i : Int) (w : World) (h : HZ w v) : Calls Tryz.prog 25 #[v, .int .i64 i] w fun e w' => e = .returned (.int .i64 1) ∧ Below w.heap.size w w' := by
  have B0 := hid (show Below w.heap.size w (w.alloc (.cells #[.int .i64 i] 3)) from Below.alloc (Below.refl _ _) (Nat.le_refl _) _)
  have C := hid (hchg_bad v _ (h.keep B0.out))
  clear h
  go_enter Tryz.func25, Tryz.ntmps25
  go_wp2_with (go_at_call 34; refine C.out.mono ?_; rintro e w1 ⟨n1, rfl, hb1⟩; have B1 := hid (gt B0.out hb1); clear hb1)
  go_ret
  exact ⟨rfl, gt B1.out (Below.alloc (Below.refl _ _) (Nat.le_refl _) _)⟩

set_option maxHeartbeats 1000000 in
theorem Pager_bad (v : Value) (w : World) (h : HZ w v) : Calls Tryz.prog 26 #[v] w fun e w' => e = .returned (.pointer none) ∧ w' = w := by
  rcases h with rfl | ⟨b, rfl, c⟩
  · go_enter Tryz.func26, Tryz.ntmps26
    go_wp2
    go_ret
    exact ⟨rfl, rfl⟩
  · go_enter Tryz.func26, Tryz.ntmps26
    go_wp2
    go_ret
    exact ⟨rfl, rfl⟩

set_option maxHeartbeats 1000000 in
theorem Make_nil (w : World) : Calls Tryz.prog 20 #[.pointer none] w fun e w' => e = .returned (.tuple #[.pointer none, .int .i64 1]) ∧ Below w.heap.size w w' := by
  have t : True := trivial
  go_enter Tryz.func20, Tryz.ntmps20
  go_wp2_with (go_at_call 45; refine (hwithin_nil _).mono ?_; rintro e w1 ⟨rfl, hb1⟩; have B1 := hid hb1; clear hb1)
  go_ret2
  exact ⟨rfl, B1.out⟩

set_option maxHeartbeats 1000000 in
theorem Open_nil (w : World) : Calls Tryz.prog 23 #[.pointer none] w fun e w' => e = .returned (.tuple #[.pointer none, .int .i64 1]) ∧ Below w.heap.size w w' := by
  have B0 := hid (show Below w.heap.size w (w.alloc (.cells #[.pointer none] 63)) from Below.alloc (Below.refl _ _) (Nat.le_refl _) _)
  have C := hid (hroot_bad (.pointer (some ⟨w.heap.size, 0, none⟩)) (w.alloc (.cells #[.pointer none] 63)) (Or.inr ⟨_, rfl, by rw [World.cell?_alloc_new]; rfl⟩))
  go_enter Tryz.func23, Tryz.ntmps23
  go_wp2_with (go_at_call 31; refine C.out.mono ?_; rintro e w1 ⟨n1, rfl, hb1⟩; have B1 := hid (gt B0.out hb1); clear hb1)
  go_ret2
  exact ⟨rfl, gt B1.out (Below.alloc (Below.refl _ _) (Nat.le_refl _) _)⟩

section
variable {arm : Prop} {room croom K : Nat} {p q : Nat} {R : Nat → Prop} {t : RS} {w : World}
set_option maxHeartbeats 1000000 in
theorem Open_none (h : PrgAt arm room croom K w p q R t) (hn : t.pages.length = 0) : Calls Tryz.prog 23 #[.pointer (some ⟨p, 0, none⟩)] w fun e w' => e = .returned (.tuple #[.pointer none, .int .i64 9]) ∧ PrgAt arm room croom (K + 1) w' p q R t ∧ Rok R w w' := by
  have B0 := hid (show Below w.heap.size w (w.alloc (.cells #[.pointer (some ⟨p, 0, none⟩)] 63)) from Below.alloc (Below.refl _ _) (Nat.le_refl _) _)
  have C := hid (root_no w.heap.size (h.new B0.out (Nat.le_refl _) (by simp)) (heap_alloc_new _ _) hn)
  clear h
  go_enter Tryz.func23, Tryz.ntmps23
  go_wp2_with (go_at_call 31; refine C.out.mono ?_; rintro e w1 ⟨rfl, hP1, hok1⟩; have P1 := hid hP1; have K1 := hid hok1; clear hP1 hok1)
  go_ret2
  have BA : Below w1.heap.size w1 (w1.alloc (.cells #[.int .i64 1, .slice none 0 0] 83)) := Below.alloc (Below.refl _ _) (Nat.le_refl _) _
  exact ⟨rfl, (P1.out.less (fun b hb => Or.inl hb)).keep BA, (Rok.after B0.out K1.out (fun b hb => Or.inl hb)).below BA⟩
end
end Go.Proofs.YtgjgkpnjchflaaaGreatDoor

/- A heap that no call made (FreeNone); no statement of the seat is proved here. -/
namespace Go.Proofs.YtgjgkpnjchflaaaGreatDoor
open Go.RowKit Go.Maps
open Dsk (gt hid undrew keep_old keep_cell lt_cell Rd DS FS Sec DiskP newD)
open Cch (CS CP Fr wpAnyK wpAnyK_done wp_region_K)

/-- What is held while a heap that no call made is asked. -/
def NS8 (w : World) (b : Nat) (i n : Int) (v : Value) (W : World) : Prop := (W.cell? ⟨b, 1, none⟩ = some (.int .i64 i) ∧ W.cell? ⟨b, 2, none⟩ = some (.int .i64 n)) ∧ HZ W v ∧ Below w.heap.size w W
theorem NS8.keep {w : World} {b : Nat} {i n : Int} {v : Value} {W W' : World} (h : NS8 w b i n v W) (hb : Below W.heap.size W W') : NS8 w b i n v W' := ⟨⟨keep_old hb h.1.1, keep_old hb h.1.2⟩, h.2.1.keep hb, gt h.2.2 hb⟩
theorem seven (i : Nat) (hi : i < 7) (W : World) : (Instr.index 65 (.agg #[.int .i64 1, .int .i64 1, .int .i64 1, .int .i64 1, .int .i64 1, .int .i64 1, .int .i64 1]) (.int .i64 (i : Int))).run Tryz.prog W = .ok (.int .i64 1) W := by
  rcases i with _ | _ | _ | _ | _ | _ | _ | i
  all_goals first | omega | kernel_rfl

set_option maxHeartbeats 8000000 in
set_option maxRecDepth 20000 in
theorem none_any (k i n : Int) (w : World) (hT : Jrn.Tab w) (h0 : 0 < w.heap.size) :
    Calls Tryz.prog 6 #[.agg #[.int .i64 k, .int .i64 i, .int .i64 n]] w fun e w' => e = .returned (.bool true) ∧ Below w.heap.size w w' := by
  obtain ⟨W0, hW0⟩ : ∃ W0, W0 = w.alloc (.cells #[.int .i64 k, .int .i64 i, .int .i64 n] 35) := ⟨_, rfl⟩
  have B0 := hid (show Below w.heap.size w W0 by rw [hW0]; exact Below.alloc (Below.refl _ _) (Nat.le_refl _) _)
  have C0 := hid (show W0.cell? ⟨w.heap.size, 1, none⟩ = some (.int .i64 i) ∧ W0.cell? ⟨w.heap.size, 2, none⟩ = some (.int .i64 n) by rw [hW0]; constructor <;> (rw [World.cell?_alloc_new]; rfl))
  have c17 := hid (Dsk.new_yes 100 W0 (by omega) (by omega))
  have HT := hid (hT.keep B0.out); have H0 := hid (show 0 < W0.heap.size from Nat.lt_of_lt_of_le h0 B0.out.size)
  have HW0 := hid hW0; have HP := hid h0
  clear hT h0 hW0
  have t1 : Hid True := hid trivial
  go_enter Tryz.func6, Tryz.ntmps6
  go_upto_region 9 with (first
    | (go_at_call 17; rw [← HW0.out]; refine c17.out.mono ?_; rintro e w1 ⟨rfl, ⟨P1, hd1, ha1⟩, hb1⟩; have D1 := hid hd1; have K1 := hid ha1; have B1 := hid hb1; clear hd1 ha1 hb1)
    | (go_at_call 18; refine (open_clean W0.heap.size 8 P1 (newD 100) [] w1 D1.out (clean_new 100) whole_nil (by simp) (by omega) (by omega) (HT.out.keep B1.out) ⟨by have := H0.out; have := B1.out.size; omega, fun hd => by rcases hd with h1 | h1; (have := H0.out; omega); (have := K1.out 0 h1; omega)⟩ (by show 0 ≤ _; omega)).mono ?_; rintro e w2 ⟨p, x, rfl, ho⟩; have N2 := hid (prg_new B1.out K1.out ho); clear ho)
    | (go_at_call 23; clear t1; refine (Open_none N2.out.1 rfl).mono ?_; rintro e w3 ⟨rfl, hP3, hok3⟩; have P3 := hid hP3; have K3 := hid (N2.out.2.then hok3 (fun _ h => h)); clear hP3 hok3)
    | (go_at_call 19; refine (prg_begin P3.out).mono ?_; rintro e w4 ⟨rfl, _, hok4⟩; have K4 := hid (old_below (K3.out.then hok4 (fun _ h => h))); clear hok4)
    | (go_at_call 20; refine (Make_nil w4).mono ?_; rintro e w5 ⟨rfl, hb5⟩; have B5 := hid (gt K4.out hb5); clear hb5)
    | (go_at_call 23; refine (Open_nil w5).mono ?_; rintro e w6 ⟨rfl, hb6⟩; have B6 := hid (gt B5.out hb6); clear hb6))
  obtain ⟨W7, hW7⟩ : ∃ W7, W7 = w6.alloc (.cells #[.pointer none] 63) := ⟨_, rfl⟩
  have B7 := hid (gt B6.out (show Below w6.heap.size w6 W7 by rw [hW7]; exact Below.alloc (Below.refl _ _) (Nat.le_refl _) _))
  have Z7 := hid (show W7.cell? ⟨w6.heap.size, 0, none⟩ = some (.pointer none) by rw [hW7, World.cell?_alloc_new]; rfl)
  rw [← hW7]
  clear hW7 c17
  have ix : ∀ j : Nat, j < 2 → ∃ v, (∀ W, (Instr.index 64 (.agg #[.pointer none, .pointer (some ⟨w6.heap.size, 0, none⟩)]) (.int .i64 (j : Int))).run Tryz.prog W = .ok v W) ∧ HZ W7 v := by
    intro j hj
    rcases j with _ | _ | j
    · exact ⟨_, fun W => by kernel_rfl, Or.inl rfl⟩
    · exact ⟨_, fun W => by kernel_rfl, Or.inr ⟨_, rfl, Z7.out⟩⟩
    · omega
  have IX := hid ix
  have h7 := fun (j : Nat) (hj : j < 7) (W : World) => seven j hj W
  have H7 := hid h7
  clear ix h7
  go_wp2
  go_loopw [55] (fun c W => ∃ j : Nat, j ≤ 2 ∧ c = .int .i64 (j : Int) ∧ Hid (Below W7.heap.size W7 W)) (fun c _ => 2 - (Lib.intOf c).toNat)
  case atStart => exact ⟨0, by omega, rfl, hid (Below.refl _ _)⟩
  case round =>
    obtain ⟨j, hj, rfl, hbw⟩ := hrel
    by_cases hj2 : j < 2
    · obtain ⟨v, ixv, hnv⟩ := IX.out j hj2
      have hj2' : (j : Int) < 2 := by omega
      have N0 : Hid (NS8 W7 w.heap.size i n v wr) := hid ⟨⟨keep_old hbw.out (keep_old B7.out C0.out.1), keep_old hbw.out (keep_old B7.out C0.out.2)⟩, hnv.keep hbw.out, hbw.out⟩
      clear hnv hbw
      go_upto_region 16 with (first
        | (go_at_call 15; refine (Take_bad _ _ N0.out.2.1).mono ?_; rintro e w1x ⟨rfl, hbx⟩; have N1 := hid (NS8.keep N0.out hbx); clear hbx N0)
        | (go_at_call 11; refine (All_bad _ _ N1.out.2.1).mono ?_; rintro e w2x ⟨rfl, hbx⟩; have N2 := hid (NS8.keep N1.out hbx); clear hbx N1)
        | (go_at_call 12; refine (Count_bad _ _ N2.out.2.1).mono ?_; rintro e w3x ⟨rfl, hbx⟩; have N3 := hid (NS8.keep N2.out hbx); obtain ⟨a0, a1⟩ := N3.out.1; clear hbx N2)
        | (go_at_call 24; refine (Word_bad _ _ _ N3.out.2.1).mono ?_; rintro e w4x ⟨rfl, hbx⟩; have N4 := hid (NS8.keep N3.out hbx); clear hbx N3 a0 a1))
      clear ixv
      have HS : NS8 W7 w.heap.size i n v w4x.drew := N4.out.keep ((Below.refl _ _).drew)
      refine wp_region_K (S := NS8 W7 w.heap.size i n v) (fun _ => false) (by kernel_rfl) HS (fun hHeld => ?_)
      clear HS N4
      refine gkp 0 ?_
      refine gkp 1 ?_
      refine gkp 2 ?_
      refine gkp 3 ?_
      refine gkp 4 ?_
      refine gkp 5 ?_
      refine gkt 6 ?_ (h := by intro W hSw; obtain ⟨⟨a0, a1⟩, _⟩ := hSw; go_simp; first | done | with_reducible rfl)
      refine gkp 8 ?_
      refine gkp 9 ?_
      refine gkt 10 ?_ (h := by intro W hSw; obtain ⟨⟨a0, a1⟩, _⟩ := hSw; go_simp; first | done | with_reducible rfl)
      refine gkp 11 ?_
      refine gkt 12 ?_ (h := by intro W hSw; obtain ⟨⟨a0, a1⟩, _⟩ := hSw; go_simp; first | done | with_reducible rfl)
      refine gkp 14 ?_
      refine gkp 15 ?_
      refine gkt 16 ?_ (h := by intro W hSw; obtain ⟨⟨a0, a1⟩, _⟩ := hSw; go_simp; first | done | with_reducible rfl)
      refine gkp 19 ?_
      refine gk1 7 (fun K hK => ?_)
      go_simp
      go_at_call 16; refine (Give_bad _ _ _ hHeld.2.1).mono ?_; rintro e wx ⟨rfl, hbx⟩; have hR := NS8.keep hHeld hbx; clear hbx
      refine hK.out _ _ hR (fun hHeld => ?_)
      clear hK K
      (try simp only [Act.put, sA, sZ, sS])
      clear hR
      refine gk1 13 (fun K hK => ?_)
      go_simp
      go_at_call 21; refine (Set_bad _ _ _ _ hHeld.2.1).mono ?_; rintro e wx ⟨rfl, hbx⟩; have hR := NS8.keep hHeld hbx; clear hbx
      refine hK.out _ _ hR (fun hHeld => ?_)
      clear hK K
      (try simp only [Act.put, sA, sZ, sS])
      clear hR
      refine gk1 17 (fun K hK => ?_)
      go_simp
      go_at_call 25; refine (Trim_bad _ _ _ hHeld.2.1).mono ?_; rintro e wx ⟨rfl, hbx⟩; have hR := NS8.keep hHeld hbx; clear hbx
      refine hK.out _ _ hR (fun hHeld => ?_)
      clear hK K
      (try simp only [Act.put, sA, sZ, sS])
      clear hR
      refine gkp 18 ?_
      refine wpAnyK_done (by kernel_rfl) ?_ _
      have N5 := hid hHeld
      clear hHeld
      go_wp2
      go_loopw [99] (fun c W => ∃ m : Nat, m ≤ 7 ∧ c = .int .i64 (m : Int) ∧ Hid (NS8 W7 w.heap.size i n v W)) (fun c _ => 7 - (Lib.intOf c).toNat)
      case atStart => exact ⟨0, by omega, rfl, N5⟩
      case round =>
        obtain ⟨m, hm, rfl, N6⟩ := hrel
        by_cases hm7 : m < 7
        · have hm' : (m : Int) < 7 := by omega
          have s7 := H7.out m hm7
          go_wp2
          go_roundw
          case measure => simp [Lib.intOf]; omega
          case rel => exact ⟨m + 1, by omega, by go_num, N6⟩
        · have hm' : ¬ (m : Int) < 7 := by omega
          go_wp2_with (go_at_call 26; refine (Pager_bad _ _ N6.out.2.1).mono ?_; rintro e wx ⟨rfl, hwx⟩; obtain rfl := hwx.symm; clear hwx)
          go_roundw
          case measure => simp [Lib.intOf]; omega
          case rel => exact ⟨j + 1, by omega, by go_num, hid N6.out.2.2⟩
    · have hj2' : ¬ (j : Int) < 2 := by omega
      have HB := hid (gt (gt B0.out B7.out) hbw.out)
      have CL := hid (lives_any wr ((HT.out.keep B7.out).keep hbw.out) (by have h1 := HB.out.size; have h2 := HP.out; omega))
      go_wp2_with (go_at_call 7; refine CL.out.mono ?_; rintro e w9 ⟨rfl, hb9⟩; have B9 := hid hb9; clear hb9)
      go_ret
      exact ⟨rfl, gt HB.out B9.out⟩
end Go.Proofs.YtgjgkpnjchflaaaGreatDoor
