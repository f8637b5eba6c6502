/- Reads of a live pager; no statement of the seat is proved here. -/
import Derived.Test.YtgjgkpnjchflaaaGreatDoorG28
import Derived.Test.YtgjgkpnjchflaaaGreatDoorG24
import Derived.Test.YtgjgkpnjchflaaaGreatDoorG17
import Derived.Test.YtgjgkpnjchflaaaGreatDoorG29
import Derived.Shelf.SlMaps.DeleteFunc
namespace Go.Proofs.YtgjgkpnjchflaaaGreatDoor
open Go.RowKit Go.Maps
open Dsk (gt hid undrew keep_old keep_cell lt_cell DS DiskP)
open Cch (CS CP)

set_option maxHeartbeats 1000000 in
theorem pages_live (p : Nat) (x : PC) (w : World) (h : PgAt w p x) : Calls Tryz.prog 10 #[.pointer (some ⟨p, 0, none⟩)] w fun e w' => e = .returned (.int .i64 (x.np : Int)) ∧ Below w.heap.size w w' := by
  have c := hid (fault_any p true 0 w h.fate)
  have H := hid h
  clear h
  go_enter Tryz.func10, Tryz.ntmps10
  go_wp2_with (go_at_call 30; refine c.out.mono ?_; rintro e w1 ⟨rfl, hb1⟩; have B1 := hid hb1; obtain ⟨a0, a1, a2, a3, a4, a5, a6, a7, a8, a9, a10, a11⟩ := (H.out.later hb1).cells; clear hb1)
  go_ret
  exact ⟨rfl, B1.out⟩

set_option maxHeartbeats 1000000 in
theorem busy_live (p : Nat) (x : PC) (w : World) (h : PgAt w p x) : Calls Tryz.prog 85 #[.pointer (some ⟨p, 0, none⟩)] w fun e w' => e = .returned (.bool x.busy) ∧ Below w.heap.size w w' := by
  have c := within_live p x w h
  clear h
  obtain ⟨b, hb⟩ : ∃ b, x.busy = b := ⟨_, rfl⟩
  rw [hb] at c ⊢
  have C := hid c
  clear c hb
  cases b
  · go_enter Tryz.func85, Tryz.ntmps85
    go_wp2_with (go_at_call 50; refine C.out.mono ?_; rintro e w1 ⟨rfl, hb1⟩; have B1 := hid hb1; clear hb1)
    go_ret
    exact ⟨by simp, B1.out⟩
  · go_enter Tryz.func85, Tryz.ntmps85
    go_wp2_with (go_at_call 50; refine C.out.mono ?_; rintro e w1 ⟨rfl, hb1⟩; have B1 := hid hb1; clear hb1)
    go_ret
    exact ⟨by simp, B1.out⟩

end Go.Proofs.YtgjgkpnjchflaaaGreatDoor

/- Rollback, and what is changed, of a live pager; no statement of the seat is proved here. -/
namespace Go.Proofs.YtgjgkpnjchflaaaGreatDoor
open Go.RowKit Go.Maps
open Dsk (gt hid undrew keep_old keep_cell lt_cell DS DiskP Sec)
open Cch (CS CP Fr)

end Go.Proofs.YtgjgkpnjchflaaaGreatDoor

/- Errors of a live pager's calls; no statement of the seat is proved here. -/
namespace Go.Proofs.YtgjgkpnjchflaaaGreatDoor
open Go.RowKit Go.Maps
open Dsk (gt hid undrew keep_old keep_cell lt_cell DS DiskP Sec op_at)
open Cch (CS CP Fr wpAnyK wpAnyK_take wpAnyK_pure wpAnyK_ready wpAnyK_done wp_region_K AllReadyK.cons AllReadyK.nil)

set_option maxHeartbeats 1000000 in
theorem put_state (p : Nat) (x : PC) (z : Int) (v : Value) (w : World) (h : PgAt w p x) (hb : x.busy = false) : Calls Tryz.prog 86 #[.pointer (some ⟨p, 0, none⟩), .int .i64 z, v] w fun e w' => e = .returned (.int .i64 6) ∧ Below w.heap.size w w' := by
  have cw := within_live p x w h
  rw [hb] at cw
  have CW := hid cw
  clear cw h hb
  go_enter Tryz.func86, Tryz.ntmps86
  go_wp2_with (go_at_call 50; refine CW.out.mono ?_; rintro e w1 ⟨rfl, hb1⟩; have B1 := hid hb1; clear hb1)
  go_ret
  exact ⟨rfl, B1.out⟩

set_option maxHeartbeats 1000000 in
theorem grow_state (p : Nat) (x : PC) (w : World) (h : PgAt w p x) (hb : x.busy = false) : Calls Tryz.prog 35 #[.pointer (some ⟨p, 0, none⟩)] w fun e w' => e = .returned (.tuple #[.int .i64 0, .int .i64 6]) ∧ Below w.heap.size w w' := by
  have cw := within_live p x w h
  rw [hb] at cw
  have CW := hid cw
  clear cw h hb
  go_enter Tryz.func35, Tryz.ntmps35
  go_wp2_with (go_at_call 50; refine CW.out.mono ?_; rintro e w1 ⟨rfl, hb1⟩; have B1 := hid hb1; clear hb1)
  go_ret2
  exact ⟨rfl, B1.out⟩

set_option maxHeartbeats 1000000 in
theorem commit_state (p : Nat) (x : PC) (w : World) (h : PgAt w p x) (hb : x.busy = false) : Calls Tryz.prog 22 #[.pointer (some ⟨p, 0, none⟩)] w fun e w' => e = .returned (.int .i64 6) ∧ Below w.heap.size w w' := by
  have cw := within_live p x w h
  rw [hb] at cw
  have CW := hid cw
  clear cw h hb
  go_enter Tryz.func22, Tryz.ntmps22
  go_wp2_with (go_at_call 50; refine CW.out.mono ?_; rintro e w1 ⟨rfl, hb1⟩; have B1 := hid hb1; clear hb1)
  go_ret
  exact ⟨rfl, B1.out⟩

set_option maxHeartbeats 1000000 in
theorem shrink_state (p : Nat) (x : PC) (z : Int) (w : World) (h : PgAt w p x) (hb : x.busy = false) : Calls Tryz.prog 61 #[.pointer (some ⟨p, 0, none⟩), .int .i64 z] w fun e w' => e = .returned (.int .i64 6) ∧ Below w.heap.size w w' := by
  have A0 : Below w.heap.size w (w.alloc (.cells #[.int .i64 z] 3)) := Below.alloc (Below.refl _ _) (Nat.le_refl _) _
  have cw := within_live p x _ (h.later A0)
  rw [hb] at cw
  have CW := hid cw; have HA := hid A0
  clear cw h hb A0
  go_enter Tryz.func61, Tryz.ntmps61
  go_wp2_with (go_at_call 50; refine CW.out.mono ?_; rintro e w1 ⟨rfl, hb1⟩; have B1 := hid hb1; clear hb1)
  go_ret
  exact ⟨rfl, gt HA.out B1.out⟩

set_option maxHeartbeats 1000000 in
theorem shrink_range (p : Nat) (x : PC) (z : Int) (w : World) (h : PgAt w p x) (hb : x.busy = true) (hz : z < 0 ∨ (x.np : Int) < z) : Calls Tryz.prog 61 #[.pointer (some ⟨p, 0, none⟩), .int .i64 z] w fun e w' => e = .returned (.int .i64 11) ∧ Below w.heap.size w w' := by
  have A0 : Below w.heap.size w (w.alloc (.cells #[.int .i64 z] 3)) := Below.alloc (Below.refl _ _) (Nat.le_refl _) _
  have cw := within_live p x _ (h.later A0)
  have zc : (w.alloc (.cells #[.int .i64 z] 3)).cell? ⟨w.heap.size, 0, none⟩ = some (.int .i64 z) := by rw [World.cell?_alloc_at _ _ _ _ rfl]; rfl
  rw [hb] at cw
  have CW := hid cw; have HA := hid A0; have H := hid h; have ZC := hid zc
  clear cw h hb A0 zc
  by_cases h1 : z < 0
  · go_enter Tryz.func61, Tryz.ntmps61
    go_wp2_with (go_at_call 50; refine CW.out.mono ?_; rintro e w1 ⟨rfl, hb1⟩; have B1 := hid hb1; clear hb1)
    refine wp_region_K (S := Gr w1.drew) (fun _ => false) (by kernel_rfl) (Below.refl _ _) (fun hHeld => ?_)
    refine gkt 0 ?_ (h := by intro W hSw; have z1 := keep_old (undrew hSw) (keep_old B1.out ZC.out); go_simp; first | done | with_reducible rfl)
    refine gkp 1 ?_
    refine gkp 2 ?_ (v := .bool true) (h := by intro W hSw; go_simp; first | done | with_reducible rfl | simp [h1])
    refine gku 3 ?_
    refine gku 4 ?_
    refine gku 5 ?_
    refine gku 6 ?_
    refine gku 7 ?_
    refine gku 8 ?_
    refine gku 9 ?_
    refine gkp 10 ?_
    refine wpAnyK_done (by kernel_rfl) ?_ _
    clear hHeld
    go_wp2
    go_ret
    exact ⟨rfl, (gt HA.out B1.out).drew⟩
  · have h2 : (x.np : Int) < z := by omega
    go_enter Tryz.func61, Tryz.ntmps61
    go_wp2_with (go_at_call 50; refine CW.out.mono ?_; rintro e w1 ⟨rfl, hb1⟩; have B1 := hid hb1; clear hb1)
    refine wp_region_K (S := Gr w1.drew) (fun _ => false) (by kernel_rfl) (Below.refl _ _) (fun hHeld => ?_)
    refine gkt 0 ?_ (h := by intro W hSw; have z1 := keep_old (undrew hSw) (keep_old B1.out ZC.out); go_simp; first | done | with_reducible rfl)
    refine gkp 1 ?_
    refine gkp 2 ?_ (v := .bool false) (h := by intro W hSw; go_simp; first | done | with_reducible rfl | simp [h1])
    refine gkt 3 ?_ (h := by intro W hSw; have z1 := keep_old (undrew hSw) (keep_old B1.out ZC.out); go_simp; first | done | with_reducible rfl)
    refine gkp 4 ?_
    refine gkp 5 ?_
    refine gkp 6 ?_
    refine gkp 7 ?_
    refine gkt 8 ?_ (h := by intro W hSw; obtain ⟨a0, a1, a2, a3, a4, a5, a6, a7, a8, a9, a10, a11⟩ := (H.out.later (gt (gt HA.out B1.out) (undrew hSw))).cells; go_simp; first | done | with_reducible rfl)
    refine gkp 9 ?_
    refine gkp 10 ?_
    refine wpAnyK_done (by kernel_rfl) ?_ _
    clear hHeld
    go_wp2
    go_ret
    exact ⟨rfl, (gt HA.out B1.out).drew⟩

set_option maxHeartbeats 1000000 in
theorem grow_full (p : Nat) (x : PC) (w : World) (h : PgAt w p x) (hb : x.busy = true) (hn : 4000 ≤ x.np) : Calls Tryz.prog 35 #[.pointer (some ⟨p, 0, none⟩)] w fun e w' => e = .returned (.tuple #[.int .i64 0, .int .i64 3]) ∧ Below w.heap.size w w' := by
  have cw := within_live p x w h
  rw [hb] at cw
  have CW := hid cw; have H := hid h
  have hn' : (4000 : Int) ≤ (x.np : Int) := by omega
  clear cw h hb hn
  go_enter Tryz.func35, Tryz.ntmps35
  go_wp2_with (go_at_call 50; refine CW.out.mono ?_; rintro e w1 ⟨rfl, hb1⟩; have B1 := hid hb1; obtain ⟨a0, a1, a2, a3, a4, a5, a6, a7, a8, a9, a10, a11⟩ := (H.out.later hb1).cells; clear hb1)
  go_ret2
  exact ⟨rfl, B1.out⟩

set_option maxHeartbeats 1000000 in
theorem put_range (p : Nat) (x : PC) (z : Int) (v : Value) (w : World) (h : PgAt w p x) (hb : x.busy = true) (hz : (decide (1 ≤ z) && decide (z ≤ (x.np : Int))) = false) : Calls Tryz.prog 86 #[.pointer (some ⟨p, 0, none⟩), .int .i64 z, v] w fun e w' => e = .returned (.int .i64 11) ∧ Below w.heap.size w w' := by
  have cw := within_live p x w h
  rw [hb] at cw
  have CW := hid cw
  have CH := hid (fun W (hW : Below w.heap.size w W) => by have := has_any p x z W (h.later hW); rw [hz] at this; exact this)
  clear cw h hb hz
  go_enter Tryz.func86, Tryz.ntmps86
  go_wp2_with (first
    | (go_at_call 50; refine CW.out.mono ?_; rintro e w1 ⟨rfl, hb1⟩; have B1 := hid hb1; clear hb1)
    | (go_at_call 112; refine (CH.out w1 B1.out).mono ?_; rintro e w2 ⟨rfl, hb2⟩; have B2 := hid hb2; clear hb2))
  go_ret
  exact ⟨rfl, gt B1.out B2.out⟩

set_option maxHeartbeats 1000000 in
theorem put_arg (p : Nat) (x : PC) (z : Int) (ao : Option Addr) (l cap : Nat) (w : World) (h : PgAt w p x) (hb : x.busy = true) (hz : (decide (1 ≤ z) && decide (z ≤ (x.np : Int))) = true) (hl : l ≠ 512) : Calls Tryz.prog 86 #[.pointer (some ⟨p, 0, none⟩), .int .i64 z, .slice ao l cap] w fun e w' => e = .returned (.int .i64 2) ∧ Below w.heap.size w w' := by
  have cw := within_live p x w h
  rw [hb] at cw
  have CW := hid cw
  have CH := hid (fun W (hW : Below w.heap.size w W) => by have := has_any p x z W (h.later hW); rw [hz] at this; exact this)
  have hl' : ¬ (l : Int) = 512 := by omega
  clear cw h hb hz hl
  go_enter Tryz.func86, Tryz.ntmps86
  go_wp2_with (first
    | (go_at_call 50; refine CW.out.mono ?_; rintro e w1 ⟨rfl, hb1⟩; have B1 := hid hb1; clear hb1)
    | (go_at_call 112; refine (CH.out w1 B1.out).mono ?_; rintro e w2 ⟨rfl, hb2⟩; have B2 := hid hb2; clear hb2))
  go_ret
  exact ⟨rfl, gt B1.out B2.out⟩

set_option maxHeartbeats 1000000 in
theorem get_range (p : Nat) (x : PC) (z : Int) (w : World) (h : PgAt w p x) (hz : (decide (1 ≤ z) && decide (z ≤ (x.np : Int))) = false) : Calls Tryz.prog 100 #[.pointer (some ⟨p, 0, none⟩), .int .i64 z] w fun e w' => e = .returned (.tuple #[.slice none 0 0, .int .i64 11]) ∧ Below w.heap.size w w' := by
  have CW := hid (fault_any p true 0 w h.fate)
  have CH := hid (fun W (hW : Below w.heap.size w W) => by have := has_any p x z W (h.later hW); rw [hz] at this; exact this)
  clear h hz
  go_enter Tryz.func100, Tryz.ntmps100
  go_wp2_with (first
    | (go_at_call 30; refine CW.out.mono ?_; rintro e w1 ⟨rfl, hb1⟩; have B1 := hid hb1; clear hb1)
    | (go_at_call 112; refine (CH.out w1 B1.out).mono ?_; rintro e w2 ⟨rfl, hb2⟩; have B2 := hid hb2; clear hb2))
  go_ret2
  exact ⟨rfl, gt B1.out B2.out⟩

set_option maxHeartbeats 1000000 in
theorem begin_state (p : Nat) (x : PC) (w : World) (h : PgAt w p x) (hb : x.busy = true) : Calls Tryz.prog 19 #[.pointer (some ⟨p, 0, none⟩)] w fun e w' => e = .returned (.int .i64 6) ∧ Below w.heap.size w w' := by
  have CW := hid (fault_any p true 0 w h.fate)
  have H := hid h; have HB := hid hb
  clear h hb
  go_enter Tryz.func19, Tryz.ntmps19
  go_wp2_with (go_at_call 30; refine CW.out.mono ?_; rintro e w1 ⟨rfl, hb1⟩; have B1 := hid hb1; obtain ⟨a0, a1, a2, a3, a4, a5, a6, a7, a8, a9, a10, a11⟩ := (H.out.later hb1).cells; rw [HB.out] at a5; clear hb1)
  go_ret
  exact ⟨rfl, B1.out⟩

end Go.Proofs.YtgjgkpnjchflaaaGreatDoor

/- The program's Shrink and Get in a transaction; no statement of the seat is proved here. -/
namespace Go.Proofs
open Go.Shelf
def Tryz.delM_ren : Go.Shelf.Ren := ⟨fun | 5 => 98 | n => n, fun | 0 => 0 | 4 => 4 | 23 => 70 | 24 => 79 | 26 => 3 | 27 => 156 | n => n, fun | n => n⟩
theorem Tryz.delM : Go.Proofs.SlLaysDf.n5 Tryz.prog Tryz.delM_ren := {
  mixed := by kernel_rfl
  f5 := ⟨Tryz.f98.name, by decide, Tryz.func98.trans (congrArg some (by kernel_rfl))⟩
  t0 := Tryz.underlying0
  a0 := Tryz.isAgg0
  z0 := Tryz.sizeOf0
  v0 := Tryz.zeroValue0
  t4 := Tryz.underlying4
  a4 := Tryz.isAgg4
  z4 := Tryz.sizeOf4
  v4 := Tryz.zeroValue4
  t23 := Tryz.underlying70
  a23 := Tryz.isAgg70
  z23 := Tryz.sizeOf70
  v23 := Tryz.zeroValue70
  a24 := Tryz.isAgg79
  z24 := Tryz.sizeOf79
  a26 := Tryz.isAgg3
  z26 := Tryz.sizeOf3
  t27 := Tryz.underlying156
  a27 := Tryz.isAgg156
  z27 := Tryz.sizeOf156
  v27 := Tryz.zeroValue156 }
end Go.Proofs
namespace Go.Proofs.YtgjgkpnjchflaaaGreatDoor
open Go.RowKit Go.Maps
open Dsk (gt hid undrew keep_old keep_cell lt_cell Rd DS FS Sec DiskP DFrame Grew From op_at idx dirtD was secD)
open Cch (CS CP Fr wpAnyK wpAnyK_take wpAnyK_pure wpAnyK_ready wpAnyK_done wp_region_K AllReadyK.cons AllReadyK.nil)

set_option maxHeartbeats 400000 in
theorem above_any (B n : Nat) (k : Int) (v : Value) (W : World) (hc : W.cell? ⟨B, 0, none⟩ = some (.int .i64 (n : Int))) :
    Calls Tryz.prog 99 #[.int .i64 k, v, .pointer (some ⟨B, 0, none⟩)] W fun e w' => e = .returned (.bool (decide (((n + 1 : Nat) : Int) ≤ k))) ∧ w' = W := by
  have e : decide (((n + 1 : Nat) : Int) ≤ k) = decide ((n : Int) < k) := by
    rw [Bool.eq_iff_iff]; simp only [decide_eq_true_eq]; omega
  rw [e]
  clear e
  go_enter Tryz.func99, Tryz.ntmps99
  go_wp2
  go_ret
  exact ⟨rfl, rfl⟩

theorem grown_refl (w : World) : w.grownBy w none := ⟨rfl, rfl, rfl, Nat.le_refl _, fun _ _ _ => rfl⟩

theorem delete_any (c : List Bool) (enc : List Sec) (n B m N : Nat) (w : World) (hown : w.ownsMap Tryz.prog 3 slR m N (dirtD (false :: c) enc)) (hc : w.cell? ⟨B, 0, none⟩ = some (.int .i64 (n : Int))) :
    Calls Tryz.prog 98 #[.map (some m), .func (.func 99) #[] #[.pointer (some ⟨B, 0, none⟩)]] w fun e w' => e = .returned (.tuple #[]) ∧ w'.ownsMap Tryz.prog 3 slR m N (dirtD (false :: c.take n) (enc.take (n + 1))) ∧ w.grownBy w' (some m) := by
  have hBm : B ≠ m := fun e => by subst e; exact cell_no_map hown hc
  have L := AnyDf.maps_DeleteFunc (P := Tryz.prog) (ρ := Tryz.delM_ren) Tryz.delM (int_keyed Tryz.underlying3) slR (Dsk.behind (n + 1)) 99 #[.pointer (some ⟨B, 0, none⟩)] m N (dirtD (false :: c) enc) w (enters_of Tryz.func99 (by kernel_rfl) rfl) hown
    (fun W key val kl yd yp hg hkey hv => by
      obtain ⟨k, ek, rfl, hwk⟩ := keyOf_int_inv Tryz.underlying3 hkey
      subst ek
      refine (above_any B n k val W (hg.cell hc (by intro e; cases e; exact hBm rfl))).mono ?_
      rintro e w' ⟨rfl, rfl⟩
      exact ⟨rfl, grown_refl _⟩)
  refine (show Calls Tryz.prog 98 _ _ _ from L).mono ?_
  rintro e w' ⟨rfl, h1, h2⟩
  refine ⟨rfl, ?_, h2⟩
  have e := Dsk.cut_dirt (false :: c) enc (enc.take (n + 1)) (n + 1) (fun i hi => by
    unfold was
    simp only [List.getD, List.getElem?_take, if_pos hi])
  rw [List.take_succ_cons] at e
  have h3 : Lib.deleteFuncD (Dsk.behind (n + 1)) (dirtD (false :: c) enc) = dirtD (false :: c.take n) (enc.take (n + 1)) := e
  rw [← h3]; exact h1

theorem getD_takeB (c : List Bool) (n i : Nat) : (c.take n).getD i false = (decide (i < n) && c.getD i false) := by
  simp only [List.getD, List.getElem?_take]
  by_cases h : i < n
  · simp [h]
  · simp [h]

/-- Pages are fewer. -/
theorem Tx.shrunk {w w1 W : World} {p : Nat} {x : PC} {P : Dsk.Parts} {C : Cch.Parts} {d : DS} {s : CS} {sure : List Pg} {N : Nat} {now : List Pg} {c : List Bool} {enc : List Sec} (h : Tx w p x P C d s sure N now c enc) {n : Nat} (hn : n ≤ now.length) (h1 : w1 = w.setCell ⟨p, 6, none⟩ (.int .i64 (n : Int)))
    (hm : W.ownsMap Tryz.prog 3 slR x.m N (dirtD (false :: c.take n) (enc.take (n + 1)))) (hg : w1.grownBy W (some x.m)) : PutE w W p x { x with np := n } P C d s sure N (now.take n) (c.take n) enc := by
  have f1 : Fr (fun b => b = p) w w1 := by rw [h1]; exact set_frame (Fr.refl _ _)
  have hs1 : w1.heap.size = w.heap.size := by rw [h1]; simp
  have hpm : p ≠ x.m := fun e => h.mo.2 (Or.inr (Or.inr e.symm))
  have hP1 : PgAt w1 p { x with np := n } := by
    have := Cch.blk_set h.core.hd (i := 6) (v := .int .i64 (n : Int))
    unfold PgAt; rw [h1, this]; rfl
  have hall : ∀ b, b < w.heap.size → b ≠ p → b ≠ x.m → W.heap[b]? = w.heap[b]? := fun b hb hp hm => (hg.block b (by rw [hs1]; exact hb) (fun e => hm (by cases e; rfl))).trans (f1.blk b hb hp)
  have hPW : PgAt W p { x with np := n } := (hg.block p (by rw [hs1]; exact h.core.hd.lt) (fun e => hpm (by cases e; rfl))).trans hP1
  have hnc : ∀ b, NC p x P C b → b ≠ x.m := fun b hb e => h.mo.2 (e ▸ hb)
  have hsz : w.heap.size ≤ W.heap.size := by have := hg.size; omega
  have hcl := h.chg.len
  have hcore : Core W p { x with np := n } P C d s :=
    ⟨hPW, h.core.dk.stay hsz (fun b hb hd => hall b hb (fun e => h.core.dp (by rcases hd with h1 | h1; exact Or.inr (e ▸ h1); exact Or.inl (e ▸ h1))) (hnc b (Or.inl (by rcases hd with h1 | h1; exact Or.inr h1; exact Or.inl h1)))), h.core.ck.stay (fun b hb hS => hall b hb (fun e => h.core.cp (e ▸ hS)) (hnc b (Or.inr (Or.inl hS)))), h.core.dc, h.core.dp, h.core.cp⟩
  have hoo : ∀ b, Out w (NC p x P C) b → b ≠ p := fun b ho e => ho.2 (Or.inr (Or.inr e))
  refine ⟨⟨enc.take (n + 1), ⟨hcore, ⟨hm, by simp [hcl], by have := h.chg.el; simp; omega, fun i hi => ?_⟩, ⟨Nat.lt_of_lt_of_le h.mo.1 hsz, h.mo.2⟩, h.fits, h.pages, by simp; omega, h.ws, fun i hi => ?_, h.bs, by have := h.bn; simp; omega, tab_of h.tab (hall 0 h.t0.1 (hoo 0 h.t0) (fun e => h.tm e.symm)), ⟨Nat.lt_of_lt_of_le h.t0.1 hsz, h.t0.2⟩, h.tm, fun i hi hc => ?_⟩, fun e he => Or.inl (List.mem_of_mem_take he)⟩, ⟨hg.os.trans f1.os, hg.tape.trans f1.tape, hg.output.trans f1.output, hsz, fun b hb hn => hall b hb (fun e => hn (Or.inl e)) (fun e => hn (Or.inr e))⟩⟩
  · rw [getD_takeB] at hi
    simp only [Bool.and_eq_true, decide_eq_true_eq] at hi
    obtain ⟨b, o, cap, e1, e2, e3⟩ := h.chg.at_ i hi.2
    refine ⟨b, o, cap, ?_, ?_, ⟨Nat.lt_of_lt_of_le e3.1 hsz, e3.2⟩⟩
    · rw [← e1]; unfold was; simp only [List.getD, List.getElem?_take, if_pos (show i + 1 < n + 1 by omega)]
    · have eg : (now.take n).getD i [] = now.getD i [] := by simp only [List.getD, List.getElem?_take, if_pos hi.1]
      rw [eg]
      refine ⟨e2.1, e2.2.1, e2.2.2.1, fun hp => ?_⟩
      obtain ⟨b', o', eb, h2⟩ := e2.2.2.2 hp
      simp only [Option.some.injEq, Addr.mk.injEq, and_true] at eb
      obtain ⟨rfl, rfl⟩ := eb
      refine ⟨b, o, rfl, fun t ht => ?_⟩
      have hcc := h2 t ht
      exact (World.cell?_of_block (hall b e3.1 (hoo b e3) (fun e => by subst e; exact cell_no_map h.chg.map hcc))).trans hcc
  · simp only [List.length_take] at hi
    have eg : (now.take n).getD i [] = now.getD i [] := by simp only [List.getD, List.getElem?_take, if_pos (show i < n by omega)]
    rw [eg]; exact h.wn i (by omega)
  · simp only [List.length_take] at hi
    rw [getD_takeB] at hc
    have hc2 : c.getD i false = false := by
      cases hcc : c.getD i false with
      | false => rfl
      | true => rw [hcc] at hc; simp at hc; omega
    have eg : (now.take n).getD i [] = now.getD i [] := by simp only [List.getD, List.getElem?_take, if_pos (show i < n by omega)]
    rw [eg]; exact h.sm i (by omega) hc2

set_option maxHeartbeats 4000000 in
set_option maxRecDepth 20000 in
theorem shrink_yes (p n : Nat) (x : PC) (P : Dsk.Parts) (C : Cch.Parts) (d : DS) (s : CS) (sure : List Pg) (N : Nat) (now : List Pg) (c : List Bool) (enc : List Sec) (w : World) (h : Tx w p x P C d s sure N now c enc) (hb : x.busy = true) (hn : n ≤ now.length) :
    Calls Tryz.prog 61 #[.pointer (some ⟨p, 0, none⟩), .int .i64 (n : Int)] w fun e w' => e = .returned (.int .i64 0) ∧ PutE w w' p x { x with np := n } P C d s sure N (now.take n) (c.take n) enc := by
  obtain ⟨wa, hwa⟩ : ∃ wa, wa = w.alloc (.cells #[.int .i64 (n : Int)] 3) := ⟨_, rfl⟩
  obtain ⟨B, hB⟩ : ∃ B, B = w.heap.size := ⟨_, rfl⟩
  have ha : Below w.heap.size w wa := by rw [hwa]; exact Below.alloc (Below.refl _ _) (Nat.le_refl _) _
  have za : wa.cell? ⟨B, 0, none⟩ = some (.int .i64 (n : Int)) := by rw [hwa, hB, World.cell?_alloc_at _ _ _ _ rfl]; rfl
  have cw := within_live p x wa (h.core.hd.later ha)
  rw [hb] at cw
  have CW := hid cw; have H := hid h; have HA := hid ha; have ZA := hid za
  have hnp := h.np
  have hnl := h.bn
  obtain ⟨L, hL⟩ : ∃ L, now.length = L := ⟨_, rfl⟩
  rw [hL] at hn hnp hnl
  have HNP := hid hnp; have HLL := hid hL; have HN := hid hn
  have n1 : ¬ (n : Int) < 0 := by omega
  have n2 : ¬ (L : Int) < (n : Int) := by omega
  clear h hb cw ha za hnp hL
  go_enter Tryz.func61, Tryz.ntmps61
  go_upto_region 4 with (go_at_call 50; rw [← hwa]; refine CW.out.mono ?_; rintro e w1 ⟨rfl, hb1⟩; have B1 := hid hb1; clear hb1)
  (try rw [← hB])
  have ZC := hid (keep_old B1.out ZA.out)
  clear hwa hB
  refine wp_region_K (S := fun W => Below w1.drew.heap.size w1.drew W) (fun _ => false) (by kernel_rfl) (Below.refl _ _) (fun hHeld => ?_)
  refine gkt 0 ?_ (h := by intro W hSw; have z1 := keep_old (undrew hSw) ZC.out; go_simp; first | done | with_reducible rfl)
  refine gkp 1 ?_
  refine gkp 2 ?_ (v := .bool false) (h := by intro W hSw; go_simp; first | done | with_reducible rfl | simp [n1])
  refine gkt 3 ?_ (h := by intro W hSw; have z1 := keep_old (undrew hSw) ZC.out; go_simp; first | done | with_reducible rfl)
  refine gkp 4 ?_
  refine gkp 5 ?_
  refine gkp 6 ?_
  refine gkp 7 ?_
  refine gkt 8 ?_ (h := by intro W hSw; obtain ⟨a0, a1, a2, a3, a4, a5, a6, a7, a8, a9, a10, a11⟩ := (H.out.core.hd.later (gt (gt HA.out B1.out) (undrew hSw))).cells; rw [HNP.out] at a6; go_simp; first | done | with_reducible rfl)
  refine gkp 9 ?_ (v := .bool false) (h := by intro W hSw; go_simp; first | done | with_reducible rfl | simp [n2])
  refine gkp 10 ?_
  refine wpAnyK_done (by kernel_rfl) ?_ _
  clear hHeld
  have H1 := hid (H.out.later (gt HA.out B1.out))
  have z1 : w1.cell? ⟨B, 0, none⟩ = some (.int .i64 (n : Int)) := ZC.out
  obtain ⟨a0, a1, a2, a3, a4, a5, a6, a7, a8, a9, a10, a11⟩ := H1.out.core.hd.cells
  rw [HNP.out] at a6
  have f6 := H1.out.core.hd.frozen 6
  have hBp : ¬ B = p := fun e => by
    subst e
    have h1 := (Cch.hd_cell H1.out.core.hd 0)
    rw [z1] at h1; simp [hdP] at h1
  have hpB : ¬ p = B := fun e => hBp e.symm
  obtain ⟨w2, hw2⟩ : ∃ w2, w2 = (w1.setCell ⟨p, 6, none⟩ (.int .i64 (n : Int))).drew := ⟨_, rfl⟩
  have f2 : Fr (fun b => b = p) w1 w2 := by
    have h2 := set_frame (p := p) (i := 6) (v := .int .i64 (n : Int)) (Fr.refl (fun b => b = p) w1)
    rw [hw2]; exact ⟨h2.os, h2.tape, h2.output, h2.size, h2.blk⟩
  have a7' : w2.cell? ⟨p, 7, none⟩ = some (.map (some x.m)) := by rw [hw2]; show (w1.setCell ⟨p, 6, none⟩ (.int .i64 (n : Int))).cell? ⟨p, 7, none⟩ = _; rw [World.cell?_setCell_other _ _ _ _ (by simp)]; exact a7
  have z2 : w2.cell? ⟨B, 0, none⟩ = some (.int .i64 (n : Int)) := fr_cell f2 z1 hBp
  have m2 : w2.ownsMap Tryz.prog 3 slR x.m N (dirtD (false :: c) enc) := map_df H1.out.chg.map (f2.blk x.m H1.out.chg.map.lt (fun e => H1.out.mo.2 (Or.inr (Or.inr e))))
  have CD := hid (delete_any c enc n B x.m N w2 m2 z2)
  have HW2 := hid hw2
  rw [hw2] at a7'
  clear hw2 f2 z2 m2
  go_wp2_with (go_at_call 98; rw [← HW2.out]; refine CD.out.mono ?_; rintro e w3 ⟨rfl, h3, g3⟩; have M3 := hid h3; have G3 := hid g3; clear h3 g3)
  go_ret
  have hR := H1.out.shrunk (by rw [HLL.out]; exact HN.out) rfl M3.out (by have h8 := G3.out; rw [HW2.out] at h8; exact ⟨h8.os, h8.tape, h8.output, h8.size, h8.block⟩)
  obtain ⟨en, hT, hE⟩ := hR.is
  exact ⟨rfl, ⟨en, hT, fun e he => (by rcases hE e he with h8 | ⟨g, l, c, h8, h9⟩; exact Or.inl h8; exact Or.inr ⟨g, l, c, h8, Nat.le_trans (gt HA.out B1.out).size h9⟩)⟩, fr_trans (fr_below (S := fun b => b = p ∨ b = x.m) (gt HA.out B1.out)) hR.fr (fun b hb => Or.inl hb)⟩

theorem look_ok {ops : Array Oper} {rest : List Oper} {o : Oper} {a : Act} {w : World} {Q : Exit → Act → World → Prop} (hg : o.guard = none) (m x : Operand) (hop : o.op = Op.lookup 70 m x true) (b n : Nat) (D : DataW Unit)
    (hm : a.eval m = .map (some b)) (hown : w.ownsMap Tryz.prog 3 slR b n D) (key : Value) (kl : Lit) (hx : a.eval x = key) (hkey : keyOf Tryz.prog 3 key = some kl) (h : Bool) (hh : Maps.has D kl = h)
    (hK : ∀ v ps, slR v = some (D.atKey kl (secD []), ps) → wpList Tryz.prog ops Q rest (a.put o.dst (.tuple #[v, .bool h])) w) : wpList Tryz.prog ops Q (o :: rest) a w :=
  wpList_lookup_own_ok w hg m x 70 hop 3 79 (int_keyed Tryz.underlying3) Tryz.underlying70 slR (zeroB w) (secD []) [] slR_nil b n D hm hown key kl hx hkey (fun v ps hv => by
    rw [hh]
    exact hK v ps hv)

/-- What Get leaves. -/
structure GetTo (w w' : World) (p : Nat) (x : PC) (P : Dsk.Parts) (C : Cch.Parts) (d : DS) (s : CS) (sure : List Pg) (n : Nat) (now : List Pg) (c : List Bool) (enc : List Sec) (b : Nat) : Prop where
  is : ∃ C' s', Tx w' p x P C' d s' sure n now c enc ∧ Out w' (NC p x P C') b ∧ More p x P P C C' w ∧ s'.hit + s'.miss ≤ s.hit + s.miss + 1 ∧ s'.room = s.room
  fr : Fr (NC p x P C) w w'

set_option maxHeartbeats 4000000 in
set_option maxRecDepth 20000 in
theorem get_own (p i : Nat) (x : PC) (P : Dsk.Parts) (C : Cch.Parts) (d : DS) (s : CS) (sure : List Pg) (n : Nat) (now : List Pg) (c : List Bool) (enc : List Sec) (w : World) (h : Tx w p x P C d s sure n now c enc) (hi : i < now.length) (hf : d.f0.now = secsOf sure) (ho : d.off = false) (hh : s.hit + s.miss ≤ 900000) :
    Calls Tryz.prog 100 #[.pointer (some ⟨p, 0, none⟩), .int .i64 ((i + 1 : Nat) : Int)] w fun e w' => ∃ a cap, e = .returned (.tuple #[.slice (some a) 512 cap, .int .i64 0]) ∧ (Rd w' (some a) 512 cap (now.getD i []) ∧ w'.ownsRow w.heap.size 5 1 (.slice (some a) 512 cap) 512 (Cch.bs (now.getD i []))) ∧ w.heap.size ≤ a.block ∧ GetTo w w' p x P C d s sure n now c enc a.block := by
  have cf := hid (fault_any p true 0 w h.core.hd.fate)
  have CH := hid (fun W (hW : Below w.heap.size w W) => has_any p x ((i + 1 : Nat) : Int) W (h.core.hd.later hW))
  rw [show (decide (1 ≤ ((i + 1 : Nat) : Int)) && decide (((i + 1 : Nat) : Int) ≤ (x.np : Int))) = true by rw [h.np]; simp; omega] at CH
  have hbn := h.bn
  have H := hid h
  obtain ⟨z, hz⟩ : ∃ z, z = i + 1 := ⟨_, rfl⟩
  have hwz := Dsk.wf_i64 z (by omega)
  have HWZ := hid hwz
  cases hci : c.getD i false with
  | true =>
    obtain ⟨b, o, cap, e1, e2, e3⟩ := h.chg.at_ i hci
    have hat : Hid ((dirtD (false :: c) enc).atKey (.int .i64 (z : Int)) (secD []) = secD [b, o, 512, cap]) := hid (by
      rw [Dsk.at_dirt _ _ _ (by rw [hz]; simpa using hci), hz, e1])
    have hhas : Hid (Maps.has (dirtD (false :: c) enc) (.int .i64 (z : Int)) = true) := hid (by rw [Dsk.has_dirt, hz]; simpa using hci)
    have CC := hid (fun W (hW : Below w.heap.size w W) => Cch.clone_any b o 512 cap (now.getD i []) W (e2.keep hW) (by omega))
    rw [← hz] at CH ⊢
    clear h hci e1 e2 e3 hz hf ho hh
    go_enter Tryz.func100, Tryz.ntmps100
    go_wp2_with (first
      | (go_at_call 30; refine cf.out.mono ?_; rintro e w1 ⟨rfl, hb1⟩; have B1 := hid hb1; clear hb1)
      | (go_at_call 112; refine (CH.out w1 B1.out).mono ?_; rintro e w2 ⟨rfl, hb2⟩; have B2 := hid (gt B1.out hb2); obtain ⟨a0, a1, a2, a3, a4, a5, a6, a7, a8, a9, a10, a11⟩ := (H.out.core.hd.later B2.out).cells; clear hb2)
      | ((with_reducible refine Dsk.here_op 25 ?_); refine look_ok rfl (.tmp 23) (.tmp 24) rfl x.m n (dirtD (false :: c) enc) rfl (H.out.later B2.out).chg.map (.int .i64 (z : Int)) (.int .i64 (z : Int)) rfl (keyOf_int_mk Tryz.underlying3 HWZ.out) true hhas.out ?_; intro v ps hv; rw [hat.out] at hv; obtain rfl := slR_inv hv; clear hv)
      | (go_at_call 113; refine (CC.out w2 B2.out).mono ?_; rintro e w3 ⟨ao, cp, rfl, hr3, hb3⟩; have R3 := hid hr3; have B3 := hid (gt B2.out hb3); have S3 := hid hb3.size; clear hr3 hb3))
    go_ret2
    obtain ⟨g, cp', hv, hB, hlt⟩ := R3.out.form (by omega)
    simp only [Value.slice.injEq] at hv
    obtain ⟨rfl, -, rfl⟩ := hv
    refine ⟨⟨g, 0, none⟩, cp, rfl, ⟨Cch.rd_own R3.out, own_dn R3.out B2.out.size⟩, Nat.le_trans B2.out.size hB, ⟨C, s, H.out.later B3.out, ⟨hlt, fun hk => ?_⟩, More.refl _ _ _ _ _, by omega, rfl⟩, fr_below B3.out⟩
    have h1 : g < w.heap.size := H.out.core.lt hk
    have h2 := B2.out.size
    omega
  | false =>
    obtain ⟨hsi, hsg⟩ := h.sm i hi hci
    have hhas : Hid (Maps.has (dirtD (false :: c) enc) (.int .i64 (z : Int)) = false) := hid (by rw [Dsk.has_dirt, hz]; simpa using hci)
    have CB := hid (fun W (hW : Below w.heap.size w W) => before_own p x P C d s sure i W (h.core.later hW) h.fits hf (fun j hj => (h.ws j hj).1) ho hsi h.bs (by omega))
    rw [← hz] at CH CB ⊢
    rw [hsg]
    clear h hci hz hf ho hsi hsg
    go_enter Tryz.func100, Tryz.ntmps100
    go_wp2_with (first
      | (go_at_call 30; refine cf.out.mono ?_; rintro e w1 ⟨rfl, hb1⟩; have B1 := hid hb1; clear hb1)
      | (go_at_call 112; refine (CH.out w1 B1.out).mono ?_; rintro e w2 ⟨rfl, hb2⟩; have B2 := hid (gt B1.out hb2); obtain ⟨a0, a1, a2, a3, a4, a5, a6, a7, a8, a9, a10, a11⟩ := (H.out.core.hd.later B2.out).cells; clear hb2)
      | ((with_reducible refine Dsk.here_op 25 ?_); refine look_ok rfl (.tmp 23) (.tmp 24) rfl x.m n (dirtD (false :: c) enc) rfl (H.out.later B2.out).chg.map (.int .i64 (z : Int)) (.int .i64 (z : Int)) rfl (keyOf_int_mk Tryz.underlying3 HWZ.out) false hhas.out ?_; intro v ps hv; clear hv)
      | (go_at_call 116; refine (CB.out w2 B2.out).mono ?_; rintro e w3 ⟨a3, cp, rfl, ⟨hr3, ho3⟩, hl3, hto⟩; have R3 := hid hr3; have O3 := hid ho3; clear ho3; have T3 := hid hto; have L3 := hid hl3; clear hr3 hl3 hto))
    go_ret2
    obtain ⟨C', s', n1, n2, n3, n4, n5, n6⟩ := T3.out.is
    have hf3 := T3.out.fr
    have hT := (H.out.later B2.out).turn n2 n3 n4 hf3.size (fun b hb => hf3.blk b hb.1 (fun hS => hb.2 (Or.inr (Or.inl hS))))
    refine ⟨a3, cp, rfl, ⟨R3.out, own_dn O3.out B2.out.size⟩, Nat.le_trans B2.out.size L3.out, ⟨C', s', hT, ⟨?_, fun hk => ?_⟩, fun b hb => ?_, n5, n6⟩, fr_trans (fr_below (S := NC p x P C) B2.out) (fr_imp hf3 (S1 := NC p x P C) (fun b hb => Or.inr (Or.inl hb))) (fun b hb => Or.inl hb)⟩
    · obtain ⟨b', o', eb, hc⟩ := R3.out.2.2.2 (by omega)
      obtain rfl := Option.some.inj eb
      exact lt_cell (hc 0 (by omega))
    · rcases hk with hk | hk | hk
      · have h1 := DN.lt (H.out.later B2.out).core.dk hk; have h2 := L3.out; omega
      · exact n1 hk
      · have h1 := (H.out.later B2.out).core.hd.lt; have h2 := L3.out; omega
    · rcases n4 b hb with h1 | h1
      · exact Or.inl h1
      · exact Or.inr (Nat.le_trans B2.out.size h1)

theorem get_yes (p i : Nat) (x : PC) (P : Dsk.Parts) (C : Cch.Parts) (d : DS) (s : CS) (sure : List Pg) (n : Nat) (now : List Pg) (c : List Bool) (enc : List Sec) (w : World) (h : Tx w p x P C d s sure n now c enc) (hi : i < now.length) (hf : d.f0.now = secsOf sure) (ho : d.off = false) (hh : s.hit + s.miss ≤ 900000) :
    Calls Tryz.prog 100 #[.pointer (some ⟨p, 0, none⟩), .int .i64 ((i + 1 : Nat) : Int)] w fun e w' => ∃ a cap, e = .returned (.tuple #[.slice (some a) 512 cap, .int .i64 0]) ∧ Rd w' (some a) 512 cap (now.getD i []) ∧ w.heap.size ≤ a.block ∧ GetTo w w' p x P C d s sure n now c enc a.block := by
  refine (get_own p i x P C d s sure n now c enc w h hi hf ho hh).mono ?_
  rintro e w' ⟨a, cap, e1, ⟨hr, _⟩, h2, h3⟩
  exact ⟨a, cap, e1, hr, h2, h3⟩

end Go.Proofs.YtgjgkpnjchflaaaGreatDoor
