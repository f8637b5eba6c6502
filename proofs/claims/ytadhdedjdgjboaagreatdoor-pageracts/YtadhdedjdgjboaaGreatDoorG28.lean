/- Small calls of a pager that lives; no statement of the seat is proved here. -/
import Derived.Test.YtadhdedjdgjboaaGreatDoorG27
set_option maxHeartbeats 16000000
set_option maxRecDepth 20000
namespace Go.Proofs.YtadhdedjdgjboaaGreatDoor
section
open Go.RowKit Go.Maps
open Dsk (gt hid undrew keep_old keep_cell lt_cell Rd DS FS Sec DiskP DFrame Grew From op_at idx dirtD was secD)
open Cch (CS CP Fr wpAnyK wpAnyK_take wpAnyK_pure wpAnyK_ready wpAnyK_done wp_region_K AllReadyK.cons AllReadyK.nil)
theorem told_any (m : Bool) (f : Int) (w : World) : Calls Tryz.prog 84 #[.agg #[.bool m, .int .i64 f]] w fun e w' => e = .returned (.int .i64 (if m then f else 1)) ∧ Below w.heap.size w w' := by
 cases m
 · go_enter Tryz.func84, Tryz.ntmps84
   go_wp2
   go_ret
   exact ⟨rfl, Below.alloc (Below.refl _ _) (Nat.le_refl _) _⟩
 · go_enter Tryz.func84, Tryz.ntmps84
   go_wp2
   go_ret
   exact ⟨rfl, Below.alloc (Below.refl _ _) (Nat.le_refl _) _⟩
def Fate (w : World) (p : Nat) (m : Bool) (f : Int) : Prop := w.cell? ⟨p, 0, none⟩ = some (.bool m) ∧ w.cell? ⟨p, 1, none⟩ = some (.int .i64 f)
variable {x : PC} {p : Nat} {w : World}
theorem PgAt.fate (h : PgAt w p x) : Fate w p true 0 := ⟨h.cells.1, h.cells.2.1⟩
theorem fault_any (p : Nat) (m : Bool) (f : Int) (w : World) (h : Fate w p m f) : Calls Tryz.prog 53 #[.pointer (some ⟨p, 0, none⟩)] w fun e w' => e = .returned (.int .i64 (if m then f else 1)) ∧ Below w.heap.size w w' := by
 obtain ⟨h0, h1⟩ := h
 have c := hid (told_any m f w)
 obtain ⟨r, hr⟩ : ∃ r, (if m then f else 1) = r := ⟨_, rfl⟩
 rw [hr] at c ⊢
 clear hr
 go_enter Tryz.func53, Tryz.ntmps53
 go_wp2_with (go_at_call 84; refine c.out.mono ?_; rintro e w1 ⟨rfl, hb⟩; have HB := hid hb; clear hb)
 go_ret
 exact ⟨rfl, HB.out⟩
theorem within_live (p : Nat) (x : PC) (w : World) (h : PgAt w p x) : Calls Tryz.prog 55 #[.pointer (some ⟨p, 0, none⟩)] w fun e w' => e = .returned (.int .i64 (if x.busy then 0 else 6)) ∧ Below w.heap.size w w' := by
 have c := hid (fault_any p true 0 w h.fate)
 have H := hid h
 clear h
 obtain ⟨b, hb⟩ : ∃ b, x.busy = b := ⟨_, rfl⟩
 cases b
 · rw [hb]
   have HBB := hid hb
   clear hb
   go_enter Tryz.func55, Tryz.ntmps55
   go_wp2_with (go_at_call 53; refine c.out.mono ?_; rintro e w1 ⟨rfl, hb1⟩; have HB := hid hb1; obtain ⟨a0, a1, a2, a3, a4, a5, a6, a7, a8, a9, a10, a11⟩ := (H.out.later hb1).cells; rw [HBB.out] at a5; clear hb1)
   go_ret
   exact ⟨rfl, HB.out⟩
 · rw [hb]
   have HBB := hid hb
   clear hb
   go_enter Tryz.func55, Tryz.ntmps55
   go_wp2_with (go_at_call 53; refine c.out.mono ?_; rintro e w1 ⟨rfl, hb1⟩; have HB := hid hb1; obtain ⟨a0, a1, a2, a3, a4, a5, a6, a7, a8, a9, a10, a11⟩ := (H.out.later hb1).cells; rw [HBB.out] at a5; clear hb1)
   go_ret
   exact ⟨rfl, HB.out⟩
def PC.ended (x : PC) (m : Nat) : PC := { x with busy := false, np := x.pages, m := m, mo := none, ml := 0, mc := 0, last := 0 }
theorem end_raw (p : Nat) (x : PC) (w : World) (h : PgAt w p x) : Calls Tryz.prog 44 #[.pointer (some ⟨p, 0, none⟩)] w fun e w' => e = .returned (.tuple #[]) ∧ w' = (((((w.setCell ⟨p, 5, none⟩ (.bool false)).setCell ⟨p, 6, none⟩ (.int .i64 (x.pages : Int))).setCell ⟨p, 7, none⟩ (.map (some w.heap.size))).setCell ⟨p, 8, none⟩ (.slice none 0 0)).setCell ⟨p, 9, none⟩ (.int .i64 0)).alloc (.map #[] 0) := by
 obtain ⟨a0, a1, a2, a3, a4, a5, a6, a7, a8, a9, a10, a11⟩ := h.cells
 have f5 := h.frozen 5; have f6 := h.frozen 6; have f7 := h.frozen 7; have f8 := h.frozen 8; have f9 := h.frozen 9
 have hp := h.lt
 have hne : ¬ p = w.heap.size := by omega
 have mk := fun W => run_makeMap (P := Tryz.prog) 71 W
 clear h
 go_enter Tryz.func44, Tryz.ntmps44
 go_wp2
 go_end0
 exact ⟨rfl, rfl⟩
theorem idx_none (n : Nat) : idx (false :: List.replicate n false) = [] := by
 apply List.eq_nil_iff_forall_not_mem.2
 intro i hi
 have := Dsk.mem_idx.1 hi
 cases i with
 | zero => simp at this
 | succ i =>
   simp only [List.getD_cons_succ] at this
   rw [List.getD, List.getElem?_replicate] at this
   split at this <;> simp at this
theorem dirt_none (n : Nat) (enc : List Sec) : dirtD (false :: List.replicate n false) enc = .map [] := by rw [dirtD, idx_none]; rfl
variable {W : World}
theorem set_frame {i : Nat} {v : Value} (h : Fr (fun b => b = p) w W) : Fr (fun b => b = p) w (W.setCell ⟨p, i, none⟩ v) :=
 ⟨h.os, h.tape, h.output, by simpa using h.size, fun b hb hn => by rw [heap_setCell_other _ _ _ _ hn]; exact h.blk b hb hn⟩
theorem alloc_frame {o : Obj} (h : Fr (fun b => b = p) w W) : Fr (fun b => b = p) w (W.alloc o) :=
 ⟨h.os, h.tape, h.output, by simp; have := h.size; omega, fun b hb hn => by rw [heap_alloc_old _ _ _ (Nat.lt_of_lt_of_le hb h.size)]; exact h.blk b hb hn⟩
theorem tx_fresh {w' : World} {P : Dsk.Parts} {C : Cch.Parts} {d : DS} {s : CS} {sure : List Pg} (h : Core w p x P C d s) (hf : Fits s sure) (hp : x.pages = sure.length) (ws : Whole sure) (bs : sure.length ≤ 4000) (tab : Jrn.Tab w) (t0 : Out w (NC p x P C) 0)
   (hw : w' = (((((w.setCell ⟨p, 5, none⟩ (.bool false)).setCell ⟨p, 6, none⟩ (.int .i64 (x.pages : Int))).setCell ⟨p, 7, none⟩ (.map (some w.heap.size))).setCell ⟨p, 8, none⟩ (.slice none 0 0)).setCell ⟨p, 9, none⟩ (.int .i64 0)).alloc (.map #[] 0)) :
   Tx w' p (x.ended w.heap.size) P C d s sure 0 sure (List.replicate sure.length false) (List.replicate (sure.length + 1) []) ∧ Fr (fun b => b = p) w w' := by
 have hpl := h.hd.lt
 obtain ⟨W, hW⟩ : ∃ W, W = ((((w.setCell ⟨p, 5, none⟩ (.bool false)).setCell ⟨p, 6, none⟩ (.int .i64 (x.pages : Int))).setCell ⟨p, 7, none⟩ (.map (some w.heap.size))).setCell ⟨p, 8, none⟩ (.slice none 0 0)).setCell ⟨p, 9, none⟩ (.int .i64 0) := ⟨_, rfl⟩
 have hWs : W.heap.size = w.heap.size := by rw [hW]; simp
 have hWo : ∀ b, b ≠ p → W.heap[b]? = w.heap[b]? := fun b hb => by
   rw [hW, heap_setCell_other _ _ _ _ hb, heap_setCell_other _ _ _ _ hb, heap_setCell_other _ _ _ _ hb, heap_setCell_other _ _ _ _ hb, heap_setCell_other _ _ _ _ hb]
 rw [← hW] at hw
 have hs' : w'.heap.size = w.heap.size + 1 := by rw [hw]; simp [hWs]
 have ho : ∀ b, b < w.heap.size → b ≠ p → w'.heap[b]? = w.heap[b]? := fun b hb hbp => by
   rw [hw, heap_alloc_old _ _ _ (by rw [hWs]; exact hb)]; exact hWo b hbp
 have hPg : PgAt w' p (x.ended w.heap.size) := by
   have h1 := Cch.blk_set (Cch.blk_set (Cch.blk_set (Cch.blk_set (Cch.blk_set h.hd (i := 5) (v := .bool false)) (i := 6) (v := .int .i64 (x.pages : Int))) (i := 7) (v := .map (some w.heap.size))) (i := 8) (v := .slice none 0 0)) (i := 9) (v := .int .i64 0)
   rw [← hW] at h1
   unfold PgAt
   rw [hw, heap_alloc_old _ _ _ (by rw [hWs]; exact hpl), h1]
   rfl
 have hmap : w'.ownsMap Tryz.prog 3 slR w.heap.size 0 (dirtD (false :: List.replicate sure.length false) (List.replicate (sure.length + 1) [])) := by
   rw [dirt_none, hw]
   have := World.ownsMap_made W Tryz.prog 3 slR (H := Unit)
   rw [hWs] at this; exact this
 have hcore : Core w' p (x.ended w.heap.size) P C d s :=
   ⟨hPg, h.dk.stay (by omega) (fun b hb hd => ho b hb (fun e => h.dp (by rcases hd with h1 | h1; exact Or.inr (e ▸ h1); exact Or.inl (e ▸ h1)))), h.ck.stay (fun b hb hS => ho b hb (fun e => h.cp (e ▸ hS))), h.dc, h.dp, h.cp⟩
 have hfr : Fr (fun b => b = p) w w' := by rw [hw, hW]; exact alloc_frame (set_frame (set_frame (set_frame (set_frame (set_frame (Fr.refl _ _))))))
 have hcf : ∀ i, (List.replicate sure.length false).getD i false = false := fun i => by
   rw [List.getD, List.getElem?_replicate]; split <;> rfl
 have hp0 : 0 ≠ p := fun e => t0.2 (Or.inr (Or.inr e))
 refine ⟨⟨hcore, ⟨hmap, by simp, by simp, fun i hi => ?_⟩, ⟨by show w.heap.size < _; omega, fun hk => by have := h.lt (b := w.heap.size) hk; omega⟩, hf, hp, hp, ws, ws, bs, bs, tab_of tab (ho 0 t0.1 hp0), ⟨by have := t0.1; omega, t0.2⟩, ?_, fun i hi _ => ⟨hi, rfl⟩⟩, hfr⟩
 · rw [hcf i] at hi; cases hi
 · show w.heap.size ≠ 0
   have := t0.1; omega
end
end Go.Proofs.YtadhdedjdgjboaaGreatDoor
