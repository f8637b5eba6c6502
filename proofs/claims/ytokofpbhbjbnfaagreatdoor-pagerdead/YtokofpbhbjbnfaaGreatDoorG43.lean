/- The bytes of a page, as the laws make them; no statement of the seat is proved here. -/
import Derived.Test.YtokofpbhbjbnfaaGreatDoorG42
namespace Go.Proofs.YtokofpbhbjbnfaaGreatDoor
open Go.RowKit Go.Maps
open Dsk (gt hid undrew keep_old keep_cell lt_cell Rd DS FS Sec DiskP DFrame Grew From lenD readD newD known)
open Cch (CS CP Fr)

/-- The bytes that the laws' page makes. -/
def pgF (x k : Nat) : Nat := (x + k / 97) % 256
def pageS (x : Nat) : Pg := (List.range 512).map (pgF x)
theorem pageS_length (x : Nat) : (pageS x).length = 512 := by rw [pageS, List.length_map, List.length_range]
theorem pageS_bytes (x : Nat) : ∀ b ∈ pageS x, b < 256 := by
  intro b hb
  obtain ⟨k, _, rfl⟩ := List.mem_map.1 hb
  exact Nat.mod_lt _ (by omega)
theorem pageS_get (x : Nat) {k : Nat} (h : k < 512) : (pageS x).getD k 0 = pgF x k := by
  rw [pageS, List.getD, List.getElem?_map, List.getElem?_range h]; rfl

def RowB (W : World) (g : Nat) (xs : List Nat) : Prop := W.heap[g]? = some (.cells (Dsk.bs xs).toArray 5 (0, 0))
theorem RowB.set {W : World} {g i v : Nat} {xs : List Nat} (h : RowB W g xs) : RowB (W.setCell ⟨g, i, none⟩ (.int .u8 (v : Int))) g (xs.set i v) := by
  unfold RowB
  rw [Cch.blk_set h]
  simp [Dsk.bs]
theorem RowB.rd {W : World} {g n : Nat} {xs : List Nat} (h : RowB W g xs) (hl : xs.length = n) : Rd W (some ⟨g, 0, none⟩) n n xs :=
  ⟨hl, Nat.le_refl _, fun h => (by cases h), fun _ => ⟨g, 0, rfl, fun t ht => by rw [Cch.hd_cell h, Nat.zero_add, Dsk.bs_get xs t (by omega)]⟩⟩

set_option maxHeartbeats 4000000 in
set_option maxRecDepth 20000 in
theorem page_any (x : Nat) (w : World) : Calls Tryz.prog 33 #[.int .u8 (x : Int)] w fun e w' => ∃ g, e = .returned (.slice (some ⟨g, 0, none⟩) 512 512) ∧ Rd w' (some ⟨g, 0, none⟩) 512 512 (pageS x) ∧ w.heap.size ≤ g ∧ g < w'.heap.size ∧ Below w.heap.size w w' := by
  obtain ⟨NN, hNN⟩ : ∃ NN, NN = Array.replicate 512 (Value.int .u8 0) := ⟨_, rfl⟩
  have mk : ∀ W, (Instr.makeSlice 60 (.int .i64 512) (.int .i64 512)).run Tryz.prog W = .ok (.slice (some ⟨W.heap.size, 0, none⟩) 512 512) (W.alloc (.cells NN 5)) := fun W => by rw [hNN]; exact Dsk.make_any 512 512 (Nat.le_refl _) (by omega) W
  obtain ⟨W1, hW1⟩ : ∃ W1, W1 = w.alloc (.cells NN 5) := ⟨_, rfl⟩
  obtain ⟨g, hg⟩ : ∃ g, g = w.heap.size := ⟨_, rfl⟩
  have R1 : Hid (RowB W1 g (List.replicate 512 0)) := hid (by
    unfold RowB
    rw [hW1, hg, heap_alloc_new, hNN]
    unfold Dsk.bs
    rw [List.map_replicate, ← List.toArray_replicate]; rfl)
  have B1 : Hid (Below w.heap.size w W1) := hid (by rw [hW1]; exact Below.alloc (Below.refl _ _) (Nat.le_refl _) _)
  have HG := hid hg
  clear hNN
  go_enter Tryz.func33, Tryz.ntmps33
  go_upto_region 2 with fail
  rw [← hW1, ← hg]
  clear hW1 hg mk
  go_wp2
  go_loopw [8] (fun cc W => ∃ (i : Nat) (xs : List Nat), i ≤ 512 ∧ cc = .int .i64 (i : Int) ∧ Hid (RowB W g xs) ∧ Hid (xs.length = 512 ∧ ∀ k, k < i → xs.getD k 0 = pgF x k) ∧ Hid (Below w.heap.size w W)) (fun cc _ => 512 - (Lib.intOf cc).toNat)
  case atStart => exact ⟨0, _, by omega, rfl, R1, hid ⟨List.length_replicate .., fun k hk => by omega⟩, B1⟩
  case round =>
    obtain ⟨i, xs, hi, rfl, R, E, B⟩ := hrel
    by_cases hiL : i < 512
    · have c0 : wr.cell? ⟨g, i, none⟩ = some (.int .u8 ((xs.getD i 0 : Nat) : Int)) := by rw [Cch.hd_cell R.out, Dsk.bs_get xs i (by rw [E.out.1]; exact hiL)]
      have f0 : wr.frozen? ⟨g, i, none⟩ = false := Cch.hd_frozen R.out i
      have hiI : (i : Int) < 512 := by omega
      have hi0 : (0 : Int) ≤ (i : Int) := by omega
      obtain ⟨q, hq, hq2⟩ : ∃ q : Nat, (i : Int).tdiv 97 = (q : Int) ∧ q = i / 97 := ⟨i / 97, by rw [Int.tdiv_eq_ediv_of_nonneg hi0]; omega, rfl⟩
      have HQ := hid hq2
      have hqb : q ≤ 5 := by omega
      clear hq2
      have hv : ((x : Int) + (q : Int)) % 256 = ((pgF x i : Nat) : Int) := by unfold pgF; rw [← HQ.out]; omega
      have HV := hid hv
      clear hv
      go_wp2
      rw [HV.out]
      refine ⟨⟨i + 1, xs.set i (pgF x i), by omega, by go_num, hid R.out.set, hid ⟨by rw [List.length_set]; exact E.out.1, fun k hk => ?_⟩, hid (B.out.setCell (by rw [HG.out]; exact Nat.le_refl _) _)⟩, by simp [Lib.intOf]; omega⟩
      by_cases hki : k = i
      · subst hki
        rw [List.getD, List.getElem?_set_self (by rw [E.out.1]; omega)]; rfl
      · rw [List.getD, List.getElem?_set_ne (fun e => hki e.symm)]
        exact E.out.2 k (by omega)
    · obtain rfl : i = 512 := by omega
      have hxs : xs = pageS x := by
        apply List.ext_getElem (by rw [E.out.1, pageS_length])
        intro k h1 h2
        have h3 := E.out.2 k (by rw [E.out.1] at h1; exact h1)
        rw [← pageS_get x (by rw [E.out.1] at h1; exact h1), List.getD, List.getD, List.getElem?_eq_getElem h1, List.getElem?_eq_getElem h2] at h3
        exact h3
      have HX := hid hxs
      clear hxs
      go_wp2
      go_ret
      have hr := R.out.rd E.out.1
      rw [HX.out] at hr
      exact ⟨g, rfl, hr, by rw [HG.out]; exact Nat.le_refl _, (Array.getElem?_eq_some_iff.1 R.out).1, B.out⟩

end Go.Proofs.YtokofpbhbjbnfaaGreatDoor
