/- What the calls of package spill return of a heap that no call made, and the bytes that the laws make; no statement of the seat is proved here. -/
import Derived.Test.YtneemfbnjkcflaaGreatRows
import Derived.WalkKit
import Derived.WalkSpells
import Derived.WalkLawsBesides
import Derived.Laws.BytesArg
import Derived.Deep.OwnRows
import Derived.Lib.OthersKept
import Derived.Lib.Walk
import Derived.Deep.RegionHeld3
import Derived.Deep.DeepCutAuto
namespace Go.Proofs.YtneemfbnjkcflaaGreat
open Go.RowKit

theorem gt {w a b : World} (h : Below w.heap.size w a) (k : Below a.heap.size a b) : Below w.heap.size w b := h.trans (k.mono h.size)
theorem hid {p : Prop} (h : p) : Hid p := h
theorem lt_cell {w : World} {a : Addr} {v : Value} (h : w.cell? a = some v) : a.block < w.heap.size := by
  rcases Nat.lt_or_ge a.block w.heap.size with h1 | h1
  · exact h1
  · exfalso
    have h2 : w.heap[a.block]? = none := Array.getElem?_eq_none h1
    simp [World.cell?, h2] at h
theorem keep_old {w w' : World} (h : Below w.heap.size w w') {a : Addr} {v : Value} (hc : w.cell? a = some v) : w'.cell? a = some v := by
  rw [World.cell?_of_block (h.block a.block (lt_cell hc))]; exact hc
def bs (xs : List Nat) : List Value := xs.map fun x : Nat => Value.int .u8 (x : Int)
theorem bs_get (xs : List Nat) (t : Nat) (h : t < xs.length) : (bs xs)[t]? = some (.int .u8 ((xs.getD t 0 : Nat) : Int)) := by
  simp [bs, List.getElem?_map, List.getElem?_eq_getElem h, List.getD]
theorem Tryz.info5 : (Tryz.prog.info? 5).map (fun i => (i.zero, i.size, i.bytes)) = some (some (.int .u8 0), 1, 1) := by kernel_rfl
theorem make_any (n cap : Nat) (h : n ≤ cap) (hc : cap ≤ 281474976710656) (w : World) :
    (Instr.makeSlice 30 (.int .i64 (n : Int)) (.int .i64 (cap : Int))).run Tryz.prog w = .ok (.slice (some ⟨w.heap.size, 0, none⟩) n cap) (w.alloc (.cells (Array.replicate cap (.int .u8 0)) 5)) := by
  obtain ⟨i, hi, hz0, hz1, hz2⟩ := info_parts Tryz.info5
  have hr := run_make (P := Tryz.prog) w 30 5 i (.int .u8 0) Tryz.underlying30 hi hz0 .i64 .i64 n cap (by omega) (by omega) (by rw [hz2]; omega) (by omega)
  simp only [Int.toNat_natCast, hz1, Nat.mul_one] at hr
  rw [hr, show Array.replicate cap (Value.int .u8 0) = (List.replicate cap (Value.int .u8 0)).toArray by simp, ← toList_madeCells_one, Array.toArray_toList]
  rfl
theorem blk_set {w : World} {b i : Nat} {v : Value} {cs : List Value} {t : TypeId} (h : w.heap[b]? = some (.cells cs.toArray t (0, 0))) : (w.setCell ⟨b, i, none⟩ v).heap[b]? = some (.cells (cs.set i v).toArray t (0, 0)) := by
  have hgl : b < w.heap.size := (Array.getElem?_eq_some_iff.1 h).1
  simp [World.setCell, Array.getElem?_modify, h]
theorem hd_cell {w : World} {c : Nat} {cs : List Value} {t : TypeId} (h : w.heap[c]? = some (.cells cs.toArray t (0, 0))) (i : Nat) : w.cell? ⟨c, i, none⟩ = cs[i]? := by simp [World.cell?, h]
theorem hd_frozen {w : World} {c : Nat} {cs : List Value} {t : TypeId} (h : w.heap[c]? = some (.cells cs.toArray t (0, 0))) (i : Nat) : w.frozen? ⟨c, i, none⟩ = false := by simp [World.frozen?, h]

def RowB (W : World) (g : Nat) (xs : List Nat) : Prop := W.heap[g]? = some (.cells (bs xs).toArray 5 (0, 0))
theorem RowB.set {W : World} {g i v : Nat} {xs : List Nat} (h : RowB W g xs) : RowB (W.setCell ⟨g, i, none⟩ (.int .u8 (v : Int))) g (xs.set i v) := by
  unfold RowB
  rw [blk_set h]
  simp [bs]

set_option maxHeartbeats 4000000 in
set_option maxRecDepth 20000 in
theorem bytes_any (w : World) : Calls Tryz.prog 5 #[.int .i64 3, .int .i64 1] w fun e w' => ∃ g, e = .returned (.slice (some ⟨g, 0, none⟩) 3 3) ∧ Below w.heap.size w w' := by
  obtain ⟨NN, hNN⟩ : ∃ NN, NN = Array.replicate 3 (Value.int .u8 0) := ⟨_, rfl⟩
  have mk : ∀ W, (Instr.makeSlice 30 (.int .i64 3) (.int .i64 3)).run Tryz.prog W = .ok (.slice (some ⟨W.heap.size, 0, none⟩) 3 3) (W.alloc (.cells NN 5)) := fun W => by rw [hNN]; exact make_any 3 3 (Nat.le_refl _) (by omega) W
  obtain ⟨W1, hW1⟩ : ∃ W1, W1 = w.alloc (.cells NN 5) := ⟨_, rfl⟩
  obtain ⟨g, hg⟩ : ∃ g, g = w.heap.size := ⟨_, rfl⟩
  have R1 : Hid (RowB W1 g (List.replicate 3 0)) := hid (by
    unfold RowB
    rw [hW1, hg, heap_alloc_new, hNN]
    unfold bs
    rw [List.map_replicate, ← List.toArray_replicate]; rfl)
  have B1 : Hid (Below w.heap.size w W1) := hid (by rw [hW1]; exact Below.alloc (Below.refl _ _) (Nat.le_refl _) _)
  have HG := hid hg
  clear hNN
  go_enter Tryz.func5, Tryz.ntmps5
  go_upto_region 2 with fail
  rw [← hW1, ← hg]
  clear hW1 hg mk
  go_wp2
  go_loopw [11] (fun cc W => ∃ (i : Nat) (xs : List Nat), i ≤ 3 ∧ cc = .int .i64 (i : Int) ∧ Hid (RowB W g xs) ∧ Hid (xs.length = 3) ∧ Hid (Below w.heap.size w W)) (fun cc _ => 3 - (Lib.intOf cc).toNat)
  case atStart => exact ⟨0, _, by omega, rfl, R1, hid (List.length_replicate ..), B1⟩
  case round =>
    obtain ⟨i, xs, hi, rfl, R, E, B⟩ := hrel
    by_cases hiL : i < 3
    · have c0 : wr.cell? ⟨g, i, none⟩ = some (.int .u8 ((xs.getD i 0 : Nat) : Int)) := by rw [hd_cell R.out, bs_get xs i (by rw [E.out]; exact hiL)]
      have f0 : wr.frozen? ⟨g, i, none⟩ = false := hd_frozen R.out i
      have hiI : (i : Int) < 3 := by omega
      have hi0 : (0 : Int) ≤ (i : Int) := by omega
      have hq : (i : Int).tdiv 251 = 0 := by rw [Int.tdiv_eq_ediv_of_nonneg hi0]; omega
      have HV := hid (show (1 : Int) + (i : Int) = ((1 + i : Nat) : Int) by omega)
      go_wp2
      rw [HV.out]
      refine ⟨⟨i + 1, xs.set i (1 + i), by omega, by go_num, hid R.out.set, hid (by rw [List.length_set]; exact E.out), hid (B.out.setCell (by rw [HG.out]; exact Nat.le_refl _) _)⟩, by simp [Lib.intOf]; omega⟩
    · obtain rfl : i = 3 := by omega
      go_wp2
      go_ret
      exact ⟨g, rfl, B.out⟩

/-- A heap that no call made. -/
def HZ (w : World) (v : Value) : Prop := v = .pointer none ∨ ∃ b, v = .pointer (some ⟨b, 0, none⟩) ∧ w.cell? ⟨b, 0, none⟩ = some (.pointer none)
theorem HZ.keep {w w' : World} {v : Value} (h : HZ w v) (hb : Below w.heap.size w w') : HZ w' v := by
  rcases h with h | ⟨b, h, c⟩
  · exact Or.inl h
  · exact Or.inr ⟨b, h, keep_old hb c⟩

set_option maxHeartbeats 1000000 in
theorem Pager_bad (v : Value) (w : World) (h : HZ w v) : Calls Tryz.prog 13 #[v] w fun e w' => e = .returned (.pointer none) ∧ w' = w := by
  rcases h with rfl | ⟨b, rfl, c⟩
  all_goals
    go_enter Tryz.func13, Tryz.ntmps13
    go_wp2
    go_ret
    exact ⟨rfl, rfl⟩

set_option maxHeartbeats 1000000 in
theorem asked_bad (v : Value) (n : Int) (w : World) (h : HZ w v) : Calls Tryz.prog 10 #[v, .int .i64 n] w fun e w' => e = .returned (.int .i64 1) ∧ w' = w := by
  have C := hid (Pager_bad v w h)
  clear h
  go_enter Tryz.func10, Tryz.ntmps10
  go_wp2_with (go_at_call 13; refine C.out.mono ?_; rintro e w1 ⟨rfl, hw⟩; obtain rfl := hw.symm)
  go_ret
  exact ⟨rfl, rfl⟩

theorem grow1 (w : World) (a : Obj) : Below w.heap.size w (w.alloc a) := Below.alloc (Below.refl _ _) (Nat.le_refl _) _
theorem grow2 (w : World) (a b : Obj) : Below w.heap.size w ((w.alloc a).alloc b) := gt (grow1 w a) (grow1 _ b)
theorem grow3 (w : World) (a b c : Obj) : Below w.heap.size w (((w.alloc a).alloc b).alloc c) := gt (grow2 w a b) (grow1 _ c)
theorem grow4 (w : World) (a b c d : Obj) : Below w.heap.size w ((((w.alloc a).alloc b).alloc c).alloc d) := gt (grow3 w a b c) (grow1 _ d)

set_option maxHeartbeats 1000000 in
theorem Write_bad (v : Value) (a : Addr) (w : World) (h : HZ w v) : Calls Tryz.prog 4 #[v, .slice (some a) 3 3] w fun e w' => e = .returned (.tuple #[.int .i64 0, .int .i64 1]) ∧ Below w.heap.size w w' := by
  have C := hid (fun W (hW : Below w.heap.size w W) => asked_bad v 3 W (h.keep hW))
  have G := hid (fun x y => grow2 w x y)
  rcases h with rfl | ⟨b, rfl, c⟩
  all_goals
    try clear c
    go_enter Tryz.func4, Tryz.ntmps4
    go_wp2_with (go_at_call 10; refine (C.out _ (G.out _ _)).mono ?_; rintro e w1 ⟨rfl, hw⟩; have HW := hid hw; clear hw)
    go_ret2
    exact ⟨rfl, by rw [HW.out]; exact G.out _ _⟩

theorem load_one {P : Program} {t : TypeId} (ha : ∀ W, (isAgg t).run P W = .ok false W) {W : World} {q : Nat} {v : Value} (h : W.cell? ⟨q, 0, none⟩ = some v) : (loadVar t ⟨q, 0, none⟩).run P W = .ok v W := by
  simp [loadVar, ha, h]
theorem ret_cells {P : Program} {fn : Func} {a b : Tmp} {s t : TypeId} (h : fn.results = #[.cell a s, .cell b t]) (hs : ∀ W, (isAgg s).run P W = .ok false W) (ht : ∀ W, (isAgg t).run P W = .ok false W) {tmps : Array Value} {W : World} {q r : Nat} {x y : Value}
    (ha : tmps.getD a undef = .pointer (some ⟨q, 0, none⟩)) (hb : tmps.getD b undef = .pointer (some ⟨r, 0, none⟩)) (hx : W.cell? ⟨q, 0, none⟩ = some x) (hy : W.cell? ⟨r, 0, none⟩ = some y) : (results fn tmps).run P W = .ok (.tuple #[x, y]) W := by
  have ha' : tmps[a]?.getD undef = .pointer (some ⟨q, 0, none⟩) := by simpa using ha
  have hb' : tmps[b]?.getD undef = .pointer (some ⟨r, 0, none⟩) := by simpa using hb
  simp only [results, h]
  simp [Sem.run_bind, Result.andThen, ha', hb', asAddr, load_one hs hx, load_one ht hy]

theorem cell_1 (w : World) (v : Value) (t : TypeId) (o : Obj) : ((w.alloc (.cells #[v] t)).alloc o).cell? ⟨w.heap.size, 0, none⟩ = some v := keep_old (grow1 _ o) (by rw [World.cell?_alloc_new]; rfl)
theorem cell_2' (w : World) (o : Obj) (v : Value) {t : TypeId} : ((w.alloc o).alloc (.cells #[v] t)).cell? ⟨w.heap.size + 1, 0, none⟩ = some v := by
  rw [show w.heap.size + 1 = (w.alloc o).heap.size by simp, World.cell?_alloc_new]; rfl
theorem cell_2 (w : World) (o o2 : Obj) (v : Value) {t : TypeId} : (((w.alloc o).alloc (.cells #[v] t)).alloc o2).cell? ⟨w.heap.size + 1, 0, none⟩ = some v := keep_old (grow1 _ o2) (cell_2' w o v)
theorem cell_3 (w : World) (o o2 : Obj) (v : Value) {t : TypeId} : (((w.alloc o).alloc o2).alloc (.cells #[v] t)).cell? ⟨w.heap.size + 1 + 1, 0, none⟩ = some v := by
  have := cell_2' (w.alloc o) o2 v (t := t)
  rw [World.size_alloc] at this; exact this
theorem agg30 (W : World) : (isAgg 30).run Tryz.prog W = .ok false W := by kernel_rfl
theorem agg34 (W : World) : (isAgg 34).run Tryz.prog W = .ok false W := by kernel_rfl
theorem agg27 (W : World) : (isAgg 27).run Tryz.prog W = .ok false W := by kernel_rfl

set_option maxHeartbeats 1000000 in
theorem Read_bad (v : Value) (p n : Int) (w : World) (h : HZ w v) : Calls Tryz.prog 6 #[v, .int .i64 p, .int .i64 n] w fun e w' => e = .returned (.tuple #[.slice none 0 0, .int .i64 1]) ∧ Below w.heap.size w w' := by
  have C := hid (fun W (hW : Below w.heap.size w W) => asked_bad v n W (h.keep hW))
  have G := hid (fun x y z => grow3 w x y z)
  rcases h with rfl | ⟨b, rfl, c⟩
  all_goals
    try clear c
    go_enter Tryz.func6, Tryz.ntmps6
    go_wp2_with (go_at_call 10; refine (C.out _ (G.out _ _ _)).mono ?_; rintro e w1 ⟨rfl, hw⟩; obtain rfl := hw.symm)
    refine bodyPost_ret (ret_cells (x := .slice none 0 0) (y := .int .i64 1) rfl agg30 agg27 rfl rfl (cell_2 _ _ _ _) (cell_3 _ _ _ _)) rfl ?_
    exact ⟨rfl, G.out _ _ _⟩

set_option maxHeartbeats 1000000 in
theorem Pages_bad (v : Value) (p n : Int) (w : World) (h : HZ w v) : Calls Tryz.prog 7 #[v, .int .i64 p, .int .i64 n] w fun e w' => e = .returned (.tuple #[.slice none 0 0, .int .i64 1]) ∧ Below w.heap.size w w' := by
  have C := hid (fun W (hW : Below w.heap.size w W) => asked_bad v n W (h.keep hW))
  have G := hid (fun x y => grow2 w x y)
  rcases h with rfl | ⟨b, rfl, c⟩
  all_goals
    try clear c
    go_enter Tryz.func7, Tryz.ntmps7
    go_wp2_with (go_at_call 10; refine (C.out _ (G.out _ _)).mono ?_; rintro e w1 ⟨rfl, hw⟩; obtain rfl := hw.symm)
    refine bodyPost_ret (ret_cells (x := .slice none 0 0) (y := .int .i64 1) rfl agg34 agg27 rfl rfl (cell_1 _ _ _ _) (cell_2' _ _ _)) rfl ?_
    exact ⟨rfl, G.out _ _⟩

set_option maxHeartbeats 1000000 in
theorem Free_bad (v : Value) (p n : Int) (w : World) (h : HZ w v) : Calls Tryz.prog 8 #[v, .int .i64 p, .int .i64 n] w fun e w' => e = .returned (.int .i64 1) ∧ Below w.heap.size w w' := by
  have C := hid (fun W (hW : Below w.heap.size w W) => asked_bad v n W (h.keep hW))
  have G := hid (fun x => grow1 w x)
  rcases h with rfl | ⟨b, rfl, c⟩
  all_goals
    try clear c
    go_enter Tryz.func8, Tryz.ntmps8
    go_wp2_with (go_at_call 10; refine (C.out _ (G.out _)).mono ?_; rintro e w1 ⟨rfl, hw⟩; have HW := hid hw; clear hw)
    go_ret
    exact ⟨rfl, by rw [HW.out]; exact G.out _⟩

end Go.Proofs.YtneemfbnjkcflaaGreat
