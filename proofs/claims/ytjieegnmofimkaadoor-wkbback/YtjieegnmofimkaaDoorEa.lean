/- The point that stands for a shape's, and the byte of order; no statement of the seat is proved here. -/
import Derived.Test.YtjieegnmofimkaaDoorDc
namespace Go.Proofs.YtjieegnmofimkaaDoor
open Go.RowKit Go.Maps

/-- A box: what its cells hold. -/
def Bo (w : World) (b : Nat) (cs : Array Value) (t : TypeId) : Prop := w.heap[b]? = some (.cells cs t (0, 0))
theorem Bo.cell {w : World} {b : Nat} {cs : Array Value} {t : TypeId} (h : Bo w b cs t) (i : Nat) (v : Value) (hi : cs[i]? = some v) : w.cell? ⟨b, i, none⟩ = some v := by unfold Bo at h; simp [World.cell?, h, hi]
theorem Bo.fz {w : World} {b : Nat} {cs : Array Value} {t : TypeId} (h : Bo w b cs t) (i : Nat) : w.frozen? ⟨b, i, none⟩ = false := by unfold Bo at h; simp [World.frozen?, h]
theorem Bo.lt {w : World} {b : Nat} {cs : Array Value} {t : TypeId} (h : Bo w b cs t) : b < w.heap.size := (Array.getElem?_eq_some_iff.1 h).1
theorem Bo.keep {w w' : World} {b : Nat} {cs : Array Value} {t : TypeId} (h : Bo w b cs t) (hb : Below w.heap.size w w') : Bo w' b cs t := (hb.block b h.lt).trans h
theorem Bo.set {w : World} {b : Nat} {cs : Array Value} {t : TypeId} (h : Bo w b cs t) (i : Nat) (v : Value) : Bo (w.setCell ⟨b, i, none⟩ v) b (cs.setIfInBounds i v) t := heap_setCell_same w b i cs t v h
theorem Bo.new (w : World) (cs : Array Value) (t : TypeId) : Bo (w.alloc (.cells cs t)) w.heap.size cs t := heap_alloc_new w _
theorem Bo.other {w : World} {b b' i : Nat} {v : Value} {cs : Array Value} {t : TypeId} (h : Bo w b cs t) (hn : b ≠ b') : Bo (w.setCell ⟨b', i, none⟩ v) b cs t := (heap_setCell_other w ⟨b', i, none⟩ b v hn).trans h
theorem load2 {t t' : TypeId} (ha : ∀ W, (isAgg t).run Tryd.prog W = .ok true W) (hs : ∀ W, (Go.sizeOf t).run Tryd.prog W = .ok 2 W) {W : World} {q : Nat} {a b : Value} (h : W.heap[q]? = some (.cells #[a, b] t')) :
    (loadVar t ⟨q, 0, none⟩).run Tryd.prog W = .ok (.agg #[a, b]) W := by
  have hl := run_loadCells_list (P := Tryd.prog) W ⟨q, 0, none⟩ [a, b] (by
    intro j v hj
    have e : W.cell? ((⟨q, 0, none⟩ : Addr).add j) = [a, b][j]? := by rw [Addr.add_lit]; simp [World.cell?, h]
    rw [e]; exact hj)
  simp at hl
  simp [loadVar, ha, hs, hl]
theorem ret_pt {fn : Func} {p : Tmp} (h : fn.results = #[.cell p 56]) {tmps : Array Value} {W : World} {q : Nat} {t' : TypeId} {a b : Value}
    (hp : tmps.getD p undef = .pointer (some ⟨q, 0, none⟩)) (hb : W.heap[q]? = some (.cells #[a, b] t')) : (results fn tmps).run Tryd.prog W = .ok (.agg #[a, b]) W := by
  rw [results_cell1 h, hp]
  simp [asAddr, load2 Tryd.isAgg56 Tryd.sizeOf56 hb]

theorem orderByte_call (l : Bool) (w : World) : Calls Tryd.prog 44 #[.bool l] w fun e w' => e = .returned (.int .u64 (((if l then 1 else 0 : Nat)) : Int)) ∧ w' = w := by
  cases l <;> (go_enter Tryd.func44, Tryd.ntmps44; go_wp2; go_ret; exact ⟨rfl, rfl⟩)
set_option maxRecDepth 100000 in
theorem nowhere_call (w : World) : Calls Tryd.prog 74 #[] w fun e w' => e = .returned (.agg #[.int .i64 NW, .int .i64 NW]) ∧ Below w.heap.size w w' := by
  unfold NW
  go_enter Tryd.func74, Tryd.ntmps74
  go_wp2
  refine bodyPost_ret (ret_pt rfl rfl (heap_alloc_new _ _)) rfl ?_
  exact ⟨rfl, ext1 _⟩
theorem items_other (l : Bool) (t : T) (h : t.k ≠ 0 ∧ t.k ≠ 1 ∧ t.k ≠ 2) : t.items l = [(if l then 1 else 0, 1), (U t.k, 4)] ++ (t.ps.length, 4) :: t.ps.flatMap (T.items l) := by rw [items_eq, if_neg h.1, if_neg h.2.1, if_neg (show ¬ (t.k = 0 ∨ t.k = 2) from fun e => e.elim h.1 h.2.2)]
/-- The point that is written for a list of points. -/
def one1 (l : List (Int × Int)) : Value := .agg #[.int .i64 (one l).1, .int .i64 (one l).2]
set_option maxRecDepth 100000 in
set_option maxHeartbeats 1000000 in
theorem only_call (S : Nat → Prop) (w : World) (xo : Option Addr) (xn xc : Nat) (xy : List (Int × Int)) (hl : xy.length = xn) (hn : xn ≤ 9223372036854775806) (hx : XR S w xo xy) : Calls Tryd.prog 46 #[.slice xo xn xc] w fun e w' => e = .returned (one1 xy) ∧ Below w.heap.size w w' := by
  cases xy with
  | nil =>
    obtain rfl : xn = 0 := by simpa using hl.symm
    have C := hid (fun W => nowhere_call W)
    clear hx hl
    have e : one1 [] = .agg #[.int .i64 NW, .int .i64 NW] := rfl
    rw [e]
    generalize NW = z at *
    go_enter Tryd.func46, Tryd.ntmps46
    go_wp2_with (go_at_call 74; refine (C.out _).mono ?_; rintro e w1 ⟨rfl, hb1⟩; have B1 := hid ((Bo.new w #[.int .i64 0, .int .i64 0] 56).keep hb1); have c0 := B1.out.cell 0 _ rfl; have c1 := B1.out.cell 1 _ rfl; have f0 := B1.out.fz 0; have f1 := B1.out.fz 1; have z1 := B1.out.lt; have H1 := hid hb1; clear hb1)
    refine bodyPost_ret (ret_pt rfl rfl ((B1.out.set 0 _).set 1 _)) rfl ?_
    exact ⟨rfl, (((ext1 _).trans (H1.out.mono (by simp))).setCell (Nat.le_refl _) _).setCell (Nat.le_refl _) _⟩
  | cons p r =>
    rcases hx with h | ⟨b, off, rfl, hS, hc⟩
    · cases h
    obtain ⟨c0, c1⟩ := hc 0 p rfl
    have lb := lt_cell c0
    have d0 := keep_old (ext1 (.cells #[.int .i64 0, .int .i64 0] 56)) c0
    have d1 := keep_old (ext1 (.cells #[.int .i64 0, .int .i64 0] 56)) c1
    obtain ⟨n, rfl⟩ : ∃ n, xn = n + 1 := ⟨xn - 1, by simp at hl; omega⟩
    have e : one1 (p :: r) = .agg #[.int .i64 p.1, .int .i64 p.2] := rfl
    rw [e]
    simp only [Nat.zero_mul, Nat.add_zero] at c0 c1 d0 d1
    clear hl hc hS
    have z1 : (((n + 1 : Nat) : Int) == 0) = false := by simp; omega
    go_enter Tryd.func46, Tryd.ntmps46
    go_wp2
    refine bodyPost_ret (ret_pt rfl rfl (heap_alloc_new _ _)) rfl ?_
    exact ⟨rfl, ext1 _⟩
end Go.Proofs.YtjieegnmofimkaaDoor
