/- The calls of a pager that no call made, or that is dead; no statement of the seat is proved here. -/
import Derived.Test.YtokofpbhbjbnfaaGreatDoorG38
import Derived.Test.YtokofpbhbjbnfaaGreatDoorG44
import Derived.Test.YtokofpbhbjbnfaaGreatDoorG01
import Derived.Test.YtokofpbhbjbnfaaGreatDoorG11
import Derived.ProofKit
import Derived.OpenShut
import Derived.ChangeSlices
import Derived.LaidMore
import Derived.Lib.LaidTab
namespace Go.Proofs.YtokofpbhbjbnfaaGreatDoor
open Go.RowKit Go.Maps
open Dsk (gt hid undrew keep_old keep_cell lt_cell)

/-- A pager that answers f whatever it is asked. -/
def Bad (w : World) (v : Value) (f : Int) : Prop := f ≠ 0 ∧ ((v = .pointer none ∧ f = 1) ∨ ∃ p m g, v = .pointer (some ⟨p, 0, none⟩) ∧ Fate w p m g ∧ f = if m then g else 1)
theorem Bad.keep {w w' : World} {v : Value} {f : Int} (h : Bad w v f) (hb : Below w.heap.size w w') : Bad w' v f := by
  refine ⟨h.1, ?_⟩
  rcases h.2 with h1 | ⟨p, m, g, rfl, h2, h3⟩
  · exact Or.inl h1
  · exact Or.inr ⟨p, m, g, rfl, ⟨keep_old hb h2.1, keep_old hb h2.2⟩, h3⟩

theorem fault_bad (v : Value) (f : Int) (w : World) (h : Bad w v f) : Calls Tryz.prog 53 #[v] w fun e w' => e = .returned (.int .i64 f) ∧ Below w.heap.size w w' := by
  rcases h.2 with ⟨rfl, rfl⟩ | ⟨p, m, g, rfl, h2, rfl⟩
  · exact fault_nil w
  · exact fault_any p m g w h2
theorem within_bad (v : Value) (f : Int) (w : World) (h : Bad w v f) : Calls Tryz.prog 55 #[v] w fun e w' => e = .returned (.int .i64 f) ∧ Below w.heap.size w w' := by
  rcases h.2 with ⟨rfl, rfl⟩ | ⟨p, m, g, rfl, h2, rfl⟩
  · exact within_nil w
  · exact within_fault p m g w h2 h.1

set_option maxHeartbeats 1000000 in
theorem bad_get (v : Value) (f : Int) (n : Int) (w : World) (h : Bad w v f) : Calls Tryz.prog 34 #[v, .int .i64 n] w fun e w' => e = .returned (.tuple #[.slice none 0 0, .int .i64 f]) ∧ Below w.heap.size w w' := by
  have c := hid (fault_bad v f w h)
  have h0 := h.1
  clear h
  go_enter Tryz.func34, Tryz.ntmps34
  go_wp2_with (go_at_call 53; refine c.out.mono ?_; rintro e w1 ⟨rfl, hb1⟩; have HB := hid hb1; clear hb1)
  go_ret2
  exact ⟨rfl, HB.out⟩

set_option maxHeartbeats 1000000 in
theorem bad_grow (v : Value) (f : Int) (w : World) (h : Bad w v f) : Calls Tryz.prog 31 #[v] w fun e w' => e = .returned (.tuple #[.int .i64 0, .int .i64 f]) ∧ Below w.heap.size w w' := by
  have c := hid (within_bad v f w h)
  have h0 := h.1
  clear h
  go_enter Tryz.func31, Tryz.ntmps31
  go_wp2_with (go_at_call 55; refine c.out.mono ?_; rintro e w1 ⟨rfl, hb1⟩; have HB := hid hb1; clear hb1)
  go_ret2
  exact ⟨rfl, HB.out⟩

set_option maxHeartbeats 1000000 in
theorem bad_mark (v : Value) (f : Int) (w : World) (h : Bad w v f) : Calls Tryz.prog 35 #[v] w fun e w' => e = .returned (.tuple #[.int .i64 0, .int .i64 f]) ∧ Below w.heap.size w w' := by
  have c := hid (within_bad v f w h)
  have h0 := h.1
  clear h
  go_enter Tryz.func35, Tryz.ntmps35
  go_wp2_with (go_at_call 55; refine c.out.mono ?_; rintro e w1 ⟨rfl, hb1⟩; have HB := hid hb1; clear hb1)
  go_ret2
  exact ⟨rfl, HB.out⟩

set_option maxHeartbeats 1000000 in
theorem bad_begin (v : Value) (f : Int) (w : World) (h : Bad w v f) : Calls Tryz.prog 30 #[v] w fun e w' => e = .returned (.int .i64 f) ∧ Below w.heap.size w w' := by
  have c := hid (fault_bad v f w h)
  have h0 := h.1
  clear h
  go_enter Tryz.func30, Tryz.ntmps30
  go_wp2_with (go_at_call 53; refine c.out.mono ?_; rintro e w1 ⟨rfl, hb1⟩; have HB := hid hb1; clear hb1)
  go_ret
  exact ⟨rfl, HB.out⟩

set_option maxHeartbeats 1000000 in
theorem bad_put (v : Value) (f : Int) (n : Int) (b : Value) (w : World) (h : Bad w v f) : Calls Tryz.prog 32 #[v, .int .i64 n, b] w fun e w' => e = .returned (.int .i64 f) ∧ Below w.heap.size w w' := by
  have c := hid (within_bad v f w h)
  have h0 := h.1
  clear h
  go_enter Tryz.func32, Tryz.ntmps32
  go_wp2_with (go_at_call 55; refine c.out.mono ?_; rintro e w1 ⟨rfl, hb1⟩; have HB := hid hb1; clear hb1)
  go_ret
  exact ⟨rfl, HB.out⟩

set_option maxHeartbeats 1000000 in
theorem bad_shrink (v : Value) (f : Int) (n : Int) (w : World) (h : Bad w v f) : Calls Tryz.prog 37 #[v, .int .i64 n] w fun e w' => e = .returned (.int .i64 f) ∧ Below w.heap.size w w' := by
  have A0 : Below w.heap.size w (w.alloc (.cells #[.int .i64 n] 3)) := Below.alloc (Below.refl _ _) (Nat.le_refl _) _
  have c := hid (within_bad v f _ (h.keep A0))
  have HA := hid A0
  clear A0
  have h0 := h.1
  clear h
  go_enter Tryz.func37, Tryz.ntmps37
  go_wp2_with (go_at_call 55; refine c.out.mono ?_; rintro e w1 ⟨rfl, hb1⟩; have HB := hid hb1; clear hb1)
  go_ret
  exact ⟨rfl, gt HA.out HB.out⟩

set_option maxHeartbeats 1000000 in
theorem bad_undo (v : Value) (f : Int) (n : Int) (w : World) (h : Bad w v f) : Calls Tryz.prog 38 #[v, .int .i64 n] w fun e w' => e = .returned (.int .i64 f) ∧ Below w.heap.size w w' := by
  have c := hid (within_bad v f w h)
  have h0 := h.1
  clear h
  go_enter Tryz.func38, Tryz.ntmps38
  go_wp2_with (go_at_call 55; refine c.out.mono ?_; rintro e w1 ⟨rfl, hb1⟩; have HB := hid hb1; clear hb1)
  go_ret
  exact ⟨rfl, HB.out⟩

set_option maxHeartbeats 1000000 in
theorem bad_rollback (v : Value) (f : Int) (w : World) (h : Bad w v f) : Calls Tryz.prog 39 #[v] w fun e w' => e = .returned (.int .i64 f) ∧ Below w.heap.size w w' := by
  have c := hid (within_bad v f w h)
  have h0 := h.1
  clear h
  go_enter Tryz.func39, Tryz.ntmps39
  go_wp2_with (go_at_call 55; refine c.out.mono ?_; rintro e w1 ⟨rfl, hb1⟩; have HB := hid hb1; clear hb1)
  go_ret
  exact ⟨rfl, HB.out⟩

set_option maxHeartbeats 1000000 in
theorem bad_commit (v : Value) (f : Int) (w : World) (h : Bad w v f) : Calls Tryz.prog 27 #[v] w fun e w' => e = .returned (.int .i64 f) ∧ Below w.heap.size w w' := by
  have c := hid (within_bad v f w h)
  have h0 := h.1
  clear h
  go_enter Tryz.func27, Tryz.ntmps27
  go_wp2_with (go_at_call 55; refine c.out.mono ?_; rintro e w1 ⟨rfl, hb1⟩; have HB := hid hb1; clear hb1)
  go_ret
  exact ⟨rfl, HB.out⟩

set_option maxHeartbeats 1000000 in
theorem bad_pages (v : Value) (f : Int) (w : World) (h : Bad w v f) : Calls Tryz.prog 12 #[v] w fun e w' => e = .returned (.int .i64 0) ∧ Below w.heap.size w w' := by
  have c := hid (fault_bad v f w h)
  have h0 := h.1
  clear h
  go_enter Tryz.func12, Tryz.ntmps12
  go_wp2_with (go_at_call 53; refine c.out.mono ?_; rintro e w1 ⟨rfl, hb1⟩; have HB := hid hb1; clear hb1)
  go_ret
  exact ⟨rfl, HB.out⟩

set_option maxHeartbeats 1000000 in
theorem bad_changed (v : Value) (f : Int) (w : World) (h : Bad w v f) : Calls Tryz.prog 17 #[v] w fun e w' => e = .returned (.slice none 0 0) ∧ Below w.heap.size w w' := by
  have c := hid (fault_bad v f w h)
  have h0 := h.1
  clear h
  go_enter Tryz.func17, Tryz.ntmps17
  go_wp2_with (go_at_call 53; refine c.out.mono ?_; rintro e w1 ⟨rfl, hb1⟩; have HB := hid hb1; clear hb1)
  go_ret
  exact ⟨rfl, HB.out⟩

set_option maxHeartbeats 1000000 in
theorem bad_cached (v : Value) (f : Int) (w : World) (h : Bad w v f) : Calls Tryz.prog 22 #[v] w fun e w' => e = .returned (.int .i64 0) ∧ Below w.heap.size w w' := by
  have c := hid (fault_bad v f w h)
  have h0 := h.1
  clear h
  go_enter Tryz.func22, Tryz.ntmps22
  go_wp2_with (go_at_call 53; refine c.out.mono ?_; rintro e w1 ⟨rfl, hb1⟩; have HB := hid hb1; clear hb1)
  go_ret
  exact ⟨rfl, HB.out⟩

set_option maxHeartbeats 1000000 in
theorem bad_commits (v : Value) (f : Int) (w : World) (h : Bad w v f) : Calls Tryz.prog 15 #[v] w fun e w' => e = .returned (.int .i64 0) ∧ Below w.heap.size w w' := by
  have c := hid (fault_bad v f w h)
  have h0 := h.1
  clear h
  go_enter Tryz.func15, Tryz.ntmps15
  go_wp2_with (go_at_call 53; refine c.out.mono ?_; rintro e w1 ⟨rfl, hb1⟩; have HB := hid hb1; clear hb1)
  go_ret
  exact ⟨rfl, HB.out⟩

set_option maxHeartbeats 1000000 in
theorem bad_replayed (v : Value) (f : Int) (w : World) (h : Bad w v f) : Calls Tryz.prog 19 #[v] w fun e w' => e = .returned (.int .i64 0) ∧ Below w.heap.size w w' := by
  have c := hid (fault_bad v f w h)
  have h0 := h.1
  clear h
  go_enter Tryz.func19, Tryz.ntmps19
  go_wp2_with (go_at_call 53; refine c.out.mono ?_; rintro e w1 ⟨rfl, hb1⟩; have HB := hid hb1; clear hb1)
  go_ret
  exact ⟨rfl, HB.out⟩

set_option maxHeartbeats 1000000 in
theorem bad_busy (v : Value) (f : Int) (w : World) (h : Bad w v f) : Calls Tryz.prog 14 #[v] w fun e w' => e = .returned (.bool false) ∧ Below w.heap.size w w' := by
  have c := hid (within_bad v f w h)
  have h0 := h.1
  clear h
  go_enter Tryz.func14, Tryz.ntmps14
  go_wp2_with (go_at_call 55; refine c.out.mono ?_; rintro e w1 ⟨rfl, hb1⟩; have HB := hid hb1; clear hb1)
  go_ret
  exact ⟨by simp [h0], HB.out⟩

end Go.Proofs.YtokofpbhbjbnfaaGreatDoor

/- Opening a disk that no call made; bytes of an act; what is held while a bad pager is asked; no statement of the seat is proved here. -/
namespace Go.Proofs.YtokofpbhbjbnfaaGreatDoor
open Go.RowKit Go.Maps
open Dsk (gt hid undrew keep_old keep_cell lt_cell Rd)

set_option maxHeartbeats 1000000 in
theorem open_no (v : Value) (r : Int) (w : World) (h : Dsk.NoDisk w v) : Calls Tryz.prog 10 #[v, .int .i64 r] w fun e w' => e = .returned (.tuple #[.pointer none, .int .i64 1]) ∧ w' = w := by
  have c := hid (Dsk.room_no v w h)
  clear h
  go_enter Tryz.func10, Tryz.ntmps10
  go_wp2_with (go_at_call 41; refine c.out.mono ?_; rintro e w1 ⟨rfl, hw1⟩; obtain rfl := hw1.symm)
  go_ret2
  exact ⟨rfl, rfl⟩

set_option maxHeartbeats 1000000 in
theorem bytes_any (k n : Int) (s : Nat) (sh : Bool) (w : World) : Calls Tryz.prog 36 #[.agg #[.int .i64 k, .int .i64 n, .int .u8 (s : Int), .bool sh]] w fun e w' => ∃ ao l c, e = .returned (.slice ao l c) ∧ Below w.heap.size w w' := by
  cases sh
  · go_enter Tryz.func36, Tryz.ntmps36
    go_wp2_with (go_at_call 33; refine (page_any s _).mono ?_; rintro e w1 ⟨g, rfl, _, _, _, hb1⟩; have HB := hid hb1; clear hb1)
    go_ret
    exact ⟨_, _, _, rfl, gt (by repeat (first | with_reducible exact Below.refl _ _ | with_reducible assumption | with_reducible refine Below.drew ?_ | with_reducible refine below_drewN ?_ _ | with_reducible refine Below.alloc ?_ (by simp <;> omega) _ | with_reducible refine Below.setCell ?_ (by simp <;> omega) _)) HB.out⟩
  · go_enter Tryz.func36, Tryz.ntmps36
    go_wp2
    go_ret
    exact ⟨_, _, _, rfl, (by repeat (first | with_reducible exact Below.refl _ _ | with_reducible assumption | with_reducible refine Below.drew ?_ | with_reducible refine below_drewN ?_ _ | with_reducible refine Below.alloc ?_ (by simp <;> omega) _ | with_reducible refine Below.setCell ?_ (by simp <;> omega) _))⟩

/-- An act in its box. -/
def ActAt (w : World) (b : Nat) (k n : Int) (s : Nat) (sh : Bool) : Prop := w.cell? ⟨b, 0, none⟩ = some (.int .i64 k) ∧ w.cell? ⟨b, 1, none⟩ = some (.int .i64 n) ∧ w.cell? ⟨b, 2, none⟩ = some (.int .u8 (s : Int)) ∧ w.cell? ⟨b, 3, none⟩ = some (.bool sh)
theorem ActAt.keep {w w' : World} {b : Nat} {k n : Int} {s : Nat} {sh : Bool} (h : ActAt w b k n s sh) (hb : Below w.heap.size w w') : ActAt w' b k n s sh := ⟨keep_old hb h.1, keep_old hb h.2.1, keep_old hb h.2.2.1, keep_old hb h.2.2.2⟩

/-- What is held while a bad pager is asked. -/
abbrev NS (w : World) (b : Nat) (k n : Int) (s : Nat) (sh : Bool) (v : Value) (f : Int) (W : World) : Prop := ActAt W b k n s sh ∧ Bad W v f ∧ Below w.heap.size w W
theorem NS.keep {w W W' : World} {b : Nat} {k n : Int} {s : Nat} {sh : Bool} {v : Value} {f : Int} (h : NS w b k n s sh v f W) (hb : Below W.heap.size W W') : NS w b k n s sh v f W' := ⟨h.1.keep hb, h.2.1.keep hb, gt h.2.2 hb⟩
theorem NS.bad {w W : World} {b : Nat} {k n : Int} {s : Nat} {sh : Bool} {v : Value} {f : Int} (h : NS w b k n s sh v f W) : Bad W v f := h.2.1
theorem NS.below {w W : World} {b : Nat} {k n : Int} {s : Nat} {sh : Bool} {v : Value} {f : Int} (h : NS w b k n s sh v f W) : Below w.heap.size w W := h.2.2

theorem nine (f : Int) (i : Nat) (hi : i < 9) (W : World) : (Instr.index 66 (.agg #[.int .i64 f, .int .i64 f, .int .i64 f, .int .i64 f, .int .i64 f, .int .i64 f, .int .i64 f, .int .i64 f, .int .i64 f]) (.int .i64 (i : Int))).run Tryz.prog W = .ok (.int .i64 f) W := by
  rcases i with _ | _ | _ | _ | _ | _ | _ | _ | _ | i
  iterate 9 kernel_rfl
  omega

end Go.Proofs.YtokofpbhbjbnfaaGreatDoor

/- How an act that came in is read, and what the table that the program's text lays gives the walks; no statement of the seat is proved here. -/
namespace Go.Proofs.YtokofpbhbjbnfaaGreatDoor
open Go.ChangeShapes Go.WideShapes Go.ChangeAt Go.RowKit

def shapeOf : TypeDesc → Option (List (TypeId × Nat))
  | .struct fs => some (fs.toList.map fun f => (f.type, f.offset))
  | _ => none

theorem struct_of {P : Program} {t : TypeId} {L : List (TypeId × Nat)} (h : (P.underlying t).bind shapeOf = some L) :
    ∃ fs : Array Field, P.underlying t = some (.struct fs) ∧ ∀ (i : Nat) (ty : TypeId) (off : Nat), L[i]? = some (ty, off) → ∃ f : Field, fs[i]? = some f ∧ f.type = ty ∧ f.offset = off := by
  obtain ⟨d, hd, hs⟩ := Option.bind_eq_some_iff.1 h
  cases d with
  | struct fs =>
    refine ⟨fs, hd, fun i ty off hi => ?_⟩
    simp only [shapeOf, Option.some.injEq] at hs
    subst hs
    rw [List.getElem?_map] at hi
    obtain ⟨f, hf, he⟩ := Option.map_eq_some_iff.1 hi
    simp only [Prod.mk.injEq] at he
    exact ⟨f, by simpa using hf, he.1, he.2⟩
  | _ => simp [shapeOf] at hs

section
variable {H : Type} {enc : TypeId × Value → H} {P : Program} {w : World} {base : Nat} {spare : Nat → Bool} {held : Bool}

theorem field_of {t : TypeId} {L : List (TypeId × Nat)} (h : (P.underlying t).bind shapeOf = some L) {fuel : Nat} {cs : List Value} {x : DataW H × List MemPlace}
    (hx : DataW.trod enc P w base spare held fuel t cs = some x) : cs.length = P.cellsOf t ∧ ∀ (i : Nat) (ty : TypeId) (off : Nat), L[i]? = some (ty, off) → ∃ y n, DataW.trod enc P w base spare held n ty ((cs.drop off).take (P.cellsOf ty)) = some y := by
  obtain ⟨fs, hu, hf⟩ := struct_of h
  obtain ⟨xs, n, _, _, hl, hxl, hi⟩ := DataW.trod_struct hu hx
  refine ⟨hl, fun i ty off hL => ?_⟩
  obtain ⟨f, h1, rfl, rfl⟩ := hf i ty off hL
  have h2 := hi i f h1
  have hlt : i < xs.length := by
    rw [hxl]; exact (Array.getElem?_eq_some_iff.1 h1).1
  exact ⟨xs[i], n, by rw [h2, List.getElem?_eq_getElem hlt]⟩

theorem int_at {ty : TypeId} {k : IntKind} (hu : P.underlying ty = some (.int k)) (hc : P.cellsOf ty = 1) {n off : Nat} {cs : List Value} {y : DataW H × List MemPlace}
    (h : DataW.trod enc P w base spare held n ty ((cs.drop off).take (P.cellsOf ty)) = some y) : ∃ z : Int, cs[off]? = some (.int k z) ∧ (Lit.int k z).wf = true := by
  obtain ⟨z, hz, _, hw⟩ := DataW.trod_int hu h
  refine ⟨z, ?_, hw⟩
  have h3 := congrArg (fun l : List Value => l[0]?) hz
  simp [hc] at h3
  simpa using h3

theorem bool_at {ty : TypeId} (hu : P.underlying ty = some .bool) (hc : P.cellsOf ty = 1) {n off : Nat} {cs : List Value} {y : DataW H × List MemPlace}
    (h : DataW.trod enc P w base spare held n ty ((cs.drop off).take (P.cellsOf ty)) = some y) : ∃ b : Bool, cs[off]? = some (.bool b) := by
  obtain ⟨b, hz, _⟩ := DataW.trod_bool hu h
  refine ⟨b, ?_⟩
  have h3 := congrArg (fun l : List Value => l[0]?) hz
  simp [hc] at h3
  simpa using h3

end

section
variable {H : Type} {enc : TypeId × Value → H} {P : Program} {w : World} {base : Nat} {held : Bool}

theorem bounds_u8' {z : Int} (h : (Lit.int .u8 z).wf = true) : 0 ≤ z ∧ z < 256 := by
  simp [Lit.wf, IntKind.min, IntKind.max, IntKind.bits, IntKind.signed] at h
  omega

end

theorem bounds_i64' {z : Int} (h : (Lit.int .i64 z).wf = true) : -9223372036854775808 ≤ z ∧ z ≤ 9223372036854775807 := by
  simp [Lit.wf, IntKind.min, IntKind.max, IntKind.bits, IntKind.signed] at h
  omega

theorem act_shape : (Tryz.prog.underlying 37).bind shapeOf = some [(3, 0), (3, 1), (5, 2), (4, 3)] := by kernel_rfl

section
variable {H : Type} {enc : TypeId × Value → H} {w : World} {base : Nat} {held : Bool}

theorem agg_of {P : Program} {r : Reach} {b0 : Nat} {t : TypeId} {fs : Array Field} {v : Value} (hu : P.underlying t = some (.struct fs)) (hv : Value.okWide P w r b0 t v) : ∃ cs : List Value, v = .agg cs.toArray := by
  simp only [Value.okWide, hu] at hv
  obtain ⟨cs, rfl, _⟩ := hv
  exact ⟨cs.toList, by simp⟩

theorem bool_of {P : Program} {r : Reach} {b0 : Nat} {t : TypeId} {v : Value} (hu : P.underlying t = some .bool) (hv : Value.okWide P w r b0 t v) : ∃ b, v = .bool b := by
  simp only [Value.okWide, hu] at hv
  cases v <;> simp [Cell.okWide, Cell.ok, hu] at hv ⊢

theorem one_act {spare : Nat → Bool} {n : Nat} {cs : List Value} {y : DataW H × List MemPlace} (h : DataW.trod enc Tryz.prog w base spare held n 37 cs = some y) :
    ∃ t : Int × Int × Nat × Bool, cs[0]? = some (.int .i64 t.1) ∧ cs[1]? = some (.int .i64 t.2.1) ∧ cs[2]? = some (.int .u8 (t.2.2.1 : Int)) ∧ cs[3]? = some (.bool t.2.2.2) ∧ t.2.2.1 < 256 ∧ (-9223372036854775808 ≤ t.1 ∧ t.1 ≤ 9223372036854775807) ∧ (-9223372036854775808 ≤ t.2.1 ∧ t.2.1 ≤ 9223372036854775807) := by
  obtain ⟨_, hx⟩ := field_of act_shape h
  obtain ⟨y0, n0, h0⟩ := hx 0 3 0 rfl
  obtain ⟨y1, n1, h1⟩ := hx 1 3 1 rfl
  obtain ⟨y2, n2, h2⟩ := hx 2 5 2 rfl
  obtain ⟨y3, n3, h3⟩ := hx 3 4 3 rfl
  obtain ⟨k, hk, kw⟩ := int_at Tryz.underlying3 (by kernel_rfl) h0
  obtain ⟨q, hq, qw⟩ := int_at Tryz.underlying3 (by kernel_rfl) h1
  obtain ⟨z, hz, zw⟩ := int_at Tryz.underlying5 (by kernel_rfl) h2
  obtain ⟨l, hl⟩ := bool_at Tryz.underlying4 (by kernel_rfl) h3
  have hb := bounds_u8' zw
  obtain ⟨z, rfl⟩ := Int.eq_ofNat_of_zero_le hb.1
  exact ⟨(k, q, z, l), hk, hq, hz, hl, by simp only; omega, bounds_i64' kw, bounds_i64' qw⟩

set_option maxRecDepth 100000 in
theorem open_act {spare : Nat → Bool} {r : Reach} {b0 : Nat} {v : Value} {d : DataW H} {p : List MemPlace} (hv : Value.okWide Tryz.prog w r b0 37 v) (h : DataW.Trod enc Tryz.prog w base spare held 37 v d p) :
    ∃ (k n : Int) (s : Nat) (l : Bool), v = .agg #[.int .i64 k, .int .i64 n, .int .u8 (s : Int), .bool l] ∧ s < 256 ∧ (-9223372036854775808 ≤ k ∧ k ≤ 9223372036854775807) ∧ (-9223372036854775808 ≤ n ∧ n ≤ 9223372036854775807) := by
  obtain ⟨fs, hu, _⟩ := struct_of act_shape
  obtain ⟨cs, rfl⟩ := agg_of hu hv
  obtain ⟨fuel, hf⟩ := h
  have hf' : DataW.trod enc Tryz.prog w base spare held fuel 37 cs = some (d, p) := by simpa [Value.cells] using hf
  obtain ⟨hl, _⟩ := field_of act_shape hf'
  rw [show Tryz.prog.cellsOf 37 = 4 by kernel_rfl] at hl
  obtain ⟨⟨k, n, s, l⟩, h0, h1, h2, h3, h4, h5, h6⟩ := one_act hf'
  match cs, hl with
  | [c0, c1, c2, c3], _ =>
    simp at h0 h1 h2 h3
    exact ⟨k, n, s, l, by rw [h0, h1, h2, h3], h4, h5, h6⟩
end

/-- A heap with the table in it is not empty. -/
theorem Jrn.Tab.pos {W : World} (h : Jrn.Tab W) : 0 < W.heap.size := by
  rcases Nat.eq_zero_or_pos W.heap.size with h0 | h0
  · exact absurd (Dsk.lt_cell (h 0 (by omega))) (by simp [h0])
  · exact h0

def laid1 : List (String × DataW Unit) := [("hachure/sum.carried", Rows.laid_hachure_sum_carried)]
def tabZ : List Int := [0, 274646895, 549293790, 820201905, 1098587580, 1361435347, 1640403810, 1905808397, 2197175160, 2460548119, 2722870694, 2987750089, 3280807620, 3553878443, 3811616794, 4084100981]
theorem laid1_eq : laid1 = [("hachure/sum.carried", Lib.tabData .u32 tabZ)] := rfl
theorem gTab : Tryz.prog.globalNamed "hachure/sum.carried" = some 0 := by kernel_rfl
theorem tTab : (Tryz.prog.globals[0]?).map (·.type) = some 212 := by kernel_rfl
theorem uTab : Tryz.prog.underlying 212 = some (.array 16 176) := by kernel_rfl

theorem tab_nums : ∀ k : Fin 16, tabZ.getD k.val 0 = ((Jrn.txn 4 k.val : Nat) : Int) := by decide +kernel

/-- What the condition gives the walks. -/
theorem tab_of_laid {W : World} (h : laidMetH Tryz.prog laid1 W) : Jrn.Tab W := by
  rw [MakeChecks.laidMetH_plain _ _ _ (by kernel_rfl), laid1_eq] at h
  have hT := Lib.tabIs_of_head gTab tTab uTab Tryz.underlying176 (by kernel_rfl) (by kernel_rfl) h
  intro k hk
  rw [hT.cell gTab k (by simpa [tabZ] using hk), tab_nums ⟨k, hk⟩]

/-- The door's own heap meets the condition. -/
theorem door_met (os : Os) (args : Array Value) : laidMetH Tryz.prog laid1 ((World.doorLaid Tryz.prog 14 os).forCall (fun _ _ => 0) ⟨#[], args, []⟩).memory :=
  laidMetH_of_parts3 (fuel := 8) (laidMet_of_run' 8 (by kernel_rfl) (by kernel_rfl)) (by kernel_rfl) (by kernel_rfl)

end Go.Proofs.YtokofpbhbjbnfaaGreatDoor
