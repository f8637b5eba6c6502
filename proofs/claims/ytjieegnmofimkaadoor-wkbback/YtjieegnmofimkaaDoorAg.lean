/- The rules of kinds, and what one shape is asked without its parts' own; no statement of the seat is proved here. -/
import Derived.Test.YtjieegnmofimkaaDoorAf
import Derived.Laws.ResultCell
namespace Go.Proofs.YtjieegnmofimkaaDoor
open Go.RowKit Go.Maps

def nmT : List (List UInt8) := [[], [80, 79, 73, 78, 84], [76, 73, 78, 69, 83, 84, 82, 73, 78, 71], [80, 79, 76, 89, 71, 79, 78], [77, 85, 76, 84, 73, 80, 79, 73, 78, 84], [77, 85, 76, 84, 73, 76, 73, 78, 69, 83, 84, 82, 73, 78, 71], [77, 85, 76, 84, 73, 80, 79, 76, 89, 71, 79, 78], [71, 69, 79, 77, 69, 84, 82, 89, 67, 79, 76, 76, 69, 67, 84, 73, 79, 78]]
def loT : List Int := [1, 1, 1, 0, 1, 2, 3, 1]
def hiT : List Int := [0, 0, 0, 0, 1, 2, 3, 7]
def nm (k : Nat) : ByteArray := ⟨(nmT.getD k []).toArray⟩
def lo (k : Nat) : Int := loT.getD k 0
def hi (k : Nat) : Int := hiT.getD k 0
/-- The table of rules. -/
def Tab (w : World) : Prop := ∀ k : Nat, k < 8 → w.cell? ⟨0, k * 3, none⟩ = some (.string (nm k)) ∧ w.cell? ⟨0, k * 3 + 1, none⟩ = some (.int .i64 (lo k)) ∧ w.cell? ⟨0, k * 3 + 2, none⟩ = some (.int .i64 (hi k))
theorem Tab.keep {w w' : World} (h : Tab w) (hb : Below w.heap.size w w') : Tab w' := fun k hk => ⟨keep_old hb (h k hk).1, keep_old hb (h k hk).2.1, keep_old hb (h k hk).2.2⟩

theorem load3 {t t' : TypeId} (ha : ∀ W, (isAgg t).run Tryd.prog W = .ok true W) (hs : ∀ W, (Go.sizeOf t).run Tryd.prog W = .ok 3 W) {W : World} {q : Nat} {a b c : Value} (h : W.heap[q]? = some (.cells #[a, b, c] t')) :
    (loadVar t ⟨q, 0, none⟩).run Tryd.prog W = .ok (.agg #[a, b, c]) W := by
  have hl := run_loadCells_list (P := Tryd.prog) W ⟨q, 0, none⟩ [a, b, c] (by
    intro j v hj
    have e : W.cell? ((⟨q, 0, none⟩ : Addr).add j) = [a, b, c][j]? := by rw [Addr.add_lit]; simp [World.cell?, h]
    rw [e]; exact hj)
  simp at hl
  simp [loadVar, ha, hs, hl]
theorem ret_rule {fn : Func} {p u : Tmp} (h : fn.results = #[.cell p 113, .tmp u]) {tmps : Array Value} {W : World} {q : Nat} {t' : TypeId} {a b c : Value}
    (hp : tmps.getD p undef = .pointer (some ⟨q, 0, none⟩)) (hb : W.heap[q]? = some (.cells #[a, b, c] t')) : (results fn tmps).run Tryd.prog W = .ok (.tuple #[.agg #[a, b, c], tmps.getD u undef]) W := by
  rw [results_cell_tmp h, hp]
  simp [asAddr, load3 Tryd.isAgg113 Tryd.sizeOf113 hb]

/-- The rule of a number. -/
def isK (k : Int) : Bool := decide (0 ≤ k) && decide (k < 8)
def rnm (k : Int) : ByteArray := if isK k then nm k.toNat else ⟨#[]⟩
def rlo (k : Int) : Int := if isK k then lo k.toNat else 0
def rhi (k : Int) : Int := if isK k then hi k.toNat else 0

set_option maxRecDepth 100000 in
set_option maxHeartbeats 1000000 in
theorem ruleOf_call (k : Int) (w : World) (hT : Tab w) : Calls Tryd.prog 71 #[.int .i64 k] w fun e w' => e = .returned (.tuple #[.agg #[.string (rnm k), .int .i64 (rlo k), .int .i64 (rhi k)], .bool (isK k)]) ∧ Below w.heap.size w w' := by
  by_cases h0 : k < 0
  · have e : isK k = false := by unfold isK; simp; omega
    rw [show rnm k = ⟨#[]⟩ by simp [rnm, e], show rlo k = 0 by simp [rlo, e], show rhi k = 0 by simp [rhi, e], e]
    clear e hT
    have n1 : decide (k < 0) = true := by simp [h0]
    go_enter Tryd.func71, Tryd.ntmps71
    go_wp2
    refine bodyPost_ret (ret_rule rfl rfl (heap_alloc_new _ _)) rfl ?_
    exact ⟨rfl, ext1 _⟩
  · by_cases h8 : 8 ≤ k
    · have e : isK k = false := by unfold isK; simp; omega
      rw [show rnm k = ⟨#[]⟩ by simp [rnm, e], show rlo k = 0 by simp [rlo, e], show rhi k = 0 by simp [rhi, e], e]
      clear e hT
      have h0' : 0 ≤ k := by omega
      go_enter Tryd.func71, Tryd.ntmps71
      go_wp2
      refine bodyPost_ret (ret_rule rfl rfl (heap_alloc_new _ _)) rfl ?_
      exact ⟨rfl, ext1 _⟩
    · obtain ⟨n, rfl⟩ := Int.eq_ofNat_of_zero_le (show 0 ≤ k by omega)
      have h8' : (n : Int) < 8 := by omega
      have e : isK (n : Int) = true := by unfold isK; simp; omega
      rw [show rnm (n : Int) = nm n by simp [rnm, e], show rlo (n : Int) = lo n by simp [rlo, e], show rhi (n : Int) = hi n by simp [rhi, e], e]
      obtain ⟨t0, t1, t2⟩ := hT n (by omega)
      clear e hT h0 h8
      have u0 := keep_old (ext1 (.cells #[.string ⟨#[]⟩, .int .i64 0, .int .i64 0] 113)) t0
      have u1 := keep_old (ext1 (.cells #[.string ⟨#[]⟩, .int .i64 0, .int .i64 0] 113)) t1
      have u2 := keep_old (ext1 (.cells #[.string ⟨#[]⟩, .int .i64 0, .int .i64 0] 113)) t2
      go_enter Tryd.func71, Tryd.ntmps71
      go_wp2
      refine bodyPost_ret (ret_rule rfl rfl (heap_alloc_new _ _)) rfl ?_
      exact ⟨rfl, ext1 _⟩

/-- A rule's box. -/
def RB3 (w : World) (b : Nat) (n : ByteArray) (l h : Int) : Prop := w.heap[b]? = some (.cells #[.string n, .int .i64 l, .int .i64 h] 113)
theorem RB3.cells {w : World} {b : Nat} {n : ByteArray} {l h : Int} (q : RB3 w b n l h) : w.cell? ⟨b, 0, none⟩ = some (.string n) ∧ w.cell? ⟨b, 1, none⟩ = some (.int .i64 l) ∧ w.cell? ⟨b, 2, none⟩ = some (.int .i64 h) := by unfold RB3 at q; simp [World.cell?, q]
theorem RB3.lt {w : World} {b : Nat} {n : ByteArray} {l h : Int} (q : RB3 w b n l h) : b < w.heap.size := (Array.getElem?_eq_some_iff.1 q).1
theorem RB3.keep {w w' : World} {b : Nat} {n : ByteArray} {l h : Int} (q : RB3 w b n l h) (hb : Below w.heap.size w w') : RB3 w' b n l h := (hb.block b q.lt).trans q
theorem RB3.new (w : World) (n : ByteArray) (l h : Int) : RB3 (w.alloc (.cells #[.string n, .int .i64 l, .int .i64 h] 113)) w.heap.size n l h := heap_alloc_new w _

set_option maxRecDepth 100000 in
set_option maxHeartbeats 1000000 in
theorem holds_call (n : ByteArray) (l h p : Int) (w : World) : Calls Tryd.prog 73 #[.agg #[.string n, .int .i64 l, .int .i64 h], .int .i64 p] w fun e w' => e = .returned (.bool (decide (l ≤ p) && decide (p ≤ h))) ∧ Below w.heap.size w w' := by
  by_cases h1 : l ≤ p
  · rw [show decide (l ≤ p) = true by simp [h1], Bool.true_and]
    go_enter Tryd.func73, Tryd.ntmps73
    go_wp2
    go_ret
    exact ⟨rfl, ext1 _⟩
  · rw [show decide (l ≤ p) = false by simp [h1], Bool.false_and]
    have h1' : p < l := by omega
    go_enter Tryd.func73, Tryd.ntmps73
    go_wp2
    go_ret
    exact ⟨rfl, ext1 _⟩

/-- Part of any number. -/
def partK (k : Int) : Int := if isK k && decide (rlo k = rhi k) then rlo k else -1
set_option maxRecDepth 100000 in
set_option maxHeartbeats 1000000 in
theorem part_call (k : Int) (w : World) (hT : Tab w) : Calls Tryd.prog 60 #[.int .i64 k] w fun e w' => e = .returned (.int .i64 (partK k)) ∧ Below w.heap.size w w' := by
  have C := hid (ruleOf_call k w hT)
  unfold partK
  clear hT
  generalize rnm k = n at *
  generalize rlo k = l at *
  generalize rhi k = h at *
  cases hk : isK k with
  | false =>
    rw [hk] at C
    simp only [Bool.false_and]
    clear hk
    go_enter Tryd.func60, Tryd.ntmps60
    go_wp2_with (go_at_call 71; refine C.out.mono ?_; rintro e w1 ⟨rfl, hb1⟩; have H1 := hid hb1; clear hb1)
    go_ret
    exact ⟨rfl, gt H1.out (ext1 _)⟩
  | true =>
    rw [hk] at C
    simp only [Bool.true_and]
    clear hk
    by_cases hl : l = h
    · subst hl
      go_enter Tryd.func60, Tryd.ntmps60
      go_wp2_with (go_at_call 71; refine C.out.mono ?_; rintro e w1 ⟨rfl, hb1⟩; have H1 := hid hb1; clear hb1)
      go_ret
      exact ⟨by simp, gt H1.out (ext1 _)⟩
    · have n1 : (l == h) = false := by simp [hl]
      rw [show decide (l = h) = false by simp [hl]]
      clear hl
      go_enter Tryd.func60, Tryd.ntmps60
      go_wp2_with (go_at_call 71; refine C.out.mono ?_; rintro e w1 ⟨rfl, hb1⟩; have H1 := hid hb1; clear hb1)
      go_ret
      exact ⟨rfl, gt H1.out (ext1 _)⟩
/-- Is no point of these nowhere? -/
def placedB (l : List (Int × Int)) : Bool := l.all fun p => !(p.1 == -9223372036854775808 || p.2 == -9223372036854775808)
theorem drop_at {α : Type} {l : List α} {i : Nat} {p : α} (h : l[i]? = some p) : l.drop i = p :: l.drop (i + 1) := by
  obtain ⟨hl, rfl⟩ := List.getElem?_eq_some_iff.1 h
  exact List.drop_eq_getElem_cons hl
theorem Here.lenI {S : Nat → Prop} {w : World} {s : Sh} (h : Here S w s) : s.xn ≤ 9223372036854775806 ∧ s.pn ≤ 9223372036854775806 := by have := h.xb; have := h.pb; omega

def PlI (s : Sh) (w : World) (c : Value) (W : World) : Prop := ∃ i : Nat, i ≤ s.xn ∧ c = .int .i64 (i : Int) ∧ placedB s.xy = placedB (s.xy.drop i) ∧ Hid (Below w.heap.size w W) ∧ Hid (Bx W w.heap.size s)
set_option maxRecDepth 100000 in
set_option maxHeartbeats 2000000 in
theorem placed_call (s : Sh) (w : World) (h : Here (fun b => b < w.heap.size) w s) : Calls Tryd.prog 43 #[.agg #[.int .i64 (s).k, .slice (s).xo (s).xn (s).xc, .slice (s).po (s).pn (s).pc]] w fun e w' => e = .returned (.bool (placedB s.xy)) ∧ Below w.heap.size w w' := by
  have hI := h.lenI.1
  have B1 := hid (Bx.new w s)
  obtain ⟨x0, x1, x2⟩ := B1.out.cells
  have H := hid h
  clear h
  have b0 : Hid (Below w.heap.size w (w.alloc (.cells #[.int .i64 (s).k, .slice (s).xo (s).xn (s).xc, .slice (s).po (s).pn (s).pc] 25))) := hid (ext1 _)
  go_enter Tryd.func43, Tryd.ntmps43
  go_wp2
  generalize hw0 : w.alloc (.cells #[.int .i64 (s).k, .slice (s).xo (s).xn (s).xc, .slice (s).po (s).pn (s).pc] 25) = w0 at *
  clear hw0
  go_loopw [8] (PlI s w) (fun c _ => s.xn - (intOf c).toNat)
  case atStart => exact ⟨0, by omega, rfl, rfl, b0, B1⟩
  case round =>
    obtain ⟨i, hi, rfl, hpl, hb, hB⟩ := hrel
    have HP := hid hpl
    clear hpl x0 x1 x2
    by_cases hik : i < s.xn
    · obtain ⟨p, hp⟩ : ∃ p, s.xy[i]? = some p := ⟨_, List.getElem?_eq_getElem (by rw [H.out.xl]; exact hik)⟩
      obtain ⟨b, off, hxo, hbl, hat⟩ := H.out.xr.resolve_left (by intro e; rw [e] at hp; simp at hp)
      obtain ⟨z0, z1⟩ := hat i p hp
      replace z0 := keep_cell hb.out z0 hbl
      replace z1 := keep_cell hb.out z1 hbl
      rw [hxo] at *
      rw [drop_at hp] at HP
      clear hat hxo hp
      by_cases h1 : p.1 = -9223372036854775808
      · rw [show placedB (p :: s.xy.drop (i + 1)) = false by simp [placedB, h1]] at HP
        rw [h1] at z0
        go_wp2
        go_ret
        exact ⟨(by rw [HP.out]; rfl), gt hb.out (ext1 _)⟩
      · have n1 : (p.1 == -9223372036854775808) = false := by simp [h1]
        clear h1
        by_cases h2 : p.2 = -9223372036854775808
        · rw [show placedB (p :: s.xy.drop (i + 1)) = false by simp [placedB, h2]] at HP
          rw [h2] at z1
          go_wp2
          go_ret
          exact ⟨(by rw [HP.out]; rfl), gt hb.out (ext1 _)⟩
        · have n2 : (p.2 == -9223372036854775808) = false := by simp [h2]
          rw [show placedB (p :: s.xy.drop (i + 1)) = placedB (s.xy.drop (i + 1)) by simp [placedB, n1, n2]] at HP
          clear h2
          go_wp2
          go_roundw
          case measure => simp [intOf]; omega
          case rel => exact ⟨i + 1, by omega, by go_num, HP.out, gt hb.out (ext1 _), hB.out.keep (ext1 _)⟩
    · obtain rfl : i = s.xn := by omega
      rw [List.drop_of_length_le (by rw [H.out.xl]; omega)] at HP
      go_wp2
      go_ret
      exact ⟨by rw [HP.out]; rfl, hb.out⟩
end Go.Proofs.YtjieegnmofimkaaDoor
