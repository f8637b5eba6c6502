/- The rules of kinds, and what one shape is asked without its parts' own; no statement of the seat is proved here. -/
import Derived.Test.YtpmfedimjjifaaaGreatDoorJ03
import Derived.Laws.ResultCell
import Derived.Laws.StructEq
namespace Go.Proofs.YtpmfedimjjifaaaGreatDoor
open Go.RowKit Go.Maps

def nmT : List (List UInt8) := [[], [80, 79, 73, 78, 84], [76, 73, 78, 69, 83, 84, 82, 73, 78, 71], [80, 79, 76, 89, 71, 79, 78], [77, 85, 76, 84, 73, 80, 79, 73, 78, 84], [77, 85, 76, 84, 73, 76, 73, 78, 69, 83, 84, 82, 73, 78, 71], [77, 85, 76, 84, 73, 80, 79, 76, 89, 71, 79, 78], [71, 69, 79, 77, 69, 84, 82, 89, 67, 79, 76, 76, 69, 67, 84, 73, 79, 78]]
def loT : List Int := [1, 1, 1, 0, 1, 2, 3, 1]
def hiT : List Int := [0, 0, 0, 0, 1, 2, 3, 7]
def nm (k : Nat) : ByteArray := ⟨(nmT.getD k []).toArray⟩
def lo (k : Nat) : Int := loT.getD k 0
def hi (k : Nat) : Int := hiT.getD k 0
/-- The table of rules. -/
def Tab (w : World) : Prop := ∀ k : Nat, k < 8 → w.cell? ⟨0, k * 3, none⟩ = some (.string (nm k)) ∧ w.cell? ⟨0, k * 3 + 1, none⟩ = some (.int .i64 (lo k)) ∧ w.cell? ⟨0, k * 3 + 2, none⟩ = some (.int .i64 (hi k))
set_option maxRecDepth 100000 in
theorem Tab.keep {w w' : World} (h : Tab w) (hb : Below w.heap.size w w') : Tab w' := fun k hk => ⟨keep_old hb (h k hk).1, keep_old hb (h k hk).2.1, keep_old hb (h k hk).2.2⟩

set_option maxRecDepth 100000 in
theorem load3 {t t' : TypeId} (ha : ∀ W, (isAgg t).run Tryz.prog W = .ok true W) (hs : ∀ W, (Go.sizeOf t).run Tryz.prog W = .ok 3 W) {W : World} {q : Nat} {a b c : Value} (h : W.heap[q]? = some (.cells #[a, b, c] t')) :
    (loadVar t ⟨q, 0, none⟩).run Tryz.prog W = .ok (.agg #[a, b, c]) W := by
  have hl := run_loadCells_list (P := Tryz.prog) W ⟨q, 0, none⟩ [a, b, c] (by
    intro j v hj
    have e : W.cell? ((⟨q, 0, none⟩ : Addr).add j) = [a, b, c][j]? := by rw [Addr.add_lit]; simp [World.cell?, h]
    rw [e]; exact hj)
  simp at hl
  simp [loadVar, ha, hs, hl]
set_option maxRecDepth 100000 in
theorem ret_rule {fn : Func} {p u : Tmp} (h : fn.results = #[.cell p 150, .tmp u]) {tmps : Array Value} {W : World} {q : Nat} {t' : TypeId} {a b c : Value}
    (hp : tmps.getD p undef = .pointer (some ⟨q, 0, none⟩)) (hb : W.heap[q]? = some (.cells #[a, b, c] t')) : (results fn tmps).run Tryz.prog W = .ok (.tuple #[.agg #[a, b, c], tmps.getD u undef]) W := by
  rw [results_cell_tmp h, hp]
  simp [asAddr, load3 Tryz.isAgg150 Tryz.sizeOf150 hb]

/-- The rule of a number. -/
def isK (k : Int) : Bool := decide (0 ≤ k) && decide (k < 8)
def rnm (k : Int) : ByteArray := if isK k then nm k.toNat else ⟨#[]⟩
def rlo (k : Int) : Int := if isK k then lo k.toNat else 0
def rhi (k : Int) : Int := if isK k then hi k.toNat else 0

set_option maxRecDepth 100000 in
set_option maxHeartbeats 1000000 in
theorem ruleOf_call (k : Int) (w : World) (hT : Tab w) : Calls Tryz.prog 97 #[.int .i64 k] w fun e w' => e = .returned (.tuple #[.agg #[.string (rnm k), .int .i64 (rlo k), .int .i64 (rhi k)], .bool (isK k)]) ∧ Below w.heap.size w w' := by
  by_cases h0 : k < 0
  · have e : isK k = false := by unfold isK; simp; omega
    rw [show rnm k = ⟨#[]⟩ by simp [rnm, e], show rlo k = 0 by simp [rlo, e], show rhi k = 0 by simp [rhi, e], e]
    clear e hT
    have n1 : decide (k < 0) = true := by simp [h0]
    go_enter Tryz.func97, Tryz.ntmps97
    go_wp2
    refine bodyPost_ret (ret_rule rfl rfl (heap_alloc_new _ _)) rfl ?_
    exact ⟨rfl, ext1 _⟩
  · by_cases h8 : 8 ≤ k
    · have e : isK k = false := by unfold isK; simp; omega
      rw [show rnm k = ⟨#[]⟩ by simp [rnm, e], show rlo k = 0 by simp [rlo, e], show rhi k = 0 by simp [rhi, e], e]
      clear e hT
      have h0' : 0 ≤ k := by omega
      go_enter Tryz.func97, Tryz.ntmps97
      go_wp2
      refine bodyPost_ret (ret_rule rfl rfl (heap_alloc_new _ _)) rfl ?_
      exact ⟨rfl, ext1 _⟩
    · obtain ⟨n, rfl⟩ := Int.eq_ofNat_of_zero_le (show 0 ≤ k by omega)
      have h8' : (n : Int) < 8 := by omega
      have e : isK (n : Int) = true := by unfold isK; simp; omega
      rw [show rnm (n : Int) = nm n by simp [rnm, e], show rlo (n : Int) = lo n by simp [rlo, e], show rhi (n : Int) = hi n by simp [rhi, e], e]
      obtain ⟨t0, t1, t2⟩ := hT n (by omega)
      clear e hT h0 h8
      have u0 := keep_old (ext1 (.cells #[.string ⟨#[]⟩, .int .i64 0, .int .i64 0] 150)) t0
      have u1 := keep_old (ext1 (.cells #[.string ⟨#[]⟩, .int .i64 0, .int .i64 0] 150)) t1
      have u2 := keep_old (ext1 (.cells #[.string ⟨#[]⟩, .int .i64 0, .int .i64 0] 150)) t2
      go_enter Tryz.func97, Tryz.ntmps97
      go_wp2
      refine bodyPost_ret (ret_rule rfl rfl (heap_alloc_new _ _)) rfl ?_
      exact ⟨rfl, ext1 _⟩

/-- A rule's box. -/
def RB3 (w : World) (b : Nat) (n : ByteArray) (l h : Int) : Prop := w.heap[b]? = some (.cells #[.string n, .int .i64 l, .int .i64 h] 150)
set_option maxRecDepth 100000 in
theorem RB3.cells {w : World} {b : Nat} {n : ByteArray} {l h : Int} (q : RB3 w b n l h) : w.cell? ⟨b, 0, none⟩ = some (.string n) ∧ w.cell? ⟨b, 1, none⟩ = some (.int .i64 l) ∧ w.cell? ⟨b, 2, none⟩ = some (.int .i64 h) := by unfold RB3 at q; simp [World.cell?, q]
set_option maxRecDepth 100000 in
theorem RB3.lt {w : World} {b : Nat} {n : ByteArray} {l h : Int} (q : RB3 w b n l h) : b < w.heap.size := (Array.getElem?_eq_some_iff.1 q).1
set_option maxRecDepth 100000 in
theorem RB3.keep {w w' : World} {b : Nat} {n : ByteArray} {l h : Int} (q : RB3 w b n l h) (hb : Below w.heap.size w w') : RB3 w' b n l h := (hb.block b q.lt).trans q
set_option maxRecDepth 100000 in
theorem RB3.new (w : World) (n : ByteArray) (l h : Int) : RB3 (w.alloc (.cells #[.string n, .int .i64 l, .int .i64 h] 150)) w.heap.size n l h := heap_alloc_new w _

set_option maxRecDepth 100000 in
set_option maxHeartbeats 1000000 in
theorem holds_call (n : ByteArray) (l h p : Int) (w : World) : Calls Tryz.prog 99 #[.agg #[.string n, .int .i64 l, .int .i64 h], .int .i64 p] w fun e w' => e = .returned (.bool (decide (l ≤ p) && decide (p ≤ h))) ∧ Below w.heap.size w w' := by
  by_cases h1 : l ≤ p
  · rw [show decide (l ≤ p) = true by simp [h1], Bool.true_and]
    go_enter Tryz.func99, Tryz.ntmps99
    go_wp2
    go_ret
    exact ⟨rfl, ext1 _⟩
  · rw [show decide (l ≤ p) = false by simp [h1], Bool.false_and]
    have h1' : p < l := by omega
    go_enter Tryz.func99, Tryz.ntmps99
    go_wp2
    go_ret
    exact ⟨rfl, ext1 _⟩

/-- Part of any number. -/
def partK (k : Int) : Int := if isK k && decide (rlo k = rhi k) then rlo k else -1
set_option maxRecDepth 100000 in
set_option maxHeartbeats 1000000 in
theorem part_call (k : Int) (w : World) (hT : Tab w) : Calls Tryz.prog 114 #[.int .i64 k] w fun e w' => e = .returned (.int .i64 (partK k)) ∧ Below w.heap.size w w' := by
  have C := hid (ruleOf_call k w hT)
  unfold partK
  clear hT
  generalize rnm k = n at *
  generalize rlo k = l at *
  generalize rhi k = h at *
  cases hk : isK k with
  | false =>
    rw [hk] at C
    simp only [Bool.false_and]
    clear hk
    go_enter Tryz.func114, Tryz.ntmps114
    go_wp2_with (go_at_call 97; refine C.out.mono ?_; rintro e w1 ⟨rfl, hb1⟩; have H1 := hid hb1; clear hb1)
    go_ret
    exact ⟨rfl, gt H1.out (ext1 _)⟩
  | true =>
    rw [hk] at C
    simp only [Bool.true_and]
    clear hk
    by_cases hl : l = h
    · subst hl
      go_enter Tryz.func114, Tryz.ntmps114
      go_wp2_with (go_at_call 97; refine C.out.mono ?_; rintro e w1 ⟨rfl, hb1⟩; have H1 := hid hb1; clear hb1)
      go_ret
      exact ⟨by simp, gt H1.out (ext1 _)⟩
    · have n1 : (l == h) = false := by simp [hl]
      rw [show decide (l = h) = false by simp [hl]]
      clear hl
      go_enter Tryz.func114, Tryz.ntmps114
      go_wp2_with (go_at_call 97; refine C.out.mono ?_; rintro e w1 ⟨rfl, hb1⟩; have H1 := hid hb1; clear hb1)
      go_ret
      exact ⟨rfl, gt H1.out (ext1 _)⟩
/-- Is no point of these nowhere? -/
def placedB (l : List (Int × Int)) : Bool := l.all fun p => !(p.1 == -9223372036854775808 || p.2 == -9223372036854775808)
set_option maxRecDepth 100000 in
theorem drop_at {α : Type} {l : List α} {i : Nat} {p : α} (h : l[i]? = some p) : l.drop i = p :: l.drop (i + 1) := by
  obtain ⟨hl, rfl⟩ := List.getElem?_eq_some_iff.1 h
  exact List.drop_eq_getElem_cons hl
set_option maxRecDepth 100000 in
theorem Here.lenI {S : Nat → Prop} {w : World} {s : Sh} (h : Here S w s) : s.xn ≤ 9223372036854775806 ∧ s.pn ≤ 9223372036854775806 := by have := h.xb; have := h.pb; omega

def PlI (s : Sh) (w : World) (c : Value) (W : World) : Prop := ∃ i : Nat, i ≤ s.xn ∧ c = .int .i64 (i : Int) ∧ placedB s.xy = placedB (s.xy.drop i) ∧ Hid (Below w.heap.size w W) ∧ Hid (Bx W w.heap.size s)
set_option maxRecDepth 100000 in
set_option maxHeartbeats 2000000 in
theorem placed_call (s : Sh) (w : World) (h : Here (fun b => b < w.heap.size) w s) : Calls Tryz.prog 66 #[.agg #[.int .i64 (s).k, .slice (s).xo (s).xn (s).xc, .slice (s).po (s).pn (s).pc]] w fun e w' => e = .returned (.bool (placedB s.xy)) ∧ Below w.heap.size w w' := by
  have hI := h.lenI.1
  have B1 := hid (Bx.new w s)
  obtain ⟨x0, x1, x2⟩ := B1.out.cells
  have H := hid h
  clear h
  have b0 : Hid (Below w.heap.size w (w.alloc (.cells #[.int .i64 (s).k, .slice (s).xo (s).xn (s).xc, .slice (s).po (s).pn (s).pc] 39))) := hid (ext1 _)
  go_enter Tryz.func66, Tryz.ntmps66
  go_wp2
  generalize hw0 : w.alloc (.cells #[.int .i64 (s).k, .slice (s).xo (s).xn (s).xc, .slice (s).po (s).pn (s).pc] 39) = w0 at *
  clear hw0
  go_loopw [8] (PlI s w) (fun c _ => s.xn - (intOf c).toNat)
  case atStart => exact ⟨0, by omega, rfl, rfl, b0, B1⟩
  case round =>
    obtain ⟨i, hi, rfl, hpl, hb, hB⟩ := hrel
    have HP := hid hpl
    clear hpl x0 x1 x2
    by_cases hik : i < s.xn
    · obtain ⟨p, hp⟩ : ∃ p, s.xy[i]? = some p := ⟨_, List.getElem?_eq_getElem (by rw [H.out.xl]; exact hik)⟩
      obtain ⟨b, off, hxo, hbl, hat⟩ := H.out.xr.resolve_left (by intro e; rw [e] at hp; simp at hp)
      obtain ⟨z0, z1⟩ := hat i p hp
      replace z0 := keep_cell hb.out z0 hbl
      replace z1 := keep_cell hb.out z1 hbl
      rw [hxo] at *
      rw [drop_at hp] at HP
      clear hat hxo hp
      by_cases h1 : p.1 = -9223372036854775808
      · rw [show placedB (p :: s.xy.drop (i + 1)) = false by simp [placedB, h1]] at HP
        rw [h1] at z0
        go_wp2
        go_ret
        exact ⟨(by rw [HP.out]; rfl), gt hb.out (ext1 _)⟩
      · have n1 : (p.1 == -9223372036854775808) = false := by simp [h1]
        clear h1
        by_cases h2 : p.2 = -9223372036854775808
        · rw [show placedB (p :: s.xy.drop (i + 1)) = false by simp [placedB, h2]] at HP
          rw [h2] at z1
          go_wp2
          go_ret
          exact ⟨(by rw [HP.out]; rfl), gt hb.out (ext1 _)⟩
        · have n2 : (p.2 == -9223372036854775808) = false := by simp [h2]
          rw [show placedB (p :: s.xy.drop (i + 1)) = placedB (s.xy.drop (i + 1)) by simp [placedB, n1, n2]] at HP
          clear h2
          go_wp2
          go_roundw
          case measure => simp [intOf]; omega
          case rel => exact ⟨i + 1, by omega, by go_num, HP.out, gt hb.out (ext1 _), hB.out.keep (ext1 _)⟩
    · obtain rfl : i = s.xn := by omega
      rw [List.drop_of_length_le (by rw [H.out.xl]; omega)] at HP
      go_wp2
      go_ret
      exact ⟨by rw [HP.out]; rfl, hb.out⟩
end Go.Proofs.YtpmfedimjjifaaaGreatDoor

/- Points that a shape of a kind may have, and parts; no statement of the seat is proved here. -/
namespace Go.Proofs.YtpmfedimjjifaaaGreatDoor
open Go.RowKit Go.Maps

def ringB (l : List (Int × Int)) : Bool := decide (4 ≤ l.length) && (l.getD 0 (0, 0) == l.getD (l.length - 1) (0, 0))
/-- May these be a shape's points? -/
def gpB (k : Int) (l : List (Int × Int)) : Bool := if k = 0 then ringB l else if k = 1 then decide (l.length ≤ 1) else if k = 2 then !(l.length == 1) else l.length == 0

set_option maxRecDepth 100000 in
theorem part41 (W : World) (a b : Value) : (part 3 #[a, b] 0).run Tryz.prog W = .ok a W ∧ (part 3 #[a, b] 1).run Tryz.prog W = .ok b W := ⟨by kernel_rfl, by kernel_rfl⟩
set_option maxRecDepth 100000 in
theorem point_eqlIn (a b c d : Int) (W : World) : (Op.equalIn 10000 25 (.agg #[.int .i64 a, .int .i64 b]) (.agg #[.int .i64 c, .int .i64 d])).run Tryz.prog W = .ok ((a, b) == (c, d)) W := by
  have e3 : ∀ (x y : Int), (Op.equalIn 9999 3 (.int .i64 x) (.int .i64 y)).run Tryz.prog W = .ok (x == y) W := fun x y => run_equalIn_int W 9998 3 .i64 .i64 x y Tryz.underlying3
  rw [show (10000 : Nat) = 9999 + 1 from rfl, run_equalIn_struct W 9999 25 _ _ (by simp [Program.fieldsOf, Tryz.underlying25]) (by kernel_rfl)]
  simp only [Program.fieldsOf, Tryz.underlying25, Op.eqFields]
  simp [part41, e3, Sem.run_bind, Result.andThen]
  by_cases h1 : a = c <;> by_cases h2 : b = d <;> simp [h1, h2]
set_option maxRecDepth 100000 in
theorem point_eql (a b c d : Int) (W : World) : (binOp .eql 25 (.agg #[.int .i64 a, .int .i64 b]) (.agg #[.int .i64 c, .int .i64 d])).run Tryz.prog W = .ok (.bool ((a, b) == (c, d))) W := by
  rw [run_eql_struct, point_eqlIn]; rfl
set_option maxRecDepth 100000 in
theorem point_neq (a b c d : Int) (W : World) : (binOp .neq 25 (.agg #[.int .i64 a, .int .i64 b]) (.agg #[.int .i64 c, .int .i64 d])).run Tryz.prog W = .ok (.bool (!((a, b) == (c, d)))) W := by
  rw [run_neq_struct, point_eqlIn]; rfl
set_option maxRecDepth 100000 in
set_option maxHeartbeats 2000000 in
theorem ring_call (xc m : Nat) (b off : Nat) (a1 a2 b1 b2 : Int) (h3 : 3 ≤ m) (hI : m + 1 ≤ 9223372036854775806) (w : World) (z0 : w.cell? ⟨b, off, none⟩ = some (.int .i64 a1)) (z1 : w.cell? ⟨b, off + 1, none⟩ = some (.int .i64 a2)) (z2 : w.cell? ⟨b, off + m * 2, none⟩ = some (.int .i64 b1)) (z3 : w.cell? ⟨b, off + m * 2 + 1, none⟩ = some (.int .i64 b2)) :
    Calls Tryz.prog 98 #[.int .i64 0, .slice (some ⟨b, off, none⟩) (m + 1) xc] w fun e w' => e = .returned (.bool ((a1, a2) == (b1, b2))) ∧ Below w.heap.size w w' := by
  have hmx : Tryz.prog.follows .mixedOrders = true := follows_mixed
  have h4 : (4 : Int) ≤ (m : Int) + 1 := by omega
  have PE := point_eql a1 a2 b1 b2
  generalize ((a1, a2) == (b1, b2)) = bb at *
  go_enter Tryz.func98, Tryz.ntmps98
  go_wp2
  go_region
  all_goals (go_wp2; go_ret; exact ⟨rfl, undrew (Below.refl _ _)⟩)
set_option maxRecDepth 100000 in
set_option maxHeartbeats 2000000 in
theorem goodPoints_call (S : Nat → Prop) (s : Sh) (w : World) (h : Here S w s) : Calls Tryz.prog 98 #[.int .i64 s.k, .slice s.xo s.xn s.xc] w fun e w' => e = .returned (.bool (gpB s.k s.xy)) ∧ Below w.heap.size w w' := by
  have hl := h.xl
  have hI := h.lenI.1
  unfold gpB
  by_cases k0 : s.k = 0
  · rw [k0, if_pos rfl]
    by_cases h4 : 4 ≤ s.xn
    · obtain ⟨m, hm⟩ : ∃ m, s.xn = m + 1 := ⟨s.xn - 1, by omega⟩
      obtain ⟨p, hp⟩ : ∃ p, s.xy[0]? = some p := ⟨_, List.getElem?_eq_getElem (by omega)⟩
      obtain ⟨q, hq⟩ : ∃ q, s.xy[m]? = some q := ⟨_, List.getElem?_eq_getElem (by omega)⟩
      obtain ⟨b, off, hxo, _, hat⟩ := h.xr.resolve_left (by intro e; rw [e] at hp; simp at hp)
      obtain ⟨z0, z1⟩ := hat 0 p hp
      obtain ⟨z2, z3⟩ := hat m q hq
      rw [Nat.zero_mul, Nat.add_zero] at z0 z1
      rw [show ringB s.xy = ((p.1, p.2) == (q.1, q.2)) by
        unfold ringB
        rw [show s.xy.length - 1 = m by omega, show decide (4 ≤ s.xy.length) = true by simp; omega]
        simp [List.getD, hp, hq], hxo, hm]
      exact ring_call s.xc m b off p.1 p.2 q.1 q.2 (by omega) (by omega) w z0 z1 z2 z3
    · rw [show ringB s.xy = false by unfold ringB; rw [show decide (4 ≤ s.xy.length) = false by simp; omega]; rfl]
      have h4' : (s.xn : Int) < 4 := by omega
      clear h4
      have hmx : Tryz.prog.follows .mixedOrders = true := follows_mixed
      clear h hl
      go_enter Tryz.func98, Tryz.ntmps98
      go_wp2
      refine wp_region_K (S := (fun _ => True)) (fun _ => false) (by kernel_rfl) (by exact trivial) (fun hHeld => ?_)
      refine gkp 0 ?_
      refine gkp 1 ?_
      refine gkp 2 ?_ (v := .bool false) (h := by intro W hSw; go_simp)
      refine gkp 3 ?_
      refine gku 4 ?_
      refine gku 5 ?_
      refine gku 6 ?_
      refine gku 7 ?_
      refine gku 8 ?_
      refine gku 9 ?_
      refine gku 10 ?_
      refine gku 11 ?_
      refine gku 12 ?_
      refine gku 13 ?_
      refine gkp 14 ?_
      refine gkp 15 ?_
      refine wpAnyK_done (by kernel_rfl) ?_ _
      go_wp2
      go_ret
      exact ⟨rfl, undrew (Below.refl _ _)⟩
  · rw [if_neg k0]
    have n0 : (s.k == 0) = false := by simp [k0]
    clear k0
    by_cases k1 : s.k = 1
    · rw [if_pos k1]
      rw [k1] at *
      rw [show decide (s.xy.length ≤ 1) = decide ((s.xn : Int) ≤ 1) by rw [hl]; simp; omega]
      clear h hl
      go_enter Tryz.func98, Tryz.ntmps98
      go_wp2
      go_ret
      exact ⟨rfl, Below.refl _ _⟩
    · rw [if_neg k1]
      have n1 : (s.k == 1) = false := by simp [k1]
      clear k1
      by_cases k2 : s.k = 2
      · rw [if_pos k2]
        rw [k2] at *
        rw [show (s.xy.length == 1) = ((s.xn : Int) == 1) by rw [hl]; rw [Bool.eq_iff_iff]; simp; omega]
        clear h hl
        go_enter Tryz.func98, Tryz.ntmps98
        go_wp2
        go_ret
        exact ⟨rfl, Below.refl _ _⟩
      · rw [if_neg k2]
        have n2 : (s.k == 2) = false := by simp [k2]
        clear k2
        rw [show (s.xy.length == 0) = ((s.xn : Int) == 0) by rw [hl]; rw [Bool.eq_iff_iff]; simp]
        clear h hl
        go_enter Tryz.func98, Tryz.ntmps98
        go_wp2
        go_ret
        exact ⟨rfl, Below.refl _ _⟩

/-- Is a shape, without its parts' own, as told? -/
def goodB (s : Sh) : Bool := isK s.k && gpB s.k s.xy && s.ps.all fun p => decide (rlo s.k ≤ p.k) && decide (p.k ≤ rhi s.k)
def GdI (s : Sh) (w : World) (n : ByteArray) (l h : Int) (q : Nat) (c : Value) (W : World) : Prop := ∃ i : Nat, i ≤ s.pn ∧ c = .int .i64 (i : Int) ∧ (s.ps.all fun p => decide (l ≤ p.k) && decide (p.k ≤ h)) = ((s.ps.drop i).all fun p => decide (l ≤ p.k) && decide (p.k ≤ h)) ∧ Hid (Below w.heap.size w W) ∧ Hid (RB3 W q n l h)
set_option maxRecDepth 100000 in
set_option maxHeartbeats 4000000 in
theorem good_call (s : Sh) (w : World) (hT : Tab w) (h : Here (fun b => b < w.heap.size) w s) : Calls Tryz.prog 65 #[.agg #[.int .i64 (s).k, .slice (s).xo (s).xn (s).xc, .slice (s).po (s).pn (s).pc]] w fun e w' => e = .returned (.bool (goodB s)) ∧ Below w.heap.size w w' := by
  have hI := h.lenI.2
  have B1 := hid (Bx.new w s)
  obtain ⟨x0, x1, x2⟩ := B1.out.cells
  have b0 : Hid (Below w.heap.size w (w.alloc (.cells #[.int .i64 (s).k, .slice (s).xo (s).xn (s).xc, .slice (s).po (s).pn (s).pc] 39))) := hid (ext1 _)
  have C1 := hid (ruleOf_call s.k (w.alloc (.cells #[.int .i64 (s).k, .slice (s).xo (s).xn (s).xc, .slice (s).po (s).pn (s).pc] 39)) (hT.keep (ext1 _)))
  have H := hid h
  have C2 := hid (fun W (hb : Below w.heap.size w W) => goodPoints_call (fun b => b < w.heap.size) s W (h.of fun b hb' => ⟨hb.block b hb', hb'⟩))
  have HG := hid (show goodB s = (isK s.k && gpB s.k s.xy && s.ps.all fun p => decide (rlo s.k ≤ p.k) && decide (p.k ≤ rhi s.k)) from rfl)
  clear h hT
  generalize goodB s = gb at *
  generalize rnm s.k = n at *
  generalize rlo s.k = l at *
  generalize rhi s.k = hh at *
  generalize gpB s.k s.xy = gp at *
  cases hk : isK s.k with
  | false =>
    rw [hk] at C1 HG
    rw [show gb = false by rw [HG.out]; rfl]
    clear hk
    go_enter Tryz.func65, Tryz.ntmps65
    go_wp2_with (go_at_call 97; refine C1.out.mono ?_; rintro e w1 ⟨rfl, hb1⟩; have H1 := hid hb1; clear hb1)
    go_ret
    exact ⟨rfl, gt (ext1 _) (gt H1.out (ext1 _))⟩
  | true =>
    rw [hk] at C1 HG
    clear hk
    cases hg : gp with
    | false =>
      rw [hg] at C2 HG
      rw [show gb = false by rw [HG.out]; rfl]
      clear hg
      go_enter Tryz.func65, Tryz.ntmps65
      go_wp2_with (first
        | (go_at_call 97; refine C1.out.mono ?_; rintro e w1 ⟨rfl, hb1⟩; have H1 := hid hb1; clear hb1; have B2 := hid ((B1.out.keep H1.out).keep (ext1 (.cells #[.string n, .int .i64 l, .int .i64 hh] 150))); obtain ⟨y0, y1, y2⟩ := B2.out.cells)
        | (go_at_call 98; refine (C2.out _ (gt b0.out (gt H1.out (ext1 _)))).mono ?_; rintro e w2 ⟨rfl, hb2⟩; have H2 := hid hb2; clear hb2))
      go_ret
      exact ⟨rfl, gt (ext1 _) (gt H1.out (gt (ext1 _) H2.out))⟩
    | true =>
      rw [hg] at C2 HG
      clear hg
      go_enter Tryz.func65, Tryz.ntmps65
      go_wp2_with (first
        | (go_at_call 97; refine C1.out.mono ?_; rintro e w1 ⟨rfl, hb1⟩; have H1 := hid hb1; clear hb1; have B2 := hid ((B1.out.keep H1.out).keep (ext1 (.cells #[.string n, .int .i64 l, .int .i64 hh] 150))); obtain ⟨y0, y1, y2⟩ := B2.out.cells)
        | (go_at_call 98; refine (C2.out _ (gt b0.out (gt H1.out (ext1 _)))).mono ?_; rintro e w2 ⟨rfl, hb2⟩; have H2 := hid hb2; clear hb2; have B3 := hid (B2.out.keep H2.out); obtain ⟨v0, v1, v2⟩ := B3.out.cells; have R3 := hid ((RB3.new w1 n l hh).keep H2.out)))
      have BB := hid (gt b0.out (gt H1.out (gt (ext1 (.cells #[.string n, .int .i64 l, .int .i64 hh] 150)) H2.out)))
      have hz1 := H1.out.size
      generalize w1.heap.size = q at *
      clear x0 x1 x2 y0 y1 y2 v0 v1 v2 B1 B2 B3 H1 H2 C1 C2 b0
      go_loopw [26] (GdI s w n l hh q) (fun c _ => s.pn - (intOf c).toNat)
      case atStart => exact ⟨0, by omega, rfl, rfl, BB, R3⟩
      case round =>
        obtain ⟨i, hi, rfl, hpl, hb, hR⟩ := hrel
        have HP := hid hpl
        obtain ⟨r0, r1, r2⟩ := hR.out.cells
        clear hpl
        by_cases hik : i < s.pn
        · obtain ⟨p, hp⟩ : ∃ p, s.ps[i]? = some p := ⟨_, List.getElem?_eq_getElem (by rw [H.out.pl]; exact hik)⟩
          obtain ⟨b, off, hxo, hbl, hat⟩ := H.out.pr.resolve_left (by intro e; rw [e] at hp; simp at hp)
          obtain ⟨z0, z1, z2⟩ := (hat i p hp).of (w' := wr) (hb.out.block b hbl)
          rw [hxo] at *
          rw [drop_at hp] at HP
          have HC := hid (fun W => holds_call n l hh p.k W)
          have r0' := keep_old (ext1 (.cells #[.int .i64 (p).k, .slice (p).xo (p).xn (p).xc, .slice (p).po (p).pn (p).pc] 39)) r0
          have r1' := keep_old (ext1 (.cells #[.int .i64 (p).k, .slice (p).xo (p).xn (p).xc, .slice (p).po (p).pn (p).pc] 39)) r1
          have r2' := keep_old (ext1 (.cells #[.int .i64 (p).k, .slice (p).xo (p).xn (p).xc, .slice (p).po (p).pn (p).pc] 39)) r2
          have HP2 := hid (show ((p :: s.ps.drop (i + 1)).all fun p => decide (l ≤ p.k) && decide (p.k ≤ hh)) = ((decide (l ≤ p.k) && decide (p.k ≤ hh)) && ((s.ps.drop (i + 1)).all fun p => decide (l ≤ p.k) && decide (p.k ≤ hh))) from rfl)
          generalize (decide (l ≤ p.k) && decide (p.k ≤ hh)) = hb9 at HC HP2
          clear hat hxo hp
          cases hb9 with
          | false =>
            go_wp2_with (go_at_call 99; refine (HC.out _).mono ?_; rintro e w3 ⟨rfl, hb3⟩; have H3 := hid hb3; clear hb3)
            go_ret
            exact ⟨(by rw [HG.out, HP.out, HP2.out]; rfl), gt hb.out (gt (ext1 _) H3.out)⟩
          | true =>
            go_wp2_with (go_at_call 99; refine (HC.out _).mono ?_; rintro e w3 ⟨rfl, hb3⟩; have H3 := hid hb3; clear hb3)
            go_roundw
            case measure => simp [intOf]; omega
            case rel => exact ⟨i + 1, by omega, by go_num, (by rw [HP.out, HP2.out, Bool.true_and]), gt hb.out (gt (ext1 _) H3.out), (hR.out.keep (ext1 _)).keep H3.out⟩
        · obtain rfl : i = s.pn := by omega
          rw [List.drop_of_length_le (by rw [H.out.pl]; omega)] at HP
          go_wp2
          go_ret
          exact ⟨(by rw [HG.out, HP.out]; rfl), hb.out⟩
end Go.Proofs.YtpmfedimjjifaaaGreatDoor

/- What is asked of a shape and all in it, and Check; no statement of the seat is proved here. -/
namespace Go.Proofs.YtpmfedimjjifaaaGreatDoor
open Go.RowKit Go.Maps

def allB (f : Sh → Bool) (l : List (Nat × Sh)) : Bool := l.all fun x => f x.2
set_option maxRecDepth 100000 in
theorem allB_snoc (f : Sh → Bool) (l : List (Nat × Sh)) (k : Nat) (x : Nat × Sh) (h : l[k]? = some x) : allB f (l.take (k + 1)) = (allB f (l.take k) && f x.2) := by
  unfold allB; rw [List.take_add_one, h]; simp
set_option maxRecDepth 100000 in
theorem allB_false (f : Sh → Bool) (l : List (Nat × Sh)) (k : Nat) (x : Nat × Sh) (h : l[k]? = some x) (hx : f x.2 = false) : allB f l = false := by
  unfold allB
  rw [List.all_eq_false]
  exact ⟨x, List.mem_of_getElem? h, by simp [hx]⟩
set_option maxRecDepth 100000 in
theorem Own.below {N : Nat} {w0 : World} {bs : List (Nat × Obj)} {G : Nat → Prop} {V V' : World} (h : Own N w0 bs G V) (hN : N ≤ w0.heap.size) (hb : Below V.heap.size V V') : Own N w0 bs G V' ∧ Sm G V V' :=
  ⟨(own_cns N w0 hN bs).mv _ _ _ _ h (Fr.of_below hb) fun _ hi => .inl hi, (Fr.of_below (S := fun _ => False) hb).sm fun i hi => ⟨(h.2.1 i hi).1.2, fun h => h⟩⟩
set_option maxRecDepth 100000 in
/-- A box below is another one. -/
theorem Own.less1 {N : Nat} {w0 : World} {bs bs' : List (Nat × Obj)} {G : Nat → Prop} {V : World} (h : Own N w0 bs G V) (hs : ∀ x ∈ bs', x ∈ bs) : Own N w0 bs' G V := ⟨h.1, fun i hi => ⟨(h.2.1 i hi).1, fun x hx => (h.2.1 i hi).2 x (hs x hx)⟩, fun x hx => h.2.2 x (hs x hx)⟩

attribute [local go_sem] Oper.semAt_some

set_option maxRecDepth 100000 in
set_option maxHeartbeats 4000000 in
theorem every_34 (s : Sh) (w : World) (hT : Tab w) (h : In (fun b => b < w.heap.size) w s) : Calls Tryz.prog 64 #[.agg #[.int .i64 (s).k, .slice (s).xo (s).xn (s).xc, .slice (s).po (s).pn (s).pc], .func (.func 65) #[] #[]] w fun e w' => e = .returned (.bool (allB goodB (s.flat 1))) ∧ Below w.heap.size w w' := by
  have H := hid h
  have HT := hid hT
  have WC := hid (fun d W => whole_call s d W)
  clear h hT
  obtain ⟨m, -⟩ : ∃ m : Nat, m = 3 := ⟨3, rfl⟩
  refine (callsIn_wide (n := m)).1 ?_
  refine callsIn_of_wp_marks Tryz.func64 rfl trivial ?_ rfl
  simp only [Tryz.ntmps64, List.size_toArray, List.length_cons, List.length_nil, Nat.reduceAdd, Nat.reduceSub, Array.replicate_succ, Array.replicate_zero, List.push_toArray, List.append_toArray, List.nil_append, List.cons_append]
  gi_wp2_with (refine ⟨trivial, fun h => (by cases h), ?_⟩; gi_at_call 93; refine (callsIn_wide.2 (WC.out _ _)).mono ?_; rintro e W6 ⟨rfl, h6⟩; subst h6)
  refine range_whole (N := w.heap.size) (w0 := w) (Nat.le_refl _) s 1 (by omega) H.out (w.heap.size + 1 + 1 + 1) rfl (by repeat (first | (refine at_new ?_; first | with_reducible rfl | (simp only [World.size_alloc]; done)) | refine at_old ?_)) (show Bx _ _ _ from (by repeat (first | (refine at_new ?_; first | with_reducible rfl | (simp only [World.size_alloc]; done)) | refine at_old ?_))) rfl
    (fun k G W => allB goodB ((s.flat 1).take k) = true ∧ Own w.heap.size w [(w.heap.size + 1, .cells #[.func (.func 65) #[] #[]] 92), (w.heap.size + 1 + 1, .cells #[.bool false] 4)] G W)
    (fun c G W => (c = .ret ∧ allB goodB (s.flat 1) = false) ∧ Own w.heap.size w [(w.heap.size + 1 + 1, .cells #[.bool false] 4)] G W)
    (fun k => and_cns (own_cns _ _ (Nat.le_refl _) _)) (fun c => and_cns (own_cns _ _ (Nat.le_refl _) _)) ?h0 (fun x W => W.alloc (.cells #[.int .i64 (x.2).k, .slice (x.2).xo (x.2).xn (x.2).xc, .slice (x.2).po (x.2).pn (x.2).pc] 39)) (fun x W => Fr.alloc _ _ _)
    (fun x Wa => ⟨#[.agg #[.int .i64 (s).k, .slice (s).xo (s).xn (s).xc, .slice (s).po (s).pn (s).pc], .func (.func 65) #[] #[], .pointer (some ⟨w.heap.size, 0, none⟩), .pointer (some ⟨w.heap.size + 1, 0, none⟩), .pointer (some ⟨w.heap.size + 1 + 1, 0, none⟩), undef, .pointer (some ⟨Wa.heap.size, 0, none⟩), .agg #[.int .i64 (s).k, .slice (s).xo (s).xn (s).xc, .slice (s).po (s).pn (s).pc], .func (.func 121) #[] #[.pointer (some ⟨w.heap.size + 1 + 1 + 1 + 1, 0, none⟩), .pointer (some ⟨w.heap.size + 1 + 1 + 1, 0, none⟩)], .int .i64 (x.1 : Int), .agg #[.int .i64 (x.2).k, .slice (x.2).xo (x.2).xn (x.2).xc, .slice (x.2).po (x.2).pn (x.2).pc], undef, undef, undef, undef], []⟩) ?hassign ?hbody ?hdone ?hstop
  case h0 =>
    refine ⟨rfl, (by repeat (first | with_reducible exact Below.refl _ _ | with_reducible refine Below.alloc ?_ (by simp <;> omega) _)), fun i hi => ⟨⟨by omega, by simp only [World.size_alloc]; omega⟩, fun x hx => by simp at hx; rcases hx with rfl | rfl <;> (show i ≠ _; omega)⟩, fun x hx => ?_⟩
    simp at hx
    rcases hx with rfl | rfl
    · exact (by repeat (first | (refine at_new ?_; first | with_reducible rfl | (simp only [World.size_alloc]; done)) | refine at_old ?_))
    · exact (by repeat (first | (refine at_new ?_; first | with_reducible rfl | (simp only [World.size_alloc]; done)) | refine at_old ?_))
  case hassign =>
    intro l' x W' K hK
    gi_wp2
    exact hK
  case hbody =>
    intro l' k x G Wa V hx hI hsz hnew
    obtain ⟨hle, hO⟩ := hI
    have hbx : Bx V Wa.heap.size x.2 := ((hnew _ (Nat.le_refl _)).1).trans (heap_alloc_new Wa _)
    have hf : B1 V (w.heap.size + 1) 92 (.func (.func 65) #[] #[]) := hO.b1 (by simp)
    have hr : B1 V (w.heap.size + 1 + 1) 4 (.bool false) := hO.b1 (by simp)
    have hs := allB_snoc goodB _ _ _ hx
    have hno := fun hf => allB_false goodB _ _ _ hx hf
    have hB := hO.1
    have hV := hB.size
    have hin : Here (fun b => b < w.heap.size) V x.2 := (H.out.below hB).node (flat_mem _ s 1 (Nat.le_refl _) (by omega) x (List.mem_of_getElem? hx)).1
    have CC := hid (good_call x.2 V (HT.out.keep hB) (hin.of fun b hb => ⟨rfl, by omega⟩))
    obtain ⟨t0, t1, t2⟩ := hbx.cells
    have n0 := hf.cell
    have HR := hid hr; have HO := hid hO; have HS := hid hs; have HNO := hid hno; have HLE := hid hle
    clear hf hr hO hs hsz hnew hbx hx hno hle hin hB
    generalize hpb : goodB x.2 = pb at *
    cases pb with
    | false =>
      have r0 := HR.out.cell; have r1 := HR.out.fz
      gi_wp2_with (refine ⟨trivial, fun h => (by cases h), ?_⟩; gi_at_call 65; refine (CallsIn.inRound l' (callsIn_wide.2 CC.out)).mono ?_; rintro e W5 ⟨rfl, hb5⟩; have H5 := hid hb5; clear hb5; have q1 := hid (HO.out.below (Nat.le_refl _) H5.out); have q2 : B1 W5 (w.heap.size + 1 + 1) 4 (.bool false) := q1.out.1.b1 (by simp); have q3 := q2.cell; have q4 := q2.fz; have Q2 := hid q2; clear q2)
      obtain ⟨p1, p2⟩ := q1.out.1.put1 (bs' := [(w.heap.size + 1 + 1, .cells #[.bool false] 4)]) (w.heap.size + 1 + 1) (by omega) (Fr.set W5 (w.heap.size + 1 + 1) 0 (.bool false)) (Nat.le_refl _) ⟨_, List.mem_cons_of_mem _ (List.mem_cons_self), rfl⟩ (fun y hy => by
        simp at hy
        subst hy
        exact .inl ⟨rfl, Q2.out.set _⟩)
      exact ⟨q1.out.2.trans p2, ⟨rfl, HNO.out (by first | exact trivial | exact hpb | assumption | rfl)⟩, p1⟩
    | true =>
      gi_wp2_with (refine ⟨trivial, fun h => (by cases h), ?_⟩; gi_at_call 65; refine (CallsIn.inRound l' (callsIn_wide.2 CC.out)).mono ?_; rintro e W5 ⟨rfl, hb5⟩; have H5 := hid hb5; clear hb5; have q1 := hid (HO.out.below (Nat.le_refl _) H5.out))
      exact ⟨q1.out.2, (by rw [HS.out, HLE.out]; first | rfl | (rw [Bool.true_and]; exact hpb)), q1.out.1⟩
  case hdone =>
    rintro W9 ⟨hle, hO⟩ hM
    rw [List.take_length] at hle
    have hr : B1 W9 (w.heap.size + 1 + 1) 4 (.bool false) := hO.b1 (by simp)
    have r0 := hr.cell; have r1 := hr.fz
    have HR := hid hr; have HO := hid hO; have HM := hid hM; have HL := hid hle
    clear hr hO hM hle
    gi_wp2
    obtain ⟨p1, p2⟩ := HO.out.put1 (bs' := [(w.heap.size + 1 + 1, .cells #[.bool true] 4)]) (w.heap.size + 1 + 1) (by omega) (Fr.set W9 (w.heap.size + 1 + 1) 0 (.bool true)) (Nat.le_refl _) ⟨_, List.mem_cons_of_mem _ (List.mem_cons_self), rfl⟩ (fun y hy => by
        simp at hy
        subst hy
        exact .inl ⟨rfl, HR.out.set _⟩)
    exact leave1 (own_cns _ _ (Nat.le_refl _) _) p1 ((p2.same _ rfl).trans HM.out) (fun W' h' => ⟨_, ret_b1 rfl (fun W => by kernel_rfl) rfl (h'.b1 (List.mem_cons_self)), by rw [HL.out], h'.1⟩)
  case hstop =>
    rintro c W9 ⟨⟨rfl, hgt⟩, hO⟩ hM
    have HO := hid hO; have HM := hid hM; have HG := hid hgt
    clear hO hM hgt
    gi_wp2
    exact leave1 (own_cns _ _ (Nat.le_refl _) _) HO.out HM.out (fun W' h' => ⟨_, ret_b1 rfl (fun W => by kernel_rfl) rfl (h'.b1 (List.mem_cons_self)), by rw [HG.out], h'.1⟩)

set_option maxRecDepth 100000 in
set_option maxHeartbeats 4000000 in
theorem every_35 (s : Sh) (w : World) (hT : Tab w) (h : In (fun b => b < w.heap.size) w s) : Calls Tryz.prog 64 #[.agg #[.int .i64 (s).k, .slice (s).xo (s).xn (s).xc, .slice (s).po (s).pn (s).pc], .func (.func 66) #[] #[]] w fun e w' => e = .returned (.bool (allB (fun q => placedB q.xy) (s.flat 1))) ∧ Below w.heap.size w w' := by
  have H := hid h
  have HT := hid hT
  have WC := hid (fun d W => whole_call s d W)
  clear h hT
  obtain ⟨m, -⟩ : ∃ m : Nat, m = 3 := ⟨3, rfl⟩
  refine (callsIn_wide (n := m)).1 ?_
  refine callsIn_of_wp_marks Tryz.func64 rfl trivial ?_ rfl
  simp only [Tryz.ntmps64, List.size_toArray, List.length_cons, List.length_nil, Nat.reduceAdd, Nat.reduceSub, Array.replicate_succ, Array.replicate_zero, List.push_toArray, List.append_toArray, List.nil_append, List.cons_append]
  gi_wp2_with (refine ⟨trivial, fun h => (by cases h), ?_⟩; gi_at_call 93; refine (callsIn_wide.2 (WC.out _ _)).mono ?_; rintro e W6 ⟨rfl, h6⟩; subst h6)
  refine range_whole (N := w.heap.size) (w0 := w) (Nat.le_refl _) s 1 (by omega) H.out (w.heap.size + 1 + 1 + 1) rfl (by repeat (first | (refine at_new ?_; first | with_reducible rfl | (simp only [World.size_alloc]; done)) | refine at_old ?_)) (show Bx _ _ _ from (by repeat (first | (refine at_new ?_; first | with_reducible rfl | (simp only [World.size_alloc]; done)) | refine at_old ?_))) rfl
    (fun k G W => allB (fun q => placedB q.xy) ((s.flat 1).take k) = true ∧ Own w.heap.size w [(w.heap.size + 1, .cells #[.func (.func 66) #[] #[]] 92), (w.heap.size + 1 + 1, .cells #[.bool false] 4)] G W)
    (fun c G W => (c = .ret ∧ allB (fun q => placedB q.xy) (s.flat 1) = false) ∧ Own w.heap.size w [(w.heap.size + 1 + 1, .cells #[.bool false] 4)] G W)
    (fun k => and_cns (own_cns _ _ (Nat.le_refl _) _)) (fun c => and_cns (own_cns _ _ (Nat.le_refl _) _)) ?h0 (fun x W => W.alloc (.cells #[.int .i64 (x.2).k, .slice (x.2).xo (x.2).xn (x.2).xc, .slice (x.2).po (x.2).pn (x.2).pc] 39)) (fun x W => Fr.alloc _ _ _)
    (fun x Wa => ⟨#[.agg #[.int .i64 (s).k, .slice (s).xo (s).xn (s).xc, .slice (s).po (s).pn (s).pc], .func (.func 66) #[] #[], .pointer (some ⟨w.heap.size, 0, none⟩), .pointer (some ⟨w.heap.size + 1, 0, none⟩), .pointer (some ⟨w.heap.size + 1 + 1, 0, none⟩), undef, .pointer (some ⟨Wa.heap.size, 0, none⟩), .agg #[.int .i64 (s).k, .slice (s).xo (s).xn (s).xc, .slice (s).po (s).pn (s).pc], .func (.func 121) #[] #[.pointer (some ⟨w.heap.size + 1 + 1 + 1 + 1, 0, none⟩), .pointer (some ⟨w.heap.size + 1 + 1 + 1, 0, none⟩)], .int .i64 (x.1 : Int), .agg #[.int .i64 (x.2).k, .slice (x.2).xo (x.2).xn (x.2).xc, .slice (x.2).po (x.2).pn (x.2).pc], undef, undef, undef, undef], []⟩) ?hassign ?hbody ?hdone ?hstop
  case h0 =>
    refine ⟨rfl, (by repeat (first | with_reducible exact Below.refl _ _ | with_reducible refine Below.alloc ?_ (by simp <;> omega) _)), fun i hi => ⟨⟨by omega, by simp only [World.size_alloc]; omega⟩, fun x hx => by simp at hx; rcases hx with rfl | rfl <;> (show i ≠ _; omega)⟩, fun x hx => ?_⟩
    simp at hx
    rcases hx with rfl | rfl
    · exact (by repeat (first | (refine at_new ?_; first | with_reducible rfl | (simp only [World.size_alloc]; done)) | refine at_old ?_))
    · exact (by repeat (first | (refine at_new ?_; first | with_reducible rfl | (simp only [World.size_alloc]; done)) | refine at_old ?_))
  case hassign =>
    intro l' x W' K hK
    gi_wp2
    exact hK
  case hbody =>
    intro l' k x G Wa V hx hI hsz hnew
    obtain ⟨hle, hO⟩ := hI
    have hbx : Bx V Wa.heap.size x.2 := ((hnew _ (Nat.le_refl _)).1).trans (heap_alloc_new Wa _)
    have hf : B1 V (w.heap.size + 1) 92 (.func (.func 66) #[] #[]) := hO.b1 (by simp)
    have hr : B1 V (w.heap.size + 1 + 1) 4 (.bool false) := hO.b1 (by simp)
    have hs := allB_snoc (fun q => placedB q.xy) _ _ _ hx
    have hno := fun hf => allB_false (fun q => placedB q.xy) _ _ _ hx hf
    have hB := hO.1
    have hV := hB.size
    have hin : Here (fun b => b < w.heap.size) V x.2 := (H.out.below hB).node (flat_mem _ s 1 (Nat.le_refl _) (by omega) x (List.mem_of_getElem? hx)).1
    have CC := hid (placed_call x.2 V (hin.of fun b hb => ⟨rfl, by omega⟩))
    obtain ⟨t0, t1, t2⟩ := hbx.cells
    have n0 := hf.cell
    have HR := hid hr; have HO := hid hO; have HS := hid hs; have HNO := hid hno; have HLE := hid hle
    clear hf hr hO hs hsz hnew hbx hx hno hle hin hB
    generalize hpb : (fun q => placedB q.xy) x.2 = pb at *
    cases pb with
    | false =>
      have r0 := HR.out.cell; have r1 := HR.out.fz
      gi_wp2_with (refine ⟨trivial, fun h => (by cases h), ?_⟩; gi_at_call 66; refine (CallsIn.inRound l' (callsIn_wide.2 CC.out)).mono ?_; rintro e W5 ⟨rfl, hb5⟩; have H5 := hid hb5; clear hb5; have q1 := hid (HO.out.below (Nat.le_refl _) H5.out); have q2 : B1 W5 (w.heap.size + 1 + 1) 4 (.bool false) := q1.out.1.b1 (by simp); have q3 := q2.cell; have q4 := q2.fz; have Q2 := hid q2; clear q2)
      obtain ⟨p1, p2⟩ := q1.out.1.put1 (bs' := [(w.heap.size + 1 + 1, .cells #[.bool false] 4)]) (w.heap.size + 1 + 1) (by omega) (Fr.set W5 (w.heap.size + 1 + 1) 0 (.bool false)) (Nat.le_refl _) ⟨_, List.mem_cons_of_mem _ (List.mem_cons_self), rfl⟩ (fun y hy => by
        simp at hy
        subst hy
        exact .inl ⟨rfl, Q2.out.set _⟩)
      exact ⟨q1.out.2.trans p2, ⟨rfl, HNO.out (by first | exact trivial | exact hpb | assumption | rfl)⟩, p1⟩
    | true =>
      gi_wp2_with (refine ⟨trivial, fun h => (by cases h), ?_⟩; gi_at_call 66; refine (CallsIn.inRound l' (callsIn_wide.2 CC.out)).mono ?_; rintro e W5 ⟨rfl, hb5⟩; have H5 := hid hb5; clear hb5; have q1 := hid (HO.out.below (Nat.le_refl _) H5.out))
      exact ⟨q1.out.2, (by rw [HS.out, HLE.out]; first | rfl | (rw [Bool.true_and]; exact hpb)), q1.out.1⟩
  case hdone =>
    rintro W9 ⟨hle, hO⟩ hM
    rw [List.take_length] at hle
    have hr : B1 W9 (w.heap.size + 1 + 1) 4 (.bool false) := hO.b1 (by simp)
    have r0 := hr.cell; have r1 := hr.fz
    have HR := hid hr; have HO := hid hO; have HM := hid hM; have HL := hid hle
    clear hr hO hM hle
    gi_wp2
    obtain ⟨p1, p2⟩ := HO.out.put1 (bs' := [(w.heap.size + 1 + 1, .cells #[.bool true] 4)]) (w.heap.size + 1 + 1) (by omega) (Fr.set W9 (w.heap.size + 1 + 1) 0 (.bool true)) (Nat.le_refl _) ⟨_, List.mem_cons_of_mem _ (List.mem_cons_self), rfl⟩ (fun y hy => by
        simp at hy
        subst hy
        exact .inl ⟨rfl, HR.out.set _⟩)
    exact leave1 (own_cns _ _ (Nat.le_refl _) _) p1 ((p2.same _ rfl).trans HM.out) (fun W' h' => ⟨_, ret_b1 rfl (fun W => by kernel_rfl) rfl (h'.b1 (List.mem_cons_self)), by rw [HL.out], h'.1⟩)
  case hstop =>
    rintro c W9 ⟨⟨rfl, hgt⟩, hO⟩ hM
    have HO := hid hO; have HM := hid hM; have HG := hid hgt
    clear hO hM hgt
    gi_wp2
    exact leave1 (own_cns _ _ (Nat.le_refl _) _) HO.out HM.out (fun W' h' => ⟨_, ret_b1 rfl (fun W => by kernel_rfl) rfl (h'.b1 (List.mem_cons_self)), by rw [HG.out], h'.1⟩)

end Go.Proofs.YtpmfedimjjifaaaGreatDoor
