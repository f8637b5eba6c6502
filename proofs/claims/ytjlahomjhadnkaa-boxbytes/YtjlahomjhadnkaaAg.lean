/- The rules of kinds, and what one shape is asked without its parts' own; no statement of the seat is proved here. -/
import Derived.Test.YtjlahomjhadnkaaAf
import Derived.Laws.ResultCell
namespace Go.Proofs.Ytjlahomjhadnkaa
open Go.RowKit Go.Maps

def nmT : List (List UInt8) := [[], [80, 79, 73, 78, 84], [76, 73, 78, 69, 83, 84, 82, 73, 78, 71], [80, 79, 76, 89, 71, 79, 78], [77, 85, 76, 84, 73, 80, 79, 73, 78, 84], [77, 85, 76, 84, 73, 76, 73, 78, 69, 83, 84, 82, 73, 78, 71], [77, 85, 76, 84, 73, 80, 79, 76, 89, 71, 79, 78], [71, 69, 79, 77, 69, 84, 82, 89, 67, 79, 76, 76, 69, 67, 84, 73, 79, 78]]
def loT : List Int := [1, 1, 1, 0, 1, 2, 3, 1]
def hiT : List Int := [0, 0, 0, 0, 1, 2, 3, 7]
def nm (k : Nat) : ByteArray := ⟨(nmT.getD k []).toArray⟩
def lo (k : Nat) : Int := loT.getD k 0
def hi (k : Nat) : Int := hiT.getD k 0
/-- The table of rules. -/
def Tab (w : World) : Prop := ∀ k : Nat, k < 8 → w.cell? ⟨0, k * 3, none⟩ = some (.string (nm k)) ∧ w.cell? ⟨0, k * 3 + 1, none⟩ = some (.int .i64 (lo k)) ∧ w.cell? ⟨0, k * 3 + 2, none⟩ = some (.int .i64 (hi k))
theorem Tab.keep {w w' : World} (h : Tab w) (hb : Below w.heap.size w w') : Tab w' := fun k hk => ⟨keep_old hb (h k hk).1, keep_old hb (h k hk).2.1, keep_old hb (h k hk).2.2⟩

theorem load3 {t t' : TypeId} (ha : ∀ W, (isAgg t).run Try.prog W = .ok true W) (hs : ∀ W, (Go.sizeOf t).run Try.prog W = .ok 3 W) {W : World} {q : Nat} {a b c : Value} (h : W.heap[q]? = some (.cells #[a, b, c] t')) :
    (loadVar t ⟨q, 0, none⟩).run Try.prog W = .ok (.agg #[a, b, c]) W := by
  have hl := run_loadCells_list (P := Try.prog) W ⟨q, 0, none⟩ [a, b, c] (by
    intro j v hj
    have e : W.cell? ((⟨q, 0, none⟩ : Addr).add j) = [a, b, c][j]? := by rw [Addr.add_lit]; simp [World.cell?, h]
    rw [e]; exact hj)
  simp at hl
  simp [loadVar, ha, hs, hl]
/-- The rule of a number. -/
def isK (k : Int) : Bool := decide (0 ≤ k) && decide (k < 8)
def rnm (k : Int) : ByteArray := if isK k then nm k.toNat else ⟨#[]⟩
def rlo (k : Int) : Int := if isK k then lo k.toNat else 0
def rhi (k : Int) : Int := if isK k then hi k.toNat else 0

/-- Part of any number. -/
def partK (k : Int) : Int := if isK k && decide (rlo k = rhi k) then rlo k else -1
/-- Is no point of these nowhere? -/
def placedB (l : List (Int × Int)) : Bool := l.all fun p => !(p.1 == -9223372036854775808 || p.2 == -9223372036854775808)
theorem drop_at {α : Type} {l : List α} {i : Nat} {p : α} (h : l[i]? = some p) : l.drop i = p :: l.drop (i + 1) := by
  obtain ⟨hl, rfl⟩ := List.getElem?_eq_some_iff.1 h
  exact List.drop_eq_getElem_cons hl
theorem Here.lenI {S : Nat → Prop} {w : World} {s : Sh} (h : Here S w s) : s.xn ≤ 9223372036854775806 ∧ s.pn ≤ 9223372036854775806 := by have := h.xb; have := h.pb; omega

def PlI (s : Sh) (w : World) (c : Value) (W : World) : Prop := ∃ i : Nat, i ≤ s.xn ∧ c = .int .i64 (i : Int) ∧ placedB s.xy = placedB (s.xy.drop i) ∧ Hid (Below w.heap.size w W) ∧ Hid (Bx W w.heap.size s)
end Go.Proofs.Ytjlahomjhadnkaa
