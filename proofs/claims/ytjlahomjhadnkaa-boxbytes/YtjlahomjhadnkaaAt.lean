/- Check, as the document has it; no statement of the seat is proved here. -/
import Derived.Test.YtjlahomjhadnkaaAs
namespace Go.Proofs.Ytjlahomjhadnkaa
open Go.RowKit Go.Maps

theorem CB.new (w : World) (X : Nat) (P : Int) (D : Nat) : CB (w.alloc (.cells #[.int .i64 (X : Int), .int .i64 P, .int .i64 (D : Int)] 96)) w.heap.size (X, P, D) := heap_alloc_new w _
/-- A row of points that lies in blocks of S, and how long it is. -/
structure XRow (S : Nat → Prop) (w : World) (ao : Option Addr) (n c : Nat) (l : List (Int × Int)) : Prop where
  len : l.length = n
  no : ao = none → n = 0 ∧ c = 0
  xr : XR S w ao l
theorem XRow.of {S T : Nat → Prop} {w w' : World} {ao : Option Addr} {n c : Nat} {l : List (Int × Int)} (h : XRow S w ao n c l) (hb : ∀ b, S b → w'.heap[b]? = w.heap[b]? ∧ T b) : XRow T w' ao n c l := ⟨h.len, h.no, h.xr.of hb⟩
def RcI (l : List (Int × Int)) (n : Nat) (w2 : World) (c : Value) (W : World) : Prop := ∃ i : Nat, i ≤ n ∧ c = .int .i64 (i : Int) ∧ Hid (placedB l = placedB (l.drop i)) ∧ Hid (Below w2.heap.size w2 W)
theorem pt_cells (w : World) (a b : Int) : (w.alloc (.cells #[.int .i64 a, .int .i64 b] 23)).cell? ⟨w.heap.size, 0, none⟩ = some (.int .i64 a) ∧ (w.alloc (.cells #[.int .i64 a, .int .i64 b] 23)).cell? ⟨w.heap.size, 1, none⟩ = some (.int .i64 b) := by
  have h := heap_alloc_new w (.cells #[.int .i64 a, .int .i64 b] 23)
  unfold World.cell?
  rw [h]
  exact ⟨rfl, rfl⟩
end Go.Proofs.Ytjlahomjhadnkaa
