/- What teller and the function that it returns do; no statement of the seat is proved here. -/
import Derived.Test.YtieachnejicafaaBe
import Derived.OneCell
namespace Go.Proofs.Ytieachnejicafaa
open Go.RowKit

/-- The two cells of a teller: how many bytes it has told, and its bytes. -/
def Tell (w : World) (pa pb : Nat) (ao : Option Addr) (n cap k : Nat) (W : World) : Prop :=
  W.heap[pa]? = some (.cells #[.int .i64 (k : Int)] 3 (0, 0)) ∧ W.heap[pb]? = some (.cells #[.slice ao n cap] 22 (0, 0)) ∧ w.heap.size ≤ pa ∧ Below w.heap.size w W

set_option maxHeartbeats 400000 in
theorem teller_any (ao : Option Addr) (n cap : Nat) (w : World) : Calls Try.prog 29 #[.slice ao n cap] w fun e w' => e = .returned (.func (.func 36) #[] #[.pointer (some ⟨w.heap.size + 1, 0, none⟩), .pointer (some ⟨w.heap.size, 0, none⟩)]) ∧ Tell w (w.heap.size + 1) w.heap.size ao n cap 0 w' := by
  go_enter Try.func29, Try.ntmps29
  go_wp2
  go_ret
  refine ⟨rfl, ?_, ?_, by omega, Below.alloc (Below.alloc (Below.refl _ _) (Nat.le_refl _) _) (by simp) _⟩
  · have := heap_alloc_new (w.alloc (Obj.cells #[Value.slice ao n cap] 22)) (Obj.cells #[Value.int IntKind.i64 0] 3)
    simpa using this
  · rw [Below.heap_alloc _ _ _ (by simp)]
    exact heap_alloc_new w _

set_option maxHeartbeats 400000 in
theorem tell_more (w : World) (pa pb : Nat) (ao : Option Addr) (n cap : Nat) (xs : List Nat) (h : Rd w ao n cap xs) (hn : n ≤ 9223372036854775807) (k : Nat) (W : World) (hT : Tell w pa pb ao n cap k W) (hk : k < n) :
    Calls Try.prog 36 #[.pointer (some ⟨pa, 0, none⟩), .pointer (some ⟨pb, 0, none⟩)] W fun e w' => e = .returned (.tuple #[.int .u8 ((xs.getD k 0 : Nat) : Int), .bool true]) ∧ Tell w pa pb ao n cap (k + 1) w' := by
  obtain ⟨b, off, rfl, hc⟩ := h.2.2.2 (by omega)
  have hck := hc k hk
  have hbl : b < w.heap.size := lt_cell (w := w) hck
  obtain ⟨ha, hb, hp, hB⟩ := hT
  have ca := cell_of_one ha
  have cb := cell_of_one hb
  have fa := free_of_one ha
  have hne : ¬ b = pa := by omega
  have hne2 : ¬ pb = pa := by rintro rfl; rw [ha] at hb; simp at hb
  have hcW := keep_old hB hck
  generalize ((xs.getD k 0 : Nat) : Int) = X at *
  have hk' : ((k : Int) == (n : Int)) = false := by simp; omega
  have ha' := hid ha
  have hb' := hid hb
  have hB' := hid hB
  clear hc h hck ha hb hB
  go_enter Try.func36, Try.ntmps36
  go_wp2
  go_ret2
  refine ⟨rfl, ?_, ?_, hp, Below.setCell hB'.out hp _⟩
  · rw [one_setCell ha'.out]; simp
  · rw [heap_setCell_other W ⟨pa, 0, none⟩ pb _ (by simpa using hne2)]
    exact hb'.out

set_option maxHeartbeats 400000 in
theorem tell_end (w : World) (pa pb : Nat) (ao : Option Addr) (n cap : Nat) (W : World) (hT : Tell w pa pb ao n cap n W) :
    Calls Try.prog 36 #[.pointer (some ⟨pa, 0, none⟩), .pointer (some ⟨pb, 0, none⟩)] W fun e w' => e = .returned (.tuple #[.int .u8 0, .bool false]) ∧ Tell w pa pb ao n cap n w' := by
  have hT' := hid hT
  obtain ⟨ha, hb, hp, hB⟩ := hT
  have ca := cell_of_one ha
  have cb := cell_of_one hb
  clear ha hb hp hB
  go_enter Try.func36, Try.ntmps36
  go_wp2
  go_ret2
  exact ⟨rfl, hT'.out⟩

end Go.Proofs.Ytieachnejicafaa
