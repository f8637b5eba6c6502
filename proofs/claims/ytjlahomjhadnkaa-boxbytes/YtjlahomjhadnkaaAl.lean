/- Names and parts of kinds, as the document has them, and Kind; no statement of the seat is proved here. -/
import Derived.Test.YtjlahomjhadnkaaAk
namespace Go.Proofs.Ytjlahomjhadnkaa
open Go.RowKit Go.Maps

theorem le7 {k : Int} (h : 0 ≤ k) (h2 : k ≤ 7) : k = 0 ∨ k = 1 ∨ k = 2 ∨ k = 3 ∨ k = 4 ∨ k = 5 ∨ k = 6 ∨ k = 7 := by omega
theorem nm_inj : ∀ i j : Fin 8, nmT.getD i.val [] = nmT.getD j.val [] → i = j := by decide
theorem nm_list (i : Nat) : (nm i).toList = nmT.getD i [] := by rw [ByteArray.toList_eq]; simp [nm]
theorem nm_eq {i j : Nat} (hi : i < 8) (hj : j < 8) (h : (nm i).toList = (nm j).toList) : i = j := by
  rw [nm_list, nm_list] at h
  simpa using nm_inj ⟨i, hi⟩ ⟨j, hj⟩ h
/-- The kind of a name. -/
def KindIs (x : ByteArray) (k : Int) (ok : Bool) : Prop := (ok = true ∧ ∃ n : Nat, k = (n : Int) ∧ 1 ≤ n ∧ n ≤ 7 ∧ (nm n).toList = x.toList) ∨ (ok = false ∧ k = 0 ∧ ∀ n : Nat, 1 ≤ n → n ≤ 7 → (nm n).toList ≠ x.toList)
theorem KindIs.one {x : ByteArray} {k l : Int} {a b : Bool} (h : KindIs x k a) (g : KindIs x l b) : k = l ∧ a = b := by
  rcases h with ⟨rfl, n, rfl, h1, h2, h3⟩ | ⟨rfl, rfl, h⟩ <;> rcases g with ⟨rfl, m, rfl, g1, g2, g3⟩ | ⟨rfl, rfl, g⟩
  · exact ⟨by rw [nm_eq (by omega) (by omega) (h3.trans g3.symm)], rfl⟩
  · exact absurd h3 (g n h1 h2)
  · exact absurd g3 (h m g1 g2)
  · exact ⟨rfl, rfl⟩

def RkI (x : ByteArray) (w : World) (c : Value) (W : World) : Prop := ∃ i : Nat, 1 ≤ i ∧ i ≤ 8 ∧ c = .int .i64 (i : Int) ∧ Hid (∀ n : Nat, 1 ≤ n → n < i → (nm n).toList ≠ x.toList) ∧ Hid (Below w.heap.size w W)
def PkI (x : ByteArray) (w : World) (c : Value) (W : World) : Prop := ∃ i : Nat, i ≤ 8 ∧ c = .int .i64 (i : Int) ∧ Hid (∀ n : Nat, 1 ≤ n → n < i → (nm n).toList ≠ x.toList) ∧ Hid (Below w.heap.size w W)
section
variable {P : Program} {ops : Array Oper} {rest : List Oper} {o : Oper} {a : Act} {w : World} {Q : Exit → Act → World → Prop}
theorem wpList_load_run (hgd : o.guard = none) (ty : TypeId) (x : Operand) (ho : o.op = .load ty x) (ad : Addr) (hx : a.eval x = .pointer (some ad)) (v : Value)
    (hrun : (loadVar ty ad).run P w = .ok v w) (h : wpList P ops Q rest (a.put o.dst v) w) : wpList P ops Q (o :: rest) a w := by
  refine wpList_plain hgd fun K hK => ?_
  unfold Oper.wp
  simp [execOp, ho, hx, Instr.loadAt, Instr.sureAddr, hrun, Result.andThen]
  exact hK _ _ h
end
end Go.Proofs.Ytjlahomjhadnkaa
