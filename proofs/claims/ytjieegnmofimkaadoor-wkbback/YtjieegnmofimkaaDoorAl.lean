/- Names and parts of kinds, as the document has them, and Kind; no statement of the seat is proved here. -/
import Derived.Test.YtjieegnmofimkaaDoorAj
namespace Go.Proofs.YtjieegnmofimkaaDoor
open Go.RowKit Go.Maps

theorem le7 {k : Int} (h : 0 ≤ k) (h2 : k ≤ 7) : k = 0 ∨ k = 1 ∨ k = 2 ∨ k = 3 ∨ k = 4 ∨ k = 5 ∨ k = 6 ∨ k = 7 := by omega
set_option maxRecDepth 100000 in
set_option maxHeartbeats 2000000 in
theorem refPart_call (k : Int) (w : World) : Calls Tryd.prog 67 #[.int .i64 k] w fun e w' => e = .returned (.int .i64 (partK k)) ∧ Below w.heap.size w w' := by
  by_cases h : 0 ≤ k ∧ k ≤ 7
  · rcases le7 h.1 h.2 with rfl | rfl | rfl | rfl | rfl | rfl | rfl | rfl
    · clear h; go_enter Tryd.func67, Tryd.ntmps67; go_wp2; go_ret; exact ⟨rfl, Below.refl _ _⟩
    · clear h; go_enter Tryd.func67, Tryd.ntmps67; go_wp2; go_ret; exact ⟨rfl, Below.refl _ _⟩
    · clear h; go_enter Tryd.func67, Tryd.ntmps67; go_wp2; go_ret; exact ⟨rfl, Below.refl _ _⟩
    · clear h; go_enter Tryd.func67, Tryd.ntmps67; go_wp2; go_ret; exact ⟨rfl, Below.refl _ _⟩
    · clear h; go_enter Tryd.func67, Tryd.ntmps67; go_wp2; go_ret; exact ⟨rfl, Below.refl _ _⟩
    · clear h; go_enter Tryd.func67, Tryd.ntmps67; go_wp2; go_ret; exact ⟨rfl, Below.refl _ _⟩
    · clear h; go_enter Tryd.func67, Tryd.ntmps67; go_wp2; go_ret; exact ⟨rfl, Below.refl _ _⟩
    · clear h; go_enter Tryd.func67, Tryd.ntmps67; go_wp2; go_ret; exact ⟨rfl, Below.refl _ _⟩
  · rw [show partK k = -1 by
      have : isK k = false := by unfold isK; simp; omega
      simp [partK, this]]
    have n3 : (k == 3) = false := by simp; omega
    have n4 : (k == 4) = false := by simp; omega
    have n5 : (k == 5) = false := by simp; omega
    have n6 : (k == 6) = false := by simp; omega
    clear h
    go_enter Tryd.func67, Tryd.ntmps67
    go_wp2
    go_ret
    exact ⟨rfl, Below.refl _ _⟩

theorem nm_inj : ∀ i j : Fin 8, nmT.getD i.val [] = nmT.getD j.val [] → i = j := by decide
theorem nm_list (i : Nat) : (nm i).toList = nmT.getD i [] := by rw [ByteArray.toList_eq]; simp [nm]
theorem nm_eq {i j : Nat} (hi : i < 8) (hj : j < 8) (h : (nm i).toList = (nm j).toList) : i = j := by
  rw [nm_list, nm_list] at h
  simpa using nm_inj ⟨i, hi⟩ ⟨j, hj⟩ h
/-- The kind of a name. -/
def KindIs (x : ByteArray) (k : Int) (ok : Bool) : Prop := (ok = true ∧ ∃ n : Nat, k = (n : Int) ∧ 1 ≤ n ∧ n ≤ 7 ∧ (nm n).toList = x.toList) ∨ (ok = false ∧ k = 0 ∧ ∀ n : Nat, 1 ≤ n → n ≤ 7 → (nm n).toList ≠ x.toList)
theorem KindIs.one {x : ByteArray} {k l : Int} {a b : Bool} (h : KindIs x k a) (g : KindIs x l b) : k = l ∧ a = b := by
  rcases h with ⟨rfl, n, rfl, h1, h2, h3⟩ | ⟨rfl, rfl, h⟩ <;> rcases g with ⟨rfl, m, rfl, g1, g2, g3⟩ | ⟨rfl, rfl, g⟩
  · exact ⟨by rw [nm_eq (by omega) (by omega) (h3.trans g3.symm)], rfl⟩
  · exact absurd h3 (g n h1 h2)
  · exact absurd g3 (h m g1 g2)
  · exact ⟨rfl, rfl⟩

def RkI (x : ByteArray) (w : World) (c : Value) (W : World) : Prop := ∃ i : Nat, 1 ≤ i ∧ i ≤ 8 ∧ c = .int .i64 (i : Int) ∧ Hid (∀ n : Nat, 1 ≤ n → n < i → (nm n).toList ≠ x.toList) ∧ Hid (Below w.heap.size w W)
def PkI (x : ByteArray) (w : World) (c : Value) (W : World) : Prop := ∃ i : Nat, i ≤ 8 ∧ c = .int .i64 (i : Int) ∧ Hid (∀ n : Nat, 1 ≤ n → n < i → (nm n).toList ≠ x.toList) ∧ Hid (Below w.heap.size w W)
theorem idx58 : ∀ k : Nat, k < 8 → ∀ W, (Instr.index 129 (.agg #[.string ⟨#[]⟩, .int .i64 1, .int .i64 0, .string ⟨#[80, 79, 73, 78, 84]⟩, .int .i64 1, .int .i64 0, .string ⟨#[76, 73, 78, 69, 83, 84, 82, 73, 78, 71]⟩, .int .i64 1, .int .i64 0, .string ⟨#[80, 79, 76, 89, 71, 79, 78]⟩, .int .i64 0, .int .i64 0, .string ⟨#[77, 85, 76, 84, 73, 80, 79, 73, 78, 84]⟩, .int .i64 1, .int .i64 1, .string ⟨#[77, 85, 76, 84, 73, 76, 73, 78, 69, 83, 84, 82, 73, 78, 71]⟩, .int .i64 2, .int .i64 2, .string ⟨#[77, 85, 76, 84, 73, 80, 79, 76, 89, 71, 79, 78]⟩, .int .i64 3, .int .i64 3, .string ⟨#[71, 69, 79, 77, 69, 84, 82, 89, 67, 79, 76, 76, 69, 67, 84, 73, 79, 78]⟩, .int .i64 1, .int .i64 7]) (.int .i64 (k : Int))).run Tryd.prog W = .ok (.agg #[.string (nm k), .int .i64 (lo k), .int .i64 (hi k)]) W
  | 0, _, W => by kernel_rfl
  | 1, _, W => by kernel_rfl
  | 2, _, W => by kernel_rfl
  | 3, _, W => by kernel_rfl
  | 4, _, W => by kernel_rfl
  | 5, _, W => by kernel_rfl
  | 6, _, W => by kernel_rfl
  | 7, _, W => by kernel_rfl
  | k + 8, h, _ => by omega
section
variable {P : Program} {ops : Array Oper} {rest : List Oper} {o : Oper} {a : Act} {w : World} {Q : Exit → Act → World → Prop}
theorem wpList_load_run (hgd : o.guard = none) (ty : TypeId) (x : Operand) (ho : o.op = .load ty x) (ad : Addr) (hx : a.eval x = .pointer (some ad)) (v : Value)
    (hrun : (loadVar ty ad).run P w = .ok v w) (h : wpList P ops Q rest (a.put o.dst v) w) : wpList P ops Q (o :: rest) a w := by
  refine wpList_plain hgd fun K hK => ?_
  unfold Oper.wp
  simp [execOp, ho, hx, Instr.loadAt, Instr.sureAddr, hrun, Result.andThen]
  exact hK _ _ h
end
theorem cellsOf58 : Tryd.prog.cellsOf 129 = 24 := by kernel_rfl
theorem load58 {w : World} (hT : Tab w) : (loadVar 129 ⟨0, 0, none⟩).run Tryd.prog w = .ok (.agg #[.string ⟨#[]⟩, .int .i64 1, .int .i64 0, .string ⟨#[80, 79, 73, 78, 84]⟩, .int .i64 1, .int .i64 0, .string ⟨#[76, 73, 78, 69, 83, 84, 82, 73, 78, 71]⟩, .int .i64 1, .int .i64 0, .string ⟨#[80, 79, 76, 89, 71, 79, 78]⟩, .int .i64 0, .int .i64 0, .string ⟨#[77, 85, 76, 84, 73, 80, 79, 73, 78, 84]⟩, .int .i64 1, .int .i64 1, .string ⟨#[77, 85, 76, 84, 73, 76, 73, 78, 69, 83, 84, 82, 73, 78, 71]⟩, .int .i64 2, .int .i64 2, .string ⟨#[77, 85, 76, 84, 73, 80, 79, 76, 89, 71, 79, 78]⟩, .int .i64 3, .int .i64 3, .string ⟨#[71, 69, 79, 77, 69, 84, 82, 89, 67, 79, 76, 76, 69, 67, 84, 73, 79, 78]⟩, .int .i64 1, .int .i64 7]) w := by
  have hl := run_loadCells_list (P := Tryd.prog) w ⟨0, 0, none⟩ [.string ⟨#[]⟩, .int .i64 1, .int .i64 0, .string ⟨#[80, 79, 73, 78, 84]⟩, .int .i64 1, .int .i64 0, .string ⟨#[76, 73, 78, 69, 83, 84, 82, 73, 78, 71]⟩, .int .i64 1, .int .i64 0, .string ⟨#[80, 79, 76, 89, 71, 79, 78]⟩, .int .i64 0, .int .i64 0, .string ⟨#[77, 85, 76, 84, 73, 80, 79, 73, 78, 84]⟩, .int .i64 1, .int .i64 1, .string ⟨#[77, 85, 76, 84, 73, 76, 73, 78, 69, 83, 84, 82, 73, 78, 71]⟩, .int .i64 2, .int .i64 2, .string ⟨#[77, 85, 76, 84, 73, 80, 79, 76, 89, 71, 79, 78]⟩, .int .i64 3, .int .i64 3, .string ⟨#[71, 69, 79, 77, 69, 84, 82, 89, 67, 79, 76, 76, 69, 67, 84, 73, 79, 78]⟩, .int .i64 1, .int .i64 7] (by
    intro j v hj
    rw [Addr.add_lit]
    have hj24 : j < 24 := by simpa using (List.getElem?_eq_some_iff.1 hj).1
    obtain ⟨a0, b0, c0⟩ := hT 0 (by omega)
    obtain ⟨a1, b1, c1⟩ := hT 1 (by omega)
    obtain ⟨a2, b2, c2⟩ := hT 2 (by omega)
    obtain ⟨a3, b3, c3⟩ := hT 3 (by omega)
    obtain ⟨a4, b4, c4⟩ := hT 4 (by omega)
    obtain ⟨a5, b5, c5⟩ := hT 5 (by omega)
    obtain ⟨a6, b6, c6⟩ := hT 6 (by omega)
    obtain ⟨a7, b7, c7⟩ := hT 7 (by omega)
    match j, hj24, hj with
    | 0, _, hj => simp at hj; subst hj; exact a0
    | 1, _, hj => simp at hj; subst hj; exact b0
    | 2, _, hj => simp at hj; subst hj; exact c0
    | 3, _, hj => simp at hj; subst hj; exact a1
    | 4, _, hj => simp at hj; subst hj; exact b1
    | 5, _, hj => simp at hj; subst hj; exact c1
    | 6, _, hj => simp at hj; subst hj; exact a2
    | 7, _, hj => simp at hj; subst hj; exact b2
    | 8, _, hj => simp at hj; subst hj; exact c2
    | 9, _, hj => simp at hj; subst hj; exact a3
    | 10, _, hj => simp at hj; subst hj; exact b3
    | 11, _, hj => simp at hj; subst hj; exact c3
    | 12, _, hj => simp at hj; subst hj; exact a4
    | 13, _, hj => simp at hj; subst hj; exact b4
    | 14, _, hj => simp at hj; subst hj; exact c4
    | 15, _, hj => simp at hj; subst hj; exact a5
    | 16, _, hj => simp at hj; subst hj; exact b5
    | 17, _, hj => simp at hj; subst hj; exact c5
    | 18, _, hj => simp at hj; subst hj; exact a6
    | 19, _, hj => simp at hj; subst hj; exact b6
    | 20, _, hj => simp at hj; subst hj; exact c6
    | 21, _, hj => simp at hj; subst hj; exact a7
    | 22, _, hj => simp at hj; subst hj; exact b7
    | 23, _, hj => simp at hj; subst hj; exact c7
    | j + 24, h, _ => omega)
  simp at hl
  simp [loadVar, Tryd.isAgg129, Tryd.sizeOf129, hl]
end Go.Proofs.YtjieegnmofimkaaDoor
