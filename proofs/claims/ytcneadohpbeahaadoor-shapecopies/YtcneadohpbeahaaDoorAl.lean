/- Names and parts of kinds, as the document has them, and Kind; no statement of the seat is proved here. -/
import Derived.Test.YtcneadohpbeahaaDoorAk
namespace Go.Proofs.YtcneadohpbeahaaDoor
open Go.RowKit Go.Maps

theorem le7 {k : Int} (h : 0 ≤ k) (h2 : k ≤ 7) : k = 0 ∨ k = 1 ∨ k = 2 ∨ k = 3 ∨ k = 4 ∨ k = 5 ∨ k = 6 ∨ k = 7 := by omega
set_option maxHeartbeats 2000000 in
theorem refName_call (k : Int) (w : World) : Calls Tryd.prog 22 #[.int .i64 k] w fun e w' => e = .returned (.string (rnm k)) ∧ Below w.heap.size w w' := by
  by_cases h1 : k < 1
  · rw [show rnm k = ⟨#[]⟩ by
      by_cases h0 : k = 0
      · subst h0; rfl
      · have : isK k = false := by unfold isK; simp; omega
        simp [rnm, this]]
    go_enter Tryd.func22, Tryd.ntmps22
    go_wp2
    go_ret
    exact ⟨rfl, Below.refl _ _⟩
  · by_cases h7 : 7 < k
    · rw [show rnm k = ⟨#[]⟩ by
        have : isK k = false := by unfold isK; simp; omega
        simp [rnm, this]]
      have h1' : 1 ≤ k := by omega
      go_enter Tryd.func22, Tryd.ntmps22
      go_wp2
      go_ret
      exact ⟨rfl, Below.refl _ _⟩
    · rcases le7 (k := k) (by omega) (by omega) with rfl | rfl | rfl | rfl | rfl | rfl | rfl | rfl
      · omega
      · clear h1 h7
        have IX : ∀ W, (Instr.index 61 (.agg #[.string ⟨#[]⟩, .string ⟨#[80, 79, 73, 78, 84]⟩, .string ⟨#[76, 73, 78, 69, 83, 84, 82, 73, 78, 71]⟩, .string ⟨#[80, 79, 76, 89, 71, 79, 78]⟩, .string ⟨#[77, 85, 76, 84, 73, 80, 79, 73, 78, 84]⟩, .string ⟨#[77, 85, 76, 84, 73, 76, 73, 78, 69, 83, 84, 82, 73, 78, 71]⟩, .string ⟨#[77, 85, 76, 84, 73, 80, 79, 76, 89, 71, 79, 78]⟩, .string ⟨#[71, 69, 79, 77, 69, 84, 82, 89, 67, 79, 76, 76, 69, 67, 84, 73, 79, 78]⟩]) (.int .i64 1)).run Tryd.prog W = .ok (.string (rnm 1)) W := fun W => by kernel_rfl
        generalize rnm 1 = y at *
        go_enter Tryd.func22, Tryd.ntmps22
        go_wp2
        go_ret
        exact ⟨rfl, Below.refl _ _⟩
      · clear h1 h7
        have IX : ∀ W, (Instr.index 61 (.agg #[.string ⟨#[]⟩, .string ⟨#[80, 79, 73, 78, 84]⟩, .string ⟨#[76, 73, 78, 69, 83, 84, 82, 73, 78, 71]⟩, .string ⟨#[80, 79, 76, 89, 71, 79, 78]⟩, .string ⟨#[77, 85, 76, 84, 73, 80, 79, 73, 78, 84]⟩, .string ⟨#[77, 85, 76, 84, 73, 76, 73, 78, 69, 83, 84, 82, 73, 78, 71]⟩, .string ⟨#[77, 85, 76, 84, 73, 80, 79, 76, 89, 71, 79, 78]⟩, .string ⟨#[71, 69, 79, 77, 69, 84, 82, 89, 67, 79, 76, 76, 69, 67, 84, 73, 79, 78]⟩]) (.int .i64 2)).run Tryd.prog W = .ok (.string (rnm 2)) W := fun W => by kernel_rfl
        generalize rnm 2 = y at *
        go_enter Tryd.func22, Tryd.ntmps22
        go_wp2
        go_ret
        exact ⟨rfl, Below.refl _ _⟩
      · clear h1 h7
        have IX : ∀ W, (Instr.index 61 (.agg #[.string ⟨#[]⟩, .string ⟨#[80, 79, 73, 78, 84]⟩, .string ⟨#[76, 73, 78, 69, 83, 84, 82, 73, 78, 71]⟩, .string ⟨#[80, 79, 76, 89, 71, 79, 78]⟩, .string ⟨#[77, 85, 76, 84, 73, 80, 79, 73, 78, 84]⟩, .string ⟨#[77, 85, 76, 84, 73, 76, 73, 78, 69, 83, 84, 82, 73, 78, 71]⟩, .string ⟨#[77, 85, 76, 84, 73, 80, 79, 76, 89, 71, 79, 78]⟩, .string ⟨#[71, 69, 79, 77, 69, 84, 82, 89, 67, 79, 76, 76, 69, 67, 84, 73, 79, 78]⟩]) (.int .i64 3)).run Tryd.prog W = .ok (.string (rnm 3)) W := fun W => by kernel_rfl
        generalize rnm 3 = y at *
        go_enter Tryd.func22, Tryd.ntmps22
        go_wp2
        go_ret
        exact ⟨rfl, Below.refl _ _⟩
      · clear h1 h7
        have IX : ∀ W, (Instr.index 61 (.agg #[.string ⟨#[]⟩, .string ⟨#[80, 79, 73, 78, 84]⟩, .string ⟨#[76, 73, 78, 69, 83, 84, 82, 73, 78, 71]⟩, .string ⟨#[80, 79, 76, 89, 71, 79, 78]⟩, .string ⟨#[77, 85, 76, 84, 73, 80, 79, 73, 78, 84]⟩, .string ⟨#[77, 85, 76, 84, 73, 76, 73, 78, 69, 83, 84, 82, 73, 78, 71]⟩, .string ⟨#[77, 85, 76, 84, 73, 80, 79, 76, 89, 71, 79, 78]⟩, .string ⟨#[71, 69, 79, 77, 69, 84, 82, 89, 67, 79, 76, 76, 69, 67, 84, 73, 79, 78]⟩]) (.int .i64 4)).run Tryd.prog W = .ok (.string (rnm 4)) W := fun W => by kernel_rfl
        generalize rnm 4 = y at *
        go_enter Tryd.func22, Tryd.ntmps22
        go_wp2
        go_ret
        exact ⟨rfl, Below.refl _ _⟩
      · clear h1 h7
        have IX : ∀ W, (Instr.index 61 (.agg #[.string ⟨#[]⟩, .string ⟨#[80, 79, 73, 78, 84]⟩, .string ⟨#[76, 73, 78, 69, 83, 84, 82, 73, 78, 71]⟩, .string ⟨#[80, 79, 76, 89, 71, 79, 78]⟩, .string ⟨#[77, 85, 76, 84, 73, 80, 79, 73, 78, 84]⟩, .string ⟨#[77, 85, 76, 84, 73, 76, 73, 78, 69, 83, 84, 82, 73, 78, 71]⟩, .string ⟨#[77, 85, 76, 84, 73, 80, 79, 76, 89, 71, 79, 78]⟩, .string ⟨#[71, 69, 79, 77, 69, 84, 82, 89, 67, 79, 76, 76, 69, 67, 84, 73, 79, 78]⟩]) (.int .i64 5)).run Tryd.prog W = .ok (.string (rnm 5)) W := fun W => by kernel_rfl
        generalize rnm 5 = y at *
        go_enter Tryd.func22, Tryd.ntmps22
        go_wp2
        go_ret
        exact ⟨rfl, Below.refl _ _⟩
      · clear h1 h7
        have IX : ∀ W, (Instr.index 61 (.agg #[.string ⟨#[]⟩, .string ⟨#[80, 79, 73, 78, 84]⟩, .string ⟨#[76, 73, 78, 69, 83, 84, 82, 73, 78, 71]⟩, .string ⟨#[80, 79, 76, 89, 71, 79, 78]⟩, .string ⟨#[77, 85, 76, 84, 73, 80, 79, 73, 78, 84]⟩, .string ⟨#[77, 85, 76, 84, 73, 76, 73, 78, 69, 83, 84, 82, 73, 78, 71]⟩, .string ⟨#[77, 85, 76, 84, 73, 80, 79, 76, 89, 71, 79, 78]⟩, .string ⟨#[71, 69, 79, 77, 69, 84, 82, 89, 67, 79, 76, 76, 69, 67, 84, 73, 79, 78]⟩]) (.int .i64 6)).run Tryd.prog W = .ok (.string (rnm 6)) W := fun W => by kernel_rfl
        generalize rnm 6 = y at *
        go_enter Tryd.func22, Tryd.ntmps22
        go_wp2
        go_ret
        exact ⟨rfl, Below.refl _ _⟩
      · clear h1 h7
        have IX : ∀ W, (Instr.index 61 (.agg #[.string ⟨#[]⟩, .string ⟨#[80, 79, 73, 78, 84]⟩, .string ⟨#[76, 73, 78, 69, 83, 84, 82, 73, 78, 71]⟩, .string ⟨#[80, 79, 76, 89, 71, 79, 78]⟩, .string ⟨#[77, 85, 76, 84, 73, 80, 79, 73, 78, 84]⟩, .string ⟨#[77, 85, 76, 84, 73, 76, 73, 78, 69, 83, 84, 82, 73, 78, 71]⟩, .string ⟨#[77, 85, 76, 84, 73, 80, 79, 76, 89, 71, 79, 78]⟩, .string ⟨#[71, 69, 79, 77, 69, 84, 82, 89, 67, 79, 76, 76, 69, 67, 84, 73, 79, 78]⟩]) (.int .i64 7)).run Tryd.prog W = .ok (.string (rnm 7)) W := fun W => by kernel_rfl
        generalize rnm 7 = y at *
        go_enter Tryd.func22, Tryd.ntmps22
        go_wp2
        go_ret
        exact ⟨rfl, Below.refl _ _⟩
set_option maxHeartbeats 2000000 in
theorem refPart_call (k : Int) (w : World) : Calls Tryd.prog 24 #[.int .i64 k] w fun e w' => e = .returned (.int .i64 (partK k)) ∧ Below w.heap.size w w' := by
  by_cases h : 0 ≤ k ∧ k ≤ 7
  · rcases le7 h.1 h.2 with rfl | rfl | rfl | rfl | rfl | rfl | rfl | rfl
    · clear h; go_enter Tryd.func24, Tryd.ntmps24; go_wp2; go_ret; exact ⟨rfl, Below.refl _ _⟩
    · clear h; go_enter Tryd.func24, Tryd.ntmps24; go_wp2; go_ret; exact ⟨rfl, Below.refl _ _⟩
    · clear h; go_enter Tryd.func24, Tryd.ntmps24; go_wp2; go_ret; exact ⟨rfl, Below.refl _ _⟩
    · clear h; go_enter Tryd.func24, Tryd.ntmps24; go_wp2; go_ret; exact ⟨rfl, Below.refl _ _⟩
    · clear h; go_enter Tryd.func24, Tryd.ntmps24; go_wp2; go_ret; exact ⟨rfl, Below.refl _ _⟩
    · clear h; go_enter Tryd.func24, Tryd.ntmps24; go_wp2; go_ret; exact ⟨rfl, Below.refl _ _⟩
    · clear h; go_enter Tryd.func24, Tryd.ntmps24; go_wp2; go_ret; exact ⟨rfl, Below.refl _ _⟩
    · clear h; go_enter Tryd.func24, Tryd.ntmps24; go_wp2; go_ret; exact ⟨rfl, Below.refl _ _⟩
  · rw [show partK k = -1 by
      have : isK k = false := by unfold isK; simp; omega
      simp [partK, this]]
    have n3 : (k == 3) = false := by simp; omega
    have n4 : (k == 4) = false := by simp; omega
    have n5 : (k == 5) = false := by simp; omega
    have n6 : (k == 6) = false := by simp; omega
    clear h
    go_enter Tryd.func24, Tryd.ntmps24
    go_wp2
    go_ret
    exact ⟨rfl, Below.refl _ _⟩

theorem nm_inj : ∀ i j : Fin 8, nmT.getD i.val [] = nmT.getD j.val [] → i = j := by decide
theorem nm_list (i : Nat) : (nm i).toList = nmT.getD i [] := by rw [ByteArray.toList_eq]; simp [nm]
theorem nm_eq {i j : Nat} (hi : i < 8) (hj : j < 8) (h : (nm i).toList = (nm j).toList) : i = j := by
  rw [nm_list, nm_list] at h
  simpa using nm_inj ⟨i, hi⟩ ⟨j, hj⟩ h
/-- The kind of a name. -/
def KindIs (x : ByteArray) (k : Int) (ok : Bool) : Prop := (ok = true ∧ ∃ n : Nat, k = (n : Int) ∧ 1 ≤ n ∧ n ≤ 7 ∧ (nm n).toList = x.toList) ∨ (ok = false ∧ k = 0 ∧ ∀ n : Nat, 1 ≤ n → n ≤ 7 → (nm n).toList ≠ x.toList)
theorem KindIs.one {x : ByteArray} {k l : Int} {a b : Bool} (h : KindIs x k a) (g : KindIs x l b) : k = l ∧ a = b := by
  rcases h with ⟨rfl, n, rfl, h1, h2, h3⟩ | ⟨rfl, rfl, h⟩ <;> rcases g with ⟨rfl, m, rfl, g1, g2, g3⟩ | ⟨rfl, rfl, g⟩
  · exact ⟨by rw [nm_eq (by omega) (by omega) (h3.trans g3.symm)], rfl⟩
  · exact absurd h3 (g n h1 h2)
  · exact absurd g3 (h m g1 g2)
  · exact ⟨rfl, rfl⟩

def RkI (x : ByteArray) (w : World) (c : Value) (W : World) : Prop := ∃ i : Nat, 1 ≤ i ∧ i ≤ 8 ∧ c = .int .i64 (i : Int) ∧ Hid (∀ n : Nat, 1 ≤ n → n < i → (nm n).toList ≠ x.toList) ∧ Hid (Below w.heap.size w W)
set_option maxHeartbeats 2000000 in
theorem refKind_call (x : ByteArray) (w : World) : Calls Tryd.prog 20 #[.string x] w fun e w' => (∃ k ok, e = .returned (.tuple #[.int .i64 k, .bool ok]) ∧ KindIs x k ok) ∧ Below w.heap.size w w' := by
  go_enter Tryd.func20, Tryd.ntmps20
  go_wp2
  go_loopw [4] (RkI x w) (fun c _ => 8 - (intOf c).toNat)
  case atStart => exact ⟨1, by omega, by omega, rfl, hid (fun n h1 h2 => by omega), hid (Below.refl _ _)⟩
  case round =>
    obtain ⟨i, h1, h8, rfl, hn, hb⟩ := hrel
    by_cases h7 : i ≤ 7
    · have h7' : (i : Int) ≤ 7 := by omega
      have C := hid (fun W => refName_call (i : Int) W)
      rw [show rnm (i : Int) = nm i by
        have : isK (i : Int) = true := by unfold isK; simp; omega
        simp [rnm, this]] at C
      by_cases he : (nm i).toList = x.toList
      · have HE := hid he
        have hq : ((nm i).toList == x.toList) = true := by simp [he]
        clear he
        go_wp2_with (go_at_call 22; refine (C.out _).mono ?_; rintro e w1 ⟨rfl, hb1⟩; have H1 := hid hb1; clear hb1)
        go_ret2
        exact ⟨⟨_, _, rfl, .inl ⟨rfl, i, rfl, h1, h7, HE.out⟩⟩, gt hb.out H1.out⟩
      · have hq : ((nm i).toList == x.toList) = false := by simp [he]
        have HE := hid he
        clear he
        go_wp2_with (go_at_call 22; refine (C.out _).mono ?_; rintro e w1 ⟨rfl, hb1⟩; have H1 := hid hb1; clear hb1)
        go_roundw
        case measure => simp [intOf]; omega
        case rel => exact ⟨i + 1, by omega, by omega, by go_num, hid (fun n g1 g2 => by
          by_cases hni : n = i
          · rw [hni]; exact HE.out
          · exact hn.out n g1 (by omega)), hid (gt hb.out H1.out)⟩
    · obtain rfl : i = 8 := by omega
      go_wp2
      go_ret2
      exact ⟨⟨_, _, rfl, .inr ⟨rfl, rfl, fun n g1 g2 => hn.out n g1 (by omega)⟩⟩, hb.out⟩

def PkI (x : ByteArray) (w : World) (c : Value) (W : World) : Prop := ∃ i : Nat, i ≤ 8 ∧ c = .int .i64 (i : Int) ∧ Hid (∀ n : Nat, 1 ≤ n → n < i → (nm n).toList ≠ x.toList) ∧ Hid (Below w.heap.size w W)
theorem idx58 : ∀ k : Nat, k < 8 → ∀ W, (Instr.index 58 (.agg #[.string ⟨#[]⟩, .int .i64 1, .int .i64 0, .string ⟨#[80, 79, 73, 78, 84]⟩, .int .i64 1, .int .i64 0, .string ⟨#[76, 73, 78, 69, 83, 84, 82, 73, 78, 71]⟩, .int .i64 1, .int .i64 0, .string ⟨#[80, 79, 76, 89, 71, 79, 78]⟩, .int .i64 0, .int .i64 0, .string ⟨#[77, 85, 76, 84, 73, 80, 79, 73, 78, 84]⟩, .int .i64 1, .int .i64 1, .string ⟨#[77, 85, 76, 84, 73, 76, 73, 78, 69, 83, 84, 82, 73, 78, 71]⟩, .int .i64 2, .int .i64 2, .string ⟨#[77, 85, 76, 84, 73, 80, 79, 76, 89, 71, 79, 78]⟩, .int .i64 3, .int .i64 3, .string ⟨#[71, 69, 79, 77, 69, 84, 82, 89, 67, 79, 76, 76, 69, 67, 84, 73, 79, 78]⟩, .int .i64 1, .int .i64 7]) (.int .i64 (k : Int))).run Tryd.prog W = .ok (.agg #[.string (nm k), .int .i64 (lo k), .int .i64 (hi k)]) W
  | 0, _, W => by kernel_rfl
  | 1, _, W => by kernel_rfl
  | 2, _, W => by kernel_rfl
  | 3, _, W => by kernel_rfl
  | 4, _, W => by kernel_rfl
  | 5, _, W => by kernel_rfl
  | 6, _, W => by kernel_rfl
  | 7, _, W => by kernel_rfl
  | k + 8, h, _ => by omega
section
variable {P : Program} {ops : Array Oper} {rest : List Oper} {o : Oper} {a : Act} {w : World} {Q : Exit → Act → World → Prop}
theorem wpList_load_run (hgd : o.guard = none) (ty : TypeId) (x : Operand) (ho : o.op = .load ty x) (ad : Addr) (hx : a.eval x = .pointer (some ad)) (v : Value)
    (hrun : (loadVar ty ad).run P w = .ok v w) (h : wpList P ops Q rest (a.put o.dst v) w) : wpList P ops Q (o :: rest) a w := by
  refine wpList_plain hgd fun K hK => ?_
  unfold Oper.wp
  simp [execOp, ho, hx, Instr.loadAt, Instr.sureAddr, hrun, Result.andThen]
  exact hK _ _ h
end
theorem cellsOf58 : Tryd.prog.cellsOf 58 = 24 := by kernel_rfl
theorem load58 {w : World} (hT : Tab w) : (loadVar 58 ⟨0, 0, none⟩).run Tryd.prog w = .ok (.agg #[.string ⟨#[]⟩, .int .i64 1, .int .i64 0, .string ⟨#[80, 79, 73, 78, 84]⟩, .int .i64 1, .int .i64 0, .string ⟨#[76, 73, 78, 69, 83, 84, 82, 73, 78, 71]⟩, .int .i64 1, .int .i64 0, .string ⟨#[80, 79, 76, 89, 71, 79, 78]⟩, .int .i64 0, .int .i64 0, .string ⟨#[77, 85, 76, 84, 73, 80, 79, 73, 78, 84]⟩, .int .i64 1, .int .i64 1, .string ⟨#[77, 85, 76, 84, 73, 76, 73, 78, 69, 83, 84, 82, 73, 78, 71]⟩, .int .i64 2, .int .i64 2, .string ⟨#[77, 85, 76, 84, 73, 80, 79, 76, 89, 71, 79, 78]⟩, .int .i64 3, .int .i64 3, .string ⟨#[71, 69, 79, 77, 69, 84, 82, 89, 67, 79, 76, 76, 69, 67, 84, 73, 79, 78]⟩, .int .i64 1, .int .i64 7]) w := by
  have hl := run_loadCells_list (P := Tryd.prog) w ⟨0, 0, none⟩ [.string ⟨#[]⟩, .int .i64 1, .int .i64 0, .string ⟨#[80, 79, 73, 78, 84]⟩, .int .i64 1, .int .i64 0, .string ⟨#[76, 73, 78, 69, 83, 84, 82, 73, 78, 71]⟩, .int .i64 1, .int .i64 0, .string ⟨#[80, 79, 76, 89, 71, 79, 78]⟩, .int .i64 0, .int .i64 0, .string ⟨#[77, 85, 76, 84, 73, 80, 79, 73, 78, 84]⟩, .int .i64 1, .int .i64 1, .string ⟨#[77, 85, 76, 84, 73, 76, 73, 78, 69, 83, 84, 82, 73, 78, 71]⟩, .int .i64 2, .int .i64 2, .string ⟨#[77, 85, 76, 84, 73, 80, 79, 76, 89, 71, 79, 78]⟩, .int .i64 3, .int .i64 3, .string ⟨#[71, 69, 79, 77, 69, 84, 82, 89, 67, 79, 76, 76, 69, 67, 84, 73, 79, 78]⟩, .int .i64 1, .int .i64 7] (by
    intro j v hj
    rw [Addr.add_lit]
    have hj24 : j < 24 := by simpa using (List.getElem?_eq_some_iff.1 hj).1
    obtain ⟨a0, b0, c0⟩ := hT 0 (by omega)
    obtain ⟨a1, b1, c1⟩ := hT 1 (by omega)
    obtain ⟨a2, b2, c2⟩ := hT 2 (by omega)
    obtain ⟨a3, b3, c3⟩ := hT 3 (by omega)
    obtain ⟨a4, b4, c4⟩ := hT 4 (by omega)
    obtain ⟨a5, b5, c5⟩ := hT 5 (by omega)
    obtain ⟨a6, b6, c6⟩ := hT 6 (by omega)
    obtain ⟨a7, b7, c7⟩ := hT 7 (by omega)
    match j, hj24, hj with
    | 0, _, hj => simp at hj; subst hj; exact a0
    | 1, _, hj => simp at hj; subst hj; exact b0
    | 2, _, hj => simp at hj; subst hj; exact c0
    | 3, _, hj => simp at hj; subst hj; exact a1
    | 4, _, hj => simp at hj; subst hj; exact b1
    | 5, _, hj => simp at hj; subst hj; exact c1
    | 6, _, hj => simp at hj; subst hj; exact a2
    | 7, _, hj => simp at hj; subst hj; exact b2
    | 8, _, hj => simp at hj; subst hj; exact c2
    | 9, _, hj => simp at hj; subst hj; exact a3
    | 10, _, hj => simp at hj; subst hj; exact b3
    | 11, _, hj => simp at hj; subst hj; exact c3
    | 12, _, hj => simp at hj; subst hj; exact a4
    | 13, _, hj => simp at hj; subst hj; exact b4
    | 14, _, hj => simp at hj; subst hj; exact c4
    | 15, _, hj => simp at hj; subst hj; exact a5
    | 16, _, hj => simp at hj; subst hj; exact b5
    | 17, _, hj => simp at hj; subst hj; exact c5
    | 18, _, hj => simp at hj; subst hj; exact a6
    | 19, _, hj => simp at hj; subst hj; exact b6
    | 20, _, hj => simp at hj; subst hj; exact c6
    | 21, _, hj => simp at hj; subst hj; exact a7
    | 22, _, hj => simp at hj; subst hj; exact b7
    | 23, _, hj => simp at hj; subst hj; exact c7
    | j + 24, h, _ => omega)
  simp at hl
  simp [loadVar, Tryd.isAgg58, Tryd.sizeOf58, hl]
set_option maxHeartbeats 2000000 in
theorem kind_call (x : ByteArray) (w : World) (hT : Tab w) : Calls Tryd.prog 19 #[.string x] w fun e w' => (∃ k ok, e = .returned (.tuple #[.int .i64 k, .bool ok]) ∧ KindIs x k ok) ∧ Below w.heap.size w w' := by
  have LD := hid (load58 hT)
  clear hT
  go_enter Tryd.func19, Tryd.ntmps19
  go_wp2_with ((with_reducible refine here_op 6 ?_); refine wpList_load_run rfl 58 (.global 0) rfl ⟨0, 0, none⟩ rfl _ LD.out ?_; clear LD)
  go_loopw [7] (PkI x w) (fun c _ => 8 - (intOf c).toNat)
  case atStart => exact ⟨0, by omega, rfl, hid (fun n h1 h2 => by omega), hid (Below.refl _ _)⟩
  case round =>
    obtain ⟨i, h8, rfl, hn, hb⟩ := hrel
    by_cases h7 : i < 8
    · have h7' : (i : Int) < 8 := by omega
      have IX := idx58 i h7
      have R1 := hid (RB3.new wr (nm i) (lo i) (hi i))
      obtain ⟨t0, t1, t2⟩ := R1.out.cells
      by_cases h0 : i = 0
      · subst h0
        rw [show ((0 : Nat) : Int) = 0 from rfl] at *
        go_wp2
        go_roundw
        case measure => simp [intOf]
        case rel => exact ⟨1, by omega, rfl, hid (fun n g1 g2 => by omega), hid (gt hb.out (ext1 _))⟩
      · have n0 : ((i : Int) == 0) = false := by simp [h0]
        by_cases he : (nm i).toList = x.toList
        · have HE := hid he
          have hq : ((nm i).toList == x.toList) = true := by simp [he]
          have HI := hid (show 1 ≤ i by omega)
          clear he
          go_wp2
          go_ret2
          exact ⟨⟨_, _, rfl, .inl ⟨rfl, i, rfl, HI.out, by omega, HE.out⟩⟩, gt hb.out (ext1 _)⟩
        · have hq : ((nm i).toList == x.toList) = false := by simp [he]
          have HE := hid he
          clear he
          go_wp2
          go_roundw
          case measure => simp [intOf]; omega
          case rel => exact ⟨i + 1, by omega, by go_num, hid (fun n g1 g2 => by
            by_cases hni : n = i
            · rw [hni]; exact HE.out
            · exact hn.out n g1 (by omega)), hid (gt hb.out (ext1 _))⟩
    · obtain rfl : i = 8 := by omega
      go_wp2
      go_ret2
      exact ⟨⟨_, _, rfl, .inr ⟨rfl, rfl, fun n g1 g2 => hn.out n g1 (by omega)⟩⟩, hb.out⟩
end Go.Proofs.YtcneadohpbeahaaDoor
