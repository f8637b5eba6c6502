/- The document's cache: Put, its parts; no statement of the seat is proved here. -/
import Derived.Test.YtebjjibgkjgpgaaRk
import Derived.Test.YtebjjibgkjgpgaaEd
namespace Go.Proofs.Ytebjjibgkjgpgaa
open Go.RowKit Go.Maps

set_option maxHeartbeats 1000000 in
theorem rput_wrong (m n cap : Nat) (ao : Option Addr) (k : Int) (w : World) (hx : k < 1 ∨ n ≠ 512) :
    Calls Try.prog 32 #[.pointer (some ⟨m, 0, none⟩), .int .i64 k, .slice ao n cap] w fun e w' => e = .returned (.int .i64 2) ∧ w' = w := by
  rcases Int.lt_or_le k 1 with h1 | h1
  · clear hx
    go_enter Try.func32, Try.ntmps32
    go_wp2
    go_ret
    exact ⟨rfl, rfl⟩
  · have h2 : ¬ n = 512 := by omega
    have h3 : ¬ k < 1 := by omega
    have h4 : ¬ (n : Int) = 512 := by omega
    have h5 : ((n : Int) != 512) = true := by simpa using h4
    clear hx
    go_enter Try.func32, Try.ntmps32
    go_wp2
    go_ret
    exact ⟨rfl, rfl⟩

/-- What is still to come of the rows that go. -/
def goal (k : Int) (room i : Nat) (cur : List Row) : List Row := cur.take i ++ shedL (p52 k) (cur.length - room) (cur.drop i)

theorem goal_out {k : Int} {room i : Nat} {cur : List Row} (hi : i < cur.length) (hr : room < cur.length) (hp : p52 k cur[i] = true) : goal k room i cur = goal k room i (cur.eraseIdx i) := by
  unfold goal
  have e1 : (cur.eraseIdx i).length = cur.length - 1 := by rw [List.length_eraseIdx, if_pos hi]
  have e2 : (cur.eraseIdx i).take i = cur.take i := by rw [List.eraseIdx_eq_take_drop_succ, List.take_append_of_le_length (by simp; omega), List.take_take, Nat.min_self]
  have e3 : (cur.eraseIdx i).drop i = cur.drop (i + 1) := by
    rw [List.eraseIdx_eq_take_drop_succ, List.drop_append, List.drop_of_length_le (by simp; omega), List.nil_append, show i - (cur.take i).length = 0 by simp; omega, List.drop_zero]
  rw [e1, e2, e3, List.drop_eq_getElem_cons hi, shed_yes (by omega) hp]
  congr 2
  omega
theorem goal_next {k : Int} {room i : Nat} {cur : List Row} (hi : i < cur.length) (hr : room < cur.length) (hp : p52 k cur[i] = false) : goal k room i cur = goal k room (i + 1) cur := by
  unfold goal
  rw [List.drop_eq_getElem_cons hi, shed_no (by omega) hp, List.take_add_one, List.getElem?_eq_getElem hi]
  simp only [Option.toList_some, List.append_assoc, List.cons_append, List.nil_append]
theorem goal_done {k : Int} {room i : Nat} {cur : List Row} (hr : cur.length ≤ room) : goal k room i cur = cur := by
  unfold goal
  rw [show cur.length - room = 0 by omega, shedL_zero, List.take_append_drop]
theorem goal_last {k : Int} {room i : Nat} {cur : List Row} (hi : i + 1 = cur.length) (hp : ∀ h : i < cur.length, (cur[i]'h).page = k) : goal k room i cur = cur := by
  have hl : i < cur.length := by omega
  unfold goal
  have e1 : cur.drop i = [cur[i]] := by rw [List.drop_eq_getElem_cons hl, List.drop_of_length_le (by omega)]
  have e2 : p52 k cur[i] = false := by simp [p52, hp hl]
  rw [e1]
  rcases Nat.eq_zero_or_pos (cur.length - room) with h | h
  · rw [h, shedL_zero, ← e1, List.take_append_drop]
  · rw [shed_no h e2, shedL_nil, ← e1, List.take_append_drop]

/-- A block apart from the document's cache turns. -/
theorem RP.apart_set {w : World} {m rb j : Nat} {R : RParts} {s : CS} (h : RP w m R s) (cs : List Value) (hb : w.heap[rb]? = some (.cells cs.toArray 81 (0, 0))) (hS : ¬ R.S m rb) (v : Value) : RP (w.setCell ⟨rb, j, none⟩ v) m R s := by
  refine h.stay (fun k hk hT => set_heap _ _ _ _ _ (fun h0 => ?_))
  subst h0
  rcases hT with hT | ⟨p, hp, a, ha, rfl⟩
  · exact hS hT
  · obtain ⟨cur, hg, _⟩ := row4_blk (h.by_ p hp) ha
    rw [hb] at hg; simp at hg

theorem putL_idx {s : CS} {k : Int} {b : List Nat} (ho : idx s.l k = none) : s.putL k b = s.l ++ [{ zeroR k with bytes := b }] := by
  unfold CS.putL CS.rowFor
  rw [others_idx_none ho, find_none_idx ho]
theorem putL_idx_some {s : CS} {k : Int} {b : List Nat} {i : Nat} (ho : idx s.l k = some i) (hnd : (s.l.map Row.page).Nodup) : ∃ h : i < s.l.length, s.putL k b = s.l.eraseIdx i ++ [{ s.l[i] with bytes := b }] := by
  obtain ⟨h1, h2⟩ := find_some_idx ho
  refine ⟨h1, ?_⟩
  unfold CS.putL CS.rowFor
  rw [others_idx ho hnd, h2]

end Go.Proofs.Ytebjjibgkjgpgaa
