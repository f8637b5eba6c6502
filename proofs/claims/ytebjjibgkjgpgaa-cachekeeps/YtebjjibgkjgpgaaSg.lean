/- What Put keeps; numbers appended to numbers; no statement of the seat is proved here. -/
import Derived.Test.YtebjjibgkjgpgaaSe
namespace Go.Proofs.Ytebjjibgkjgpgaa
open Go.RowKit Go.Maps

theorem mem_dirt {s : CS} {p : Int} : p ∈ s.dirt ↔ ∃ r ∈ s.l, r.dirty = true ∧ r.page = p := by
  unfold CS.dirt
  rw [(rise_perm _).mem_iff]
  unfold told
  simp only [List.mem_map, List.mem_filter]
  constructor
  · rintro ⟨r, ⟨h1, h2⟩, h3⟩; exact ⟨r, h1, h2, h3⟩
  · rintro ⟨r, h1, h2, h3⟩; exact ⟨r, ⟨h1, h2⟩, h3⟩
theorem shedL_keeps (p : Row → Bool) (n : Nat) (l : List Row) {r : Row} (hr : r ∈ l) (hp : p r = false) : r ∈ shedL p n l := by
  induction l generalizing n with
  | nil => simp at hr
  | cons q l ih =>
    cases n with
    | zero => simpa [shedL] using hr
    | succ n =>
      simp only [shedL]
      rcases List.mem_cons.1 hr with rfl | hr
      · simp [hp]
      · split
        · exact ih n hr
        · exact List.mem_cons.2 (Or.inr (ih (n + 1) hr))
theorem shedL_full (p : Row → Bool) (n : Nat) (l : List Row) (h : l.length < (shedL p n l).length + n) : ∀ r ∈ shedL p n l, p r = false := by
  induction l generalizing n with
  | nil => intro r hr; cases n <;> simp [shedL] at hr
  | cons q l ih =>
    cases n with
    | zero => simp [shedL] at h
    | succ n =>
      simp only [shedL] at h ⊢
      split at h
      · rename_i hq
        rw [if_pos hq]
        exact ih n (by simp only [List.length_cons] at h; omega)
      · rename_i hq
        rw [if_neg hq]
        intro r hr
        rcases List.mem_cons.1 hr with rfl | hr
        · simpa using hq
        · exact ih (n + 1) (by simp only [List.length_cons] at h; omega) r hr
theorem put_held {s : CS} {k : Int} {b : List Nat} (h : s.room < (s.put k b).l.length) : ∀ r ∈ (s.put k b).l, r.page = k ∨ 0 < r.pins ∨ r.dirty = true := by
  intro r hr
  have hsub := (shedL_sub (p52 k) ((s.putL k b).length - s.room) (s.putL k b)).length_le
  have q := shedL_full (p52 k) ((s.putL k b).length - s.room) (s.putL k b) (by simp only [CS.put] at h; omega) r hr
  simp only [p52, Bool.and_eq_false_iff, decide_eq_false_iff_not, Bool.not_eq_false'] at q
  rcases q with q | q | q
  · exact Or.inl (by simpa using q)
  · exact Or.inr (Or.inl (by omega))
  · exact Or.inr (Or.inr q)
theorem find_isSome {s : CS} {r : Row} (hr : r ∈ s.l) : (s.peek r.page).isSome = true := by
  unfold CS.peek CS.find
  rw [Option.isSome_map, List.find?_isSome]
  exact ⟨r, hr, by simp⟩
theorem put_keeps {s : CS} {k : Int} {b : List Nat} {r : Row} (hr : r ∈ s.l) (h : r.dirty = true ∨ 0 < r.pins) : ((s.put k b).peek r.page).isSome = true := by
  by_cases hk : r.page = k
  · have h1 : ({ s.rowFor k with bytes := b } : Row) ∈ (s.put k b).l := shedL_keeps _ _ _ (by simp [CS.putL]) (by simp [p52, rowFor_page])
    have h2 := find_isSome h1
    simp only [rowFor_page] at h2
    rw [hk]; exact h2
  · refine find_isSome (s := s.put k b) (shedL_keeps _ _ _ (List.mem_append.2 (Or.inl (List.mem_filter.2 ⟨hr, by simpa using hk⟩))) ?_)
    rcases h with h | h
    · simp [p52, h]
    · simp only [p52, Bool.and_eq_false_iff, decide_eq_false_iff_not]; exact Or.inr (Or.inl (by omega))

/-- The rows that are pinned. -/
def pinnedL (l : List Row) : List Int := told (fun r => decide (0 < r.pins)) l
theorem mem_pinned {l : List Row} {p : Int} : p ∈ pinnedL l ↔ ∃ r ∈ l, 0 < r.pins ∧ r.page = p := by
  unfold pinnedL told
  simp only [List.mem_map, List.mem_filter, decide_eq_true_eq]
  constructor
  · rintro ⟨r, ⟨h1, h2⟩, h3⟩; exact ⟨r, h1, h2, h3⟩
  · rintro ⟨r, h1, h2, h3⟩; exact ⟨r, ⟨h1, h2⟩, h3⟩
theorem pinsOf_at {s : CS} (hnd : (s.l.map Row.page).Nodup) {r : Row} (hr : r ∈ s.l) : s.pinsOf r.page = r.pins := by
  unfold CS.pinsOf CS.find
  have : s.l.find? (fun q => q.page == r.page) = some r := by
    generalize s.l = l at hnd hr
    induction l with
    | nil => simp at hr
    | cons q l ih =>
      rw [List.map_cons, List.nodup_cons] at hnd
      rcases List.mem_cons.1 hr with rfl | hr
      · simp
      · have hne : (q.page == r.page) = false := by
          rw [beq_eq_false_iff_ne]; intro h0; exact hnd.1 (by rw [h0]; exact List.mem_map.2 ⟨r, hr, rfl⟩)
        rw [List.find?_cons, hne]
        exact ih hnd.2 hr
  rw [this]

theorem wpList_appI {w : World} {ops : Array Oper} {rest : List Oper} {o : Oper} {a : Act} {Q : Exit → Act → World → Prop} (hgd : o.guard = none) (s x : Operand)
    (ho : o.op = .call { callee := .builtin .append, args := #[s, x], argTypes := #[33, 33] }) (B : Nat) (v : Value) (n : Nat) (xs : List Int) (hs : a.eval s = v) (hown : w.ownsRow B 3 1 v n (ints xs))
    (ao : Option Addr) (m c B2 : Nat) (ys : List Int) (hx : a.eval x = .slice ao m c) (hsr : w.ownsRow B2 3 1 (.slice ao m c) m (ints ys)) (hn : n + m ≤ 1000000) (hB : B ≤ w.heap.size)
    (h : ∀ ao' c' w', w'.ownsRow B 3 1 (.slice ao' (n + m) c') (n + m) (ints (xs ++ ys)) → w.grownBy w' v.ownBlock → wpList Try.prog ops Q rest (a.put o.dst (.slice ao' (n + m) c')) w') : wpList Try.prog ops Q (o :: rest) a w := by
  refine wpList_plain hgd fun K hK => ?_
  obtain ⟨i, hi, hz0, hz1, hz2⟩ := info_parts info3
  have hgen : ∃ v' w', (Builtin.append_ #[33, 33] o.type #[v, .slice ao m c]).run Try.prog w = .ok v' w' ∧ w'.ownsRow B 3 1 v' (n + m) (ints (xs ++ ys)) ∧ w.grownBy w' v.ownBlock := by
    have hlen := hsr.1
    rcases hsr.2 with ⟨hv, hz⟩ | ⟨g, cap, cur, hv, _⟩
    · simp only [Value.slice.injEq] at hv
      obtain ⟨rfl, rfl, rfl⟩ := hv
      have hy : ys = [] := by apply List.eq_nil_of_length_eq_zero; simpa [ints] using hlen
      subst hy
      exact ⟨v, w, run_append_owned_none (P := Try.prog) (w := w) B 33 o.type 3 i 1 Try.u33 hi v n (ints xs) hown, by simpa using hown, ⟨rfl, rfl, rfl, Nat.le_refl _, fun _ _ _ => rfl⟩⟩
    · simp only [Value.slice.injEq] at hv
      obtain ⟨rfl, _, rfl⟩ := hv
      obtain ⟨v', w', hr, h2, h3, -, -⟩ := run_append_own_at (P := Try.prog) w B 33 o.type 3 i (.int .i64 0) 1 8 Try.u33 hi hz0 hz1 hz2 rfl (by decide) v n (ints xs) hown ⟨g, 0, none⟩ m c (ints ys) (by rw [hlen])
        (fun j u hu => by
          rw [Addr.add_lit, Nat.zero_add]
          have hj : j < m := by have := (List.getElem?_eq_some_iff.1 hu).1; omega
          exact (hsr.cellAt j (by omega)).trans hu) (by intro u hu; simp only [ints, List.mem_map] at hu; obtain ⟨z, _, rfl⟩ := hu; rfl) (by unfold maxLen; omega) (by omega) hB
      exact ⟨v', w', hr, by rw [show ints (xs ++ ys) = ints xs ++ ints ys by simp [ints]]; exact h2, h3⟩
  obtain ⟨v', w', hr, h2, h3⟩ := hgen
  obtain ⟨ao', c', rfl⟩ := row_slice h2
  unfold Oper.wp execOp
  simp only [ho, resolve, invoke, builtin, Sem.run_bind, Sem.run_pure, Result.andThen_ok, List.map_toArray, List.map_cons, List.map_nil, hs, hx, hr]
  exact hK _ _ (h ao' c' w' h2 h3)

end Go.Proofs.Ytebjjibgkjgpgaa
