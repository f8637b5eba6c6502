/- The document's cache: Put; no statement of the seat is proved here. -/
import Derived.Test.YtebjjibgkjgpgaaRl
namespace Go.Proofs.Ytebjjibgkjgpgaa
open Go.RowKit Go.Maps

theorem own4_made0 (w : World) : (w.alloc (.cells #[] 81)).ownsRow 0 81 4 (.slice (some ⟨w.heap.size, 0, none⟩) 0 0) 0 (rvs []) :=
  ⟨rfl, .inr ⟨w.heap.size, 0, #[], rfl, Nat.zero_le _, heap_alloc_new w _, Nat.le_refl _, by decide, rfl, rfl⟩⟩
theorem some_lt {w : World} {k : Nat} {q : Row × RB} (h : Src4 w (some ⟨k, 0, none⟩) 1 1 [q]) : k < w.heap.size := lt_cell (h.at_ _ rfl 0 (.int .i64 q.1.page) (by rw [rvs_one]; rfl))
theorem src_block {w w' : World} {k : Nat} {q : Row × RB} (h : Src4 w (some ⟨k, 0, none⟩) 1 1 [q]) (hb : w'.heap[k]? = w.heap[k]?) : Src4 w' (some ⟨k, 0, none⟩) 1 1 [q] :=
  ⟨h.len, h.no, fun ad ha j u hu => by have q1 := h.at_ ad ha j u hu; cases ha; rw [Addr.add_lit] at q1 ⊢; exact (World.cell?_of_block (a := ⟨k, 0 + j, none⟩) hb).trans q1⟩
theorem step_fresh (B : Nat) {w : World} {ops : Array Oper} {o : Oper} {a : Act} {K : Act → World → Prop} {Q : Exit → Act → World → Prop} {E' : Prop} (hgd : o.guard = none) (s x : Operand)
    (ho : o.op = .call { callee := .builtin .append, args := #[s, x], argTypes := #[61, 61] }) (v : Value) (n : Nat) (xs : List (Row × RB)) (hs : a.eval s = v) (hown : w.ownsRow 0 81 4 v n (rvs xs))
    (ao : Option Addr) (m c : Nat) (ys : List (Row × RB)) (hx : a.eval x = .slice ao m c) (hsr : Src4 w ao m c ys) (hb : n + m ≤ 1000000) (hfr : ∀ k, v.ownBlock = some k → B ≤ k) (hB : B ≤ w.heap.size)
    (h : ∀ ao' c' w', w'.ownsRow 0 81 4 (.slice ao' (n + m) c') (n + m) (rvs (xs ++ ys)) → Below B w w' → (∀ a, ao' = some a → B ≤ a.block) → w.grownBy w' v.ownBlock → K (a.put o.dst (.slice ao' (n + m) c')) w') :
    if Region.wanted o (yielded ops a.tmps) = true then Oper.wp Try.prog o a w K Q else E' :=
  step_app4 hgd s x ho v n xs hs hown ao m c ys hx hsr hb (fun ao' c' w' h1 h2 h3 => h ao' c' w' h1 ((Below.refl B w).grown h2 hB hfr) (fun a ha => by
    rcases h3 a ha with h4 | h4
    · exact hfr _ h4
    · omega) h2)

/-- What the region reads that lays the new row behind the others. -/
def PS (m rb : Nat) (v : Value) (q : Row × RB) (W : World) : Prop := W.cell? ⟨m, 1, none⟩ = some v ∧ W.heap[rb]? = some (.cells (rv q).toArray 81 (0, 0))
theorem PS.keep {m rb : Nat} {v : Value} {q : Row × RB} {W W' : World} (h : PS m rb v q W) (hb : Below W.heap.size W W') : PS m rb v q W' := ⟨keep_old hb h.1, (hb.block _ (Array.getElem?_eq_some_iff.1 h.2).1).trans h.2⟩
theorem PS.cells {m rb : Nat} {v : Value} {q : Row × RB} {W : World} (h : PS m rb v q W) : W.cell? ⟨rb, 0, none⟩ = some (.int .i64 q.1.page) ∧ W.cell? ⟨rb, 1, none⟩ = some (.slice q.2.bo 512 q.2.bc) ∧ W.cell? ⟨rb, 2, none⟩ = some (.int .i64 (q.1.pins : Int)) ∧ W.cell? ⟨rb, 3, none⟩ = some (.bool q.1.dirty) :=
  ⟨hd_cell h.2 0, hd_cell h.2 1, hd_cell h.2 2, hd_cell h.2 3⟩
theorem PS.fz {m rb : Nat} {v : Value} {q : Row × RB} {W W' : World} (h : PS m rb v q W) (hb : Below W.heap.size W W') (hf : W.frozen? ⟨m, 1, none⟩ = false) : W'.frozen? ⟨m, 1, none⟩ = false := (keep_frozen hb (a := ⟨m, 1, none⟩) (lt_cell h.1)).trans hf

/-- Behind that region. -/
theorem rp_laid {w W6 w8 : World} {m : Nat} {R R4 : RParts} {s4 : CS} {q : Row × RB} {a8 : Option Addr} {c8 : Nat} (h : RStep w W6 m R R4 s4) (ho : w8.ownsRow 0 81 4 (.slice a8 (R4.ps.length + 1) c8) (R4.ps.length + 1) (rvs (R4.ps ++ [q]))) (hb : Below W6.heap.size W6 w8) (ha : ∀ a, a8 = some a → W6.heap.size ≤ a.block) (hq : W6.ownsRow 0 5 1 (.slice q.2.bo 512 q.2.bc) 512 (bs q.1.bytes)) :
    ∃ R', RStep w (w8.setCell ⟨m, 1, none⟩ (.slice a8 (R4.ps.length + 1) c8)) m R R' { s4 with l := s4.l ++ [q.1] } := by
  have h8 := h.rp.later hb
  have hby : ∀ p : Row × RB, w8.ownsRow 0 5 1 (.slice p.2.bo 512 p.2.bc) 512 (bs p.1.bytes) → (w8.setCell ⟨m, 1, none⟩ (.slice a8 (R4.ps.length + 1) c8)).ownsRow 0 5 1 (.slice p.2.bo 512 p.2.bc) 512 (bs p.1.bytes) := fun p hp => row4_stay hp (fun a ha => set_heap _ _ _ _ _ (fun h0 => by
    obtain ⟨cur, hgb, _⟩ := row4_blk hp ha
    rw [h0, h8.hd] at hgb; simp at hgb))
  have hm := h.rp.mlt
  refine ⟨⟨a8, c8, R4.ps ++ [q]⟩, ⟨?_, ?_, fun p hp => ?_, by simp [h.rp.ls]⟩, ((h.fr).trans (T := fun _ => False) (Fr.of_below hb) (fun _ _ h => h.elim)).set (Or.inl (Or.inl rfl)) _, fun k hk => ?_⟩
  · have q1 := blk_set (i := 1) (v := .slice a8 (R4.ps.length + 1) c8) h8.hd
    simp only [List.length_append, List.length_cons, List.length_nil, Nat.zero_add]
    exact q1
  · simp only [List.length_append, List.length_cons, List.length_nil, Nat.zero_add]
    exact row4_stay ho (fun a ha' => set_heap _ _ _ _ _ (fun h0 => by have := ha a ha'; omega))
  · rcases List.mem_append.1 hp with h1 | h1
    · exact hby p (h8.by_ p h1)
    · simp at h1; subst h1; exact hby _ (row4_stay hq (fun a ha => hb.block _ (row4_lt hq ha)))
  · rcases hk with rfl | ⟨a, ha', rfl⟩
    · exact Or.inl (Or.inl rfl)
    · have := ha a ha'; have := h.fr.size; exact Or.inr (by omega)


/-- While rows go. -/
structure PI (w : World) (m : Nat) (R : RParts) (s : CS) (k : Int) (tgt : List Row) (i nn : Nat) (R' : RParts) (cur : List Row) (W : World) : Prop where
  st : RStep w W m R R' { s with l := cur }
  nl : nn = R'.ps.length
  go : goal k s.room i cur = tgt
  la : ∃ xs y, cur = xs ++ [y] ∧ y.page = k
  nd : (cur.map Row.page).Nodup
  il : i + 1 ≤ nn

section
variable {w W W' : World} {m : Nat} {R R' R2 : RParts} {s : CS} {k : Int} {tgt cur : List Row} {i nn : Nat}
theorem PI.len (h : PI w m R s k tgt i nn R' cur W) : cur.length = nn := by have := h.st.rp.len; rw [h.nl]; exact this
theorem PI.page (h : PI w m R s k tgt i nn R' cur W) (hi : i + 1 < nn) (hl : i < cur.length) : cur[i].page ≠ k := by
  obtain ⟨xs, y, rfl, hy⟩ := h.la
  have hnd := h.nd
  have hlen := h.len
  simp only [List.length_append, List.length_cons, List.length_nil] at hlen
  rw [List.map_append] at hnd
  have h3 := (List.nodup_append.1 hnd).2.2
  rw [List.getElem_append_left (by omega)]
  intro h0
  exact h3 _ (List.mem_map.2 ⟨xs[i], List.getElem_mem _, rfl⟩) y.page (by simp) (by rw [h0, hy])
theorem PI.next (h : PI w m R s k tgt i nn R' cur W) (hi : i + 1 < nn) (hr : s.room < nn) (hl : i < cur.length) (hp : p52 k cur[i] = false) : PI w m R s k tgt (i + 1) nn R' cur W :=
  ⟨h.st, h.nl, by rw [← goal_next hl (by rw [h.len]; exact hr) hp]; exact h.go, h.la, h.nd, by omega⟩
theorem PI.out (h : PI w m R s k tgt i nn R' cur W) (hi : i + 1 < nn) (hr : s.room < nn) (hl : i < cur.length) (hp : p52 k cur[i] = true) (st : RStep W W' m R' R2 { s with l := cur.eraseIdx i }) : PI w m R s k tgt i (nn - 1) R2 (cur.eraseIdx i) W' := by
  refine ⟨h.st.trans st, ?_, by rw [← goal_out hl (by rw [h.len]; exact hr) hp]; exact h.go, ?_, ?_, by omega⟩
  · have q := st.rp.len
    simp only at q
    rw [List.length_eraseIdx, if_pos hl, h.len] at q
    exact q
  · obtain ⟨xs, y, rfl, hy⟩ := h.la
    have hlen := h.len
    simp only [List.length_append, List.length_cons, List.length_nil] at hlen
    exact ⟨xs.eraseIdx i, y, by rw [List.eraseIdx_append_of_lt_length (by omega)], hy⟩
  · exact h.nd.sublist ((List.eraseIdx_sublist _ _).map _)
theorem PI.stay (h : PI w m R s k tgt i nn R' cur W) (hb : Below W.heap.size W W') : PI w m R s k tgt i nn R' cur W' := ⟨h.st.and_later hb, h.nl, h.go, h.la, h.nd, h.il⟩
theorem PI.done (h : PI w m R s k tgt i nn R' cur W) (hi : ¬ (i + 1 < nn ∧ s.room < nn)) : RStep w W m R R' { s with l := tgt } := by
  have e : cur = tgt := by
    rw [← h.go]
    have hlen := h.len
    have hil := h.il
    by_cases hr : cur.length ≤ s.room
    · exact (goal_done hr).symm
    · have hii : i + 1 = nn := by omega
      refine (goal_last (by omega) (fun hl => ?_)).symm
      obtain ⟨xs, y, rfl, hy⟩ := h.la
      simp only [List.length_append, List.length_cons, List.length_nil] at hlen
      rw [List.getElem_append_right (by omega)]
      simpa [show i - xs.length = 0 by omega] using hy
  rw [← e]; exact h.st
end
theorem put_nodup {s : CS} {k : Int} {b : List Nat} (hnd : (s.l.map Row.page).Nodup) (hk : (s.rowFor k).page = k) : ((s.putL k b).map Row.page).Nodup := by
  unfold CS.putL CS.others
  rw [List.map_append]
  refine List.nodup_append.2 ⟨hnd.sublist (List.filter_sublist.map _), by simp, fun a ha c hc => ?_⟩
  obtain ⟨r, hr, rfl⟩ := List.mem_map.1 ha
  have := (List.mem_filter.1 hr).2
  simp only [List.map_cons, List.map_nil, List.mem_singleton] at hc
  rw [hc, hk]
  simpa using this
theorem rowFor_page (s : CS) (k : Int) : (s.rowFor k).page = k := by
  unfold CS.rowFor
  cases h : s.find k with
  | none => rfl
  | some r => have := List.find?_some h; simpa using this
theorem goal_zero {s : CS} {k : Int} {b : List Nat} : goal k s.room 0 (s.putL k b) = (s.put k b).l := by unfold goal CS.put; simp
end Go.Proofs.Ytebjjibgkjgpgaa
