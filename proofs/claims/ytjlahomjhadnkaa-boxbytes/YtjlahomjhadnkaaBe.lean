/- All points of a shape, as the program takes them; no statement of the seat is proved here. -/
import Derived.Test.YtjlahomjhadnkaaBd
import Derived.Maps.OwnIn
namespace Go.Proofs.Ytjlahomjhadnkaa
open Go.RowKit Go.Maps

section
variable {F : Fence} {nF : Nat} {ops : Array Oper} {rest : List Oper} {o : Oper} {a : Act} {w : World} {Q : Exit → Act → World → Prop}
theorem here_in (k : Nat) {op : Op} {t : TypeId} {pos : String} {after : Array Edge} {gd : Option (Nat × Bool)}
    (h : wpListIn F nF Try.prog ops Q (⟨some k, op, t, pos, after, gd⟩ :: rest) a w) : wpListIn F nF Try.prog ops Q (⟨some k, op, t, pos, after, gd⟩ :: rest) a w := h
theorem appendIn_pts (hgd : o.guard = none) (s x : Operand) (ho : o.op = .call { callee := .builtin .append, args := #[s, x], argTypes := #[42, 42] }) (B : Nat) (v : Value) (n : Nat) (xs : List (Int × Int)) (hs : a.eval s = v) (hown : w.ownsRow B 23 2 v n (pv xs))
    (S : Nat → Prop) (ao : Option Addr) (m c : Nat) (ys : List (Int × Int)) (hx : a.eval x = .slice ao m c) (hr : XR S w ao ys) (hl : ys.length = m) (h0 : ao = none → m = 0 ∧ c = 0) (hb : n + m ≤ 1000000000) (hB : B ≤ w.heap.size)
    (h : ∀ v' w', w'.ownsRow B 23 2 v' (n + m) (pv (xs ++ ys)) → w.grownBy w' v.ownBlock → (v'.ownBlock = v.ownBlock ∨ v'.ownBlock = some w.heap.size) → wpListIn F nF Try.prog ops Q rest (a.put o.dst v') w') : wpListIn F nF Try.prog ops Q (o :: rest) a w := by
  obtain ⟨i5, hi5, hz0, hz1, hz2⟩ := info_parts info41
  cases ao with
  | none =>
    obtain ⟨rfl, rfl⟩ := h0 rfl
    obtain rfl : ys = [] := List.eq_nil_of_length_eq_zero hl
    have hr := run_append_owned_none (P := Try.prog) w B 42 o.type 23 i5 2 Try.underlying42 hi5 v n (pv xs) hown
    refine wpListIn_plain hgd fun K hK => ?_
    unfold Oper.wpIn
    refine ⟨by simp [Oper.about, ho, resolve, Target.leads, Sem.run_pure], ?_⟩
    rw [Oper.semAt_plain F _ _ (by rw [ho]; intro c hc'; cases hc')]
    simp [execOp, ho, resolve, invoke, builtin, hs, hx, hr, Result.andThen]
    exact hK _ _ (h v w (by simpa using hown) ⟨rfl, rfl, rfl, Nat.le_refl _, fun _ _ _ => rfl⟩ (.inl rfl))
  | some ad =>
    refine wpListIn_append_own_at w hgd s x 42 ho B 23 i5 (.agg #[.int .i64 0, .int .i64 0]) 2 16 Try.underlying42 hi5 hz0 hz1 hz2 rfl (by decide) v n (pv xs) hs hown ad m c (pv ys) hx (by rw [pv_len, hl]) ?_ (pv_one ys) (by unfold maxLen; omega) (by omega) hB ?_
    · intro j u hu
      obtain ⟨i, p, hi, hj⟩ := pv_get ys j u hu
      rcases hr with rfl | ⟨b, off, e, _, hat⟩
      · simp at hi
      · simp only [Option.some.injEq] at e
        subst e
        obtain ⟨c0, c1⟩ := hat i p hi
        rw [Addr.add_lit]
        rcases hj with ⟨rfl, rfl⟩ | ⟨rfl, rfl⟩
        · exact c0
        · rw [← Nat.add_assoc]; exact c1
    · intro v' w' h1 h2 _ h5
      exact h v' w' (by rw [pv_append]; exact h1) h2 h5
end

/-- A row of points of one's own, with boxes beside it. -/
def RowF (N : Nat) (w0 : World) (bs : List (Nat × Obj)) (ao : Option Addr) (n cap : Nat) (xs : List (Int × Int)) (G : Nat → Prop) (W : World) : Prop :=
  Own N w0 bs G W ∧ W.ownsRow N 23 2 (.slice ao n cap) n (pv xs) ∧ ∀ a, ao = some a → ¬ G a.block ∧ a.block < W.heap.size
theorem row_keep {W W' : World} {N cap n : Nat} {ao : Option Addr} {xs : List Value} (h : W.ownsRow N 23 2 (.slice ao n cap) n xs) (hb : ∀ a, ao = some a → W'.heap[a.block]? = W.heap[a.block]?) : W'.ownsRow N 23 2 (.slice ao n cap) n xs := by
  refine ⟨h.1, ?_⟩
  rcases h.2 with h2 | ⟨g, cap', cur, hv, h3, h4, h5⟩
  · exact .inl h2
  · refine .inr ⟨g, cap', cur, hv, h3, ?_, h5⟩
    have e : ao = some ⟨g, 0, none⟩ := by simp at hv; exact hv.1
    exact (hb _ e).trans h4
theorem rowf_cns (N : Nat) (w0 : World) (hN : N ≤ w0.heap.size) (bs : List (Nat × Obj)) (ao : Option Addr) (n cap : Nat) (xs : List (Int × Int)) : Cns N w0 (RowF N w0 bs ao n cap xs) := by
  refine ⟨fun G W h => h.1.1, fun G W h i hi => (own_cns N w0 hN bs).gd _ _ h.1 i hi, fun G G' W W' h hf hs => ⟨(own_cns N w0 hN bs).mv _ _ _ _ h.1 hf hs, row_keep h.2.1 fun a ha => hf.blk _ (h.2.2 a ha).2 (h.2.2 a ha).1, fun a ha => ⟨fun hg => ?_, Nat.lt_of_lt_of_le (h.2.2 a ha).2 hf.size⟩⟩⟩
  rcases hs _ hg with h1 | h1
  · exact (h.2.2 a ha).1 h1
  · have := (h.2.2 a ha).2; omega
def RowO (N : Nat) (w0 : World) (bs : List (Nat × Obj)) (b : Nat) (xs : List (Int × Int)) (G : Nat → Prop) (W : World) : Prop :=
  ∃ ao n cap, xs.length = n ∧ RowF N w0 ((b, .cells #[.slice ao n cap] 42) :: bs) ao n cap xs G W
theorem rowo_cns (N : Nat) (w0 : World) (hN : N ≤ w0.heap.size) (bs : List (Nat × Obj)) (b : Nat) (xs : List (Int × Int)) : Cns N w0 (RowO N w0 bs b xs) :=
  ⟨fun _ _ ⟨ao, n, cap, _, h⟩ => (rowf_cns N w0 hN _ ao n cap xs).base _ _ h, fun _ _ ⟨ao, n, cap, _, h⟩ => (rowf_cns N w0 hN _ ao n cap xs).gd _ _ h, fun _ _ _ _ ⟨ao, n, cap, hl, h⟩ hf hs => ⟨ao, n, cap, hl, (rowf_cns N w0 hN _ ao n cap xs).mv _ _ _ _ h hf hs⟩⟩
/-- The row has grown, and its box is told. -/
theorem row_step {N : Nat} {w0 : World} {bs : List (Nat × Obj)} {b : Nat} {ao : Option Addr} {n cap : Nat} {xs ys : List (Int × Int)} {G : Nat → Prop} {V W' : World} {v' : Value} (hN : N ≤ w0.heap.size) (hb : N ≤ b) (h : RowF N w0 ((b, .cells #[.slice ao n cap] 42) :: bs) ao n cap xs G V) (hl : xs.length = n)
    (hbs : ∀ x ∈ bs, x.1 ≠ b ∧ ∃ c t, x.2 = .cells c t ∧ t ≠ 23)
    (h1 : W'.ownsRow N 23 2 v' (n + ys.length) (pv (xs ++ ys))) (h2 : V.grownBy W' (Value.slice ao n cap).ownBlock) (h5 : v'.ownBlock = (Value.slice ao n cap).ownBlock ∨ v'.ownBlock = some V.heap.size) :
    Rx W' b ao n cap ∧ ∃ ao' cap', v' = .slice ao' (n + ys.length) cap' ∧ RowO N w0 bs b (xs ++ ys) G (W'.setCell ⟨b, 0, none⟩ v') ∧ Sm G V (W'.setCell ⟨b, 0, none⟩ v') := by
  obtain ⟨hO, hR, hA⟩ := h
  have own_ne : ∀ a, ao = some a → ∀ (x : Nat) (c : Array Value) (t : TypeId), V.heap[x]? = some (.cells c t) → t ≠ 23 → x ≠ a.block := by
    intro a ha x c t hx ht e
    rcases hR.2 with ⟨h3, _⟩ | ⟨g, cap', cur, hv, _, hg, _⟩
    · rw [ha] at h3; simp at h3
    · have e2 : a = ⟨g, 0, none⟩ := by simp at hv; rw [hv.1] at ha; simpa using ha.symm
      rw [e, e2] at hx
      rw [hg] at hx
      simp at hx
      exact ht hx.2.symm
  have keep : ∀ x ∈ ((b, Obj.cells #[.slice ao n cap] 42) :: bs), W'.heap[x.1]? = some x.2 := by
    intro x hx
    have hV := hO.2.2 x hx
    have hlt : x.1 < V.heap.size := (Array.getElem?_eq_some_iff.1 hV).1
    refine (h2.block x.1 hlt ?_).trans hV
    intro e
    cases hao : ao with
    | none => rw [hao] at e; simp [Value.ownBlock] at e
    | some a =>
      rw [hao] at e
      simp only [Value.ownBlock, Option.some.injEq] at e
      rcases List.mem_cons.1 hx with rfl | hx
      · exact own_ne a hao b _ 42 hV (by decide) e
      · obtain ⟨_, c, t, he, ht⟩ := hbs x hx
        rw [he] at hV
        exact own_ne a hao x.1 c t hV ht e
  have hB := keep _ (List.mem_cons_self)
  obtain ⟨ao', cap', rfl⟩ := row_form h1
  refine ⟨hB, ao', cap', rfl, ?_, ?_⟩
  · have sF : Fr (fun i => i = b) W' (W'.setCell ⟨b, 0, none⟩ (.slice ao' (n + ys.length) cap')) := Fr.set _ _ _ _
    have blk' : ∀ a, ao' = some a → (∃ cur, W'.heap[a.block]? = some (.cells cur 23)) ∧ N ≤ a.block := by
      intro a ha
      rcases h1.2 with ⟨h3, _⟩ | ⟨g, cap2, cur, hv, hng, hg, _⟩
      · rw [ha] at h3; simp at h3
      · have e2 : a = ⟨g, 0, none⟩ := by simp at hv; rw [hv.1] at ha; simpa using ha.symm
        rw [e2]; exact ⟨⟨cur, hg⟩, hng⟩
    have neb : ∀ a, ao' = some a → a.block ≠ b := by
      intro a ha e
      obtain ⟨⟨cur, hc⟩, _⟩ := blk' a ha
      rw [e, hB] at hc
      simp at hc
    refine ⟨ao', n + ys.length, cap', by rw [List.length_append, hl], ⟨?_, ?_, ?_⟩, ?_, ?_⟩
    · refine (hO.1.trans ?_)
      refine ⟨sF.os.trans h2.os, sF.tape.trans h2.tape, sF.output.trans h2.output, Nat.le_trans h2.size sF.size, fun k hk => ?_⟩
      have hkV : k < V.heap.size := Nat.lt_of_lt_of_le hk (Nat.le_trans hN hO.1.size)
      refine (sF.blk k (Nat.lt_of_lt_of_le hkV h2.size) (by omega)).trans (h2.block k hkV fun e => ?_)
      cases hao : ao with
      | none => rw [hao] at e; simp [Value.ownBlock] at e
      | some a =>
        rw [hao] at e
        simp only [Value.ownBlock, Option.some.injEq] at e
        rcases hR.2 with ⟨h3, _⟩ | ⟨g, cap2, cur, hv, hng, hg, _⟩
        · rw [hao] at h3; simp at h3
        · have e2 : a = ⟨g, 0, none⟩ := by simp at hv; rw [hv.1] at hao; simpa using hao.symm
          rw [e2] at e
          simp only at e
          omega
    · intro i hi
      have h3 := hO.2.1 i hi
      refine ⟨⟨h3.1.1, Nat.lt_of_lt_of_le h3.1.2 (Nat.le_trans h2.size sF.size)⟩, fun x hx => ?_⟩
      rcases List.mem_cons.1 hx with rfl | hx
      · exact (h3.2 _ (List.mem_cons_self) : i ≠ b)
      · exact h3.2 x (List.mem_cons_of_mem _ hx)
    · intro x hx
      rcases List.mem_cons.1 hx with rfl | hx
      · exact heap_setCell_same _ _ 0 _ _ _ hB
      · exact (sF.blk x.1 (Array.getElem?_eq_some_iff.1 (keep x (List.mem_cons_of_mem _ hx))).1 (hbs x hx).1).trans (keep x (List.mem_cons_of_mem _ hx))
    · exact row_keep h1 fun a ha => sF.blk _ (Array.getElem?_eq_some_iff.1 (blk' a ha).1.choose_spec).1 (neb a ha)
    · intro a ha
      have hlt := (Array.getElem?_eq_some_iff.1 (blk' a ha).1.choose_spec).1
      refine ⟨fun hg => ?_, Nat.lt_of_lt_of_le hlt sF.size⟩
      rcases h5 with h5 | h5
      · cases hao : ao with
        | none => rw [ha, hao] at h5; simp [Value.ownBlock] at h5
        | some a0 =>
          rw [ha, hao] at h5
          simp only [Value.ownBlock, Option.some.injEq] at h5
          rw [h5] at hg
          exact (hA a0 hao).1 hg
      · rw [ha] at h5
        simp only [Value.ownBlock, Option.some.injEq] at h5
        have := (hO.2.1 _ hg).1.2
        omega
  · refine ⟨Nat.le_trans h2.size (by simp), fun i hi => ?_⟩
    have h3 := hO.2.1 i hi
    refine (heap_setCell_other _ _ _ _ (h3.2 _ (List.mem_cons_self))).trans (h2.block i h3.1.2 fun e => ?_)
    cases hao : ao with
    | none => rw [hao] at e; simp [Value.ownBlock] at e
    | some a =>
      rw [hao] at e
      simp only [Value.ownBlock, Option.some.injEq] at e
      rw [e] at hi
      exact (hA a hao).1 hi
end Go.Proofs.Ytjlahomjhadnkaa
