/- What is counted of a shape; no statement of the seat is proved here. -/
import Derived.Test.YtjlahomjhadnkaaAd
namespace Go.Proofs.Ytjlahomjhadnkaa
open Go.RowKit Go.Maps

/-- Boxes of one's own. -/
def Own (N : Nat) (w0 : World) (bs : List (Nat × Obj)) (G : Nat → Prop) (W : World) : Prop :=
  Below N w0 W ∧ (∀ i, G i → (N ≤ i ∧ i < W.heap.size) ∧ ∀ x ∈ bs, i ≠ x.1) ∧ ∀ x ∈ bs, W.heap[x.1]? = some x.2
theorem own_cns (N : Nat) (w0 : World) (hN : N ≤ w0.heap.size) (bs : List (Nat × Obj)) : Cns N w0 (Own N w0 bs) := by
  refine ⟨fun G W h => h.1, fun G W h i hi => (h.2.1 i hi).1, fun G G' W W' h hf hs => ⟨h.1.trans (hf.below (Nat.le_trans hN h.1.size) fun k hk hG => ?_), fun i hi => ?_, fun x hx => ?_⟩⟩
  · have := (h.2.1 k hG).1.1; omega
  · rcases hs i hi with h1 | h1
    · have := h.2.1 i h1
      exact ⟨⟨this.1.1, Nat.lt_of_lt_of_le this.1.2 hf.size⟩, this.2⟩
    · refine ⟨⟨by have := h.1.size; omega, h1.2⟩, fun x hx e => ?_⟩
      have := (Array.getElem?_eq_some_iff.1 (h.2.2 x hx)).1
      omega
  · exact (hf.blk _ (Array.getElem?_eq_some_iff.1 (h.2.2 x hx)).1 fun hG => (h.2.1 _ hG).2 x hx rfl).trans (h.2.2 x hx)

theorem and_cns {N : Nat} {w0 : World} {p : Prop} {J : (Nat → Prop) → World → Prop} (h : Cns N w0 J) : Cns N w0 (fun G W => p ∧ J G W) :=
  ⟨fun _ _ q => h.base _ _ q.2, fun _ _ q => h.gd _ _ q.2, fun _ _ _ _ q hf hs => ⟨q.1, h.mv _ _ _ _ q.2 hf hs⟩⟩
theorem Own.put1 {N : Nat} {w0 : World} {bs bs' : List (Nat × Obj)} {G : Nat → Prop} {V V' : World} (h : Own N w0 bs G V) (b : Nat) (hN : N ≤ b) (hF : Fr (fun i => i = b) V V') (hz : N ≤ w0.heap.size) (hb : ∃ x ∈ bs, x.1 = b) (hbs : ∀ x ∈ bs', (x.1 = b ∧ V'.heap[b]? = some x.2) ∨ (x.1 ≠ b ∧ x ∈ bs)) : Own N w0 bs' G V' ∧ Sm G V V' := by
  have hg : ∀ i, G i → i ≠ b := fun i hi e => by obtain ⟨x, hx, rfl⟩ := hb; exact (h.2.1 i hi).2 x hx e
  refine ⟨⟨h.1.trans (hF.below (Nat.le_trans hz h.1.size) fun k hk e => by omega), fun i hi => ⟨⟨(h.2.1 i hi).1.1, Nat.lt_of_lt_of_le (h.2.1 i hi).1.2 hF.size⟩, fun x hx e => ?_⟩, fun x hx => ?_⟩, hF.sm fun i hi => ⟨(h.2.1 i hi).1.2, hg i hi⟩⟩
  · rcases hbs x hx with h1 | h1
    · exact hg i hi (e.trans h1.1)
    · exact (h.2.1 i hi).2 x h1.2 e
  · rcases hbs x hx with h1 | h1
    · rw [h1.1]; exact h1.2
    · exact (hF.blk _ (Array.getElem?_eq_some_iff.1 (h.2.2 x h1.2)).1 h1.1).trans (h.2.2 x h1.2)
/-- A box of one value. -/
def B1 (W : World) (b : Nat) (t : TypeId) (v : Value) : Prop := W.heap[b]? = some (.cells #[v] t)
theorem B1.cell {W : World} {b : Nat} {t : TypeId} {v : Value} (h : B1 W b t v) : W.cell? ⟨b, 0, none⟩ = some v := by unfold B1 at h; simp [World.cell?, h]
theorem B1.fz {W : World} {b : Nat} {t : TypeId} {v : Value} (h : B1 W b t v) : W.frozen? ⟨b, 0, none⟩ = false := by unfold B1 at h; simp [World.frozen?, h]
theorem B1.set {W : World} {b : Nat} {t : TypeId} {v : Value} (h : B1 W b t v) (u : Value) : (W.setCell ⟨b, 0, none⟩ u).heap[b]? = some (.cells #[u] t) := heap_setCell_same W b 0 #[v] t u h
theorem Own.b1 {N : Nat} {w0 : World} {bs : List (Nat × Obj)} {G : Nat → Prop} {W : World} (h : Own N w0 bs G W) {b : Nat} {t : TypeId} {v : Value} (hx : (b, Obj.cells #[v] t) ∈ bs) : B1 W b t v := h.2.2 _ hx
theorem results_cell1 {fn : Func} {p : Tmp} {ty : TypeId} (h : fn.results = #[.cell p ty]) (tmps : Array Value) (P : Program) (w : World) :
    (results fn tmps).run P w = ((asAddr (tmps.getD p undef)).run P w).andThen fun a w₁ => (loadVar ty a).run P w₁ := by
  simp only [results, h]
  simp [Sem.run_bind, Result.andThen]
theorem ret_b1 {fn : Func} {a : Tmp} {t t' : TypeId} (h : fn.results = #[.cell a t]) (ha : ∀ W, (isAgg t).run Try.prog W = .ok false W) {tmps : Array Value} {W : World} {q : Nat} {v : Value}
    (hp : tmps.getD a undef = .pointer (some ⟨q, 0, none⟩)) (hb : B1 W q t' v) : (results fn tmps).run Try.prog W = .ok v W := by
  rw [results_cell1 h, hp]
  have := hb.cell
  simp [asAddr, loadVar, ha, Sem.run_bind, Result.andThen, load, Sem.run, this]
theorem at_new {w : World} {o : Obj} {n : Nat} (h : n = w.heap.size) : (w.alloc o).heap[n]? = some o := by rw [h]; exact heap_alloc_new w o
theorem at_old {w : World} {o : Obj} {n : Nat} {v : Obj} (h : w.heap[n]? = some v) : (w.alloc o).heap[n]? = some v := (heap_alloc_old w o (Array.getElem?_eq_some_iff.1 h).1).trans h
/-- How many points all have. -/
def sumX (l : List (Nat × Sh)) : Nat := (l.map fun x => x.2.xn).sum
theorem sumX_snoc (l : List (Nat × Sh)) (k : Nat) (x : Nat × Sh) (h : l[k]? = some x) : sumX (l.take (k + 1)) = sumX (l.take k) + x.2.xn := by
  unfold sumX; rw [List.take_add_one, h]; simp
theorem sumX_le (l : List (Nat × Sh)) (k : Nat) : sumX (l.take k) ≤ sumX l := by
  unfold sumX
  conv => rhs; rw [← List.take_append_drop k l]
  rw [List.map_append, List.sum_append]
  omega
def ptsN (l : List (Nat × Sh)) : Nat := min 4001 (sumX l)

section
variable {n : Nat} {g : Operand} {ps : Array Tmp} {assign body : Code} {Q : Exit → Act → World → Prop} {a : Act} {w : World}
/-- A loop over a shape and all in it. -/
theorem range_whole {N : Nat} {w0 : World} (hN : N ≤ w0.heap.size) (s : Sh) (d : Nat) (hd : d ≤ 17) (hin : In (fun b => b < N) w0 s) (q : Nat) (hg : a.eval g = .func (.func 81) #[] #[.pointer (some ⟨q + 1, 0, none⟩), .pointer (some ⟨q, 0, none⟩)])
    (c1 : w.heap[q + 1]? = some (.cells #[.int .i64 (d : Int)] 3)) (c2 : Bx w q s) (hps : ps.size = 2)
    (I : Nat → (Nat → Prop) → World → Prop) (X : Code → (Nat → Prop) → World → Prop) (hI : ∀ k, Cns N w0 (I k)) (hX : ∀ c, Cns N w0 (X c)) (h0 : I 0 (fun i => i = q ∨ i = q + 1) w)
    (aw : Nat × Sh → World → World) (haw : ∀ x W, Fr (fun _ => False) W (aw x W)) (a₁ : Nat × Sh → World → Act)
    (hassign : ∀ (l : Nat) (x : Nat × Sh) (W : World) (K : Act → World → Prop), K (a₁ x W) (aw x W) →
      assign.wpIn (Fence.wide.inRound l) (n - 1 - 1) Try.prog (Exit.then K (fun _ _ _ => False)) { tmps := (ps.zip #[.int .i64 (x.1 : Int), .agg #[.int .i64 (x.2).k, .slice (x.2).xo (x.2).xn (x.2).xc, .slice (x.2).po (x.2).pn (x.2).pc]]).foldl (fun t (p, v) => t.setIfInBounds p v) a.tmps, defers := [] } W)
    (hbody : ∀ (l k : Nat) (x : Nat × Sh) (G : Nat → Prop) (Wa V : World), (s.flat d)[k]? = some x → I k G V → V.heap.size = (aw x Wa).heap.size → (∀ i, Wa.heap.size ≤ i → V.heap[i]? = (aw x Wa).heap[i]? ∧ (i < V.heap.size → G i)) →
      body.wpIn (Fence.wide.inRound l) (n - 1 - 1) Try.prog (GPost G (I (k + 1)) X V) (a₁ x Wa) V)
    (hdone : ∀ W, I (s.flat d).length (fun i => i = w.heap.size) W → Mark w.heap.size W → Q .normal { a with defers := { target := .collected w.heap.size, args := #[] } :: a.defers } W)
    (hstop : ∀ c W, X c (fun i => i = w.heap.size) W → Mark w.heap.size W → c.wpIn Fence.wide n Try.prog Q { a with defers := { target := .collected w.heap.size, args := #[] } :: a.defers } W) :
    (Code.rangeFunc g ps assign body).wpIn Fence.wide n Try.prog Q a w := by
  have hq := c2.lt
  have hq1 : q + 1 < w.heap.size := (Array.getElem?_eq_some_iff.1 c1).1
  refine range_g (N := N) (w0 := w0) (fun x : Nat × Sh => #[.int .i64 (x.1 : Int), .agg #[.int .i64 (x.2).k, .slice (x.2).xo (x.2).xn (x.2).xc, .slice (x.2).po (x.2).pn (x.2).pc]]) (s.flat d) (gf := 81) hg (enters_of Try.func81 (by kernel_rfl) rfl) (fun _ => hps.symm) I X hI hX (fun i => i = q ∨ i = q + 1) (fun _ => False) (fun _ _ h => h)
    ((hI 0).less h0 fun i hi => hi.elim id False.elim) ?_ aw haw a₁ hassign (fun l k x G Wa V h1 h2 _ h4 h5 => hbody l k x G Wa V h1 h2 h4 h5) (fun W h1 h2 _ => hdone W ((hI _).less h1 fun i hi => .inr hi) h2) (fun c W h1 h2 _ => hstop c W ((hX _).less h1 fun i hi => .inr hi) h2)
  intro l' J' Jx' W' hF hJ' hJx' hY' hj0
  refine (whole1_in N w0 hN s.nodes.length s d (Nat.le_refl _) hd hin (n - 1) l' (q + 1) q J' Jx' _ W' hJ' hJx' (fun k x Gs W h1 h2 => hY' k x Gs W h1 h2) hj0 (.inr rfl) (.inl rfl) ((hF.blk _ hq1 (fun h => h)).trans c1) (show Bx W' q s from (hF.blk _ hq (fun h => h)).trans c2)).mono ?_
  rintro e W9 ⟨hv, h⟩
  exact ⟨hv, h.imp (fun h => (hJ' _).less h (fun i hi => hi.elim)) (fun h => hJx'.less h (fun i hi => hi.elim))⟩
end

/-- The way out of a function with one such loop. -/
theorem leave1 {J : (Nat → Prop) → World → Prop} {N : Nat} {w0 : World} (hJ : Cns N w0 J) {D m : Nat} {fn : Func} {tmps : Array Value} {R : Ending → World → Prop} {W : World} (hj : J (fun i => i = D) W) (hm : Mark D W)
    (hR : ∀ W', J (fun _ => False) W' → ∃ v, (results fn tmps).run Try.prog W' = .ok v W' ∧ R (.returned v) W') : LeavesInM Fence.wide m Try.prog fn tmps R [{ target := .collected D, args := #[] }] .returning W :=
  ⟨by simp, .inl ⟨D, _, rfl, run_takeDeferred hm, hR _ (hJ.mv _ _ _ _ hj (Fr.put W D _) fun i hi => hi.elim)⟩⟩

attribute [local go_sem] Oper.semAt_some
end Go.Proofs.Ytjlahomjhadnkaa
