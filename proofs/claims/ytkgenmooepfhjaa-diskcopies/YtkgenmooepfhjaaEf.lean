/- How a file of the document's disk turns, step by step; no statement of the seat is proved here. -/
import Derived.Test.YtkgenmooepfhjaaEe
namespace Go.Proofs.Ytkgenmooepfhjaa
open Go.RowKit Go.Maps

section
variable {W : World} {r o : Nat} {S : Nat → Prop} {B : RP} {F : FS}

theorem vb_set (l : List Bool) (i : Nat) (b : Bool) : (vb l).set i (.bool b) = vb (l.set i b) := by simp [vb, List.map_set]
theorem vb_take (l : List Bool) (k : Nat) : (vb l).take k = vb (l.take k) := by simp [vb, List.map_take]
theorem vb_snoc (l : List Bool) (b : Bool) : vb l ++ [.bool b] = vb (l ++ [b]) := by simp [vb]
theorem vb_len (l : List Bool) : (vb l).length = l.length := by simp [vb]

theorem own_take {w : World} {e : TypeId} {ao : Option Addr} {n c : Nat} {xs : List Value} (h : w.ownsRow 0 e 1 (.slice ao n c) n xs) {k : Nat} (hk : k ≤ n) : w.ownsRow 0 e 1 (.slice ao k c) k (xs.take k) := by
  have hl := h.1
  refine ⟨by rw [List.length_take]; omega, ?_⟩
  rcases h.2 with ⟨hv, hz⟩ | ⟨g, cap', cur, hv, hb, hg, hnc, hm, hcs, ht⟩
  · simp only [Value.slice.injEq] at hv
    obtain ⟨rfl, _, rfl⟩ := hv
    have : k = 0 := by omega
    subst this
    exact .inl ⟨rfl, rfl⟩
  · simp only [Value.slice.injEq, true_and] at hv
    obtain ⟨rfl, rfl⟩ := hv
    refine .inr ⟨g, c, cur, rfl, hb, hg, by omega, hm, hcs, ?_⟩
    rw [← ht, List.take_take, Nat.min_eq_left (by omega), Nat.mul_one]

theorem set_other {a : Addr} {k : Nat} (v : Value) (h : k ≠ a.block) : (W.setCell a v).heap[k]? = W.heap[k]? := heap_setCell_other W a k v h

/-- A sector of Now turns. -/
theorem RefF.setNow (h : RefF W r o S B F) {g i : Nat} (hg : B.aN = some ⟨g, 0, none⟩) (hi : i < F.now.length) {v : Value} {x : Sec} (hv : SecAt W S v x) :
    RefF (W.setCell ⟨g, i, none⟩ v) r o S { B with vs := B.vs.set i v } { F with now := F.now.set i x } ∧ FFrame W (W.setCell ⟨g, i, none⟩ v) r o (Mut B) := by
  have hgb : (Value.slice B.aN F.now.length B.cN).ownBlock = some g := by rw [hg]; rfl
  have hgr : r ≠ g := fun e => h.np (by rw [e]; exact h.sn _ hg)
  have hrow := h.rn
  rw [hg] at hrow
  have hcell : ∀ j, (W.setCell ⟨g, i, none⟩ v).cell? ⟨r, j, none⟩ = W.cell? ⟨r, j, none⟩ := fun j => World.cell?_of_block (set_other v hgr)
  have hsec : ∀ u y, SecAt W S u y → SecAt (W.setCell ⟨g, i, none⟩ v) S u y := fun u y hs => hs.stay (fun k hk => set_other v (own_ne hs.1 h.rn (by decide) hk hgb)) (fun _ h => h)
  have hn := (own_set hrow hi v).1
  refine ⟨⟨?_, (hcell _).trans h.c1, (hcell _).trans h.c2, ?_, ?_, ?_, ?_, ?_, h.np, h.sn, h.ss, h.sd, h.ns⟩, ⟨rfl, rfl, rfl, Nat.le_of_eq (by simp), fun k _ _ hm => set_other v (fun e => hm (Or.inl ⟨_, hg, e.symm⟩)), fun j _ _ _ => hcell j, fun j => World.frozen?_setCell _ _ _ _⟩⟩
  · rw [hcell]; simp only [List.length_set]; exact h.c0
  · simp only [List.length_set]; rw [hg]; exact hn
  · refine own_stay h.rs (fun k hk => set_other v ?_)
    obtain ⟨a, ha, rfl⟩ := slice_own hk
    exact fun e => h.ns _ a hg ha e.symm
  · exact own_stay h.rd (fun k hk => set_other v (own_ne h.rd h.rn (by decide) hk hgb))
  · exact AllAt.set ⟨h.an.len, fun j u y hu hy => hsec u y (h.an.at_ j u y hu hy)⟩ i (hsec v x hv)
  · exact ⟨h.ao.len, fun j u y hu hy => hsec u y (h.ao.at_ j u y hu hy)⟩

/-- A sector's word on whether it is dirty turns. -/
theorem RefF.setDirt (h : RefF W r o S B F) {g i : Nat} (hg : B.aD = some ⟨g, 0, none⟩) (hi : i < F.dirt.length) (b : Bool) :
    RefF (W.setCell ⟨g, i, none⟩ (.bool b)) r o S B { F with dirt := F.dirt.set i b } ∧ FFrame W (W.setCell ⟨g, i, none⟩ (.bool b)) r o (Mut B) := by
  have hgb : (Value.slice B.aD F.dirt.length B.cD).ownBlock = some g := by rw [hg]; rfl
  have hgr : r ≠ g := fun e => h.np (by rw [e]; exact h.sd _ hg)
  have hrow := h.rd
  rw [hg] at hrow
  have hcell : ∀ j, (W.setCell ⟨g, i, none⟩ (.bool b)).cell? ⟨r, j, none⟩ = W.cell? ⟨r, j, none⟩ := fun j => World.cell?_of_block (set_other _ hgr)
  have hsec : ∀ u y, SecAt W S u y → SecAt (W.setCell ⟨g, i, none⟩ (.bool b)) S u y := fun u y hs => hs.stay (fun k hk => set_other _ (own_ne hs.1 h.rd (by decide) hk hgb)) (fun _ h => h)
  have hn := (own_set hrow hi (.bool b)).1
  refine ⟨⟨(hcell _).trans h.c0, (hcell _).trans h.c1, ?_, ?_, ?_, ?_, ?_, ?_, h.np, h.sn, h.ss, h.sd, h.ns⟩, ⟨rfl, rfl, rfl, Nat.le_of_eq (by simp), fun k _ _ hm => set_other _ (fun e => hm (Or.inr ⟨_, hg, e.symm⟩)), fun j _ _ _ => hcell j, fun j => World.frozen?_setCell _ _ _ _⟩⟩
  · rw [hcell]; simp only [List.length_set]; exact h.c2
  · exact own_stay h.rn (fun k hk => set_other _ (own_ne h.rn h.rd (by decide) hk hgb))
  · exact own_stay h.rs (fun k hk => set_other _ (own_ne h.rs h.rd (by decide) hk hgb))
  · simp only [List.length_set]; rw [hg, ← vb_set]; exact hn
  · exact ⟨h.an.len, fun j u y hu hy => hsec u y (h.an.at_ j u y hu hy)⟩
  · exact ⟨h.ao.len, fun j u y hu hy => hsec u y (h.ao.at_ j u y hu hy)⟩

/-- One of the three slices turns: the word alone. -/
theorem head_frame {j : Nat} (hj : j = o ∨ j = o + 1 ∨ j = o + 2) (v : Value) : FFrame W (W.setCell ⟨r, j, none⟩ v) r o (Mut B) :=
  ⟨rfl, rfl, rfl, Nat.le_of_eq (by simp), fun k _ hk _ => set_other v hk, fun i h0 h1 h2 => set_off _ _ _ (by omega), fun i => World.frozen?_setCell _ _ _ _⟩

theorem RefF.cutNow (h : RefF W r o S B F) {k : Nat} (hk : k ≤ F.now.length) : RefF (W.setCell ⟨r, o, none⟩ (.slice B.aN k B.cN)) r o S { B with vs := B.vs.take k } { F with now := F.now.take k } ∧ FFrame W (W.setCell ⟨r, o, none⟩ (.slice B.aN k B.cN)) r o (Mut B) := by
  have hb : ∀ k', k' < W.heap.size → S k' → (W.setCell ⟨r, o, none⟩ (.slice B.aN k B.cN)).heap[k']? = W.heap[k']? := fun k' _ hS => set_other _ (fun e => h.np (by have e' : k' = r := e; rw [e'] at hS; exact hS))
  have hl : (F.now.take k).length = k := by simp; omega
  refine ⟨⟨?_, (set_off _ _ _ (by omega)).trans h.c1, (set_off _ _ _ (by omega)).trans h.c2, ?_, ?_, ?_, ?_, ?_, h.np, h.sn, h.ss, h.sd, h.ns⟩, head_frame (Or.inl rfl) _⟩
  · simp only [hl]; exact set_same h.c0
  · simp only [hl]; exact own_stay (own_take h.rn hk) (fun k' hk' => by obtain ⟨a, ha, rfl⟩ := slice_own hk'; exact hb _ (row_lt1 h.rn ha) (h.sn a ha))
  · exact own_stay h.rs (fun k' hk' => by obtain ⟨a, ha, rfl⟩ := slice_own hk'; exact hb _ (row_lt1 h.rs ha) (h.ss a ha))
  · exact own_stay h.rd (fun k' hk' => by obtain ⟨a, ha, rfl⟩ := slice_own hk'; exact hb _ (row_lt1 h.rd ha) (h.sd a ha))
  · exact (h.an.take k).stay (fun i v x _ hs k' hk' => hb k' (own_lt hs.1 hk') (hs.2 k' hk')) (fun _ h => h)
  · exact h.ao.stay (fun i v x _ hs k' hk' => hb k' (own_lt hs.1 hk') (hs.2 k' hk')) (fun _ h => h)

theorem RefF.cutDirt (h : RefF W r o S B F) {k : Nat} (hk : k ≤ F.dirt.length) : RefF (W.setCell ⟨r, o + 2, none⟩ (.slice B.aD k B.cD)) r o S B { F with dirt := F.dirt.take k } ∧ FFrame W (W.setCell ⟨r, o + 2, none⟩ (.slice B.aD k B.cD)) r o (Mut B) := by
  have hb : ∀ k', k' < W.heap.size → S k' → (W.setCell ⟨r, o + 2, none⟩ (.slice B.aD k B.cD)).heap[k']? = W.heap[k']? := fun k' _ hS => set_other _ (fun e => h.np (by have e' : k' = r := e; rw [e'] at hS; exact hS))
  have hl : (F.dirt.take k).length = k := by simp; omega
  refine ⟨⟨(set_off _ _ _ (by omega)).trans h.c0, (set_off _ _ _ (by omega)).trans h.c1, ?_, ?_, ?_, ?_, ?_, ?_, h.np, h.sn, h.ss, h.sd, h.ns⟩, head_frame (Or.inr (Or.inr rfl)) _⟩
  · simp only [hl]; exact set_same h.c2
  · exact own_stay h.rn (fun k' hk' => by obtain ⟨a, ha, rfl⟩ := slice_own hk'; exact hb _ (row_lt1 h.rn ha) (h.sn a ha))
  · exact own_stay h.rs (fun k' hk' => by obtain ⟨a, ha, rfl⟩ := slice_own hk'; exact hb _ (row_lt1 h.rs ha) (h.ss a ha))
  · simp only [hl]; rw [← vb_take]; exact own_stay (own_take h.rd hk) (fun k' hk' => by obtain ⟨a, ha, rfl⟩ := slice_own hk'; exact hb _ (row_lt1 h.rd ha) (h.sd a ha))
  · exact h.an.stay (fun i v x _ hs k' hk' => hb k' (own_lt hs.1 hk') (hs.2 k' hk')) (fun _ h => h)
  · exact h.ao.stay (fun i v x _ hs k' hk' => hb k' (own_lt hs.1 hk') (hs.2 k' hk')) (fun _ h => h)

theorem RefF.cutOld (h : RefF W r o S B F) {k : Nat} (hk : k ≤ F.old.length) : RefF (W.setCell ⟨r, o + 1, none⟩ (.slice B.aS k B.cS)) r o S { B with us := B.us.take k } { F with old := F.old.take k } ∧ FFrame W (W.setCell ⟨r, o + 1, none⟩ (.slice B.aS k B.cS)) r o (Mut B) := by
  have hb : ∀ k', k' < W.heap.size → S k' → (W.setCell ⟨r, o + 1, none⟩ (.slice B.aS k B.cS)).heap[k']? = W.heap[k']? := fun k' _ hS => set_other _ (fun e => h.np (by have e' : k' = r := e; rw [e'] at hS; exact hS))
  have hl : (F.old.take k).length = k := by simp; omega
  refine ⟨⟨(set_off _ _ _ (by omega)).trans h.c0, ?_, (set_off _ _ _ (by omega)).trans h.c2, ?_, ?_, ?_, ?_, ?_, h.np, h.sn, h.ss, h.sd, h.ns⟩, head_frame (Or.inr (Or.inl rfl)) _⟩
  · simp only [hl]; exact set_same h.c1
  · exact own_stay h.rn (fun k' hk' => by obtain ⟨a, ha, rfl⟩ := slice_own hk'; exact hb _ (row_lt1 h.rn ha) (h.sn a ha))
  · simp only [hl]; exact own_stay (own_take h.rs hk) (fun k' hk' => by obtain ⟨a, ha, rfl⟩ := slice_own hk'; exact hb _ (row_lt1 h.rs ha) (h.ss a ha))
  · exact own_stay h.rd (fun k' hk' => by obtain ⟨a, ha, rfl⟩ := slice_own hk'; exact hb _ (row_lt1 h.rd ha) (h.sd a ha))
  · exact h.an.stay (fun i v x _ hs k' hk' => hb k' (own_lt hs.1 hk') (hs.2 k' hk')) (fun _ h => h)
  · exact (h.ao.take k).stay (fun i v x _ hs k' hk' => hb k' (own_lt hs.1 hk') (hs.2 k' hk')) (fun _ h => h)

/-- Sure gets another row, in a new block. -/
theorem RefF.newOld (h : RefF W r o S B F) {a : Option Addr} {c : Nat} {us : List Value} {old : List Sec} (hr : W.ownsRow 0 37 1 (.slice a old.length c) old.length us) (hu : AllAt W S us old) (ha : ∀ x, a = some x → S x.block ∧ ∀ y, B.aN = some y → y.block ≠ x.block) :
    RefF (W.setCell ⟨r, o + 1, none⟩ (.slice a old.length c)) r o S { B with aS := a, cS := c, us := us } { F with old := old } ∧ FFrame W (W.setCell ⟨r, o + 1, none⟩ (.slice a old.length c)) r o (Mut B) := by
  have hb : ∀ k', k' < W.heap.size → S k' → (W.setCell ⟨r, o + 1, none⟩ (.slice a old.length c)).heap[k']? = W.heap[k']? := fun k' _ hS => set_other _ (fun e => h.np (by have e' : k' = r := e; rw [e'] at hS; exact hS))
  refine ⟨⟨(set_off _ _ _ (by omega)).trans h.c0, set_same h.c1, (set_off _ _ _ (by omega)).trans h.c2, ?_, ?_, ?_, ?_, ?_, h.np, h.sn, fun x hx => (ha x hx).1, h.sd, fun y x hy hx => (ha x hx).2 y hy⟩, head_frame (Or.inr (Or.inl rfl)) _⟩
  · exact own_stay h.rn (fun k' hk' => by obtain ⟨a, ha, rfl⟩ := slice_own hk'; exact hb _ (row_lt1 h.rn ha) (h.sn a ha))
  · exact own_stay hr (fun k' hk' => by obtain ⟨x, hx, rfl⟩ := slice_own hk'; exact hb _ (row_lt1 hr hx) (ha x hx).1)
  · exact own_stay h.rd (fun k' hk' => by obtain ⟨a, ha, rfl⟩ := slice_own hk'; exact hb _ (row_lt1 h.rd ha) (h.sd a ha))
  · exact h.an.stay (fun i v x _ hs k' hk' => hb k' (own_lt hs.1 hk') (hs.2 k' hk')) (fun _ h => h)
  · exact hu.stay (fun i v x _ hs k' hk' => hb k' (own_lt hs.1 hk') (hs.2 k' hk')) (fun _ h => h)

/-- A sector more: both rows were appended to. -/
theorem RefF.grow (h : RefF W r o S B F) {W2 : World} (hs : W.heap.size ≤ W2.heap.size) (ho : W2.os = W.os ∧ W2.tape = W.tape ∧ W2.output = W.output) (hb : ∀ k, k < W.heap.size → ¬ Mut B k → W2.heap[k]? = W.heap[k]?) {v : Value} {x : Sec} (hv : SecAt W2 S v x) {a1 a2 : Option Addr} {c1 c2 : Nat}
    (r1 : W2.ownsRow 0 37 1 (.slice a1 (F.now.length + 1) c1) (F.now.length + 1) (B.vs ++ [v])) (r2 : W2.ownsRow 0 4 1 (.slice a2 (F.dirt.length + 1) c2) (F.dirt.length + 1) (vb F.dirt ++ [.bool true]))
    (h1 : ∀ a, a1 = some a → (S a.block ∧ a.block ≠ r) ∧ ((∃ a', B.aN = some a' ∧ a'.block = a.block) ∨ W.heap.size ≤ a.block)) (h2 : ∀ a, a2 = some a → (S a.block ∧ a.block ≠ r) ∧ ((∃ a', B.aD = some a' ∧ a'.block = a.block) ∨ W.heap.size ≤ a.block)) :
    RefF ((W2.setCell ⟨r, o, none⟩ (.slice a1 (F.now.length + 1) c1)).setCell ⟨r, o + 2, none⟩ (.slice a2 (F.dirt.length + 1) c2)) r o S { B with aN := a1, cN := c1, vs := B.vs ++ [v], aD := a2, cD := c2 } ⟨F.now ++ [x], F.old, F.dirt ++ [true]⟩ ∧
      FFrame W ((W2.setCell ⟨r, o, none⟩ (.slice a1 (F.now.length + 1) c1)).setCell ⟨r, o + 2, none⟩ (.slice a2 (F.dirt.length + 1) c2)) r o (Mut B) := by
  obtain ⟨W3, hW3⟩ : ∃ W3, W3 = (W2.setCell ⟨r, o, none⟩ (.slice a1 (F.now.length + 1) c1)).setCell ⟨r, o + 2, none⟩ (.slice a2 (F.dirt.length + 1) c2) := ⟨_, rfl⟩
  rw [← hW3]
  have hrl := h.plt
  have hnr : ∀ k, Mut B k → k ≠ r := fun k hk e => h.np (e ▸ h.mut hk)
  have hbr : W2.heap[r]? = W.heap[r]? := hb r hrl (fun hm => hnr r hm rfl)
  have q : ∀ i, W2.cell? ⟨r, i, none⟩ = W.cell? ⟨r, i, none⟩ := fun i => World.cell?_of_block hbr
  have h3 : ∀ k, k ≠ r → W3.heap[k]? = W2.heap[k]? := fun k hk => by rw [hW3, set_heap _ _ _ _ _ hk, set_heap _ _ _ _ _ hk]
  have hS3 : ∀ k, S k → W3.heap[k]? = W2.heap[k]? := fun k hk => h3 k (fun e => h.np (e ▸ hk))
  have hSW : ∀ k, k < W.heap.size → S k → ¬ Mut B k → W3.heap[k]? = W.heap[k]? := fun k hk hS hm => (hS3 k hS).trans (hb k hk hm)
  have mN : ∀ {e n xs} {u : Value} {k : Nat}, W.ownsRow 0 e 1 u n xs → e ≠ 37 → e ≠ 4 → u.ownBlock = some k → ¬ Mut B k := fun hr e1 e2 hu hm => by
    rcases hm with ⟨a, ha, rfl⟩ | ⟨a, ha, rfl⟩
    · exact own_ne hr h.rn e1 hu (own_slice ha) rfl
    · exact own_ne hr h.rd e2 hu (own_slice ha) rfl
  have hsec : ∀ u y, SecAt W S u y → SecAt W3 S u y := fun u y hsu => hsu.stay (fun k hk => hSW k (own_lt hsu.1 hk) (hsu.2 k hk) (mN hsu.1 (by decide) (by decide) hk)) (fun _ h => h)
  refine ⟨⟨?_, ?_, ?_, ?_, ?_, ?_, ?_, ?_, h.np, fun a ha => (h1 a ha).1.1, h.ss, fun a ha => (h2 a ha).1.1, fun a b ha hb' => ?_⟩, ⟨?_, ?_, ?_, ?_, ?_, ?_, ?_⟩⟩
  · rw [hW3, set_off _ _ _ (by omega)]; simp only [List.length_append, List.length_singleton]; exact set_same ((q _).trans h.c0)
  · rw [hW3, set_off _ _ _ (by omega), set_off _ _ _ (by omega), q]; exact h.c1
  · rw [hW3]; simp only [List.length_append, List.length_singleton]; exact set_same ((set_off _ _ _ (by omega)).trans ((q _).trans h.c2))
  · simp only [List.length_append, List.length_singleton]
    exact own_stay r1 (fun k hk => by obtain ⟨a, ha, rfl⟩ := slice_own hk; exact h3 _ (h1 a ha).1.2)
  · refine own_stay h.rs (fun k hk => ?_)
    obtain ⟨a, ha, rfl⟩ := slice_own hk
    refine hSW _ (row_lt1 h.rs ha) (h.ss a ha) ?_
    rintro (⟨b, hb', e⟩ | ⟨b, hb', e⟩)
    · exact h.ns b a hb' ha e
    · exact own_ne h.rs h.rd (by decide) hk (own_slice hb') e.symm
  · simp only [List.length_append, List.length_singleton]; rw [← vb_snoc]
    exact own_stay r2 (fun k hk => by obtain ⟨a, ha, rfl⟩ := slice_own hk; exact h3 _ (h2 a ha).1.2)
  · exact AllAt.snoc ⟨h.an.len, fun j u y hu hy => hsec u y (h.an.at_ j u y hu hy)⟩ (hv.stay (fun k hk => hS3 k (hv.2 k hk)) (fun _ h => h))
  · exact ⟨h.ao.len, fun j u y hu hy => hsec u y (h.ao.at_ j u y hu hy)⟩
  · rcases (h1 a ha).2 with ⟨a', ha', e⟩ | e
    · rw [← e]; exact h.ns a' b ha' hb'
    · have := row_lt1 h.rs hb'; omega
  · rw [hW3]; exact ho.1
  · rw [hW3]; exact ho.2.1
  · rw [hW3]; exact ho.2.2
  · rw [hW3]; simpa using hs
  · exact fun k hk hkr hm => (h3 k hkr).trans (hb k hk hm)
  · intro i h0 _ h2'; rw [hW3, set_off _ _ _ (by omega), set_off _ _ _ (by omega), q]
  · intro i; rw [hW3, World.frozen?_setCell, World.frozen?_setCell]; exact World.frozen?_of_block hbr

end

end Go.Proofs.Ytkgenmooepfhjaa
