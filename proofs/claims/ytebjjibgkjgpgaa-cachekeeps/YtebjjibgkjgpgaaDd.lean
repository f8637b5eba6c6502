/- Pages that go: shed; no statement of the seat is proved here. -/
import Derived.Test.YtebjjibgkjgpgaaDc
namespace Go.Proofs.Ytebjjibgkjgpgaa
open Go.RowKit Go.Maps

def shedL (p : Row → Bool) : Nat → List Row → List Row
  | _, [] => []
  | 0, l => l
  | n + 1, r :: l => if p r then shedL p n l else r :: shedL p (n + 1) l

theorem shedL_zero (p : Row → Bool) (l : List Row) : shedL p 0 l = l := by cases l <;> rfl
theorem shedL_nil (p : Row → Bool) (n : Nat) : shedL p n [] = [] := by cases n <;> rfl

structure SI (w : World) (c : Nat) (C : Parts) (s : CS) (fv : Value) (most : Nat) (kept rest : List Nat) (g : Nat) (W : World) : Prop where
  cp : ∃ C', CP W c C' { s with l := rowsOf (kept ++ rest) C.E } ∧ C'.m = C.m ∧ C'.h = C.h ∧ C'.ks = kept ++ rest ∧ ∀ b, (C'.E b).row = (C.E b).row
  sub : ∀ b ∈ kept ++ rest, b ∈ C.ks
  b0 : Boxed W w.heap.size 24 (.pointer (some ⟨c, 0, none⟩))
  b1 : Boxed W (w.heap.size + 1) 3 (.int .i64 (most : Int))
  b2 : Boxed W (w.heap.size + 1 + 1) 70 fv
  b3 : Boxed W (w.heap.size + 1 + 1 + 1) 3 (.int .i64 (g : Int))
  b4 : Boxed W (w.heap.size + 1 + 1 + 1 + 1) 24 (.pointer (some ⟨c, 0, none⟩))
  fr : Fr (C.S c) w W
  cnt : kept.length + rest.length + g = C.ks.length

theorem SI.sz {w W : World} {c : Nat} {C : Parts} {s : CS} {fv : Value} {most g : Nat} {kept rest : List Nat} (h : SI w c C s fv most kept rest g W) : w.heap.size + 5 ≤ W.heap.size := by have := h.b4.lt; omega

theorem Fr.put {S : Nat → Prop} {w W : World} (h : Fr S w W) {l : Nat} (o : Obj) (hl : w.heap.size ≤ l) : Fr S w (W.putObj l o) :=
  ⟨h.os, h.tape, h.output, by have := h.size; simpa [World.putObj] using this, fun j hj hS => (put_other (by omega)).trans (h.blk j hj hS)⟩

/-- What lay ahead of the loop and what it lays stays. -/
theorem SI.turn {w W W' : World} {c : Nat} {C : Parts} {s : CS} {fv : Value} {most g : Nat} {kept rest : List Nat} (h : SI w c C s fv most kept rest g W) (hc : ∀ k, C.S c k → k < w.heap.size)
    (hb : ∀ k, k < w.heap.size + 5 → W'.heap[k]? = W.heap[k]?) (hf : Fr (C.S c) w W') : SI w c C s fv most kept rest g W' := by
  obtain ⟨⟨C', h1, h2, h3, h4, h5⟩, sub, b0, b1, b2, b3, b4, fr, cnt⟩ := h
  refine ⟨⟨C', h1.stay (fun k _ hk => hb k ?_), h2, h3, h4, h5⟩, sub, (hb _ (by omega)).trans b0, (hb _ (by omega)).trans b1, (hb _ (by omega)).trans b2, (hb _ (by omega)).trans b3, (hb _ (by omega)).trans b4, hf, cnt⟩
  have : C.S c k := by
    rcases hk with rfl | rfl | hk
    · exact Or.inl rfl
    · exact Or.inr (Or.inl h2)
    · refine Or.inr (Or.inr ?_)
      rw [h3, h4] at hk
      rcases List.mem_cons.1 hk with rfl | hk
      · simp
      · exact List.mem_cons_of_mem _ (sub k hk)
  have := hc k this
  omega

theorem SI.put {w W : World} {c : Nat} {C : Parts} {s : CS} {fv : Value} {most g : Nat} {kept rest : List Nat} (h : SI w c C s fv most kept rest g W) (hc : ∀ k, C.S c k → k < w.heap.size) {l : Nat} (o : Obj) (hl : w.heap.size + 5 ≤ l) : SI w c C s fv most kept rest g (W.putObj l o) :=
  h.turn hc (fun k hk => put_other (by omega)) (h.fr.put o (by omega))

theorem drop_nx {ks : List Nat} {h k : Nat} (hk : k < ks.length) : ks.drop k = nx ks h k :: ks.drop (k + 1) := by
  rw [List.drop_eq_getElem_cons hk]; simp [nx, List.getElem?_eq_getElem hk]

theorem getD_append_right (kept : List Nat) (ks : List Nat) (h k : Nat) (j : Nat) : nx (kept ++ ks.drop k) h (kept.length + j) = nx ks h (k + j) := by
  simp [nx, List.getElem?_append_right, List.getElem?_drop]

/-- The row, in a world of the loop. -/
theorem SI.onRow {w W : World} {c : Nat} {C : Parts} {s : CS} {fv : Value} {most g k : Nat} {kept : List Nat} (h : SI w c C s fv most kept (C.ks.drop k) g W) (h0 : k = 0 → kept = []) : OnRow (w.heap.size + 1 + 1 + 1 + 1) c C.h C.ks k W := by
  obtain ⟨⟨C', h1, h2, h3, h4, h5⟩, sub, b0, b1, b2, b3, b4, fr, cnt⟩ := h
  have hmem : ∀ j, k + j < C.ks.length → nx C.ks C.h (k + j) ∈ C'.ks := fun j hj => by
    rw [h4, ← getD_append_right kept C.ks C.h k j]
    exact nx_in (by simp; omega)
  refine ⟨b4.cell, by rw [h1.c2, h3], ⟨_, h3 ▸ h1.rg.en C'.h (by simp)⟩, fun hk => ⟨_, h1.rg.en _ (List.mem_cons_of_mem _ (hmem 0 (by omega)))⟩, fun hk => ?_, fun hk => ?_⟩
  · subst hk
    have e1 := h1.rg.first
    obtain rfl := h0 rfl
    rw [h4, h3] at e1
    rw [(h3 ▸ h1.rg.en C'.h (by simp) : EntAt W C.h (C'.E C.h)).aft, e1]
    simp [ptr]
  · have hm := hmem 0 (by omega)
    have hl : kept.length < C'.ks.length := by rw [h4]; simp; omega
    have e1 := h1.rg.next hl
    have e2 := getD_append_right kept C.ks C.h k 0
    have e3 := getD_append_right kept C.ks C.h k 1
    simp only [Nat.add_zero] at e2 hm
    rw [h4, h3, e2, e3] at e1
    rw [(h1.rg.en _ (List.mem_cons_of_mem _ hm)).aft, e1]
    rfl

theorem SI.ents {w W : World} {c : Nat} {C : Parts} {s : CS} {fv : Value} {most g k : Nat} {kept : List Nat} (h : SI w c C s fv most kept (C.ks.drop k) g W) (j : Nat) (hj : k ≤ j) (hl : j < C.ks.length) : ∃ y, EntAt W (nx C.ks C.h j) y ∧ y.row = (C.E (nx C.ks C.h j)).row := by
  obtain ⟨⟨C', h1, h2, h3, h4, h5⟩, _⟩ := h
  obtain ⟨i, rfl⟩ : ∃ i, j = k + i := ⟨j - k, by omega⟩
  refine ⟨_, h1.rg.en _ (List.mem_cons_of_mem _ ?_), h5 _⟩
  rw [h4, ← getD_append_right kept C.ks C.h k i]
  exact nx_in (by simp; omega)

theorem SI.sub_S {w W : World} {c : Nat} {C C' : Parts} {s : CS} {fv : Value} {most g : Nat} {kept rest : List Nat} (h : SI w c C s fv most kept rest g W) (h2 : C'.m = C.m) (h3 : C'.h = C.h) (h4 : C'.ks = kept ++ rest) {k : Nat} (hk : C'.S c k) : C.S c k := by
  rcases hk with rfl | rfl | hk
  · exact Or.inl rfl
  · exact Or.inr (Or.inl h2)
  · refine Or.inr (Or.inr ?_)
    rw [h3, h4] at hk
    rcases List.mem_cons.1 hk with rfl | hk
    · simp
    · exact List.mem_cons_of_mem _ (h.sub k hk)

theorem SI.gone {w W w2 : World} {c e : Nat} {C C' C2 : Parts} {s : CS} {fv : Value} {most g : Nat} {kept rest : List Nat} (h : SI w c C s fv most kept (e :: rest) g W) (hc : ∀ k, C.S c k → k < w.heap.size)
    (h2 : C'.m = C.m) (h3 : C'.h = C.h) (h4 : C'.ks = kept ++ e :: rest) (h5 : ∀ b, (C'.E b).row = (C.E b).row) (cp2 : CP w2 c C2 { s with l := rowsOf (kept ++ rest) C'.E }) (wn : Went W c e kept rest C' C2 w2) :
    SI w c C s fv most kept rest (g + 1) (w2.setCell ⟨w.heap.size + 1 + 1 + 1, 0, none⟩ (.int .i64 ((g + 1 : Nat) : Int))) := by
  have hin : ∀ k, C'.S c k → k < w.heap.size := fun k hk => hc k (h.sub_S h2 h3 h4 hk)
  have hb : ∀ k, w.heap.size ≤ k → k < W.heap.size → w2.heap[k]? = W.heap[k]? := fun k hk hl => wn.fr.blk k hl (fun hs => by have := hin k hs; omega)
  have hs := h.sz
  have hsub : ∀ b ∈ kept ++ rest, b ∈ C.ks := fun b hb => h.sub b (by
    simp only [List.mem_append, List.mem_cons] at hb ⊢
    rcases hb with h | h <;> simp [h])
  have hc2 : ∀ k, C2.S c k → k < w.heap.size := fun k hk => by
    rcases hk with rfl | rfl | hk
    · exact hin _ (Or.inl rfl)
    · exact hin _ (Or.inr (Or.inl wn.m))
    · rw [wn.h, wn.ks] at hk
      refine hin _ (Or.inr (Or.inr ?_))
      rw [h4]
      simp only [List.mem_append, List.mem_cons] at hk ⊢
      rcases hk with h | h | h <;> simp [h]
  have hrows : rowsOf (kept ++ rest) C'.E = rowsOf (kept ++ rest) C.E := rowsOf_congr (fun b _ => h5 b)
  rw [hrows] at cp2
  refine ⟨⟨C2, cp2.stay (fun k _ hk => set_heap _ _ _ _ _ (by have := hc2 k hk; omega)), wn.m.trans h2, wn.h.trans h3, wn.ks, fun b => (wn.rows b).trans (h5 b)⟩, hsub, ?_, ?_, ?_, ?_, ?_, ?_, ?_⟩
  · exact (set_heap _ _ _ _ _ (by omega)).trans ((hb _ (by omega) (by omega)).trans h.b0)
  · exact (set_heap _ _ _ _ _ (by omega)).trans ((hb _ (by omega) (by omega)).trans h.b1)
  · exact (set_heap _ _ _ _ _ (by omega)).trans ((hb _ (by omega) (by omega)).trans h.b2)
  · exact Boxed.set _ ((hb _ (by omega) (by omega)).trans h.b3)
  · exact (set_heap _ _ _ _ _ (by omega)).trans ((hb _ (by omega) (by omega)).trans h.b4)
  · exact (h.fr.trans wn.fr (fun j _ hj => h.sub_S h2 h3 h4 hj)).set (Or.inr (by omega)) _
  · have := h.cnt; simp at this ⊢; omega

theorem SI.two {w W w2 : World} {c e : Nat} {C C' C2 : Parts} {s : CS} {fv : Value} {most g : Nat} {kept rest : List Nat} {v : Value} (h : SI w c C s fv most kept (e :: rest) g W) (hc : ∀ k, C.S c k → k < w.heap.size)
    (h2 : C'.m = C.m) (h3 : C'.h = C.h) (h4 : C'.ks = kept ++ e :: rest) (wn : Went W c e kept rest C' C2 w2) (m : Mark (w.heap.size + 5) W) (r : Rec (w.heap.size + 5) W) : TwoKept (w.heap.size + 5) W (w2.setCell ⟨w.heap.size + 1 + 1 + 1, 0, none⟩ v) := by
  obtain ⟨r, hr⟩ := r
  have l1 : w.heap.size + 5 < W.heap.size := (Array.getElem?_eq_some_iff.1 m).1
  have l2 : w.heap.size + 5 + 1 < W.heap.size := (Array.getElem?_eq_some_iff.1 hr).1
  have hb : ∀ k, w.heap.size ≤ k → k < W.heap.size → w2.heap[k]? = W.heap[k]? := fun k hk hl => wn.fr.blk k hl (fun hs => by have := hc k (h.sub_S h2 h3 h4 hs); omega)
  exact ⟨(set_heap _ _ _ _ _ (by omega)).trans (hb _ (by omega) l1), (set_heap _ _ _ _ _ (by omega)).trans (hb _ (by omega) l2)⟩

theorem SI.cells {w W w2 : World} {c e : Nat} {C C' C2 : Parts} {s : CS} {fv : Value} {most g : Nat} {kept rest : List Nat} (h : SI w c C s fv most kept (e :: rest) g W) (hc : ∀ k, C.S c k → k < w.heap.size)
    (h2 : C'.m = C.m) (h3 : C'.h = C.h) (h4 : C'.ks = kept ++ e :: rest) (wn : Went W c e kept rest C' C2 w2) :
    w2.cell? ⟨w.heap.size + 1 + 1 + 1, 0, none⟩ = some (.int .i64 (g : Int)) ∧ w2.cell? ⟨w.heap.size + 1, 0, none⟩ = some (.int .i64 (most : Int)) ∧ w2.frozen? ⟨w.heap.size + 1 + 1 + 1, 0, none⟩ = false := by
  have hs := h.sz
  have hb : ∀ k, w.heap.size ≤ k → k < W.heap.size → w2.heap[k]? = W.heap[k]? := fun k hk hl => wn.fr.blk k hl (fun hs => by have := hc k (h.sub_S h2 h3 h4 hs); omega)
  have e3 : Boxed w2 (w.heap.size + 1 + 1 + 1) 3 (.int .i64 (g : Int)) := (hb _ (by omega) (by omega)).trans h.b3
  have e1 : Boxed w2 (w.heap.size + 1) 3 (.int .i64 (most : Int)) := (hb _ (by omega) (by omega)).trans h.b1
  exact ⟨e3.cell, e1.cell, e3.frozen⟩

def SLoop (w : World) (c : Nat) (C : Parts) (s : CS) (fv : Value) (most : Nat) (p : Row → Bool) (k : Nat) (W : World) : Prop :=
  ∃ kept g, SI w c C s fv most kept (C.ks.drop k) g W ∧ g < most ∧ rowsOf kept C.E ++ shedL p (most - g) (rowsOf (C.ks.drop k) C.E) = shedL p most s.l
def SOut (w : World) (c : Nat) (C : Parts) (s : CS) (fv : Value) (most : Nat) (p : Row → Bool) (W : World) : Prop :=
  ∃ kept rest g, SI w c C s fv most kept rest g W ∧ rowsOf (kept ++ rest) C.E = shedL p most s.l

theorem rows_append (xs ys : List Nat) (E : Nat → Ent) : rowsOf (xs ++ ys) E = rowsOf xs E ++ rowsOf ys E := by simp [rowsOf]

theorem shed_no {p : Row → Bool} {m : Nat} {r : Row} {l : List Row} (hm : 0 < m) (h : p r = false) : shedL p m (r :: l) = r :: shedL p m l := by
  obtain ⟨n, rfl⟩ : ∃ n, m = n + 1 := ⟨m - 1, by omega⟩
  simp [shedL, h]
theorem shed_yes {p : Row → Bool} {m : Nat} {r : Row} {l : List Row} (hm : 0 < m) (h : p r = true) : shedL p m (r :: l) = shedL p (m - 1) l := by
  obtain ⟨n, rfl⟩ : ∃ n, m = n + 1 := ⟨m - 1, by omega⟩
  simp [shedL, h]

theorem shed_end {w W : World} {c : Nat} {C : Parts} {s : CS} {fv : Value} {most g l : Nat} {kept rest : List Nat} {p : Row → Bool} {o : Obj} (hc : ∀ k, C.S c k → k < w.heap.size) (h0 : CP w c C s) (h : SI w c C s fv most kept rest g W)
    (hres : rowsOf (kept ++ rest) C.E = shedL p most s.l) (hl : w.heap.size + 5 ≤ l) :
    Ending.returned (Value.int .i64 (g : Int)) = .returned (.int .i64 ((s.l.length - (shedL p most s.l).length : Nat) : Int)) ∧
      ∃ C', CP (W.putObj l o) c C' { s with l := shedL p most s.l } ∧ C'.m = C.m ∧ C'.h = C.h ∧ (∀ b ∈ C'.ks, b ∈ C.ks) ∧ Fr (C.S c) w (W.putObj l o) := by
  have h1 := h.put hc o hl
  obtain ⟨C', h2, h3, h4, h5, h6⟩ := h1.cp
  rw [hres] at h2
  refine ⟨?_, C', h2, h3, h4, fun b hb => h.sub b (h5 ▸ hb), h1.fr⟩
  have e1 : (shedL p most s.l).length = kept.length + rest.length := by rw [← hres]; simp [rowsOf]
  have e2 : s.l.length = C.ks.length := by rw [h0.ls]; simp
  have e3 := h.cnt
  rw [e1, e2, ← e3]
  congr 2
  omega

attribute [local go_sem] Oper.semAt_some

set_option maxRecDepth 100000 in
set_option maxHeartbeats 4000000 in
theorem shed56 (c most : Nat) (C : Parts) (s : CS) (p : Row → Bool) (w : World) (h : CP w c C s) (hlen : C.ks.length ≤ 1000000) (hm : 1 ≤ most) (hm2 : most ≤ 1000000)
    (kw : ∀ (W : World) (k : Nat), k < C.ks.length → Fr (C.S c) w W → (∀ j, k ≤ j → j < C.ks.length → ∃ y, EntAt W (nx C.ks C.h j) y ∧ y.row = (C.E (nx C.ks C.h j)).row) →
      Calls Try.prog 56 (#[.pointer (some ⟨nx C.ks C.h k, 0, none⟩)] ++ #[]) W fun e w' => e = .returned (.bool (p (C.E (nx C.ks C.h k)).row)) ∧ w' = W) :
    Calls Try.prog 51 #[.pointer (some ⟨c, 0, none⟩), .int .i64 (most : Int), .func (.func 56) #[] #[]] w fun e w' => e = .returned (.int .i64 ((s.l.length - (shedL p most s.l).length : Nat) : Int)) ∧
      ∃ C', CP w' c C' { s with l := shedL p most s.l } ∧ C'.m = C.m ∧ C'.h = C.h ∧ (∀ b ∈ C'.ks, b ∈ C.ks) ∧ Fr (C.S c) w w' := by
  have k2 := hid (row_any c)
  have hmi : ¬ (most : Int) ≤ 0 := by omega
  have hmi2 : 0 < most := hm
  have HH := hid h; have KW := hid kw
  have hSlt : Hid (∀ k, C.S c k → k < w.heap.size) := hid (fun k hk => h.lt hk)
  clear h kw
  refine (callsIn_wide (n := 3)).1 ?_
  refine callsIn_of_wp_marks Try.func51 rfl trivial ?_ rfl
  simp only [Try.ntmps51, List.size_toArray, List.length_cons, List.length_nil, Nat.reduceAdd, Nat.reduceSub, Array.replicate_succ, Array.replicate_zero, List.push_toArray, List.append_toArray, List.nil_append, List.cons_append]
  gi_wp2_with (refine ⟨trivial, ?_⟩; gi_at_call 54; refine (callsIn_wide.2 (k2.out _)).mono ?_; rintro e w1 ⟨rfl, rfl⟩)
  have hb0 := Boxed.new w 24 (.pointer (some ⟨c, 0, none⟩))
  have hb1 := Boxed.new (w.alloc (.cells #[.pointer (some ⟨c, 0, none⟩)] 24)) 3 (.int .i64 (most : Int))
  have hb2 := Boxed.new ((w.alloc (.cells #[.pointer (some ⟨c, 0, none⟩)] 24)).alloc (.cells #[.int .i64 (most : Int)] 3)) 70 (.func (.func 56) #[] #[])
  have hb3 := Boxed.new (((w.alloc (.cells #[.pointer (some ⟨c, 0, none⟩)] 24)).alloc (.cells #[.int .i64 (most : Int)] 3)).alloc (.cells #[.func (.func 56) #[] #[]] 70)) 3 (.int .i64 0)
  have hb4 := Boxed.new ((((w.alloc (.cells #[.pointer (some ⟨c, 0, none⟩)] 24)).alloc (.cells #[.int .i64 (most : Int)] 3)).alloc (.cells #[.func (.func 56) #[] #[]] 70)).alloc (.cells #[.int .i64 0] 3)) 24 (.pointer (some ⟨c, 0, none⟩))
  simp only [World.size_alloc] at hb1 hb2 hb3 hb4
  have hbl : Below w.heap.size w (((((w.alloc (.cells #[.pointer (some ⟨c, 0, none⟩)] 24)).alloc (.cells #[.int .i64 (most : Int)] 3)).alloc (.cells #[.func (.func 56) #[] #[]] 70)).alloc (.cells #[.int .i64 0] 3)).alloc (.cells #[.pointer (some ⟨c, 0, none⟩)] 24)) :=
    (((((Below.refl _ w).alloc (Nat.le_refl _) _).alloc (by simp) _).alloc (by simp; omega) _).alloc (by simp; omega) _).alloc (by simp; omega) _
  have hI0 : SI w c C s (.func (.func 56) #[] #[]) most [] C.ks 0 (((((w.alloc (.cells #[.pointer (some ⟨c, 0, none⟩)] 24)).alloc (.cells #[.int .i64 (most : Int)] 3)).alloc (.cells #[.func (.func 56) #[] #[]] 70)).alloc (.cells #[.int .i64 0] 3)).alloc (.cells #[.pointer (some ⟨c, 0, none⟩)] 24)) := by
    refine ⟨⟨C, ?_, rfl, rfl, rfl, fun _ => rfl⟩, fun b hb => hb, (((hb0.alloc _).alloc _).alloc _).alloc _, ((hb1.alloc _).alloc _).alloc _, (hb2.alloc _).alloc _, hb3.alloc _, hb4, Fr.of_below hbl, by simp⟩
    have h1 := HH.out.later hbl
    have e1 : s.l = rowsOf ([] ++ C.ks) C.E := HH.out.ls
    rw [← e1]; exact h1
  obtain ⟨W0, hW0⟩ : ∃ W0, W0 = (((((w.alloc (.cells #[.pointer (some ⟨c, 0, none⟩)] 24)).alloc (.cells #[.int .i64 (most : Int)] 3)).alloc (.cells #[.func (.func 56) #[] #[]] 70)).alloc (.cells #[.int .i64 0] 3)).alloc (.cells #[.pointer (some ⟨c, 0, none⟩)] 24)) := ⟨_, rfl⟩
  have hsz : W0.heap.size = w.heap.size + 5 := by rw [hW0]; simp
  rw [← hW0] at hI0 ⊢
  clear hW0 hb0 hb1 hb2 hb3 hb4 hbl
  refine range_nat (gf := 63) (lb := #[.pointer (some ⟨w.heap.size + 1 + 1 + 1 + 1, 0, none⟩)]) rfl (enters_of Try.func63 (by kernel_rfl) rfl) C.ks.length (fun k => .pointer (some ⟨nx C.ks C.h k, 0, none⟩)) rfl
    (fun k W => SLoop w c C s (.func (.func 56) #[] #[]) most p k W) (fun x W => x = .exit 0 ∧ SOut w c C s (.func (.func 56) #[] #[]) most p W) ?hI ?hX ?h0 ?hseq
    (fun k => { tmps := #[Value.pointer (some ⟨c, 0, none⟩), .int .i64 (most : Int), .func (.func 56) #[] #[], .pointer (some ⟨w.heap.size, 0, none⟩), .pointer (some ⟨w.heap.size + 1, 0, none⟩), .pointer (some ⟨w.heap.size + 1 + 1, 0, none⟩), .int .i64 0, .pointer (some ⟨w.heap.size + 1 + 1 + 1, 0, none⟩), .pointer (some ⟨nx C.ks C.h k, 0, none⟩), .int .i64 (most : Int), .bool false, .pointer (some ⟨c, 0, none⟩), .func (.func 63) #[] #[.pointer (some ⟨w.heap.size + 1 + 1 + 1 + 1, 0, none⟩)], .pointer (some ⟨nx C.ks C.h k, 0, none⟩), undef, undef, undef, undef, undef, undef, undef, undef, undef, undef, undef, undef], defers := [] }) ?assign ?body ?done ?stop
  case hI =>
    rintro k W l o o' h1 _ _ _ ⟨kept, g, h5, h6⟩
    exact ⟨kept, g, h5.put hSlt.out o' (by omega), h6⟩
  case hX =>
    rintro x W l o o' h1 _ _ _ ⟨rfl, kept, rest, g, h5, h6⟩
    exact ⟨rfl, kept, rest, g, h5.put hSlt.out o' (by omega), h6⟩
  case h0 =>
    intro W hb _
    refine ⟨[], 0, (hI0.turn hSlt.out (fun k hk => hb.block k (by omega)) (hI0.fr.trans (T := fun _ => False) ⟨hb.os, hb.tape, hb.output, hb.size, fun k hk _ => hb.block k hk⟩ (fun _ _ h => h.elim))), hm, ?_⟩
    have e1 : s.l = rowsOf C.ks C.E := HH.out.ls
    rw [e1]; rfl
  case hseq =>
    intro l J Jx W hJI hY hJ0
    refine row1_in 2 (w.heap.size + 1 + 1 + 1 + 1) c C.h l C.ks HH.out.rg.nd J Jx (fun k W hj => ?_) hY W hJ0
    obtain ⟨kept, g, h5, h6⟩ := hJI k W hj
    exact h5.onRow (fun hk => List.eq_nil_of_length_eq_zero (by have := h5.cnt; rw [List.length_drop] at this; omega))
  case assign =>
    intro l k W K hK
    gi_wp2
    exact hK
  case body =>
    rintro l k W hk ⟨kept, g, hS, hg, hres⟩ hM hR
    rw [hsz] at hM hR ⊢
    have kw := hid (KW.out W k hk hS.fr hS.ents)
    have c0 := hS.b0.cell; have c1 := hS.b1.cell; have c2 := hS.b2.cell; have c3 := hS.b3.cell; have f3 := hS.b3.frozen
    have hds := drop_nx (h := C.h) hk
    have HS := hid hS; have HRES := hid hres; have HM := hid hM; have HR := hid hR; have HD := hid hds
    obtain ⟨C', h1, h2, h3, h4, h5⟩ := hS.cp
    rw [hds] at h1 h4
    have hSg : SI w c C s (.func (.func 56) #[] #[]) most kept (nx C.ks C.h k :: C.ks.drop (k + 1)) g W := by rw [← hds]; exact hS
    have HSg := hid hSg
    have hgm : ¬ g = most := by omega
    have hgm2 : ¬ (g : Int) = (most : Int) := by omega
    have hgw : IntKind.i64.wrap ((g : Int) + 1) = ((g + 1 : Nat) : Int) := by rw [IntWalk.i64_in _ ⟨by omega, by omega⟩]; omega
    have e1 : rowsOf (nx C.ks C.h k :: C.ks.drop (k + 1)) C.E = (C.E (nx C.ks C.h k)).row :: rowsOf (C.ks.drop (k + 1)) C.E := rfl
    have HE1 := hid e1
    clear hS hres hM hR hds hSg e1
    cases hp : p (C.E (nx C.ks C.h k)).row
    · rw [hp] at kw
      have hend : Hid (SLoop w c C s (.func (.func 56) #[] #[]) most p (k + 1) W) := by
        obtain ⟨_, sub, b0, b1, b2, b3, b4, fr, cnt⟩ := HSg.out
        refine hid ⟨kept ++ [nx C.ks C.h k], g, ⟨⟨C', ?_, h2, h3, by rw [h4]; simp, h5⟩, fun b hb => sub b (by simpa using hb), b0, b1, b2, b3, b4, fr, by simp at cnt ⊢; omega⟩, hg, ?_⟩
        · rw [List.append_assoc]; exact h1
        · rw [← HRES.out, HD.out, HE1.out, shed_no (by omega) hp, rows_append]; simp [rowsOf]
      clear h1 h2 h3 h4 h5
      gi_wp2_with (refine ⟨trivial, ?_⟩; gi_at_call 56; refine (CallsIn.inRound l (callsIn_wide.2 kw.out)).mono ?_; rintro e w1 ⟨rfl, h0⟩; obtain rfl := h0.symm)
      obtain ⟨r, hr⟩ := HR.out
      exact ⟨⟨rfl, rfl⟩, hend.out⟩
    · rw [hp] at kw
      have kr := hid (remove_cp c (nx C.ks C.h k) kept (C.ks.drop (k + 1)) C' _ W h1 h4)
      have H2 := hid h2; have H3 := hid h3; have H4 := hid h4; have H5 := hid h5
      have hsl := HS.out.sz
      have hin : ∀ k, C'.S c k → k < w.heap.size := fun k hk => hSlt.out k (HSg.out.sub_S h2 h3 h4 hk)
      have HIN := hid hin
      clear h1 h2 h3 h4 h5 hin
      rcases Nat.lt_or_ge (g + 1) most with hlt | hge
      · have hg1 : ¬ g + 1 = most := by omega
        have hg2 : ¬ (g : Int) + 1 = (most : Int) := by omega
        have hg3 : ¬ ((g + 1 : Nat) : Int) = (most : Int) := by omega
        gi_wp2_with (first | (refine ⟨trivial, ?_⟩; gi_at_call 56; refine (CallsIn.inRound l (callsIn_wide.2 kw.out)).mono ?_; rintro e w1 ⟨rfl, h0⟩; obtain rfl := h0.symm) | (refine ⟨trivial, ?_⟩; gi_at_call 55; refine (CallsIn.inRound l (callsIn_wide.2 kr.out)).mono ?_; rintro e w2 ⟨rfl, C2, hcp2, hwn⟩; obtain ⟨d3, d1, g3⟩ := HSg.out.cells hSlt.out H2.out H3.out H4.out hwn; have HC2 := hid hcp2; have HW2 := hid hwn; clear hcp2 hwn))
        refine ⟨HSg.out.two hSlt.out H2.out H3.out H4.out HW2.out HM.out HR.out, kept, g + 1, HSg.out.gone hSlt.out H2.out H3.out H4.out H5.out HC2.out HW2.out, hlt, ?_⟩
        rw [← HRES.out, HD.out, HE1.out, shed_yes (by omega) hp, Nat.sub_sub]
      · have hg1 : g + 1 = most := by omega
        have hg2 : (g : Int) + 1 = (most : Int) := by omega
        have hg3 : ((g + 1 : Nat) : Int) = (most : Int) := by omega
        gi_wp2_with (first | (refine ⟨trivial, ?_⟩; gi_at_call 56; refine (CallsIn.inRound l (callsIn_wide.2 kw.out)).mono ?_; rintro e w1 ⟨rfl, h0⟩; obtain rfl := h0.symm) | (refine ⟨trivial, ?_⟩; gi_at_call 55; refine (CallsIn.inRound l (callsIn_wide.2 kr.out)).mono ?_; rintro e w2 ⟨rfl, C2, hcp2, hwn⟩; obtain ⟨d3, d1, g3⟩ := HSg.out.cells hSlt.out H2.out H3.out H4.out hwn; have HC2 := hid hcp2; have HW2 := hid hwn; clear hcp2 hwn))
        refine ⟨HSg.out.two hSlt.out H2.out H3.out H4.out HW2.out HM.out HR.out, rfl, kept, C.ks.drop (k + 1), g + 1, (by have q := HSg.out.gone hSlt.out H2.out H3.out H4.out H5.out HC2.out HW2.out; rw [show ((g + 1 : Nat) : Int) = (most : Int) by omega] at q; exact q), ?_⟩
        rw [← HRES.out, HD.out, HE1.out, shed_yes (by omega) hp, show most - g - 1 = 0 by omega, shedL_zero, rows_append]
  case done =>
    rintro W ⟨kept, g, hS, hg, hres⟩ hM
    rw [List.drop_length] at hS hres
    have hO : SOut w c C s (.func (.func 56) #[] #[]) most p W := ⟨kept, [], g, hS, by rw [← hres, rows_append, show rowsOf [] C.E = [] from rfl, shedL_nil]⟩
    have c3 := hS.b3.cell
    have HS := hid hS; have HM := hid hM; have HRES := hid hres
    clear hS hM hres hO
    gi_wp2
    refine ⟨by simp, .inl ⟨_, _, rfl, run_takeDeferred HM.out, ?_⟩⟩
    refine ⟨_, results_tmp rfl _ _ _, ?_⟩
    exact shed_end hSlt.out HH.out HS.out (by rw [← HRES.out, rows_append, show rowsOf [] C.E = [] from rfl, shedL_nil]) (by rw [hsz]; exact Nat.le_refl _)
  case stop =>
    rintro x W ⟨rfl, kept, rest, g, hS, hres⟩ hM
    have c3 := hS.b3.cell
    have HS := hid hS; have HM := hid hM; have HRES := hid hres
    clear hS hM hres
    gi_wp2
    refine ⟨by simp, .inl ⟨_, _, rfl, run_takeDeferred HM.out, ?_⟩⟩
    refine ⟨_, results_tmp rfl _ _ _, ?_⟩
    exact shed_end hSlt.out HH.out HS.out HRES.out (by rw [hsz]; exact Nat.le_refl _)

set_option maxRecDepth 100000 in
set_option maxHeartbeats 4000000 in
theorem shed52 (c most eb : Nat) (C : Parts) (s : CS) (p : Row → Bool) (w : World) (h : CP w c C s) (hlen : C.ks.length ≤ 1000000) (hm : 1 ≤ most) (hm2 : most ≤ 1000000)
    (kw : ∀ (W : World) (k : Nat), k < C.ks.length → Fr (C.S c) w W → (∀ j, k ≤ j → j < C.ks.length → ∃ y, EntAt W (nx C.ks C.h j) y ∧ y.row = (C.E (nx C.ks C.h j)).row) →
      Calls Try.prog 52 (#[.pointer (some ⟨nx C.ks C.h k, 0, none⟩)] ++ #[.pointer (some ⟨eb, 0, none⟩)]) W fun e w' => e = .returned (.bool (p (C.E (nx C.ks C.h k)).row)) ∧ w' = W) :
    Calls Try.prog 51 #[.pointer (some ⟨c, 0, none⟩), .int .i64 (most : Int), .func (.func 52) #[] #[.pointer (some ⟨eb, 0, none⟩)]] w fun e w' => e = .returned (.int .i64 ((s.l.length - (shedL p most s.l).length : Nat) : Int)) ∧
      ∃ C', CP w' c C' { s with l := shedL p most s.l } ∧ C'.m = C.m ∧ C'.h = C.h ∧ (∀ b ∈ C'.ks, b ∈ C.ks) ∧ Fr (C.S c) w w' := by
  have k2 := hid (row_any c)
  have hmi : ¬ (most : Int) ≤ 0 := by omega
  have hmi2 : 0 < most := hm
  have HH := hid h; have KW := hid kw
  have hSlt : Hid (∀ k, C.S c k → k < w.heap.size) := hid (fun k hk => h.lt hk)
  clear h kw
  refine (callsIn_wide (n := 3)).1 ?_
  refine callsIn_of_wp_marks Try.func51 rfl trivial ?_ rfl
  simp only [Try.ntmps51, List.size_toArray, List.length_cons, List.length_nil, Nat.reduceAdd, Nat.reduceSub, Array.replicate_succ, Array.replicate_zero, List.push_toArray, List.append_toArray, List.nil_append, List.cons_append]
  gi_wp2_with (refine ⟨trivial, ?_⟩; gi_at_call 54; refine (callsIn_wide.2 (k2.out _)).mono ?_; rintro e w1 ⟨rfl, rfl⟩)
  have hb0 := Boxed.new w 24 (.pointer (some ⟨c, 0, none⟩))
  have hb1 := Boxed.new (w.alloc (.cells #[.pointer (some ⟨c, 0, none⟩)] 24)) 3 (.int .i64 (most : Int))
  have hb2 := Boxed.new ((w.alloc (.cells #[.pointer (some ⟨c, 0, none⟩)] 24)).alloc (.cells #[.int .i64 (most : Int)] 3)) 70 (.func (.func 52) #[] #[.pointer (some ⟨eb, 0, none⟩)])
  have hb3 := Boxed.new (((w.alloc (.cells #[.pointer (some ⟨c, 0, none⟩)] 24)).alloc (.cells #[.int .i64 (most : Int)] 3)).alloc (.cells #[.func (.func 52) #[] #[.pointer (some ⟨eb, 0, none⟩)]] 70)) 3 (.int .i64 0)
  have hb4 := Boxed.new ((((w.alloc (.cells #[.pointer (some ⟨c, 0, none⟩)] 24)).alloc (.cells #[.int .i64 (most : Int)] 3)).alloc (.cells #[.func (.func 52) #[] #[.pointer (some ⟨eb, 0, none⟩)]] 70)).alloc (.cells #[.int .i64 0] 3)) 24 (.pointer (some ⟨c, 0, none⟩))
  simp only [World.size_alloc] at hb1 hb2 hb3 hb4
  have hbl : Below w.heap.size w (((((w.alloc (.cells #[.pointer (some ⟨c, 0, none⟩)] 24)).alloc (.cells #[.int .i64 (most : Int)] 3)).alloc (.cells #[.func (.func 52) #[] #[.pointer (some ⟨eb, 0, none⟩)]] 70)).alloc (.cells #[.int .i64 0] 3)).alloc (.cells #[.pointer (some ⟨c, 0, none⟩)] 24)) :=
    (((((Below.refl _ w).alloc (Nat.le_refl _) _).alloc (by simp) _).alloc (by simp; omega) _).alloc (by simp; omega) _).alloc (by simp; omega) _
  have hI0 : SI w c C s (.func (.func 52) #[] #[.pointer (some ⟨eb, 0, none⟩)]) most [] C.ks 0 (((((w.alloc (.cells #[.pointer (some ⟨c, 0, none⟩)] 24)).alloc (.cells #[.int .i64 (most : Int)] 3)).alloc (.cells #[.func (.func 52) #[] #[.pointer (some ⟨eb, 0, none⟩)]] 70)).alloc (.cells #[.int .i64 0] 3)).alloc (.cells #[.pointer (some ⟨c, 0, none⟩)] 24)) := by
    refine ⟨⟨C, ?_, rfl, rfl, rfl, fun _ => rfl⟩, fun b hb => hb, (((hb0.alloc _).alloc _).alloc _).alloc _, ((hb1.alloc _).alloc _).alloc _, (hb2.alloc _).alloc _, hb3.alloc _, hb4, Fr.of_below hbl, by simp⟩
    have h1 := HH.out.later hbl
    have e1 : s.l = rowsOf ([] ++ C.ks) C.E := HH.out.ls
    rw [← e1]; exact h1
  obtain ⟨W0, hW0⟩ : ∃ W0, W0 = (((((w.alloc (.cells #[.pointer (some ⟨c, 0, none⟩)] 24)).alloc (.cells #[.int .i64 (most : Int)] 3)).alloc (.cells #[.func (.func 52) #[] #[.pointer (some ⟨eb, 0, none⟩)]] 70)).alloc (.cells #[.int .i64 0] 3)).alloc (.cells #[.pointer (some ⟨c, 0, none⟩)] 24)) := ⟨_, rfl⟩
  have hsz : W0.heap.size = w.heap.size + 5 := by rw [hW0]; simp
  rw [← hW0] at hI0 ⊢
  clear hW0 hb0 hb1 hb2 hb3 hb4 hbl
  refine range_nat (gf := 63) (lb := #[.pointer (some ⟨w.heap.size + 1 + 1 + 1 + 1, 0, none⟩)]) rfl (enters_of Try.func63 (by kernel_rfl) rfl) C.ks.length (fun k => .pointer (some ⟨nx C.ks C.h k, 0, none⟩)) rfl
    (fun k W => SLoop w c C s (.func (.func 52) #[] #[.pointer (some ⟨eb, 0, none⟩)]) most p k W) (fun x W => x = .exit 0 ∧ SOut w c C s (.func (.func 52) #[] #[.pointer (some ⟨eb, 0, none⟩)]) most p W) ?hI ?hX ?h0 ?hseq
    (fun k => { tmps := #[Value.pointer (some ⟨c, 0, none⟩), .int .i64 (most : Int), .func (.func 52) #[] #[.pointer (some ⟨eb, 0, none⟩)], .pointer (some ⟨w.heap.size, 0, none⟩), .pointer (some ⟨w.heap.size + 1, 0, none⟩), .pointer (some ⟨w.heap.size + 1 + 1, 0, none⟩), .int .i64 0, .pointer (some ⟨w.heap.size + 1 + 1 + 1, 0, none⟩), .pointer (some ⟨nx C.ks C.h k, 0, none⟩), .int .i64 (most : Int), .bool false, .pointer (some ⟨c, 0, none⟩), .func (.func 63) #[] #[.pointer (some ⟨w.heap.size + 1 + 1 + 1 + 1, 0, none⟩)], .pointer (some ⟨nx C.ks C.h k, 0, none⟩), undef, undef, undef, undef, undef, undef, undef, undef, undef, undef, undef, undef], defers := [] }) ?assign ?body ?done ?stop
  case hI =>
    rintro k W l o o' h1 _ _ _ ⟨kept, g, h5, h6⟩
    exact ⟨kept, g, h5.put hSlt.out o' (by omega), h6⟩
  case hX =>
    rintro x W l o o' h1 _ _ _ ⟨rfl, kept, rest, g, h5, h6⟩
    exact ⟨rfl, kept, rest, g, h5.put hSlt.out o' (by omega), h6⟩
  case h0 =>
    intro W hb _
    refine ⟨[], 0, (hI0.turn hSlt.out (fun k hk => hb.block k (by omega)) (hI0.fr.trans (T := fun _ => False) ⟨hb.os, hb.tape, hb.output, hb.size, fun k hk _ => hb.block k hk⟩ (fun _ _ h => h.elim))), hm, ?_⟩
    have e1 : s.l = rowsOf C.ks C.E := HH.out.ls
    rw [e1]; rfl
  case hseq =>
    intro l J Jx W hJI hY hJ0
    refine row1_in 2 (w.heap.size + 1 + 1 + 1 + 1) c C.h l C.ks HH.out.rg.nd J Jx (fun k W hj => ?_) hY W hJ0
    obtain ⟨kept, g, h5, h6⟩ := hJI k W hj
    exact h5.onRow (fun hk => List.eq_nil_of_length_eq_zero (by have := h5.cnt; rw [List.length_drop] at this; omega))
  case assign =>
    intro l k W K hK
    gi_wp2
    exact hK
  case body =>
    rintro l k W hk ⟨kept, g, hS, hg, hres⟩ hM hR
    rw [hsz] at hM hR ⊢
    have kw := hid (KW.out W k hk hS.fr hS.ents)
    have c0 := hS.b0.cell; have c1 := hS.b1.cell; have c2 := hS.b2.cell; have c3 := hS.b3.cell; have f3 := hS.b3.frozen
    have hds := drop_nx (h := C.h) hk
    have HS := hid hS; have HRES := hid hres; have HM := hid hM; have HR := hid hR; have HD := hid hds
    obtain ⟨C', h1, h2, h3, h4, h5⟩ := hS.cp
    rw [hds] at h1 h4
    have hSg : SI w c C s (.func (.func 52) #[] #[.pointer (some ⟨eb, 0, none⟩)]) most kept (nx C.ks C.h k :: C.ks.drop (k + 1)) g W := by rw [← hds]; exact hS
    have HSg := hid hSg
    have hgm : ¬ g = most := by omega
    have hgm2 : ¬ (g : Int) = (most : Int) := by omega
    have hgw : IntKind.i64.wrap ((g : Int) + 1) = ((g + 1 : Nat) : Int) := by rw [IntWalk.i64_in _ ⟨by omega, by omega⟩]; omega
    have e1 : rowsOf (nx C.ks C.h k :: C.ks.drop (k + 1)) C.E = (C.E (nx C.ks C.h k)).row :: rowsOf (C.ks.drop (k + 1)) C.E := rfl
    have HE1 := hid e1
    clear hS hres hM hR hds hSg e1
    cases hp : p (C.E (nx C.ks C.h k)).row
    · rw [hp] at kw
      have hend : Hid (SLoop w c C s (.func (.func 52) #[] #[.pointer (some ⟨eb, 0, none⟩)]) most p (k + 1) W) := by
        obtain ⟨_, sub, b0, b1, b2, b3, b4, fr, cnt⟩ := HSg.out
        refine hid ⟨kept ++ [nx C.ks C.h k], g, ⟨⟨C', ?_, h2, h3, by rw [h4]; simp, h5⟩, fun b hb => sub b (by simpa using hb), b0, b1, b2, b3, b4, fr, by simp at cnt ⊢; omega⟩, hg, ?_⟩
        · rw [List.append_assoc]; exact h1
        · rw [← HRES.out, HD.out, HE1.out, shed_no (by omega) hp, rows_append]; simp [rowsOf]
      clear h1 h2 h3 h4 h5
      gi_wp2_with (refine ⟨trivial, ?_⟩; gi_at_call 52; refine (CallsIn.inRound l (callsIn_wide.2 kw.out)).mono ?_; rintro e w1 ⟨rfl, h0⟩; obtain rfl := h0.symm)
      obtain ⟨r, hr⟩ := HR.out
      exact ⟨⟨rfl, rfl⟩, hend.out⟩
    · rw [hp] at kw
      have kr := hid (remove_cp c (nx C.ks C.h k) kept (C.ks.drop (k + 1)) C' _ W h1 h4)
      have H2 := hid h2; have H3 := hid h3; have H4 := hid h4; have H5 := hid h5
      have hsl := HS.out.sz
      have hin : ∀ k, C'.S c k → k < w.heap.size := fun k hk => hSlt.out k (HSg.out.sub_S h2 h3 h4 hk)
      have HIN := hid hin
      clear h1 h2 h3 h4 h5 hin
      rcases Nat.lt_or_ge (g + 1) most with hlt | hge
      · have hg1 : ¬ g + 1 = most := by omega
        have hg2 : ¬ (g : Int) + 1 = (most : Int) := by omega
        have hg3 : ¬ ((g + 1 : Nat) : Int) = (most : Int) := by omega
        gi_wp2_with (first | (refine ⟨trivial, ?_⟩; gi_at_call 52; refine (CallsIn.inRound l (callsIn_wide.2 kw.out)).mono ?_; rintro e w1 ⟨rfl, h0⟩; obtain rfl := h0.symm) | (refine ⟨trivial, ?_⟩; gi_at_call 55; refine (CallsIn.inRound l (callsIn_wide.2 kr.out)).mono ?_; rintro e w2 ⟨rfl, C2, hcp2, hwn⟩; obtain ⟨d3, d1, g3⟩ := HSg.out.cells hSlt.out H2.out H3.out H4.out hwn; have HC2 := hid hcp2; have HW2 := hid hwn; clear hcp2 hwn))
        refine ⟨HSg.out.two hSlt.out H2.out H3.out H4.out HW2.out HM.out HR.out, kept, g + 1, HSg.out.gone hSlt.out H2.out H3.out H4.out H5.out HC2.out HW2.out, hlt, ?_⟩
        rw [← HRES.out, HD.out, HE1.out, shed_yes (by omega) hp, Nat.sub_sub]
      · have hg1 : g + 1 = most := by omega
        have hg2 : (g : Int) + 1 = (most : Int) := by omega
        have hg3 : ((g + 1 : Nat) : Int) = (most : Int) := by omega
        gi_wp2_with (first | (refine ⟨trivial, ?_⟩; gi_at_call 52; refine (CallsIn.inRound l (callsIn_wide.2 kw.out)).mono ?_; rintro e w1 ⟨rfl, h0⟩; obtain rfl := h0.symm) | (refine ⟨trivial, ?_⟩; gi_at_call 55; refine (CallsIn.inRound l (callsIn_wide.2 kr.out)).mono ?_; rintro e w2 ⟨rfl, C2, hcp2, hwn⟩; obtain ⟨d3, d1, g3⟩ := HSg.out.cells hSlt.out H2.out H3.out H4.out hwn; have HC2 := hid hcp2; have HW2 := hid hwn; clear hcp2 hwn))
        refine ⟨HSg.out.two hSlt.out H2.out H3.out H4.out HW2.out HM.out HR.out, rfl, kept, C.ks.drop (k + 1), g + 1, (by have q := HSg.out.gone hSlt.out H2.out H3.out H4.out H5.out HC2.out HW2.out; rw [show ((g + 1 : Nat) : Int) = (most : Int) by omega] at q; exact q), ?_⟩
        rw [← HRES.out, HD.out, HE1.out, shed_yes (by omega) hp, show most - g - 1 = 0 by omega, shedL_zero, rows_append]
  case done =>
    rintro W ⟨kept, g, hS, hg, hres⟩ hM
    rw [List.drop_length] at hS hres
    have hO : SOut w c C s (.func (.func 52) #[] #[.pointer (some ⟨eb, 0, none⟩)]) most p W := ⟨kept, [], g, hS, by rw [← hres, rows_append, show rowsOf [] C.E = [] from rfl, shedL_nil]⟩
    have c3 := hS.b3.cell
    have HS := hid hS; have HM := hid hM; have HRES := hid hres
    clear hS hM hres hO
    gi_wp2
    refine ⟨by simp, .inl ⟨_, _, rfl, run_takeDeferred HM.out, ?_⟩⟩
    refine ⟨_, results_tmp rfl _ _ _, ?_⟩
    exact shed_end hSlt.out HH.out HS.out (by rw [← HRES.out, rows_append, show rowsOf [] C.E = [] from rfl, shedL_nil]) (by rw [hsz]; exact Nat.le_refl _)
  case stop =>
    rintro x W ⟨rfl, kept, rest, g, hS, hres⟩ hM
    have c3 := hS.b3.cell
    have HS := hid hS; have HM := hid hM; have HRES := hid hres
    clear hS hM hres
    gi_wp2
    refine ⟨by simp, .inl ⟨_, _, rfl, run_takeDeferred HM.out, ?_⟩⟩
    refine ⟨_, results_tmp rfl _ _ _, ?_⟩
    exact shed_end hSlt.out HH.out HS.out HRES.out (by rw [hsz]; exact Nat.le_refl _)

end Go.Proofs.Ytebjjibgkjgpgaa
