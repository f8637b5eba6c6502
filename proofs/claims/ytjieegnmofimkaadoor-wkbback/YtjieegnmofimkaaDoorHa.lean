/- What Decode and Read say of bytes that were written, cut, or lengthened, and of collections in one another; no statement of the seat is proved here. -/
import Derived.Test.YtjieegnmofimkaaDoorGa
import Derived.Test.YtjieegnmofimkaaDoorEh
namespace Go.Proofs.YtjieegnmofimkaaDoor
open Go.RowKit Go.Maps

theorem d0_more {S : Nat → Prop} {w : World} {s : Sh} (h : In S w s) (hr : Rg s) (hc : checkN s = 0) (l : Bool) (more : List Nat) : ∃ P Q, D0 (bytesI l (s.t.items l) ++ more) = .ok s.t ⟨more, P, Q⟩ := by
  obtain ⟨g, h1, h2, -, -⟩ := good16 h hr hc
  have D := (dec_shape 16 s.t l (-1) g (.inl rfl) 4000 1000 h1 h2).1 more
  unfold D0
  rw [D, bind_ok, if_pos (by rw [← chk_eq h]; exact hc)]
  exact ⟨_, _, rfl⟩
theorem d0_cut {S : Nat → Prop} {w : World} {s : Sh} (h : In S w s) (hr : Rg s) (hc : checkN s = 0) (l : Bool) (j : Nat) (hj : j < (bytesI l (s.t.items l)).length) : D0 ((bytesI l (s.t.items l)).take j) = .bad 8 := by
  obtain ⟨g, h1, h2, -, -⟩ := good16 h hr hc
  have D := (dec_shape 16 s.t l (-1) g (.inl rfl) 4000 1000 h1 h2).2 ((bytesI l (s.t.items l)).take j) _ _ (by
    rw [← List.drop_eq_getElem_cons hj, List.take_append_drop])
  unfold D0
  rw [D]; rfl
theorem r0_more {S : Nat → Prop} {w : World} {s : Sh} (h : In S w s) (hr : Rg s) (hc : checkN s = 0) (l : Bool) (x : Nat) : R0 (bytesI l (s.t.items l) ++ [x]) = .bad 9 := by
  obtain ⟨P, Q, e⟩ := d0_more h hr hc l [x]
  unfold R0
  rw [e, bind_ok, if_neg (by simp)]
theorem r0_len {xs : List Nat} {t : T} {s1 : St} (h : R0 xs = .ok t s1) (l : Bool) : sizeI (t.items l) = xs.length ∧ chk t = 0 := by
  obtain ⟨t', s', h1, h⟩ := bind_inv h
  split at h
  · rename_i h0
    injection h with e1 e2
    subst e1 e2
    obtain ⟨t2, s2, h2, h1⟩ := bind_inv h1
    split at h1
    · rename_i hc
      injection h1 with e1 e2
      subst e1 e2
      have := shapeD_len l 16 (-1) _ _ _ h2
      simp only at this
      exact ⟨by omega, hc⟩
    · cases h1
  · cases h

/-- A collection's head with one part, and without. -/
def blk (l : Bool) : List Nat := if l then [1, 7, 0, 0, 0, 1, 0, 0, 0] else [0, 0, 0, 0, 7, 0, 0, 0, 1]
def lst (l : Bool) : List Nat := if l then [1, 7, 0, 0, 0, 0, 0, 0, 0] else [0, 0, 0, 0, 7, 0, 0, 0, 0]
def rep (l : Bool) (n : Nat) : List Nat := (List.replicate n (blk l)).flatten
theorem rep_len (l : Bool) (n : Nat) : (rep l n).length = 9 * n := by
  induction n with
  | zero => rfl
  | succ n ih =>
    unfold rep at *
    rw [List.replicate_succ, List.flatten_cons, List.length_append, ih]
    cases l <;> simp [blk] <;> omega
theorem rep_snoc (l : Bool) (n : Nat) : rep l (n + 1) = rep l n ++ blk l := by
  unfold rep
  rw [List.replicate_succ', List.flatten_append]; simp
theorem nest_bytes (l : Bool) (n : Nat) : bytesI l ((nest n).items l) = rep l n ++ lst l := by
  induction n with
  | zero => rw [nest_items]; cases l <;> decide
  | succ n ih =>
    rw [nest_items]
    simp only [Nat.add_sub_cancel, if_neg (Nat.succ_ne_zero n)]
    rw [bytesI_append, ih]
    have : rep l (n + 1) = blk l ++ rep l n := by unfold rep; rw [List.replicate_succ, List.flatten_cons]
    rw [this, List.append_assoc]
    congr 1
    cases l <;> decide
theorem rep_set (l : Bool) (n : Nat) : (rep l (n + 1)).set (9 * (n + 1) - (if l then 4 else 1)) 0 = bytesI l ((nest n).items l) := by
  rw [nest_bytes, rep_snoc, List.set_append_right _ _ (by rw [rep_len]; split <;> omega), rep_len]
  congr 1
  cases l
  · rw [if_neg (by decide), show 9 * (n + 1) - 1 - 9 * n = 8 by omega]; rfl
  · rw [if_pos rfl, show 9 * (n + 1) - 4 - 9 * n = 5 by omega]; rfl
theorem r0_nest (l : Bool) (n : Nat) (hn : n ≤ 15) : ∃ t s1, R0 (bytesI l ((nest n).items l)) = .ok t s1 := by
  have g := nest_good 15 n hn
  obtain ⟨h1, h2⟩ := nest_count n
  have D := (dec_shape 16 (nest n) l (-1) g (.inl rfl) 4000 1000 (by omega) (by omega)).1 []
  rw [List.append_nil] at D
  have hc : chk (nest n) = 0 := nest_chk ⟨n, by omega⟩
  unfold R0 D0
  rw [D, bind_ok, if_pos hc, bind_ok]
  exact ⟨_, _, if_pos rfl⟩
theorem r0_deep (l : Bool) (n : Nat) (hn : 16 ≤ n) : R0 (bytesI l ((nest n).items l)) = .bad 10 := by
  unfold R0 D0
  rw [deep_bad l 16 n 4000 1000 hn (by omega)]; rfl
theorem rep_bytes (l : Bool) (n : Nat) : ∀ x ∈ rep l n, x < 256 := by
  intro x hx
  unfold rep at hx
  obtain ⟨y, hy, hxy⟩ := List.mem_flatten.1 hx
  obtain ⟨_, rfl⟩ := List.mem_replicate.1 hy
  cases l <;> simp [blk] at hxy <;> omega

/-- A box of bytes can be read. -/
theorem rd_box {w : World} {b : Nat} (xs : List Nat) (h : Bo w b (bs xs).toArray 5) : Rd w (some ⟨b, 0, none⟩) xs.length xs.length xs := by
  refine ⟨rfl, Nat.le_refl _, (fun h => by cases h), fun _ => ⟨b, 0, rfl, fun t ht => ?_⟩⟩
  rw [Nat.zero_add]
  exact h.cell t _ (by rw [List.getElem?_toArray]; exact bs_get xs t ht)
theorem row_set {w : World} {B g n cap : Nat} {xs : List Nat} (h : w.ownsRow B 5 1 (.slice (some ⟨g, 0, none⟩) n cap) n (bs xs)) (j v : Nat) (hj : j < n) :
    (∃ u, w.cell? ⟨g, j, none⟩ = some u) ∧ w.frozen? ⟨g, j, none⟩ = false ∧ Rd (w.setCell ⟨g, j, none⟩ (.int .u8 (v : Int))) (some ⟨g, 0, none⟩) n cap (xs.set j v) := by
  have hr := rd_own h
  have hl : xs.length = n := hr.1
  obtain ⟨b, off, e, hc⟩ := hr.2.2.2 (by omega)
  simp only [Option.some.injEq, Addr.mk.injEq, and_true] at e
  obtain ⟨rfl, rfl⟩ := e
  simp only [Nat.zero_add] at hc
  rcases h.2 with ⟨h1, _⟩ | ⟨g', cap', cur, h1, hb, hg, hnc, hm, hz, ht⟩
  · cases h1
  · simp only [Value.slice.injEq, Option.some.injEq, Addr.mk.injEq, and_true, true_and] at h1
    obtain ⟨rfl, rfl⟩ := h1
    refine ⟨⟨_, hc j hj⟩, by simp [World.frozen?, hg], by simp [hl], hr.2.1, (fun h => by cases h), fun _ => ⟨g, 0, rfl, fun t ht => ?_⟩⟩
    have B : Bo w g cur 5 := hg
    rw [Nat.zero_add]
    by_cases htj : t = j
    · subst htj
      have hlt : t < cur.size := by
        have := hc t hj
        unfold Bo at B
        simp [World.cell?, B] at this
        exact (Array.getElem?_eq_some_iff.1 this).1
      refine (B.set t _).cell t _ ?_
      simp [List.getD, hlt, hl, hj]
    · have h2 := hc t ht
      unfold Bo at B
      have B2 := Bo.set (show Bo w g cur 5 from B) j (.int .u8 (v : Int))
      refine B2.cell t _ ?_
      rw [Array.getElem?_setIfInBounds_ne (Ne.symm htj)]
      simp [World.cell?, B] at h2
      rw [h2]
      simp [List.getD, List.getElem?_set_ne (Ne.symm htj)]
end Go.Proofs.YtjieegnmofimkaaDoor
