/- What the box of points is; no statement of the seat is proved here. -/
import Derived.Test.YtjlahomjhadnkaaCe
import Derived.Test.YtjlahomjhadnkaaCf
namespace Go.Proofs.Ytjlahomjhadnkaa
open Go.RowKit Go.Maps

/-- What a box of points that went by is. -/
def BoxIs (r : Rect) (l : List (Int × Int)) : Prop := (l = [] ∧ r = noR) ∨ (r.n = false ∧ (∀ p ∈ l, r.lx ≤ p.1 ∧ p.1 ≤ r.hx ∧ r.ly ≤ p.2 ∧ p.2 ≤ r.hy) ∧ (∃ p ∈ l, p.1 = r.lx) ∧ (∃ p ∈ l, p.2 = r.ly) ∧ (∃ p ∈ l, p.1 = r.hx) ∧ ∃ p ∈ l, p.2 = r.hy)
theorem pt_good (p : Int × Int) : orR (ptR p) = ptR p := or_of (by simp [goodR, ptR])
theorem BoxIs.step {r : Rect} {l : List (Int × Int)} (h : BoxIs r l) (p : Int × Int) : BoxIs (uniR r (ptR p)) (l ++ [p]) := by
  rcases h with ⟨rfl, rfl⟩ | ⟨hn, ha, ⟨a, ma, ea⟩, ⟨b, mb, eb⟩, ⟨c, mc, ec⟩, d, md, ed⟩
  · refine .inr ?_
    rw [show uniR noR (ptR p) = ptR p by rw [uni_v, or_of good_no, pt_good]; rfl]
    exact ⟨rfl, fun q hq => by simp at hq; subst hq; simp [ptR], ⟨p, by simp, rfl⟩, ⟨p, by simp, rfl⟩, ⟨p, by simp, rfl⟩, p, by simp, rfl⟩
  · have hg : orR r = r := or_of (by
      have h1 := ha a ma
      have h2 := ha b mb
      unfold goodR
      rw [if_neg (by rw [hn]; decide)]
      simp
      omega)
    rw [show uniR r (ptR p) = ⟨false, min r.lx p.1, min r.ly p.2, max r.hx p.1, max r.hy p.2⟩ by
      rw [uni_has (by rw [hg]; exact hn) (by rw [pt_good]; rfl), hg, pt_good]; rfl]
    refine .inr ⟨rfl, fun q hq => ?_, ?_, ?_, ?_, ?_⟩
    · rcases List.mem_append.1 hq with hq | hq
      · have := ha q hq
        simp only
        omega
      · simp at hq
        subst hq
        simp only
        omega
    · by_cases hc : r.lx ≤ p.1
      · exact ⟨a, by simp [ma], by simp only; omega⟩
      · exact ⟨p, by simp, by simp only; omega⟩
    · by_cases hc : r.ly ≤ p.2
      · exact ⟨b, by simp [mb], by simp only; omega⟩
      · exact ⟨p, by simp, by simp only; omega⟩
    · by_cases hc : p.1 ≤ r.hx
      · exact ⟨c, by simp [mc], by simp only; omega⟩
      · exact ⟨p, by simp, by simp only; omega⟩
    · by_cases hc : p.2 ≤ r.hy
      · exact ⟨d, by simp [md], by simp only; omega⟩
      · exact ⟨p, by simp, by simp only; omega⟩
theorem boxIs_fold (l : List (Int × Int)) : ∀ (r : Rect) (s : List (Int × Int)), BoxIs r s → BoxIs (l.foldl (fun r p => uniR r (ptR p)) r) (s ++ l) := by
  induction l with
  | nil => intro r s h; simpa using h
  | cons p t ih =>
    intro r s h
    have := ih _ _ (h.step p)
    simpa using this
theorem boxL_is (l : List (Int × Int)) : BoxIs (boxL l) l := by
  have := boxIs_fold l noR [] (.inl ⟨rfl, rfl⟩)
  rw [List.nil_append] at this
  exact this
theorem boxL_has (l : List (Int × Int)) (h : l ≠ []) : (boxL l).n = false ∧ (∀ p ∈ l, (boxL l).lx ≤ p.1 ∧ p.1 ≤ (boxL l).hx ∧ (boxL l).ly ≤ p.2 ∧ p.2 ≤ (boxL l).hy) ∧ (∃ p ∈ l, p.1 = (boxL l).lx) ∧ (∃ p ∈ l, p.2 = (boxL l).ly) ∧ (∃ p ∈ l, p.1 = (boxL l).hx) ∧ ∃ p ∈ l, p.2 = (boxL l).hy := by
  rcases boxL_is l with h1 | h1
  · exact absurd h1.1 h
  · exact h1
theorem boxL_nil : boxL [] = noR := rfl
theorem meets_pt (l : List (Int × Int)) (p : Int × Int) (h : p ∈ l) : meetsR (boxL l) (ptR p) = true := by
  obtain ⟨hn, ha, _⟩ := boxL_has l (fun e => by rw [e] at h; cases h)
  have := ha p h
  generalize boxL l = r at *
  obtain ⟨n, a, b, c, d⟩ := r
  simp only at hn this
  subst hn
  simp [meetsR, ptR, goodR]
  refine ⟨?_, ?_⟩ <;> refine decide_eq_true ?_ <;> omega
end Go.Proofs.Ytjlahomjhadnkaa
