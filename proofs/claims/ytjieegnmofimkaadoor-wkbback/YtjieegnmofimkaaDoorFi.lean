/- A shape that a reader reads, however deep it lies; no statement of the seat is proved here. -/
import Derived.Test.YtjieegnmofimkaaDoorFh
namespace Go.Proofs.YtjieegnmofimkaaDoor
open Go.RowKit Go.Maps

theorem order_deep {s : St} {l : Bool} {s1 : St} (h : orderD true s = .ok l s1) : False := by
  unfold orderD at h
  split at h
  · cases h
  · split at h
    · cases h
    · cases h
theorem shape_all (N rb pb qb : Nat) (hz : rb ≠ 0 ∧ pb ≠ 0 ∧ qb ≠ 0) : ∀ (f d : Nat), d + f = 17 → 1 ≤ d → ∀ (want : Int) (W : World) (s : St), RdAt N rb pb qb W s → Tab W →
    (∀ t s', shapeD f want s = .ok t s' → Calls Tryd.prog 31 #[.pointer (some ⟨rb, 0, none⟩), .int .i64 (d : Int), .int .i64 want] W (ShOk N rb pb qb W t s')) ∧
    (∀ e, shapeD f want s = .bad e → Calls Tryd.prog 31 #[.pointer (some ⟨rb, 0, none⟩), .int .i64 (d : Int), .int .i64 want] W (ShBad rb pb qb W e)) := by
  intro f
  induction f with
  | zero =>
    intro d hd h1 want W s h hT
    obtain rfl : d = 17 := by omega
    constructor
    · intro t s' hs
      obtain ⟨l, s1, ho, _⟩ := bind_inv hs
      exact (order_deep ho).elim
    · intro e hs
      rcases bad_inv hs with ho | ⟨l, s1, ho, _⟩
      · exact shape_order h hT hz 17 (by omega) want e ho
      · exact (order_deep ho).elim
  | succ f ih =>
    intro d hd h1 want W s h hT
    have hd16 : decide (16 < d) = false := by simp; omega
    have hn : Deeper N rb pb qb d (shapeD f) := fun k W si hr hT => ih (d + 1) (by omega) (by omega) (partK k) W si hr hT
    constructor
    · intro t s' hs
      obtain ⟨l, s1, ho, hs⟩ := bind_inv hs
      obtain ⟨k, s2, hk, hs⟩ := bind_inv hs
      rw [← hd16] at ho
      have k17 := (Len.kind want l).2 _ _ _ hk
      unfold bodyD at hs
      split at hs
      · rename_i e
        subst e
        obtain ⟨xy, s3, hb, hs⟩ := bind_inv hs
        injection hs with e1 e2
        subst e1 e2
        exact shape_ok1 h hT hz d (by omega) want l s1 s2 s3 ho hk xy hb
      · split at hs
        · rename_i e
          subst e
          obtain ⟨xy, s3, hb, hs⟩ := bind_inv hs
          injection hs with e1 e2
          subst e1 e2
          exact shape_ok2 h hT hz d (by omega) want l s1 s2 s3 ho hk xy hb
        · split at hs
          · rename_i e
            subst e
            obtain ⟨ts, s3, hb, hs⟩ := bind_inv hs
            injection hs with e1 e2
            subst e1 e2
            exact shape_ok3 h hT hz d (by omega) want l s1 s2 s3 ho hk ts hb
          · obtain ⟨ts, s3, hb, hs⟩ := bind_inv hs
            injection hs with e1 e2
            subst e1 e2
            exact shape_okn h hT hz d (by omega) want l s1 s2 s3 k ⟨by assumption, by assumption, by assumption, by omega, by omega⟩ ho hk (shapeD f) hn ts hb
    · intro e hs
      rcases bad_inv hs with ho | ⟨l, s1, ho, hs⟩
      · rw [← hd16] at ho
        exact shape_order h hT hz d (by omega) want e ho
      rw [← hd16] at ho
      rcases bad_inv hs with hk | ⟨k, s2, hk, hs⟩
      · exact shape_kind h hT hz d (by omega) want l s1 e ho hk
      have k17 := (Len.kind want l).2 _ _ _ hk
      unfold bodyD at hs
      split at hs
      · rename_i ek
        subst ek
        rcases bad_inv hs with hb | ⟨xy, s3, _, hs⟩
        · exact shape_bad1 h hT hz d (by omega) want l s1 s2 e ho hk hb
        · cases hs
      · split at hs
        · rename_i ek
          subst ek
          rcases bad_inv hs with hb | ⟨xy, s3, _, hs⟩
          · exact shape_bad2 h hT hz d (by omega) want l s1 s2 e ho hk hb
          · cases hs
        · split at hs
          · rename_i ek
            subst ek
            rcases bad_inv hs with hb | ⟨xy, s3, _, hs⟩
            · exact shape_bad3 h hT hz d (by omega) want l s1 s2 e ho hk hb
            · cases hs
          · rcases bad_inv hs with hb | ⟨xy, s3, _, hs⟩
            · exact shape_badn h hT hz d (by omega) want l s1 s2 e k ⟨by assumption, by assumption, by assumption, by omega, by omega⟩ ho hk (shapeD f) hn hb
            · cases hs
end Go.Proofs.YtjieegnmofimkaaDoor
