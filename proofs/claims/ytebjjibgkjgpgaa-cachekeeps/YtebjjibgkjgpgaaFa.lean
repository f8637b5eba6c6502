/- Bytes of a page; are two rows of numbers the same; no statement of the seat is proved here. -/
import Derived.Test.YtebjjibgkjgpgaaEe
import Derived.Deep.LoopGhost
namespace Go.Proofs.Ytebjjibgkjgpgaa
open Go.RowKit Go.Maps

/-- A row of numbers that can be read. -/
def RdI (w : World) (ao : Option Addr) (n : Nat) (l : List Int) : Prop :=
  l.length = n ∧ (0 < n → ∃ b off, ao = some ⟨b, off, none⟩ ∧ ∀ t, t < n → w.cell? ⟨b, off + t, none⟩ = some (.int .i64 (l.getD t 0)))
theorem RdI.keep {w w' : World} {ao : Option Addr} {n : Nat} {l : List Int} (h : RdI w ao n l) (hb : Below w.heap.size w w') : RdI w' ao n l :=
  ⟨h.1, fun hn => by obtain ⟨b, off, e, hc⟩ := h.2 hn; exact ⟨b, off, e, fun t ht => keep_old hb (hc t ht)⟩⟩
theorem rdI_own {w : World} {B n cap : Nat} {ao : Option Addr} {l : List Int} (h : w.ownsRow B 3 1 (.slice ao n cap) n (ints l)) : RdI w ao n l := by
  have hl : l.length = n := by have := h.1; simpa [ints] using this
  refine ⟨hl, fun hn => ?_⟩
  rcases h.2 with ⟨hv, hz⟩ | ⟨g, cap', cur, hv, _⟩
  · omega
  · simp only [Value.slice.injEq] at hv
    obtain ⟨rfl, _, rfl⟩ := hv
    refine ⟨g, 0, rfl, fun t ht => ?_⟩
    rw [Nat.zero_add, h.cellAt t (by omega)]
    simp [ints, List.getD, List.getElem?_eq_getElem (show t < l.length by omega)]

set_option maxRecDepth 20000 in
set_option maxHeartbeats 1000000 in
theorem ints_any (a1 a2 : Option Addr) (n1 n2 c1 c2 : Nat) (l1 l2 : List Int) (w : World) (h1 : RdI w a1 n1 l1) (h2 : RdI w a2 n2 l2) (hn : n1 ≤ 1000000) (hc1 : n1 ≤ c1) (hc2 : n2 ≤ c2) :
    Calls Try.prog 30 #[.slice a1 n1 c1, .slice a2 n2 c2] w fun e w' => e = .returned (.bool (decide (l1 = l2))) ∧ Below w.heap.size w w' := by
  rcases Nat.lt_or_ge n1 n2 with hlt | hge
  · have e1 : decide (l1 = l2) = false := by simp; intro h; rw [h] at h1; have := h1.1; have := h2.1; omega
    have q1 : ¬ n1 = n2 := by omega
    have q2 : ¬ (n1 : Int) = (n2 : Int) := by omega
    rw [e1]
    clear h1 h2 e1
    go_enter Try.func30, Try.ntmps30
    go_wp2
    go_ret
    exact ⟨rfl, Below.refl _ _⟩
  rcases Nat.lt_or_ge n2 n1 with hlt | hge2
  · have e1 : decide (l1 = l2) = false := by simp; intro h; rw [h] at h1; have := h1.1; have := h2.1; omega
    have q1 : ¬ n1 = n2 := by omega
    have q2 : ¬ (n1 : Int) = (n2 : Int) := by omega
    rw [e1]
    clear h1 h2 e1
    go_enter Try.func30, Try.ntmps30
    go_wp2
    go_ret
    exact ⟨rfl, Below.refl _ _⟩
  obtain rfl : n1 = n2 := by omega
  have H1 := hid h1; have H2 := hid h2
  clear h1 h2 hge hge2
  go_enter Try.func30, Try.ntmps30
  go_wp2
  go_loopg [13] n1 (fun k c W => ∃ i : Nat, i + k = n1 ∧ c = .int .i64 (i : Int) ∧ Hid (Below w.heap.size w W) ∧ Hid (l1.take i = l2.take i))
  case atStart => exact ⟨0, by omega, rfl, hid (Below.refl _ _), hid rfl⟩
  case round =>
    obtain ⟨i, hik, rfl, HB, HE⟩ := hrel
    by_cases hi : i < n1
    · obtain ⟨b1, o1, rfl, x1⟩ := (H1.out.keep HB.out).2 (by omega)
      obtain ⟨b2, o2, rfl, x2⟩ := (H2.out.keep HB.out).2 (by omega)
      have y1 := x1 i hi; have y2 := x2 i hi
      have hi1 : (i : Int) < (n1 : Int) := by omega
      have hl1 := H1.out.1; have hl2 := H2.out.1
      clear x1 x2
      by_cases heq : l1.getD i 0 = l2.getD i 0
      · rw [← heq] at y2
        obtain ⟨v, hv⟩ : ∃ v, v = l1.getD i 0 := ⟨_, rfl⟩
        rw [← hv] at y1 y2
        have HEQ := hid heq
        clear heq hv
        go_wp2
        go_region
        go_wp2
        go_roundg (gk - 1)
        case measure => omega
        case rel =>
          refine ⟨i + 1, by omega, by simp, hid (gt HB.out ((Below.refl _ _).drew)), hid ?_⟩
          have e1 := HEQ.out
          simp only [List.getD, List.getElem?_eq_getElem (show i < l1.length by omega), List.getElem?_eq_getElem (show i < l2.length by omega), Option.getD_some] at e1
          rw [List.take_add_one, List.take_add_one, HE.out, List.getElem?_eq_getElem (show i < l1.length by omega), List.getElem?_eq_getElem (show i < l2.length by omega), e1]
      · have e1 : decide (l1 = l2) = false := by simp; intro h; exact heq (by rw [h])
        have E1 := hid e1
        obtain ⟨u, hu⟩ : ∃ u, u = l1.getD i 0 := ⟨_, rfl⟩
        obtain ⟨v, hv⟩ : ∃ v, v = l2.getD i 0 := ⟨_, rfl⟩
        rw [← hu, ← hv] at heq
        rw [← hu] at y1; rw [← hv] at y2
        clear hu hv e1
        go_wp2
        go_region
        go_wp2
        go_ret
        exact ⟨by rw [E1.out]; rfl, gt HB.out ((Below.refl _ _).drew)⟩
    · obtain rfl : i = n1 := by omega
      have e1 : decide (l1 = l2) = true := by
        have e2 := HE.out
        rw [List.take_of_length_le (by have := H1.out.1; omega), List.take_of_length_le (by have := H2.out.1; omega)] at e2
        simp [e2]
      have E1 := hid e1
      clear e1
      have hi1 : ¬ (i : Int) < (i : Int) := by omega
      go_wp2
      go_ret
      exact ⟨by rw [E1.out]; rfl, HB.out⟩

end Go.Proofs.Ytebjjibgkjgpgaa
