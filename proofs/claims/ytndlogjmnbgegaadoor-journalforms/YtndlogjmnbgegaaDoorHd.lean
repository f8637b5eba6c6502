/- What Same returns of the same records; no statement of the seat is proved here. -/
import Derived.Test.YtndlogjmnbgegaaDoorHc
namespace Go.Proofs.YtndlogjmnbgegaaDoor
open Go.RowKit

/-- What one round of Same reads. -/
abbrev SS (x0 x1 y0 y1 : Addr) (p : Int) (a : Option Addr) (n c : Nat) (a' : Option Addr) (n' c' : Nat) (s : ByteArray) (W : World) : Prop :=
  W.cell? x0 = some (.int .i64 p) ∧ W.cell? x1 = some (.slice a n c) ∧ W.cell? y0 = some (.int .i64 p) ∧ W.cell? y1 = some (.slice a' n' c') ∧ (convert 30 9 (.slice a n c)).run Tryd.prog W = .ok (.string s) W ∧ (convert 30 9 (.slice a' n' c')).run Tryd.prog W = .ok (.string s) W

set_option maxHeartbeats 4000000 in
theorem same_any (ao bo : Option Addr) (L ca cb : Nat) (P : Nat → Int) (D : Nat → List Nat) (w : World) (h : Recs w ao L P D) (k : Recs w bo L P D) (hL : L ≤ 100000) :
    Calls Tryd.prog 25 #[.slice ao L ca, .slice bo L cb] w fun e w' => e = .returned (.bool true) ∧ Below w.heap.size w w' := by
  have h' := hid h
  have k' := hid k
  clear h k
  go_enter Tryd.func25, Tryd.ntmps25
  go_wp2
  go_loopw [13] (fun cc W => ∃ (i : Nat), i ≤ L ∧ cc = .int .i64 (i : Int) ∧ Hid (Below w.heap.size w W)) (fun cc _ => L - (intOf cc).toNat)
  case atStart => exact ⟨0, by omega, rfl, hid (Below.refl _ _)⟩
  case round =>
    obtain ⟨i, hi, rfl, B⟩ := hrel
    by_cases hiL : i < L
    · obtain ⟨b0, o0, rfl, hc⟩ := h'.out (by omega)
      obtain ⟨b1, o1, rfl, kc⟩ := k'.out (by omega)
      obtain ⟨a, n, c, h0, h1, hr⟩ := hc i hiL
      obtain ⟨a', n', c', k0, k1, kr⟩ := kc i hiL
      obtain ⟨p, hp⟩ : ∃ p, p = P i := ⟨_, rfl⟩
      obtain ⟨s, hs⟩ : ∃ s, s = str (D i) := ⟨_, rfl⟩
      rw [← hp] at h0 k0
      have S0 : SS ⟨b0, o0 + i * 2, none⟩ ⟨b0, o0 + i * 2 + 1, none⟩ ⟨b1, o1 + i * 2, none⟩ ⟨b1, o1 + i * 2 + 1, none⟩ p a n c a' n' c' s wr.drew :=
        ⟨keep_old B.out.drew h0, keep_old B.out.drew h1, keep_old B.out.drew k0, keep_old B.out.drew k1, by rw [hs]; exact conv_str (hr.keep B.out.drew), by rw [hs]; exact conv_str (kr.keep B.out.drew)⟩
      clear h0 h1 hr k0 k1 kr hc kc hp hs
      go_upto_region 6 with fail
      go_region_held3 (SS ⟨b0, o0 + i * 2, none⟩ ⟨b0, o0 + i * 2 + 1, none⟩ ⟨b1, o1 + i * 2, none⟩ ⟨b1, o1 + i * 2 + 1, none⟩ p a n c a' n' c' s) (with_reducible assumption) (fail)
      go_wp2
      exact ⟨⟨i + 1, by omega, by go_num, hid B.out.drew⟩, by simp [intOf]; omega⟩
    · obtain rfl : i = L := by omega
      go_wp2
      go_ret
      exact ⟨rfl, B.out⟩

end Go.Proofs.YtndlogjmnbgegaaDoor
