/- The document's count of a shape; no statement of the seat is proved here. -/
import Derived.Test.YtjlahomjhadnkaaAl
namespace Go.Proofs.Ytjlahomjhadnkaa
open Go.RowKit Go.Maps

set_option maxRecDepth 100000 in
set_option maxHeartbeats 1000000 in
theorem least_call (a b : Int) (w : World) : Calls Try.prog 93 #[.int .i64 a, .int .i64 b] w fun e w' => e = .returned (.int .i64 (min a b)) ∧ Below w.heap.size w w' := by
  by_cases h : a < b
  · rw [show min a b = a by omega]
    go_enter Try.func93, Try.ntmps93
    go_wp2
    go_ret
    exact ⟨rfl, Below.refl _ _⟩
  · rw [show min a b = b by omega]
    have h' : b ≤ a := by omega
    go_enter Try.func93, Try.ntmps93
    go_wp2
    go_ret
    exact ⟨rfl, Below.refl _ _⟩
set_option maxRecDepth 100000 in
set_option maxHeartbeats 1000000 in
theorem deeper_call (s p : Sh) (d : Nat) (w : World) (hd : d ≤ 1000000) : Calls Try.prog 94 #[.agg #[.int .i64 (s).k, .slice (s).xo (s).xn (s).xc, .slice (s).po (s).pn (s).pc], .agg #[.int .i64 (p).k, .slice (p).xo (p).xn (p).xc, .slice (p).po (p).pn (p).pc], .int .i64 (d : Int)] w fun e w' => e = .returned (.int .i64 (din s.k p.k d : Nat)) ∧ Below w.heap.size w w' := by
  have B1 := hid (Bx.new w s)
  have B2 := hid (Bx.new (w.alloc (.cells #[.int .i64 (s).k, .slice (s).xo (s).xn (s).xc, .slice (s).po (s).pn (s).pc] 45)) p)
  have B3 := hid (B1.out.keep (ext1 (.cells #[.int .i64 (p).k, .slice (p).xo (p).xn (p).xc, .slice (p).po (p).pn (p).pc] 45)))
  obtain ⟨x0, _, _⟩ := B3.out.cells
  obtain ⟨y0, _, _⟩ := B2.out.cells
  rw [World.size_alloc] at y0
  clear B1 B2 B3
  by_cases h3 : s.k = 3
  · by_cases h0 : p.k = 0
    · rw [show din s.k p.k d = d by simp [din, h3, h0]]
      rw [h3, h0] at *
      go_enter Try.func94, Try.ntmps94
      go_wp2
      go_ret
      exact ⟨rfl, gt (ext1 _) (ext1 _)⟩
    · rw [show din s.k p.k d = d + 1 by simp [din, h0]]
      have n1 : (p.k == 0) = false := by simp [h0]
      rw [h3] at *
      clear h0
      go_enter Try.func94, Try.ntmps94
      go_wp2
      go_ret
      exact ⟨by go_num, gt (ext1 _) (ext1 _)⟩
  · rw [show din s.k p.k d = d + 1 by simp [din, h3]]
    have n1 : (s.k == 3) = false := by simp [h3]
    clear h3
    go_enter Try.func94, Try.ntmps94
    go_wp2
    go_ret
    exact ⟨by go_num, gt (ext1 _) (ext1 _)⟩
end Go.Proofs.Ytjlahomjhadnkaa
