/- The law WideTexts returns true and turns nothing that was there, whatever number and string it is called with; the walk alone. -/
import Derived.Test.YtfjepmhlkelinaaRk
import Derived.Test.YtfjepmhlkelinaaRl
namespace Go.Proofs.Ytfjepmhlkelinaa
open Go.RowKit

theorem keep3 {W W' : World} {a m b n c s : Nat} (h : Cells W a m ∧ Cells W b n ∧ Cells W c s) (hb : Below W.heap.size W W') : Cells W' a m ∧ Cells W' b n ∧ Cells W' c s :=
  ⟨h.1.keep hb, h.2.1.keep hb, h.2.2.keep hb⟩

theorem answer_ex (R : Option Nat) : ∃ (K : Nat) (b : Bool), answer R = .tuple #[.agg #[.int .u64 (W0 (K)), .int .u64 (W1 (K)), .int .u64 (W2 (K))], .bool b] := by
  cases R with
  | none => exact ⟨0, false, rfl⟩
  | some n => exact ⟨n, true, rfl⟩

set_option maxHeartbeats 2000000 in
set_option maxRecDepth 100000 in
theorem texts_law (m : Nat) (s : ByteArray) (hm : m < 6277101735386680763835789423207666416102355444464034512896) (w : World) :
    Calls Try.prog 5 #[.agg #[.int .u64 (W0 (m)), .int .u64 (W1 (m)), .int .u64 (W2 (m))], .string s] w fun e w' => e = .returned (.bool true) ∧ Below w.heap.size w w' := by
  obtain ⟨K, b, hK⟩ := answer_ex (parseL s.data.toList)
  have c23 := fun w => parse_any s w
  have c24 := fun w => rparse_any s w
  rw [hK] at c23 c24
  have C23 := hid c23; have C24 := hid c24
  have C25 := hid (fun w => text_of m hm w)
  have C26 := hid (fun w => rtext_any m hm w)
  have U := hid (fun k w => u_any (W0 k) (W1 k) (W2 k) w)
  generalize textN m = T at *
  have q1 := eqU 23 Try.underlying23 (W0 K) (W1 K) (W2 K) (W0 K) (W1 K) (W2 K)
  rw [show (W0 K == W0 K && W1 K == W1 K && W2 K == W2 K) = true by simp] at q1
  clear c23 c24 hK hm
  go_enter Try.func5, Try.ntmps5
  go_wp2_with fail
  have ka := Has.new w m _ 24 rfl
  have kB : Below w.heap.size w (w.alloc (.cells #[.int .u64 (W0 m), .int .u64 (W1 m), .int .u64 (W2 m)] 24)) := (by repeat (first | with_reducible exact Below.refl _ _ | with_reducible assumption | with_reducible refine Below.drew ?_ | with_reducible refine below_drewN ?_ _ | with_reducible refine Below.alloc ?_ (by simp <;> omega) _ | with_reducible refine Below.setCell ?_ (by simp <;> omega) _))
  generalize w.alloc (.cells #[.int .u64 (W0 m), .int .u64 (W1 m), .int .u64 (W2 m)] 24) = X0 at *
  refine (C23.out _).mono ?_; rintro e w1 ⟨rfl, hb1⟩
  replace ka := ka.grown hb1
  replace kB := gt kB hb1
  clear hb1
  have KA := hid ka; have GB := hid kB
  clear ka kB
  go_wp2_with fail
  have ka := KA.out.alloc (.cells #[.int .u64 (W0 K), .int .u64 (W1 K), .int .u64 (W2 K)] 24)
  have kx := Has.new w1 K _ 24 rfl
  have kB := grownAlloc GB.out (.cells #[.int .u64 (W0 K), .int .u64 (W1 K), .int .u64 (W2 K)] 24)
  generalize w1.alloc (.cells #[.int .u64 (W0 K), .int .u64 (W1 K), .int .u64 (W2 K)] 24) = X1 at *
  generalize w1.heap.size = p5 at *
  clear KA GB
  refine (C24.out _).mono ?_; rintro e w2 ⟨rfl, hb2⟩
  replace ka := ka.grown hb2
  replace kx := kx.grown hb2
  replace kB := gt kB hb2
  clear hb2
  have KA := hid ka; have KX := hid kx; have GB := hid kB
  clear ka kx kB
  go_wp2_with fail
  have ka := KA.out.alloc (.cells #[.int .u64 (W0 K), .int .u64 (W1 K), .int .u64 (W2 K)] 23)
  have kx := KX.out.alloc (.cells #[.int .u64 (W0 K), .int .u64 (W1 K), .int .u64 (W2 K)] 23)
  have ky := Has.new w2 K _ 23 rfl
  have kB := grownAlloc GB.out (.cells #[.int .u64 (W0 K), .int .u64 (W1 K), .int .u64 (W2 K)] 23)
  generalize w2.alloc (.cells #[.int .u64 (W0 K), .int .u64 (W1 K), .int .u64 (W2 K)] 23) = X2 at *
  generalize w2.heap.size = p7 at *
  clear KA KX GB
  have C := hid (show Cells X2 w.heap.size m ∧ Cells X2 p5 K ∧ Cells X2 p7 K from ⟨cellsOf ka, cellsOf kx, cellsOf ky⟩)
  have GB := hid kB.drew
  have i1 : Below X2.heap.size X2 X2.drew := (Below.refl _ _).drew
  clear ka kx ky kB
  go_region_held3 (fun W => Cells W w.heap.size m ∧ Cells W p5 K ∧ Cells W p7 K) (first | with_reducible exact keep3 C.out i1 | with_reducible exact keep3 (by assumption) hb) (first | (go_at_call 25; refine (C25.out _).mono ?_; rintro e wn ⟨rfl, hb⟩; replace GB := hid (gt GB.out hb)) | (go_at_call 26; refine (C26.out _).mono ?_; rintro e wn ⟨rfl, hb⟩; replace GB := hid (gt GB.out hb)) | (go_at_call_of 10 m; refine (U.out m _).mono ?_; rintro e wn ⟨rfl, hb⟩; replace GB := hid (gt GB.out hb)) | (go_at_call_of 10 K; refine (U.out K _).mono ?_; rintro e wn ⟨rfl, hb⟩; replace GB := hid (gt GB.out hb)) | (go_at_call 17; refine (lives_any _).mono ?_; rintro e wn ⟨rfl, hb⟩; replace GB := hid (gt GB.out hb)))
  go_wp2
  go_ret
  exact ⟨rfl, GB.out⟩

end Go.Proofs.Ytfjepmhlkelinaa
