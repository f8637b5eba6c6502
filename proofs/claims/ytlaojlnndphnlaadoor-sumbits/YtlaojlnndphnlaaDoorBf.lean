/- What lives returns; no statement of the seat is proved here. -/
import Derived.Test.YtlaojlnndphnlaaDoorBe
import Derived.Lib.SlBytesConst
namespace Go.Proofs.YtlaojlnndphnlaaDoor
open Go.RowKit

theorem nine : addN 0 [49, 50, 51, 52, 53, 54, 55, 56, 57] = 3808858755 := by decide +kernel
theorem none0 : addN 0 [] = 0 := by decide +kernel

/-- A row of bytes that the text lays, as what can be read. -/
theorem rd_lit (w : World) (xs : List Nat) (n : Nat) (C : Array Value) (m : Nat × Nat) (hC : C = (bs xs).toArray) (hn : xs.length = n) : Rd (w.alloc (.cells C 5 m)) (some ⟨w.heap.size, 0, none⟩) n n xs := by
  subst hC
  refine ⟨hn, Nat.le_refl _, fun h => (by cases h), fun _ => ⟨_, _, rfl, fun t ht => ?_⟩⟩
  rw [Nat.zero_add, World.cell?_alloc_mark]
  have := bs_get xs t (by omega)
  simpa using this

set_option maxHeartbeats 400000 in
theorem lives_any (w : World) (hT : Tab w) : Calls Tryd.prog 6 #[] w fun e w' => e = .returned (.bool true) ∧ Below w.heap.size w w' := by
  have kc := fun (w : World) (C : Array Value) (n c : Nat) => Lib.run_convert_bytes_const (P := Tryd.prog) w 22 5 C n c Tryd.underlying22 Tryd.underlying5
  have hb : ∀ o, Below w.heap.size w (w.alloc o) := fun o => Below.alloc (Below.refl _ _) (Nat.le_refl _) o
  have c1 := of_any (some ⟨w.heap.size, 0, none⟩) 9 9 [49, 50, 51, 52, 53, 54, 55, 56, 57] _ (rd_lit w [49, 50, 51, 52, 53, 54, 55, 56, 57] 9 #[.int .u8 49, .int .u8 50, .int .u8 51, .int .u8 52, .int .u8 53, .int .u8 54, .int .u8 55, .int .u8 56, .int .u8 57] (9, 10) rfl rfl) (by decide) (by decide) (hT.keep (hb _))
  have c2 := of_any none 0 0 [] _ (Rd.nil _) (by simp) (by decide) (hT.keep (hb (.cells #[.int .u8 49, .int .u8 50, .int .u8 51, .int .u8 52, .int .u8 53, .int .u8 54, .int .u8 55, .int .u8 56, .int .u8 57] 5 (9, 10))))
  rw [nine] at c1
  rw [none0] at c2
  have c1' := hid c1
  have c2' := hid c2
  clear c1 c2
  have hb' := hid hb
  clear hT hb
  go_enter Tryd.func6, Tryd.ntmps6
  go_wp2_with (first | (go_at_call 7; refine c1'.out.mono ?_; rintro e w1 ⟨rfl, hw1⟩; subst hw1; clear c1') | (go_at_call 7; refine c2'.out.mono ?_; rintro e w1 ⟨rfl, hw1⟩; subst hw1))
  go_ret
  exact ⟨rfl, hb'.out _⟩

end Go.Proofs.YtlaojlnndphnlaaDoor
