/- The law SumOf returns true and turns nothing that was there, whatever it is called with; the walk alone. -/
import Derived.Test.YtlaojlnndphnlaaDoorBf
namespace Go.Proofs.YtlaojlnndphnlaaDoor
open Go.RowKit

set_option maxHeartbeats 400000 in
theorem sumof_long (ao : Option Addr) (an ac : Nat) (bo : Option Addr) (bn bc : Nat) (s : Int) (w : World) (hT : Tab w) (h : 2000 < an ∨ 2000 < bn) :
    Calls Tryd.prog 3 #[.slice ao an ac, .slice bo bn bc, .int .u32 s] w fun e w' => e = .returned (.bool true) ∧ Below w.heap.size w w' := by
  have lv := hid (lives_any w hT)
  clear hT
  by_cases ha : (2000 : Int) < (an : Int)
  · clear h
    go_enter Tryd.func3, Tryd.ntmps3
    go_wp2_with (go_at_call 6; refine lv.out.mono ?_; rintro e w1 ⟨rfl, hb1⟩)
    go_ret
    exact ⟨rfl, hb1⟩
  · have hb : (2000 : Int) < (bn : Int) := by omega
    clear h
    go_enter Tryd.func3, Tryd.ntmps3
    go_wp2_with (go_at_call 6; refine lv.out.mono ?_; rintro e w1 ⟨rfl, hb1⟩)
    go_ret
    exact ⟨rfl, hb1⟩

set_option maxHeartbeats 1000000 in
theorem sumof_law (ao : Option Addr) (an ac : Nat) (al : List Nat) (bo : Option Addr) (bn bc : Nat) (bl : List Nat) (s : Nat) (w : World) (hT : Tab w) (ha : Rd w ao an ac al) (hax : ∀ x ∈ al, x < 256) (hb : Rd w bo bn bc bl) (hbx : ∀ x ∈ bl, x < 256) (hs : s < 4294967296)
    (han : an ≤ 2000) (hbn : bn ≤ 2000) :
    Calls Tryd.prog 3 #[.slice ao an ac, .slice bo bn bc, .int .u32 (s : Int)] w fun e w' => e = .returned (.bool true) ∧ Below w.heap.size w w' := by
  have lv := hid (lives_any w hT)
  have c7a := of_any ao an ac al w ha hax (by omega) hT
  have c7b := of_any bo bn bc bl w hb hbx (by omega) hT
  have c8 := rof_any ao an ac al w ha hax (by omega)
  have c9 := add_any s bo bn bc bl w hs hb hbx (by omega) hT
  have c10 := radd_any s bo bn bc bl w hs hb hbx (by omega)
  have hX := addN_lt (show 0 < 4294967296 by decide) hax
  have hY := addN_lt (show 0 < 4294967296 by decide) hbx
  have c11 := join_nat (addN 0 al) (addN 0 bl) bn hX hY (by omega) w
  have c12 := rjoin_any (addN 0 al) bo bn bc bl w hX hb hbx (by omega)
  rw [addN_join (addN 0 al) bl, hb.1] at c12
  generalize joinN (addN 0 al) (addN 0 bl) bn = J at *
  generalize addN 0 al = X at *
  generalize addN 0 bl = Y at *
  generalize addN s bl = Z at *
  have c7a' := hid c7a
  have c7b' := hid c7b
  have c8' := hid c8
  have c9' := hid c9
  have c10' := hid c10
  have c11' := hid c11
  have c12' := hid c12
  clear c7a c7b c8 c9 c10 c11 c12 hT ha hax hb hbx
  go_enter Tryd.func3, Tryd.ntmps3
  go_wp2_with (first | (go_at_call 7; refine c7a'.out.mono ?_; rintro e w1 ⟨rfl, hw1⟩; obtain rfl := hw1.symm; clear c7a') | (go_at_call 7; refine c7b'.out.mono ?_; rintro e w1 ⟨rfl, hw1⟩; obtain rfl := hw1.symm) | (go_at_call 8; refine c8'.out.mono ?_; rintro e w1 ⟨rfl, hw1⟩; obtain rfl := hw1.symm) | (go_at_call 9; refine c9'.out.mono ?_; rintro e w1 ⟨rfl, hw1⟩; obtain rfl := hw1.symm) | (go_at_call 10; refine c10'.out.mono ?_; rintro e w1 ⟨rfl, hw1⟩; obtain rfl := hw1.symm) | (go_at_call 11; refine c11'.out.mono ?_; rintro e w1 ⟨rfl, hw1⟩; obtain rfl := hw1.symm) | (go_at_call 12; refine c12'.out.mono ?_; rintro e w1 ⟨rfl, hw1⟩; obtain rfl := hw1.symm) | (go_at_call 6; refine lv.out.mono ?_; rintro e w1 ⟨rfl, hb1⟩))
  go_ret
  exact ⟨rfl, hb1⟩

end Go.Proofs.YtlaojlnndphnlaaDoor
