/- The law SumPieces returns true and turns nothing that was there, whatever it is called with; the walk alone. -/
import Derived.Test.YtlaojlnndphnlaaDoorBf
namespace Go.Proofs.YtlaojlnndphnlaaDoor
open Go.RowKit

set_option maxHeartbeats 400000 in
theorem pieces_long (ao : Option Addr) (an ac : Nat) (bo : Option Addr) (bn bc : Nat) (co : Option Addr) (cn cc : Nat) (w : World) (hT : Tab w) (h : 1000 < an ∨ 1000 < bn ∨ 1000 < cn) :
    Calls Tryd.prog 4 #[.slice ao an ac, .slice bo bn bc, .slice co cn cc] w fun e w' => e = .returned (.bool true) ∧ Below w.heap.size w w' := by
  have lv := hid (lives_any w hT)
  clear hT
  by_cases ha : (1000 : Int) < (an : Int)
  · clear h
    go_enter Tryd.func4, Tryd.ntmps4
    go_wp2_with (go_at_call 6; refine lv.out.mono ?_; rintro e w1 ⟨rfl, hb1⟩)
    go_ret
    exact ⟨rfl, hb1⟩
  · by_cases hb : (1000 : Int) < (bn : Int)
    · clear h
      go_enter Tryd.func4, Tryd.ntmps4
      go_wp2_with (go_at_call 6; refine lv.out.mono ?_; rintro e w1 ⟨rfl, hb1⟩)
      go_ret
      exact ⟨rfl, hb1⟩
    · have hc : (1000 : Int) < (cn : Int) := by omega
      clear h
      go_enter Tryd.func4, Tryd.ntmps4
      go_wp2_with (go_at_call 6; refine lv.out.mono ?_; rintro e w1 ⟨rfl, hb1⟩)
      go_ret
      exact ⟨rfl, hb1⟩

set_option maxHeartbeats 1000000 in
theorem pieces_law (ao : Option Addr) (an ac : Nat) (al : List Nat) (bo : Option Addr) (bn bc : Nat) (bl : List Nat) (co : Option Addr) (cn cc : Nat) (cl : List Nat) (w : World) (hT : Tab w)
    (ha : Rd w ao an ac al) (hax : ∀ x ∈ al, x < 256) (hb : Rd w bo bn bc bl) (hbx : ∀ x ∈ bl, x < 256) (hc : Rd w co cn cc cl) (hcx : ∀ x ∈ cl, x < 256) (han : an ≤ 1000) (hbn : bn ≤ 1000) (hcn : cn ≤ 1000) :
    Calls Tryd.prog 4 #[.slice ao an ac, .slice bo bn bc, .slice co cn cc] w fun e w' => e = .returned (.bool true) ∧ Below w.heap.size w w' := by
  have hX := addN_lt (show 0 < 4294967296 by decide) hax
  have hY := addN_lt (show 0 < 4294967296 by decide) hbx
  have hZ := addN_lt (show 0 < 4294967296 by decide) hcx
  have hall : addN 0 (al ++ bl ++ cl) = addN (addN (addN 0 al) bl) cl := by rw [addN_append, addN_append]
  have hxb := addN_join (addN 0 al) bl
  have hxc := addN_join (addN (addN 0 al) bl) cl
  rw [hxb, hb.1, hc.1] at hxc
  rw [hb.1] at hxb
  have hXB := joinN_lt hX hY bn
  have hYC := joinN_lt hY hZ cn
  have hright := joinN_left (addN 0 al) (addN 0 bl) (addN 0 cl) bn cn
  have hx3 : ∀ x ∈ al ++ bl ++ cl, x < 256 := by
    intro x hx
    simp only [List.mem_append] at hx
    rcases hx with (hx | hx) | hx
    · exact hax x hx
    · exact hbx x hx
    · exact hcx x hx
  have kO := fun ao n cap xs W (h : Rd W ao n cap xs) (hx : ∀ x ∈ xs, x < 256) (hn : n ≤ 3000) (hb : Below w.heap.size w W) => of_any ao n cap xs W h hx (by omega) (hT.keep hb)
  have oA := hid (fun ao cap W (h : Rd W ao (an + bn + cn) cap (al ++ bl ++ cl)) (hb : Below w.heap.size w W) => kO ao (an + bn + cn) cap _ W h hx3 (by omega) hb)
  have oa := hid (fun W (hB : Below w.heap.size w W) => kO ao an ac al W (ha.keep hB) hax (by omega) hB)
  have ob := hid (fun W (hB : Below w.heap.size w W) => kO bo bn bc bl W (hb.keep hB) hbx (by omega) hB)
  have oc := hid (fun W (hB : Below w.heap.size w W) => kO co cn cc cl W (hc.keep hB) hcx (by omega) hB)
  have ab := hid (fun W (hB : Below w.heap.size w W) => add_any (addN 0 al) bo bn bc bl W hX (hb.keep hB) hbx (by omega) (hT.keep hB))
  have ac' := hid (fun W (hB : Below w.heap.size w W) => add_any (joinN (addN 0 al) (addN 0 bl) bn) co cn cc cl W hXB (hc.keep hB) hcx (by omega) (hT.keep hB))
  have cL := hid (fun W (hb : Below w.heap.size w W) => lives_any W (hT.keep hb))
  have c1 := hid (join_nat (addN 0 al) (addN 0 bl) bn hX hY (by omega))
  have c2 := hid (join_nat (joinN (addN 0 al) (addN 0 bl) bn) (addN 0 cl) cn hXB hZ (by omega))
  have c3 := hid (join_nat (addN 0 bl) (addN 0 cl) cn hY hZ (by omega))
  have c4 := join_nat (addN 0 al) (joinN (addN 0 bl) (addN 0 cl) cn) (bn + cn) hX hYC (by omega)
  rw [← hright, show ((bn + cn : Nat) : Int) = (bn : Int) + (cn : Int) by omega] at c4
  have c4' := hid c4
  have c5 := hid (join_low (addN 0 al) (addN 0 bl) (-1 - (bn : Int)) hX hY (by omega))
  have c6 := hid (join_nat (addN 0 al) (addN 0 bl) 0 hX hY (by omega))
  rw [hxb, hxc] at hall
  rw [hall] at oA
  rw [hxb] at ab
  rw [hxc] at ac'
  generalize joinN (joinN (addN 0 al) (addN 0 bl) bn) (addN 0 cl) cn = ALL at *
  generalize joinN (addN 0 al) (addN 0 bl) bn = XB at *
  generalize joinN (addN 0 bl) (addN 0 cl) cn = YC at *
  generalize joinN (addN 0 al) (addN 0 bl) 0 = X0 at *
  generalize addN 0 al = X at *
  generalize addN 0 bl = Y at *
  generalize addN 0 cl = Z at *
  have ha' := hid ha
  have hb' := hid hb
  have hc' := hid hc
  clear hall hxb hxc ha hb hc hax hbx hcx hx3 hT c4 hright kO
  go_enter Tryd.func4, Tryd.ntmps4
  go_wp2_with (first
    | ((with_reducible refine here_op 29 ?_); refine wpList_append_rd rfl (.tmp 27) (.tmp 28) rfl w.heap.size _ 0 [] rfl (World.ownsRow_made w #[] 0 (Nat.le_refl _) (by decide) rfl) ao an ac al rfl (ha'.out.keep (Below.alloc (Below.refl _ _) (Nat.le_refl _) _)) (by omega) (by simp) ?_; intro v1 w1 ho1 hb1; replace hb1 := hid ((Below.alloc (Below.refl _ _) (Nat.le_refl _) _).trans hb1); replace ho1 := hid ho1)
    | ((with_reducible refine here_op 31 ?_); refine wpList_append_rd rfl (.tmp 29) (.tmp 30) rfl w.heap.size _ (0 + an) ([] ++ al) rfl ho1.out bo bn bc bl rfl (hb'.out.keep hb1.out) (by omega) hb1.out.size ?_; intro v2 w2 ho2 hb2; replace hb2 := hid (hb1.out.trans hb2); replace ho2 := hid ho2)
    | ((with_reducible refine here_op 33 ?_); refine wpList_append_rd rfl (.tmp 31) (.tmp 32) rfl w.heap.size _ (0 + an + bn) ([] ++ al ++ bl) rfl ho2.out co cn cc cl rfl (hc'.out.keep hb2.out) (by omega) hb2.out.size ?_; intro v3 w3 ho3 hb3; replace hb3 := hid (hb2.out.trans hb3); rw [Nat.zero_add, List.nil_append] at ho3; obtain ⟨o3, k3, hv3, hr3⟩ := rd_owned ho3; subst hv3; replace ho3 := hid ho3; replace hr3 := hid hr3)
    | ((go_at_call 7); refine (oA.out _ _ _ hr3.out hb3.out).mono ?_; rintro e y ⟨rfl, hy⟩; obtain rfl := hy.symm; clear oA)
    | ((go_at_call 7); refine (oa.out _ hb3.out).mono ?_; rintro e y ⟨rfl, hy⟩; obtain rfl := hy.symm; clear oa)
    | ((go_at_call 7); refine (ob.out _ hb3.out).mono ?_; rintro e y ⟨rfl, hy⟩; obtain rfl := hy.symm; clear ob)
    | ((go_at_call 7); refine (oc.out _ hb3.out).mono ?_; rintro e y ⟨rfl, hy⟩; obtain rfl := hy.symm; clear oc)
    | ((go_at_call 9); refine (ab.out _ hb3.out).mono ?_; rintro e y ⟨rfl, hy⟩; obtain rfl := hy.symm; clear ab)
    | ((go_at_call 9); refine (ac'.out _ hb3.out).mono ?_; rintro e y ⟨rfl, hy⟩; obtain rfl := hy.symm; clear ac')
    | ((go_at_call 11); refine (c1.out _).mono ?_; rintro e y ⟨rfl, hy⟩; obtain rfl := hy.symm; clear c1)
    | ((go_at_call 11); refine (c2.out _).mono ?_; rintro e y ⟨rfl, hy⟩; obtain rfl := hy.symm; clear c2)
    | ((go_at_call 11); refine (c3.out _).mono ?_; rintro e y ⟨rfl, hy⟩; obtain rfl := hy.symm; clear c3)
    | ((go_at_call 11); refine (c4'.out _).mono ?_; rintro e y ⟨rfl, hy⟩; obtain rfl := hy.symm; clear c4')
    | ((go_at_call 11); refine (c5.out _).mono ?_; rintro e y ⟨rfl, hy⟩; obtain rfl := hy.symm; clear c5)
    | ((go_at_call 11); refine (c6.out _).mono ?_; rintro e y ⟨rfl, hy⟩; obtain rfl := hy.symm; clear c6)
    | ((go_at_call 6); refine (cL.out _ hb3.out).mono ?_; rintro e y ⟨rfl, hy⟩))
  go_ret
  exact ⟨rfl, gt hb3.out hy⟩

end Go.Proofs.YtlaojlnndphnlaaDoor
