/- What HeadBytes returns; no statement of the seat is proved here. -/
import Derived.Test.YtndlogjmnbgegaaDoorBd
namespace Go.Proofs.YtndlogjmnbgegaaDoor
open Go.RowKit

theorem head_rows (c p n : Nat) : (List.replicate 128 0).take 0 ++ hd26 c p n ++ (List.replicate 128 0).drop (0 + 26) = headN c p n false := by
  unfold headN
  simp only [List.take_zero, List.nil_append, List.drop_replicate, List.append_assoc, Bool.false_eq_true, if_false]
  rfl

theorem head_mark (c p n : Nat) : (headN c p n false).set 127 165 = headN c p n true := by
  unfold headN
  rw [List.set_append_right _ _ (by simp [hd26_length])]
  simp [hd26_length]

theorem cell127 {w : World} {B g : Nat} {c p n : Nat} (h : w.ownsRow B 5 1 (.slice (some ⟨g, 0, none⟩) 128 128) 128 (bs (headN c p n false))) : w.cell? ⟨g, 127, none⟩ = some (.int .u8 0) := by
  rw [h.cellAt 127 (by omega), bs_get _ _ (by rw [headN_length]; omega)]
  have : (headN c p n false).getD 127 0 = 0 := by
    unfold headN
    simp [List.getD, hd26_length]
  rw [this]
  rfl

set_option maxHeartbeats 1000000 in
theorem head_yes (c p n : Nat) (wh : Bool) (w : World) (hc : c ≤ 4000) (hp : p ≤ 4000) (hT : Tab w) :
    Calls Tryd.prog 13 #[.agg #[.int .i64 (c : Int), .int .i64 (p : Int), .int .u64 (n : Int)], .bool wh] w fun e w' => ∃ g, e = .returned (.slice (some ⟨g, 0, none⟩) 128 128) ∧ w'.ownsRow w.heap.size 5 1 (.slice (some ⟨g, 0, none⟩) 128 128) 128 (bs (headN c p n wh)) ∧ Below w.heap.size w w' := by
  have cg := hid (hgood_any (c : Int) (p : Int) n)
  rw [(hgood_iff (c : Int) (p : Int)).2 (by omega)] at cg
  have kc := fun (w : World) (C : Array Value) (n c : Nat) => Lib.run_convert_bytes_const (P := Tryd.prog) w 30 5 C n c Tryd.underlying30 Tryd.underlying5
  have hT' := hid hT
  have h0 : Hid (HB 24 (w.alloc (.cells #[.int .i64 c, .int .i64 p, .int .u64 (n : Int)] 24)) w.heap.size c p n) := hid (HB.new 24 w c p n)
  obtain ⟨K, hK⟩ : ∃ K : Nat, K = 128 := ⟨_, rfl⟩
  have hmk := make_lit 128 K (by omega) (by omega)
  have hK' := hid hK
  obtain ⟨S, hS⟩ : ∃ S, S = addN 0 (hd22 c p n) := ⟨_, rfl⟩
  have hS1 : S < 4294967296 := by rw [hS]; exact addN_lt (by decide) (hd22_bytes _ _ _)
  have hS' := hid hS
  have tA : Hid True := hid trivial
  have tB : Hid True := hid trivial
  have tC : Hid True := hid trivial
  clear hT hK hS
  go_enter Tryd.func13, Tryd.ntmps13
  go_wp2_with (first
    | (go_at_call 36; refine (cg.out _).mono ?_; rintro e w1 ⟨rfl, hb1⟩; have h1 := hid (h0.out.keep hb1); have B1 := hid (gt (Below.alloc (Below.refl _ _) (Nat.le_refl _) _) hb1); obtain ⟨q0, q1, q2, _, _, _⟩ := h1.out.cells; have hl1 := h1.out.lt; have hne1 : ¬ w.heap.size = w1.heap.size := (by omega); clear cg hb1)
    | (go_at_call 31; clear tA; refine (put4 _ 6 6 10 mag c _ (rd_lit w1 mag 6 _ _ rfl rfl) (by omega) (by omega)).mono ?_; rintro e w2 ⟨g2, rfl, hg2, r2, hb2⟩; have h2 := hid (h1.out.keep2 hb2); have B2 := hid (gt2 B1.out hb2); replace r2 := hid r2; clear hb2 q0 q1 q2 kc hne1; obtain ⟨q0, q1, q2, _, _, _⟩ := h2.out.cells)
    | (go_at_call 31; clear tB; refine (put4 _ 10 10 14 _ p _ r2.out (by omega) (by omega)).mono ?_; rintro e w3 ⟨g3, rfl, hg3, r3, hb3⟩; have h3 := hid (h2.out.keep hb3); have B3 := hid (gt B2.out hb3); replace r3 := hid r3; clear hb3 q0 q1 q2; obtain ⟨q0, q1, q2, _, _, _⟩ := h3.out.cells)
    | (go_at_call 31; clear tC; refine (put8 _ 14 14 22 _ n _ r3.out (by omega) (by omega)).mono ?_; rintro e w4 ⟨g4, rfl, hg4, r4, hb4⟩; have B4 := hid (gt B3.out hb4); replace r4 : Hid (Rd w4 (some ⟨g4, 0, none⟩) 22 22 (hd22 c p n)) := hid r4; clear hb4 q0 q1 q2)
    | (go_at_call 37; refine (of_any _ 22 22 _ _ r4.out (hd22_bytes _ _ _) (by omega) (hT'.out.keep B4.out)).mono ?_; rintro e w5 ⟨rfl, hw5⟩; obtain rfl := hw5.symm; rw [← hS'.out])
    | (go_at_call 31; refine (put4 _ 22 22 26 _ S _ r4.out (by omega) (by omega)).mono ?_; rintro e w6 ⟨g6, rfl, hg6, r6, hb6⟩; have B6 := hid (gt B4.out hb6); replace r6 : Hid (Rd w6 (some ⟨g6, 0, none⟩) 26 26 (hd26 c p n)) := hid (by rw [hS'.out] at r6; exact r6); clear hb6)
    | ((with_reducible refine here_op 33 ?_); refine wpList_copy_in rfl (.tmp 31) (.tmp 32) rfl w6.heap.size w6.heap.size K 0 (List.replicate K 0) (own_zeros w6 K (by have := hK'.out; omega)) K K rfl (by omega) (some ⟨g6, 0, none⟩) 26 26 (hd26 c p n) rfl (r6.out.keep (Below.alloc (Below.refl _ _) (Nat.le_refl _) _)) (by have := hK'.out; omega) ?_; intro w7 ho7 hb7; clear hmk; have hK2 := hK'.out; subst hK2; rw [head_rows] at ho7; have B7 := hid ((Below.alloc B6.out B6.out.size _).trans (hb7.mono B6.out.size)); have hg7 := B6.out.size; have c7 := cell127 ho7; have f7 := ho7.frozenAt 127; replace ho7 := hid (own_base ho7 hg7); clear hb7))
  all_goals go_ret
  · exact ⟨_, rfl, by rw [← head_mark]; exact own_store ho7.out 127 165, Below.setCell B7.out hg7 _⟩
  · exact ⟨_, rfl, ho7.out, B7.out⟩

end Go.Proofs.YtndlogjmnbgegaaDoor
