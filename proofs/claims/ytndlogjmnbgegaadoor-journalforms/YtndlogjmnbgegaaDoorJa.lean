/- What the document's own sum, fill and HeadBytes return; no statement of the seat is proved here. -/
import Derived.Test.YtndlogjmnbgegaaDoorBd
import Derived.Test.YtndlogjmnbgegaaDoorAc
import Derived.Deep.DeepCutAuto
namespace Go.Proofs.YtndlogjmnbgegaaDoor
open Go.RowKit

/-- A slice of the call's own that is these bytes. -/
def Own (B : Nat) (xs : List Nat) (n : Nat) (e : Ending) (w' : World) : Prop := ∃ ao cap, e = .returned (.slice ao n cap) ∧ w'.ownsRow B 5 1 (.slice ao n cap) n (bs xs) ∧ Rd w' ao n cap xs

theorem rput_k (ao : Option Addr) (n cap m : Nat) (xs : List Nat) (v : Nat) (s : Int) (k : Nat) (w : World) (h : Rd w ao n cap xs) (hn : n ≤ 100000) (hs : min (max s 0) 8 = (k : Int)) (hm : m = n + k) :
    Calls Tryd.prog 33 #[.slice ao n cap, .int .u64 (v : Int), .int .i64 s, .bool false] w fun e w' => Own w.heap.size (xs ++ putN v k false) m e w' ∧ Below w.heap.size w w' := by
  subst hm
  refine (rput_any ao n cap xs v s k false w h (by omega) hs).mono fun e w' ⟨r, he, ho, hb⟩ => ⟨?_, hb⟩
  obtain ⟨ao, cap, rfl, hr⟩ := rd_owned ho
  exact ⟨ao, cap, he, ho, hr⟩

set_option maxHeartbeats 400000 in
theorem rsum_any (ao : Option Addr) (n cap m : Nat) (xs : List Nat) (bo : Option Addr) (k kc : Nat) (ys : List Nat) (w : World) (h : Rd w ao n cap xs) (hy : Rd w bo k kc ys) (hyx : ∀ x ∈ ys, x < 256) (hn : n ≤ 100000) (hk : k ≤ 100000) (hm : m = n + 4) :
    Calls Tryd.prog 35 #[.slice ao n cap, .slice bo k kc] w fun e w' => Own w.heap.size (xs ++ putN (addN 0 ys) 4 false) m e w' ∧ Below w.heap.size w w' := by
  have hm' := hid hm
  clear hm
  have c := hid (rof_any bo k kc ys w hy hyx (by omega))
  have hS := addN_lt (show 0 < 4294967296 by decide) hyx
  generalize addN 0 ys = S at *
  have hp := hid (rput_k ao n cap m xs S 4 4 w h hn (by decide) hm'.out)
  clear h hy hyx
  go_enter Tryd.func35, Tryd.ntmps35
  go_wp2_with (first
    | (go_at_call 48; refine c.out.mono ?_; rintro e w1 ⟨rfl, hw1⟩; obtain rfl := hw1.symm)
    | (go_at_call 33; refine hp.out.mono ?_; rintro e w2 ⟨⟨a2, c2, rfl, o2, r2⟩, hb2⟩; replace o2 := hid o2; replace r2 := hid r2))
  go_ret
  exact ⟨⟨a2, c2, rfl, o2.out, r2.out⟩, hb2⟩

set_option maxHeartbeats 400000 in
theorem fill_any (ao : Option Addr) (n cap B : Nat) (xs : List Nat) (w : World) (h : w.ownsRow B 5 1 (.slice ao n cap) n (bs xs)) (hn : n < 128) (hB : B ≤ w.heap.size) :
    Calls Tryd.prog 34 #[.slice ao n cap, .int .i64 128] w fun e w' => Own B (xs ++ List.replicate (128 - n) 0) 128 e w' ∧ Below B w w' := by
  have h' := hid h
  obtain ⟨K, hK, hK2⟩ : ∃ K : Nat, (128 : Int) - (n : Int) = (K : Int) ∧ K = 128 - n := ⟨128 - n, by omega, rfl⟩
  have hK' := hid hK2
  rw [← hK2]
  clear h hK2
  go_enter Tryd.func34, Tryd.ntmps34
  go_wp2_with ((with_reducible refine here_op 10 ?_); refine wpList_append_zeros rfl (.tmp 5) (.tmp 9) rfl B _ n xs rfl h'.out K rfl (by have := hK'.out; omega) (by have := hK'.out; omega) hB ?_; intro v1 w1 ho1 hb1; rw [show n + K = 128 by have := hK'.out; omega] at ho1; obtain ⟨a1, c1, rfl, r1⟩ := rd_owned ho1; replace ho1 := hid ho1; replace r1 := hid r1)
  go_ret
  exact ⟨⟨a1, c1, rfl, ho1.out, r1.out⟩, hb1⟩

set_option maxHeartbeats 1000000 in
theorem rhb_no (c p : Int) (n : Nat) (wh : Bool) (w : World) (h : hgood c p = false) :
    Calls Tryd.prog 14 #[.agg #[.int .i64 c, .int .i64 p, .int .u64 (n : Int)], .bool wh] w fun e w' => e = .returned (.slice none 0 0) ∧ Below w.heap.size w w' := by
  have hng : ¬ ((0 ≤ c ∧ c ≤ 4000) ∧ 0 ≤ p ∧ p ≤ 4000) := fun hh => by rw [(hgood_iff c p).2 hh] at h; cases h
  have hcase : c < 0 ∨ (¬ c < 0 ∧ 4000 < c) ∨ (¬ c < 0 ∧ ¬ 4000 < c ∧ p < 0) ∨ (¬ c < 0 ∧ ¬ 4000 < c ∧ ¬ p < 0 ∧ 4000 < p) := by omega
  clear h hng
  rcases hcase with h | ⟨h, h1⟩ | ⟨h, h1, h2⟩ | ⟨h, h1, h2, h3⟩
  all_goals
    go_enter Tryd.func14, Tryd.ntmps14
    go_wp2
    go_ret
    exact ⟨rfl, Below.alloc (Below.refl _ _) (Nat.le_refl _) _⟩

theorem rhead_fill (c p n : Nat) : hd26 c p n ++ List.replicate (128 - 26) 0 = headN c p n false := by
  unfold headN
  simp only [Bool.false_eq_true, if_false, List.append_assoc]
  rfl

theorem head_mark' (c p n : Nat) : (headN c p n false).set 127 165 = headN c p n true := by
  unfold headN
  rw [List.set_append_right _ _ (by simp [hd26_length])]
  simp [hd26_length]

theorem rhead_last (c p n : Nat) : (headN c p n false).getD 127 0 = 0 := by
  unfold headN
  simp [List.getD, hd26_length]

set_option maxHeartbeats 2000000 in
theorem rhb_yes (c p n : Nat) (wh : Bool) (w : World) (hc : c ≤ 4000) (hp : p ≤ 4000) :
    Calls Tryd.prog 14 #[.agg #[.int .i64 (c : Int), .int .i64 (p : Int), .int .u64 (n : Int)], .bool wh] w fun e w' => Own w.heap.size (headN c p n wh) 128 e w' ∧ Below w.heap.size w w' := by
  have g1 : ¬ (c : Int) < 0 := by omega
  have g2 : ¬ (4000 : Int) < (c : Int) := by omega
  have g3 : ¬ (p : Int) < 0 := by omega
  have g4 : ¬ (4000 : Int) < (p : Int) := by omega
  have kc := fun (w : World) (C : Array Value) (n c : Nat) => Lib.run_convert_bytes_const (P := Tryd.prog) w 30 5 C n c Tryd.underlying30 Tryd.underlying5
  have h0 := hid (HB.new 29 w c p n)
  have A0 : Hid (Below w.heap.size w (w.alloc (.cells #[.int .i64 (c : Int), .int .i64 (p : Int), .int .u64 (n : Int)] 29))) := hid (Below.alloc (Below.refl _ _) (Nat.le_refl _) _)
  obtain ⟨W0, hW0⟩ : ∃ W0, W0 = w.alloc (.cells #[.int .i64 (c : Int), .int .i64 (p : Int), .int .u64 (n : Int)] 29) := ⟨_, rfl⟩
  rw [← hW0] at h0 A0
  have tA : Hid True := hid trivial
  have tB : Hid True := hid trivial
  have hs4 : Hid (min (max (4 : Int) 0) 8 = ((4 : Nat) : Int)) := hid (by decide)
  have hs8 : Hid (min (max (8 : Int) 0) 8 = ((8 : Nat) : Int)) := hid (by decide)
  go_enter Tryd.func14, Tryd.ntmps14
  go_upto_region 3 with fail
  rw [← hW0]
  clear hW0
  obtain ⟨q0, q1, q2, _, _, _⟩ := h0.out.cells
  have hl0 := h0.out.lt
  have hne0 : ¬ w.heap.size = W0.heap.size := by omega
  go_wp2_with (first
    | (go_at_call 33; clear tA; refine (rput_k _ 6 6 10 mag c 4 4 _ (rd_lit W0 mag 6 _ _ rfl rfl) (by omega) hs4.out (by omega)).mono ?_; rintro e w2 ⟨⟨a2, c2, rfl, _, r2⟩, hb2⟩; have h2 := hid (h0.out.keep2 hb2); have B2 := hid (gt2 A0.out hb2); replace r2 := hid r2; clear hb2 q0 q1 q2 kc hne0; obtain ⟨q0, q1, q2, _, _, _⟩ := h2.out.cells)
    | (go_at_call 33; clear tB; refine (rput_k _ 10 _ 14 _ p 4 4 _ r2.out (by omega) hs4.out (by omega)).mono ?_; rintro e w3 ⟨⟨a3, c3, rfl, _, r3⟩, hb3⟩; have h3 := hid (h2.out.keep hb3); have B3 := hid (gt B2.out hb3); replace r3 := hid r3; clear hb3 q0 q1 q2; obtain ⟨q0, q1, q2, _, _, _⟩ := h3.out.cells)
    | (go_at_call 33; refine (rput_k _ 14 _ 22 _ n 8 8 _ r3.out (by omega) hs8.out (by omega)).mono ?_; rintro e w4 ⟨⟨a4, c4, rfl, _, r4⟩, hb4⟩; have B4 := hid (gt B3.out hb4); replace r4 : Hid (Rd w4 a4 22 c4 (hd22 c p n)) := hid r4; clear hb4 q0 q1 q2)
    | (go_at_call 35; refine (rsum_any a4 22 c4 26 _ a4 22 c4 _ _ r4.out r4.out (hd22_bytes _ _ _) (by omega) (by omega) (by omega)).mono ?_; rintro e w5 ⟨⟨a5, c5, rfl, o5, _⟩, hb5⟩; have B5 := hid (gt B4.out hb5); have hs5 := hb5.size; have O5 : Hid (w5.ownsRow w4.heap.size 5 1 (.slice a5 26 c5) 26 (bs (hd26 c p n))) := hid o5; clear hb5 o5)
    | (go_at_call 34; refine (fill_any a5 26 c5 w4.heap.size _ _ O5.out (by omega) hs5).mono ?_; rw [rhead_fill]; rintro e w6 ⟨⟨a6, c6, rfl, o6, r6⟩, hb6⟩; have hw4 : w.heap.size ≤ w4.heap.size := B4.out.size; have B6 := hid (B5.out.trans (hb6.mono hw4)); obtain ⟨g6, cap6, hv6, hg6, hg62⟩ : ∃ g6 cap6, Value.slice a6 128 c6 = .slice (some ⟨g6, 0, none⟩) 128 cap6 ∧ w4.heap.size ≤ g6 ∧ g6 < w6.heap.size := (by rcases o6.2 with ⟨_, h'⟩ | ⟨g', cap', cur, h', hb', hg', _⟩; (exfalso; omega); exact ⟨g', cap', h', hb', lt_of_block hg'⟩); simp only [Value.slice.injEq, true_and] at hv6; obtain ⟨rfl, rfl⟩ := hv6; have c7 : w6.cell? ⟨g6, 127, none⟩ = some (.int .u8 0) := (by rw [o6.cellAt 127 (by omega), bs_get _ _ (by rw [headN_length]; omega), rhead_last]; rfl); have f7 := o6.frozenAt 127; have O6 := hid (own_base o6 hw4); have R6 := hid r6; clear hb6 o6 r6))
  all_goals go_ret
  · obtain rfl : wh = true := by first | assumption | trace_state
    have hO : (w6.setCell ⟨g6, 127, none⟩ (.int .u8 165)).ownsRow w.heap.size 5 1 (.slice (some ⟨g6, 0, none⟩) 128 c6) 128 (bs (headN c p n true)) := by rw [← head_mark']; exact own_store O6.out 127 165
    exact ⟨⟨_, _, rfl, hO, rd_own hO⟩, Below.setCell B6.out (show w.heap.size ≤ g6 by omega) _⟩
  · obtain rfl : wh = false := by first | assumption | (apply Bool.eq_false_iff.2; assumption) | trace_state
    exact ⟨⟨_, _, rfl, O6.out, R6.out⟩, B6.out⟩

end Go.Proofs.YtndlogjmnbgegaaDoor
