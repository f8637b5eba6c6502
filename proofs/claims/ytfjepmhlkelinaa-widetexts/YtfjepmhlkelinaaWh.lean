/- The law WideBack returns true and turns nothing that was there, whatever it is called with; the walk alone. -/
import Derived.Test.YtfjepmhlkelinaaNum3
import Derived.Test.YtfjepmhlkelinaaRd
namespace Go.Proofs.Ytfjepmhlkelinaa
open Go.RowKit

-- block b holds two words
def Two (W : World) (b : Nat) (x y : Int) : Prop := W.cell? ⟨b, 0, none⟩ = some (.int .u64 x) ∧ W.cell? ⟨b, 1, none⟩ = some (.int .u64 y)
theorem Two.grown {W W' : World} {b : Nat} {x y : Int} (h : Two W b x y) (hb : Below W.heap.size W W') : Two W' b x y := ⟨cell_later hb h.1, cell_later hb h.2⟩
theorem Two.alloc {W : World} {b : Nat} {x y : Int} (h : Two W b x y) (o : Obj) : Two (W.alloc o) b x y := h.grown ((Below.refl _ _).alloc (Nat.le_refl _) _)
theorem Two.lt {W : World} {b : Nat} {x y : Int} (h : Two W b x y) : b < W.heap.size := World.block_lt_of_cell? W ⟨b, 0, none⟩ h.1
theorem grownAlloc {w W : World} (h : Below w.heap.size w W) (o : Obj) : Below w.heap.size w (W.alloc o) := h.alloc h.size o

set_option maxHeartbeats 4000000 in
set_option maxRecDepth 100000 in
theorem back_fit_nought (m n x y : Nat) (hm : m < 6277101735386680763835789423207666416102355444464034512896) (hn : n < 6277101735386680763835789423207666416102355444464034512896) (hx : x < 18446744073709551616) (hy : y < 18446744073709551616)
    (hf : m + n < 6277101735386680763835789423207666416102355444464034512896) (hz : x = 0 ∨ y = 0) (w : World) :
    Calls Try.prog 6 #[.agg #[.int .u64 (W0 (m)), .int .u64 (W1 (m)), .int .u64 (W2 (m))], .agg #[.int .u64 (W0 (n)), .int .u64 (W1 (n)), .int .u64 (W2 (n))], .agg #[.int .u64 x, .int .u64 y]] w fun e w' => e = .returned (.bool true) ∧ Below w.heap.size w w' := by
  have c8 := hid (fun w => add_any m n hm hn w hf)
  have c11 := fun w => sub_any (m + n) n hf hn w (by omega)
  rw [Nat.add_sub_cancel] at c11
  have C11 := hid c11
  have c13 := hid (fun w => cmp_any (m + n) m hf hm w)
  have hcm : 0 ≤ cmpN (m + n) m := by unfold cmpN; split <;> (try split) <;> omega
  have g13 : ¬ cmpN (m + n) m < 0 := by omega
  generalize cmpN (m + n) m = R at *
  generalize m + n = S at *
  have c25 := hid (fun w => text_of m hm w)
  have c23 := fun w => parse_any (textN m) w
  rw [parse_text m hm, answer] at c23
  have C23 := hid c23
  generalize textN m = T at *
  have c18 := hid (fun w => times_any x y hx hy w)
  have e0 : x * y = 0 := by rcases hz with rfl | rfl <;> simp
  rw [e0] at c18
  have q0 := eqU 24 Try.underlying24 (W0 0) (W1 0) (W2 0) 0 0 0
  rw [show (W0 0 == 0 && W1 0 == 0 && W2 0 == 0) = true from rfl] at q0
  have hzb : ((x : Int) == 0) = true ∨ (((x : Int) == 0) = false ∧ ((y : Int) == 0) = true) := by
    rcases Nat.eq_zero_or_pos x with h | h
    · left; simp [h]
    · right; refine ⟨by simp; omega, by simp; omega⟩
  clear e0 hz
  have qm := eqU 24 Try.underlying24 (W0 m) (W1 m) (W2 m) (W0 m) (W1 m) (W2 m)
  rw [show (W0 m == W0 m && W1 m == W1 m && W2 m == W2 m) = true by simp] at qm
  clear c23 hm hn hx hy hf c11 hcm
  go_enter Try.func6, Try.ntmps6
  go_wp2_with fail
  have ka := ((Has.new w m _ 24 rfl).alloc (.cells #[.int .u64 (W0 n), .int .u64 (W1 n), .int .u64 (W2 n)] 24)).alloc (.cells #[.int .u64 x, .int .u64 y] 36)
  have kb := (Has.new (w.alloc (.cells #[.int .u64 (W0 m), .int .u64 (W1 m), .int .u64 (W2 m)] 24)) n (w.heap.size + 1) 24 (by simp)).alloc (.cells #[.int .u64 x, .int .u64 y] 36)
  have kt : Two (((w.alloc (.cells #[.int .u64 (W0 m), .int .u64 (W1 m), .int .u64 (W2 m)] 24)).alloc (.cells #[.int .u64 (W0 n), .int .u64 (W1 n), .int .u64 (W2 n)] 24)).alloc (.cells #[.int .u64 x, .int .u64 y] 36)) (w.heap.size + 1 + 1) x y := ⟨by rw [World.cell?_alloc_at _ _ _ _ (by simp)]; rfl, by rw [World.cell?_alloc_at _ _ _ _ (by simp)]; rfl⟩
  have kB : Below w.heap.size w (((w.alloc (.cells #[.int .u64 (W0 m), .int .u64 (W1 m), .int .u64 (W2 m)] 24)).alloc (.cells #[.int .u64 (W0 n), .int .u64 (W1 n), .int .u64 (W2 n)] 24)).alloc (.cells #[.int .u64 x, .int .u64 y] 36)) := (by repeat (first | with_reducible exact Below.refl _ _ | with_reducible assumption | with_reducible refine Below.drew ?_ | with_reducible refine below_drewN ?_ _ | with_reducible refine Below.alloc ?_ (by simp <;> omega) _ | with_reducible refine Below.setCell ?_ (by simp <;> omega) _))
  generalize ((w.alloc (.cells #[.int .u64 (W0 m), .int .u64 (W1 m), .int .u64 (W2 m)] 24)).alloc (.cells #[.int .u64 (W0 n), .int .u64 (W1 n), .int .u64 (W2 n)] 24)).alloc (.cells #[.int .u64 x, .int .u64 y] 36) = X0 at *
  generalize hp2 : w.heap.size + 1 + 1 = p2 at *
  generalize hp1 : w.heap.size + 1 = p1 at *
  clear hp1 hp2
  have KA := hid ka; have KB := hid kb; have KT := hid kt; have GB := hid kB
  clear ka kb kt kB
  refine (c8.out _).mono ?_; rintro e w1 ⟨rfl, hb1⟩
  replace KA := hid (KA.out.grown hb1)
  replace KB := hid (KB.out.grown hb1)
  replace KT := hid (KT.out.grown hb1)
  replace GB := hid (gt GB.out hb1)
  clear hb1
  have LKA := KA.out.lt
  obtain ⟨⟨KA0, KA1, KA2⟩, KAf⟩ := KA.out
  have LKB := KB.out.lt
  obtain ⟨⟨KB0, KB1, KB2⟩, KBf⟩ := KB.out
  have LKT := KT.out.lt
  obtain ⟨KT0, KT1⟩ := KT.out
  go_wp2_with fail
  clear KA0 KA1 KA2 KAf LKA KB0 KB1 KB2 KBf LKB KT0 KT1 LKT
  replace KA := hid (KA.out.alloc (.cells #[.int .u64 (W0 S), .int .u64 (W1 S), .int .u64 (W2 S)] 24))
  replace KB := hid (KB.out.alloc (.cells #[.int .u64 (W0 S), .int .u64 (W1 S), .int .u64 (W2 S)] 24))
  replace KT := hid (KT.out.alloc (.cells #[.int .u64 (W0 S), .int .u64 (W1 S), .int .u64 (W2 S)] 24))
  have KS := hid (Has.new w1 S _ 24 rfl)
  replace GB := hid (grownAlloc GB.out (.cells #[.int .u64 (W0 S), .int .u64 (W1 S), .int .u64 (W2 S)] 24))
  generalize w1.alloc (.cells #[.int .u64 (W0 S), .int .u64 (W1 S), .int .u64 (W2 S)] 24) = X1 at *
  generalize w1.heap.size = p7 at *
  refine (C11.out _).mono ?_; rintro e w2 ⟨rfl, hb2⟩
  replace KA := hid (KA.out.grown hb2)
  replace KB := hid (KB.out.grown hb2)
  replace KS := hid (KS.out.grown hb2)
  replace KT := hid (KT.out.grown hb2)
  replace GB := hid (gt GB.out hb2)
  clear hb2
  have LKA := KA.out.lt
  obtain ⟨⟨KA0, KA1, KA2⟩, KAf⟩ := KA.out
  have LKB := KB.out.lt
  obtain ⟨⟨KB0, KB1, KB2⟩, KBf⟩ := KB.out
  have LKS := KS.out.lt
  obtain ⟨⟨KS0, KS1, KS2⟩, KSf⟩ := KS.out
  have LKT := KT.out.lt
  obtain ⟨KT0, KT1⟩ := KT.out
  go_wp2_with fail
  clear KA0 KA1 KA2 KAf LKA KB0 KB1 KB2 KBf LKB KS0 KS1 KS2 KSf LKS KT0 KT1 LKT
  replace KA := hid (KA.out.alloc (.cells #[.int .u64 (W0 m), .int .u64 (W1 m), .int .u64 (W2 m)] 24))
  replace KB := hid (KB.out.alloc (.cells #[.int .u64 (W0 m), .int .u64 (W1 m), .int .u64 (W2 m)] 24))
  replace KS := hid (KS.out.alloc (.cells #[.int .u64 (W0 m), .int .u64 (W1 m), .int .u64 (W2 m)] 24))
  replace KT := hid (KT.out.alloc (.cells #[.int .u64 (W0 m), .int .u64 (W1 m), .int .u64 (W2 m)] 24))
  have KD := hid (Has.new w2 m _ 24 rfl)
  replace GB := hid (grownAlloc GB.out (.cells #[.int .u64 (W0 m), .int .u64 (W1 m), .int .u64 (W2 m)] 24))
  generalize w2.alloc (.cells #[.int .u64 (W0 m), .int .u64 (W1 m), .int .u64 (W2 m)] 24) = X2 at *
  generalize w2.heap.size = p9 at *
  refine (c13.out _).mono ?_; rintro e w3 ⟨rfl, hb3⟩
  replace KA := hid (KA.out.grown hb3)
  replace KB := hid (KB.out.grown hb3)
  replace KS := hid (KS.out.grown hb3)
  replace KD := hid (KD.out.grown hb3)
  replace KT := hid (KT.out.grown hb3)
  replace GB := hid (gt GB.out hb3)
  clear hb3
  have LKA := KA.out.lt
  obtain ⟨⟨KA0, KA1, KA2⟩, KAf⟩ := KA.out
  have LKB := KB.out.lt
  obtain ⟨⟨KB0, KB1, KB2⟩, KBf⟩ := KB.out
  have LKS := KS.out.lt
  obtain ⟨⟨KS0, KS1, KS2⟩, KSf⟩ := KS.out
  have LKD := KD.out.lt
  obtain ⟨⟨KD0, KD1, KD2⟩, KDf⟩ := KD.out
  have LKT := KT.out.lt
  obtain ⟨KT0, KT1⟩ := KT.out
  go_wp2_with fail
  clear KA0 KA1 KA2 KAf LKA KB0 KB1 KB2 KBf LKB KS0 KS1 KS2 KSf LKS KD0 KD1 KD2 KDf LKD KT0 KT1 LKT
  refine (c25.out _).mono ?_; rintro e w4 ⟨rfl, hb4⟩
  replace KA := hid (KA.out.grown hb4)
  replace KB := hid (KB.out.grown hb4)
  replace KS := hid (KS.out.grown hb4)
  replace KD := hid (KD.out.grown hb4)
  replace KT := hid (KT.out.grown hb4)
  replace GB := hid (gt GB.out hb4)
  clear hb4
  have LKA := KA.out.lt
  obtain ⟨⟨KA0, KA1, KA2⟩, KAf⟩ := KA.out
  have LKB := KB.out.lt
  obtain ⟨⟨KB0, KB1, KB2⟩, KBf⟩ := KB.out
  have LKS := KS.out.lt
  obtain ⟨⟨KS0, KS1, KS2⟩, KSf⟩ := KS.out
  have LKD := KD.out.lt
  obtain ⟨⟨KD0, KD1, KD2⟩, KDf⟩ := KD.out
  have LKT := KT.out.lt
  obtain ⟨KT0, KT1⟩ := KT.out
  go_wp2_with fail
  clear KA0 KA1 KA2 KAf LKA KB0 KB1 KB2 KBf LKB KS0 KS1 KS2 KSf LKS KD0 KD1 KD2 KDf LKD KT0 KT1 LKT
  refine (C23.out _).mono ?_; rintro e w5 ⟨rfl, hb5⟩
  replace KA := hid (KA.out.grown hb5)
  replace KB := hid (KB.out.grown hb5)
  replace KS := hid (KS.out.grown hb5)
  replace KD := hid (KD.out.grown hb5)
  replace KT := hid (KT.out.grown hb5)
  replace GB := hid (gt GB.out hb5)
  clear hb5
  have LKA := KA.out.lt
  obtain ⟨⟨KA0, KA1, KA2⟩, KAf⟩ := KA.out
  have LKB := KB.out.lt
  obtain ⟨⟨KB0, KB1, KB2⟩, KBf⟩ := KB.out
  have LKS := KS.out.lt
  obtain ⟨⟨KS0, KS1, KS2⟩, KSf⟩ := KS.out
  have LKD := KD.out.lt
  obtain ⟨⟨KD0, KD1, KD2⟩, KDf⟩ := KD.out
  have LKT := KT.out.lt
  obtain ⟨KT0, KT1⟩ := KT.out
  go_wp2_with fail
  replace GB := hid (grownAlloc GB.out (.cells #[.int .u64 (W0 m), .int .u64 (W1 m), .int .u64 (W2 m)] 24))
  go_quiet (fail)
  replace GB := hid (below_drewN GB.out nq)
  clear KA0 KA1 KA2 KAf LKA KB0 KB1 KB2 KBf LKB KS0 KS1 KS2 KSf LKS KD0 KD1 KD2 KDf LKD KT0 KT1 LKT
  rcases hzb with hx0 | ⟨hx0, hy0⟩
  · go_wp2_with fail
    refine (c18.out _).mono ?_; rintro e w6 ⟨rfl, hb6⟩
    replace GB := hid (gt GB.out hb6)
    clear hb6
    go_wp2_with fail
    refine (lives_any _).mono ?_; rintro e w7 ⟨rfl, hb7⟩
    replace GB := hid (gt GB.out hb7)
    go_wp2
    go_ret
    exact ⟨rfl, GB.out⟩
  · go_wp2_with fail
    refine (c18.out _).mono ?_; rintro e w6 ⟨rfl, hb6⟩
    replace GB := hid (gt GB.out hb6)
    clear hb6
    go_wp2_with fail
    refine (lives_any _).mono ?_; rintro e w7 ⟨rfl, hb7⟩
    replace GB := hid (gt GB.out hb7)
    go_wp2
    go_ret
    exact ⟨rfl, GB.out⟩

set_option maxHeartbeats 4000000 in
set_option maxRecDepth 100000 in
theorem back_fit_some (m n x y : Nat) (hm : m < 6277101735386680763835789423207666416102355444464034512896) (hn : n < 6277101735386680763835789423207666416102355444464034512896) (hx : x < 18446744073709551616) (hy : y < 18446744073709551616)
    (hf : m + n < 6277101735386680763835789423207666416102355444464034512896) (hz : x ≠ 0 ∧ y ≠ 0) (w : World) :
    Calls Try.prog 6 #[.agg #[.int .u64 (W0 (m)), .int .u64 (W1 (m)), .int .u64 (W2 (m))], .agg #[.int .u64 (W0 (n)), .int .u64 (W1 (n)), .int .u64 (W2 (n))], .agg #[.int .u64 x, .int .u64 y]] w fun e w' => e = .returned (.bool true) ∧ Below w.heap.size w w' := by
  have c8 := hid (fun w => add_any m n hm hn w hf)
  have c11 := fun w => sub_any (m + n) n hf hn w (by omega)
  rw [Nat.add_sub_cancel] at c11
  have C11 := hid c11
  have c13 := hid (fun w => cmp_any (m + n) m hf hm w)
  have hcm : 0 ≤ cmpN (m + n) m := by unfold cmpN; split <;> (try split) <;> omega
  have g13 : ¬ cmpN (m + n) m < 0 := by omega
  generalize cmpN (m + n) m = R at *
  generalize m + n = S at *
  have c25 := hid (fun w => text_of m hm w)
  have c23 := fun w => parse_any (textN m) w
  rw [parse_text m hm, answer] at c23
  have C23 := hid c23
  generalize textN m = T at *
  have c18 := hid (fun w => times_any x y hx hy w)
  have c18' := hid (fun w => times_any y x hy hx w)
  rw [Nat.mul_comm y x] at c18'
  have o1 := hid (fun w => of_any x hx w)
  have o2 := hid (fun w => of_any y hy w)
  have l1 := hid (fun w => bits_any x (by omega) w)
  have l2 := hid (fun w => bits_any y (by omega) w)
  have hml := mul_lt x y hx hy
  have l3 := hid (fun w => bits_any (x * y) (by omega) w)
  have hk := blen_mul x y hz.1 hz.2
  have b1 := blen_le x (by omega)
  have b2 := blen_le y (by omega)
  have b3 := blen_le (x * y) hml
  generalize x * y = M at *
  generalize blen x = L1 at *
  generalize blen y = L2 at *
  generalize blen M = L3 at *
  have q1 := eqU 24 Try.underlying24 (W0 M) (W1 M) (W2 M) (W0 M) (W1 M) (W2 M)
  rw [show (W0 M == W0 M && W1 M == W1 M && W2 M == W2 M) = true by simp] at q1
  have x0 : ((x : Int) == 0) = false := by simp; omega
  have y0 : ((y : Int) == 0) = false := by simp; omega
  have b1' : (L1 : Int) ≤ 128 := by omega
  have b2' : (L2 : Int) ≤ 128 := by omega
  have b3' : (L3 : Int) ≤ 128 := by omega
  have hkb : (((L1 : Int) + (L2 : Int) - (L3 : Int) == 0) = true) ∨ (((L1 : Int) + (L2 : Int) - (L3 : Int) == 0) = false ∧ ((L1 : Int) + (L2 : Int) - (L3 : Int) == 1) = true) := by
    rcases hk with h | h
    · left; simp; omega
    · right; refine ⟨by simp; omega, by simp; omega⟩
  clear hz hk hml b1 b2 b3
  have qm := eqU 24 Try.underlying24 (W0 m) (W1 m) (W2 m) (W0 m) (W1 m) (W2 m)
  rw [show (W0 m == W0 m && W1 m == W1 m && W2 m == W2 m) = true by simp] at qm
  clear c23 hm hn hx hy hf c11 hcm
  go_enter Try.func6, Try.ntmps6
  go_wp2_with fail
  have ka := ((Has.new w m _ 24 rfl).alloc (.cells #[.int .u64 (W0 n), .int .u64 (W1 n), .int .u64 (W2 n)] 24)).alloc (.cells #[.int .u64 x, .int .u64 y] 36)
  have kb := (Has.new (w.alloc (.cells #[.int .u64 (W0 m), .int .u64 (W1 m), .int .u64 (W2 m)] 24)) n (w.heap.size + 1) 24 (by simp)).alloc (.cells #[.int .u64 x, .int .u64 y] 36)
  have kt : Two (((w.alloc (.cells #[.int .u64 (W0 m), .int .u64 (W1 m), .int .u64 (W2 m)] 24)).alloc (.cells #[.int .u64 (W0 n), .int .u64 (W1 n), .int .u64 (W2 n)] 24)).alloc (.cells #[.int .u64 x, .int .u64 y] 36)) (w.heap.size + 1 + 1) x y := ⟨by rw [World.cell?_alloc_at _ _ _ _ (by simp)]; rfl, by rw [World.cell?_alloc_at _ _ _ _ (by simp)]; rfl⟩
  have kB : Below w.heap.size w (((w.alloc (.cells #[.int .u64 (W0 m), .int .u64 (W1 m), .int .u64 (W2 m)] 24)).alloc (.cells #[.int .u64 (W0 n), .int .u64 (W1 n), .int .u64 (W2 n)] 24)).alloc (.cells #[.int .u64 x, .int .u64 y] 36)) := (by repeat (first | with_reducible exact Below.refl _ _ | with_reducible assumption | with_reducible refine Below.drew ?_ | with_reducible refine below_drewN ?_ _ | with_reducible refine Below.alloc ?_ (by simp <;> omega) _ | with_reducible refine Below.setCell ?_ (by simp <;> omega) _))
  generalize ((w.alloc (.cells #[.int .u64 (W0 m), .int .u64 (W1 m), .int .u64 (W2 m)] 24)).alloc (.cells #[.int .u64 (W0 n), .int .u64 (W1 n), .int .u64 (W2 n)] 24)).alloc (.cells #[.int .u64 x, .int .u64 y] 36) = X0 at *
  generalize hp2 : w.heap.size + 1 + 1 = p2 at *
  generalize hp1 : w.heap.size + 1 = p1 at *
  clear hp1 hp2
  have KA := hid ka; have KB := hid kb; have KT := hid kt; have GB := hid kB
  clear ka kb kt kB
  refine (c8.out _).mono ?_; rintro e w1 ⟨rfl, hb1⟩
  replace KA := hid (KA.out.grown hb1)
  replace KB := hid (KB.out.grown hb1)
  replace KT := hid (KT.out.grown hb1)
  replace GB := hid (gt GB.out hb1)
  clear hb1
  have LKA := KA.out.lt
  obtain ⟨⟨KA0, KA1, KA2⟩, KAf⟩ := KA.out
  have LKB := KB.out.lt
  obtain ⟨⟨KB0, KB1, KB2⟩, KBf⟩ := KB.out
  have LKT := KT.out.lt
  obtain ⟨KT0, KT1⟩ := KT.out
  go_wp2_with fail
  clear KA0 KA1 KA2 KAf LKA KB0 KB1 KB2 KBf LKB KT0 KT1 LKT
  replace KA := hid (KA.out.alloc (.cells #[.int .u64 (W0 S), .int .u64 (W1 S), .int .u64 (W2 S)] 24))
  replace KB := hid (KB.out.alloc (.cells #[.int .u64 (W0 S), .int .u64 (W1 S), .int .u64 (W2 S)] 24))
  replace KT := hid (KT.out.alloc (.cells #[.int .u64 (W0 S), .int .u64 (W1 S), .int .u64 (W2 S)] 24))
  have KS := hid (Has.new w1 S _ 24 rfl)
  replace GB := hid (grownAlloc GB.out (.cells #[.int .u64 (W0 S), .int .u64 (W1 S), .int .u64 (W2 S)] 24))
  generalize w1.alloc (.cells #[.int .u64 (W0 S), .int .u64 (W1 S), .int .u64 (W2 S)] 24) = X1 at *
  generalize w1.heap.size = p7 at *
  refine (C11.out _).mono ?_; rintro e w2 ⟨rfl, hb2⟩
  replace KA := hid (KA.out.grown hb2)
  replace KB := hid (KB.out.grown hb2)
  replace KS := hid (KS.out.grown hb2)
  replace KT := hid (KT.out.grown hb2)
  replace GB := hid (gt GB.out hb2)
  clear hb2
  have LKA := KA.out.lt
  obtain ⟨⟨KA0, KA1, KA2⟩, KAf⟩ := KA.out
  have LKB := KB.out.lt
  obtain ⟨⟨KB0, KB1, KB2⟩, KBf⟩ := KB.out
  have LKS := KS.out.lt
  obtain ⟨⟨KS0, KS1, KS2⟩, KSf⟩ := KS.out
  have LKT := KT.out.lt
  obtain ⟨KT0, KT1⟩ := KT.out
  go_wp2_with fail
  clear KA0 KA1 KA2 KAf LKA KB0 KB1 KB2 KBf LKB KS0 KS1 KS2 KSf LKS KT0 KT1 LKT
  replace KA := hid (KA.out.alloc (.cells #[.int .u64 (W0 m), .int .u64 (W1 m), .int .u64 (W2 m)] 24))
  replace KB := hid (KB.out.alloc (.cells #[.int .u64 (W0 m), .int .u64 (W1 m), .int .u64 (W2 m)] 24))
  replace KS := hid (KS.out.alloc (.cells #[.int .u64 (W0 m), .int .u64 (W1 m), .int .u64 (W2 m)] 24))
  replace KT := hid (KT.out.alloc (.cells #[.int .u64 (W0 m), .int .u64 (W1 m), .int .u64 (W2 m)] 24))
  have KD := hid (Has.new w2 m _ 24 rfl)
  replace GB := hid (grownAlloc GB.out (.cells #[.int .u64 (W0 m), .int .u64 (W1 m), .int .u64 (W2 m)] 24))
  generalize w2.alloc (.cells #[.int .u64 (W0 m), .int .u64 (W1 m), .int .u64 (W2 m)] 24) = X2 at *
  generalize w2.heap.size = p9 at *
  refine (c13.out _).mono ?_; rintro e w3 ⟨rfl, hb3⟩
  replace KA := hid (KA.out.grown hb3)
  replace KB := hid (KB.out.grown hb3)
  replace KS := hid (KS.out.grown hb3)
  replace KD := hid (KD.out.grown hb3)
  replace KT := hid (KT.out.grown hb3)
  replace GB := hid (gt GB.out hb3)
  clear hb3
  have LKA := KA.out.lt
  obtain ⟨⟨KA0, KA1, KA2⟩, KAf⟩ := KA.out
  have LKB := KB.out.lt
  obtain ⟨⟨KB0, KB1, KB2⟩, KBf⟩ := KB.out
  have LKS := KS.out.lt
  obtain ⟨⟨KS0, KS1, KS2⟩, KSf⟩ := KS.out
  have LKD := KD.out.lt
  obtain ⟨⟨KD0, KD1, KD2⟩, KDf⟩ := KD.out
  have LKT := KT.out.lt
  obtain ⟨KT0, KT1⟩ := KT.out
  go_wp2_with fail
  clear KA0 KA1 KA2 KAf LKA KB0 KB1 KB2 KBf LKB KS0 KS1 KS2 KSf LKS KD0 KD1 KD2 KDf LKD KT0 KT1 LKT
  refine (c25.out _).mono ?_; rintro e w4 ⟨rfl, hb4⟩
  replace KA := hid (KA.out.grown hb4)
  replace KB := hid (KB.out.grown hb4)
  replace KS := hid (KS.out.grown hb4)
  replace KD := hid (KD.out.grown hb4)
  replace KT := hid (KT.out.grown hb4)
  replace GB := hid (gt GB.out hb4)
  clear hb4
  have LKA := KA.out.lt
  obtain ⟨⟨KA0, KA1, KA2⟩, KAf⟩ := KA.out
  have LKB := KB.out.lt
  obtain ⟨⟨KB0, KB1, KB2⟩, KBf⟩ := KB.out
  have LKS := KS.out.lt
  obtain ⟨⟨KS0, KS1, KS2⟩, KSf⟩ := KS.out
  have LKD := KD.out.lt
  obtain ⟨⟨KD0, KD1, KD2⟩, KDf⟩ := KD.out
  have LKT := KT.out.lt
  obtain ⟨KT0, KT1⟩ := KT.out
  go_wp2_with fail
  clear KA0 KA1 KA2 KAf LKA KB0 KB1 KB2 KBf LKB KS0 KS1 KS2 KSf LKS KD0 KD1 KD2 KDf LKD KT0 KT1 LKT
  refine (C23.out _).mono ?_; rintro e w5 ⟨rfl, hb5⟩
  replace KA := hid (KA.out.grown hb5)
  replace KB := hid (KB.out.grown hb5)
  replace KS := hid (KS.out.grown hb5)
  replace KD := hid (KD.out.grown hb5)
  replace KT := hid (KT.out.grown hb5)
  replace GB := hid (gt GB.out hb5)
  clear hb5
  have LKA := KA.out.lt
  obtain ⟨⟨KA0, KA1, KA2⟩, KAf⟩ := KA.out
  have LKB := KB.out.lt
  obtain ⟨⟨KB0, KB1, KB2⟩, KBf⟩ := KB.out
  have LKS := KS.out.lt
  obtain ⟨⟨KS0, KS1, KS2⟩, KSf⟩ := KS.out
  have LKD := KD.out.lt
  obtain ⟨⟨KD0, KD1, KD2⟩, KDf⟩ := KD.out
  have LKT := KT.out.lt
  obtain ⟨KT0, KT1⟩ := KT.out
  go_wp2_with fail
  replace GB := hid (grownAlloc GB.out (.cells #[.int .u64 (W0 m), .int .u64 (W1 m), .int .u64 (W2 m)] 24))
  go_quiet (fail)
  replace GB := hid (below_drewN GB.out nq)
  clear KA0 KA1 KA2 KAf LKA KB0 KB1 KB2 KBf LKB KS0 KS1 KS2 KSf LKS KD0 KD1 KD2 KDf LKD KT0 KT1 LKT
  rcases hkb with hk0 | ⟨hk0, hk1⟩
  · go_wp2_with fail
    refine (o1.out _).mono ?_; rintro e w6 ⟨rfl, hb6⟩
    replace GB := hid (gt GB.out hb6)
    clear hb6
    go_wp2_with fail
    refine (l1.out _).mono ?_; rintro e w7 ⟨rfl, hb7⟩
    replace GB := hid (gt GB.out hb7)
    clear hb7
    go_wp2_with fail
    refine (o2.out _).mono ?_; rintro e w8 ⟨rfl, hb8⟩
    replace GB := hid (gt GB.out hb8)
    clear hb8
    go_wp2_with fail
    refine (l2.out _).mono ?_; rintro e w9 ⟨rfl, hb9⟩
    replace GB := hid (gt GB.out hb9)
    clear hb9
    go_wp2_with fail
    refine (c18.out _).mono ?_; rintro e w10 ⟨rfl, hb10⟩
    replace GB := hid (gt GB.out hb10)
    clear hb10
    go_wp2_with fail
    refine (l3.out _).mono ?_; rintro e w11 ⟨rfl, hb11⟩
    replace GB := hid (gt GB.out hb11)
    clear hb11
    go_wp2_with fail
    refine (c18.out _).mono ?_; rintro e w12 ⟨rfl, hb12⟩
    replace GB := hid (gt GB.out hb12)
    clear hb12
    go_wp2_with fail
    refine (c18'.out _).mono ?_; rintro e w13 ⟨rfl, hb13⟩
    replace GB := hid (gt GB.out hb13)
    clear hb13
    go_wp2_with fail
    refine (lives_any _).mono ?_; rintro e w14 ⟨rfl, hb14⟩
    replace GB := hid (gt GB.out hb14)
    go_wp2
    go_ret
    exact ⟨rfl, GB.out⟩
  · go_wp2_with fail
    refine (o1.out _).mono ?_; rintro e w6 ⟨rfl, hb6⟩
    replace GB := hid (gt GB.out hb6)
    clear hb6
    go_wp2_with fail
    refine (l1.out _).mono ?_; rintro e w7 ⟨rfl, hb7⟩
    replace GB := hid (gt GB.out hb7)
    clear hb7
    go_wp2_with fail
    refine (o2.out _).mono ?_; rintro e w8 ⟨rfl, hb8⟩
    replace GB := hid (gt GB.out hb8)
    clear hb8
    go_wp2_with fail
    refine (l2.out _).mono ?_; rintro e w9 ⟨rfl, hb9⟩
    replace GB := hid (gt GB.out hb9)
    clear hb9
    go_wp2_with fail
    refine (c18.out _).mono ?_; rintro e w10 ⟨rfl, hb10⟩
    replace GB := hid (gt GB.out hb10)
    clear hb10
    go_wp2_with fail
    refine (l3.out _).mono ?_; rintro e w11 ⟨rfl, hb11⟩
    replace GB := hid (gt GB.out hb11)
    clear hb11
    go_wp2_with fail
    refine (c18.out _).mono ?_; rintro e w12 ⟨rfl, hb12⟩
    replace GB := hid (gt GB.out hb12)
    clear hb12
    go_wp2_with fail
    refine (c18'.out _).mono ?_; rintro e w13 ⟨rfl, hb13⟩
    replace GB := hid (gt GB.out hb13)
    clear hb13
    go_wp2_with fail
    refine (lives_any _).mono ?_; rintro e w14 ⟨rfl, hb14⟩
    replace GB := hid (gt GB.out hb14)
    go_wp2
    go_ret
    exact ⟨rfl, GB.out⟩

set_option maxHeartbeats 4000000 in
set_option maxRecDepth 100000 in
theorem back_over_nought (m n x y : Nat) (hm : m < 6277101735386680763835789423207666416102355444464034512896) (hn : n < 6277101735386680763835789423207666416102355444464034512896) (hx : x < 18446744073709551616) (hy : y < 18446744073709551616)
    (hf : ¬ m + n < 6277101735386680763835789423207666416102355444464034512896) (hz : x = 0 ∨ y = 0) (w : World) :
    Calls Try.prog 6 #[.agg #[.int .u64 (W0 (m)), .int .u64 (W1 (m)), .int .u64 (W2 (m))], .agg #[.int .u64 (W0 (n)), .int .u64 (W1 (n)), .int .u64 (W2 (n))], .agg #[.int .u64 x, .int .u64 y]] w fun e w' => e = .returned (.bool true) ∧ Below w.heap.size w w' := by
  have c8 := hid (fun w => add_over m n hm hn w hf)
  have c25 := hid (fun w => text_of m hm w)
  have c23 := fun w => parse_any (textN m) w
  rw [parse_text m hm, answer] at c23
  have C23 := hid c23
  generalize textN m = T at *
  have c18 := hid (fun w => times_any x y hx hy w)
  have e0 : x * y = 0 := by rcases hz with rfl | rfl <;> simp
  rw [e0] at c18
  have q0 := eqU 24 Try.underlying24 (W0 0) (W1 0) (W2 0) 0 0 0
  rw [show (W0 0 == 0 && W1 0 == 0 && W2 0 == 0) = true from rfl] at q0
  have hzb : ((x : Int) == 0) = true ∨ (((x : Int) == 0) = false ∧ ((y : Int) == 0) = true) := by
    rcases Nat.eq_zero_or_pos x with h | h
    · left; simp [h]
    · right; refine ⟨by simp; omega, by simp; omega⟩
  clear e0 hz
  have qm := eqU 24 Try.underlying24 (W0 m) (W1 m) (W2 m) (W0 m) (W1 m) (W2 m)
  rw [show (W0 m == W0 m && W1 m == W1 m && W2 m == W2 m) = true by simp] at qm
  clear c23 hm hn hx hy hf
  go_enter Try.func6, Try.ntmps6
  go_wp2_with fail
  have ka := ((Has.new w m _ 24 rfl).alloc (.cells #[.int .u64 (W0 n), .int .u64 (W1 n), .int .u64 (W2 n)] 24)).alloc (.cells #[.int .u64 x, .int .u64 y] 36)
  have kb := (Has.new (w.alloc (.cells #[.int .u64 (W0 m), .int .u64 (W1 m), .int .u64 (W2 m)] 24)) n (w.heap.size + 1) 24 (by simp)).alloc (.cells #[.int .u64 x, .int .u64 y] 36)
  have kt : Two (((w.alloc (.cells #[.int .u64 (W0 m), .int .u64 (W1 m), .int .u64 (W2 m)] 24)).alloc (.cells #[.int .u64 (W0 n), .int .u64 (W1 n), .int .u64 (W2 n)] 24)).alloc (.cells #[.int .u64 x, .int .u64 y] 36)) (w.heap.size + 1 + 1) x y := ⟨by rw [World.cell?_alloc_at _ _ _ _ (by simp)]; rfl, by rw [World.cell?_alloc_at _ _ _ _ (by simp)]; rfl⟩
  have kB : Below w.heap.size w (((w.alloc (.cells #[.int .u64 (W0 m), .int .u64 (W1 m), .int .u64 (W2 m)] 24)).alloc (.cells #[.int .u64 (W0 n), .int .u64 (W1 n), .int .u64 (W2 n)] 24)).alloc (.cells #[.int .u64 x, .int .u64 y] 36)) := (by repeat (first | with_reducible exact Below.refl _ _ | with_reducible assumption | with_reducible refine Below.drew ?_ | with_reducible refine below_drewN ?_ _ | with_reducible refine Below.alloc ?_ (by simp <;> omega) _ | with_reducible refine Below.setCell ?_ (by simp <;> omega) _))
  generalize ((w.alloc (.cells #[.int .u64 (W0 m), .int .u64 (W1 m), .int .u64 (W2 m)] 24)).alloc (.cells #[.int .u64 (W0 n), .int .u64 (W1 n), .int .u64 (W2 n)] 24)).alloc (.cells #[.int .u64 x, .int .u64 y] 36) = X0 at *
  generalize hp2 : w.heap.size + 1 + 1 = p2 at *
  generalize hp1 : w.heap.size + 1 = p1 at *
  clear hp1 hp2
  have KA := hid ka; have KB := hid kb; have KT := hid kt; have GB := hid kB
  clear ka kb kt kB
  refine (c8.out _).mono ?_; rintro e w1 ⟨rfl, hb1⟩
  replace KA := hid (KA.out.grown hb1)
  replace KB := hid (KB.out.grown hb1)
  replace KT := hid (KT.out.grown hb1)
  replace GB := hid (gt GB.out hb1)
  clear hb1
  have LKA := KA.out.lt
  obtain ⟨⟨KA0, KA1, KA2⟩, KAf⟩ := KA.out
  have LKB := KB.out.lt
  obtain ⟨⟨KB0, KB1, KB2⟩, KBf⟩ := KB.out
  have LKT := KT.out.lt
  obtain ⟨KT0, KT1⟩ := KT.out
  go_wp2_with fail
  clear KA0 KA1 KA2 KAf LKA KB0 KB1 KB2 KBf LKB KT0 KT1 LKT
  replace KA := hid (KA.out.alloc (.cells #[.int .u64 0, .int .u64 0, .int .u64 0] 24))
  replace KB := hid (KB.out.alloc (.cells #[.int .u64 0, .int .u64 0, .int .u64 0] 24))
  replace KT := hid (KT.out.alloc (.cells #[.int .u64 0, .int .u64 0, .int .u64 0] 24))
  replace GB := hid (grownAlloc GB.out (.cells #[.int .u64 0, .int .u64 0, .int .u64 0] 24))
  generalize w1.alloc (.cells #[.int .u64 0, .int .u64 0, .int .u64 0] 24) = X1 at *
  generalize w1.heap.size = p7 at *
  refine (c25.out _).mono ?_; rintro e w4 ⟨rfl, hb4⟩
  replace KA := hid (KA.out.grown hb4)
  replace KB := hid (KB.out.grown hb4)
  replace KT := hid (KT.out.grown hb4)
  replace GB := hid (gt GB.out hb4)
  clear hb4
  have LKA := KA.out.lt
  obtain ⟨⟨KA0, KA1, KA2⟩, KAf⟩ := KA.out
  have LKB := KB.out.lt
  obtain ⟨⟨KB0, KB1, KB2⟩, KBf⟩ := KB.out
  have LKT := KT.out.lt
  obtain ⟨KT0, KT1⟩ := KT.out
  go_wp2_with fail
  clear KA0 KA1 KA2 KAf LKA KB0 KB1 KB2 KBf LKB KT0 KT1 LKT
  refine (C23.out _).mono ?_; rintro e w5 ⟨rfl, hb5⟩
  replace KA := hid (KA.out.grown hb5)
  replace KB := hid (KB.out.grown hb5)
  replace KT := hid (KT.out.grown hb5)
  replace GB := hid (gt GB.out hb5)
  clear hb5
  have LKA := KA.out.lt
  obtain ⟨⟨KA0, KA1, KA2⟩, KAf⟩ := KA.out
  have LKB := KB.out.lt
  obtain ⟨⟨KB0, KB1, KB2⟩, KBf⟩ := KB.out
  have LKT := KT.out.lt
  obtain ⟨KT0, KT1⟩ := KT.out
  go_wp2_with fail
  replace GB := hid (grownAlloc GB.out (.cells #[.int .u64 (W0 m), .int .u64 (W1 m), .int .u64 (W2 m)] 24))
  go_quiet (fail)
  replace GB := hid (below_drewN GB.out nq)
  clear KA0 KA1 KA2 KAf LKA KB0 KB1 KB2 KBf LKB KT0 KT1 LKT
  rcases hzb with hx0 | ⟨hx0, hy0⟩
  · go_wp2_with fail
    refine (c18.out _).mono ?_; rintro e w6 ⟨rfl, hb6⟩
    replace GB := hid (gt GB.out hb6)
    clear hb6
    go_wp2_with fail
    refine (lives_any _).mono ?_; rintro e w7 ⟨rfl, hb7⟩
    replace GB := hid (gt GB.out hb7)
    go_wp2
    go_ret
    exact ⟨rfl, GB.out⟩
  · go_wp2_with fail
    refine (c18.out _).mono ?_; rintro e w6 ⟨rfl, hb6⟩
    replace GB := hid (gt GB.out hb6)
    clear hb6
    go_wp2_with fail
    refine (lives_any _).mono ?_; rintro e w7 ⟨rfl, hb7⟩
    replace GB := hid (gt GB.out hb7)
    go_wp2
    go_ret
    exact ⟨rfl, GB.out⟩

set_option maxHeartbeats 4000000 in
set_option maxRecDepth 100000 in
theorem back_over_some (m n x y : Nat) (hm : m < 6277101735386680763835789423207666416102355444464034512896) (hn : n < 6277101735386680763835789423207666416102355444464034512896) (hx : x < 18446744073709551616) (hy : y < 18446744073709551616)
    (hf : ¬ m + n < 6277101735386680763835789423207666416102355444464034512896) (hz : x ≠ 0 ∧ y ≠ 0) (w : World) :
    Calls Try.prog 6 #[.agg #[.int .u64 (W0 (m)), .int .u64 (W1 (m)), .int .u64 (W2 (m))], .agg #[.int .u64 (W0 (n)), .int .u64 (W1 (n)), .int .u64 (W2 (n))], .agg #[.int .u64 x, .int .u64 y]] w fun e w' => e = .returned (.bool true) ∧ Below w.heap.size w w' := by
  have c8 := hid (fun w => add_over m n hm hn w hf)
  have c25 := hid (fun w => text_of m hm w)
  have c23 := fun w => parse_any (textN m) w
  rw [parse_text m hm, answer] at c23
  have C23 := hid c23
  generalize textN m = T at *
  have c18 := hid (fun w => times_any x y hx hy w)
  have c18' := hid (fun w => times_any y x hy hx w)
  rw [Nat.mul_comm y x] at c18'
  have o1 := hid (fun w => of_any x hx w)
  have o2 := hid (fun w => of_any y hy w)
  have l1 := hid (fun w => bits_any x (by omega) w)
  have l2 := hid (fun w => bits_any y (by omega) w)
  have hml := mul_lt x y hx hy
  have l3 := hid (fun w => bits_any (x * y) (by omega) w)
  have hk := blen_mul x y hz.1 hz.2
  have b1 := blen_le x (by omega)
  have b2 := blen_le y (by omega)
  have b3 := blen_le (x * y) hml
  generalize x * y = M at *
  generalize blen x = L1 at *
  generalize blen y = L2 at *
  generalize blen M = L3 at *
  have q1 := eqU 24 Try.underlying24 (W0 M) (W1 M) (W2 M) (W0 M) (W1 M) (W2 M)
  rw [show (W0 M == W0 M && W1 M == W1 M && W2 M == W2 M) = true by simp] at q1
  have x0 : ((x : Int) == 0) = false := by simp; omega
  have y0 : ((y : Int) == 0) = false := by simp; omega
  have b1' : (L1 : Int) ≤ 128 := by omega
  have b2' : (L2 : Int) ≤ 128 := by omega
  have b3' : (L3 : Int) ≤ 128 := by omega
  have hkb : (((L1 : Int) + (L2 : Int) - (L3 : Int) == 0) = true) ∨ (((L1 : Int) + (L2 : Int) - (L3 : Int) == 0) = false ∧ ((L1 : Int) + (L2 : Int) - (L3 : Int) == 1) = true) := by
    rcases hk with h | h
    · left; simp; omega
    · right; refine ⟨by simp; omega, by simp; omega⟩
  clear hz hk hml b1 b2 b3
  have qm := eqU 24 Try.underlying24 (W0 m) (W1 m) (W2 m) (W0 m) (W1 m) (W2 m)
  rw [show (W0 m == W0 m && W1 m == W1 m && W2 m == W2 m) = true by simp] at qm
  clear c23 hm hn hx hy hf
  go_enter Try.func6, Try.ntmps6
  go_wp2_with fail
  have ka := ((Has.new w m _ 24 rfl).alloc (.cells #[.int .u64 (W0 n), .int .u64 (W1 n), .int .u64 (W2 n)] 24)).alloc (.cells #[.int .u64 x, .int .u64 y] 36)
  have kb := (Has.new (w.alloc (.cells #[.int .u64 (W0 m), .int .u64 (W1 m), .int .u64 (W2 m)] 24)) n (w.heap.size + 1) 24 (by simp)).alloc (.cells #[.int .u64 x, .int .u64 y] 36)
  have kt : Two (((w.alloc (.cells #[.int .u64 (W0 m), .int .u64 (W1 m), .int .u64 (W2 m)] 24)).alloc (.cells #[.int .u64 (W0 n), .int .u64 (W1 n), .int .u64 (W2 n)] 24)).alloc (.cells #[.int .u64 x, .int .u64 y] 36)) (w.heap.size + 1 + 1) x y := ⟨by rw [World.cell?_alloc_at _ _ _ _ (by simp)]; rfl, by rw [World.cell?_alloc_at _ _ _ _ (by simp)]; rfl⟩
  have kB : Below w.heap.size w (((w.alloc (.cells #[.int .u64 (W0 m), .int .u64 (W1 m), .int .u64 (W2 m)] 24)).alloc (.cells #[.int .u64 (W0 n), .int .u64 (W1 n), .int .u64 (W2 n)] 24)).alloc (.cells #[.int .u64 x, .int .u64 y] 36)) := (by repeat (first | with_reducible exact Below.refl _ _ | with_reducible assumption | with_reducible refine Below.drew ?_ | with_reducible refine below_drewN ?_ _ | with_reducible refine Below.alloc ?_ (by simp <;> omega) _ | with_reducible refine Below.setCell ?_ (by simp <;> omega) _))
  generalize ((w.alloc (.cells #[.int .u64 (W0 m), .int .u64 (W1 m), .int .u64 (W2 m)] 24)).alloc (.cells #[.int .u64 (W0 n), .int .u64 (W1 n), .int .u64 (W2 n)] 24)).alloc (.cells #[.int .u64 x, .int .u64 y] 36) = X0 at *
  generalize hp2 : w.heap.size + 1 + 1 = p2 at *
  generalize hp1 : w.heap.size + 1 = p1 at *
  clear hp1 hp2
  have KA := hid ka; have KB := hid kb; have KT := hid kt; have GB := hid kB
  clear ka kb kt kB
  refine (c8.out _).mono ?_; rintro e w1 ⟨rfl, hb1⟩
  replace KA := hid (KA.out.grown hb1)
  replace KB := hid (KB.out.grown hb1)
  replace KT := hid (KT.out.grown hb1)
  replace GB := hid (gt GB.out hb1)
  clear hb1
  have LKA := KA.out.lt
  obtain ⟨⟨KA0, KA1, KA2⟩, KAf⟩ := KA.out
  have LKB := KB.out.lt
  obtain ⟨⟨KB0, KB1, KB2⟩, KBf⟩ := KB.out
  have LKT := KT.out.lt
  obtain ⟨KT0, KT1⟩ := KT.out
  go_wp2_with fail
  clear KA0 KA1 KA2 KAf LKA KB0 KB1 KB2 KBf LKB KT0 KT1 LKT
  replace KA := hid (KA.out.alloc (.cells #[.int .u64 0, .int .u64 0, .int .u64 0] 24))
  replace KB := hid (KB.out.alloc (.cells #[.int .u64 0, .int .u64 0, .int .u64 0] 24))
  replace KT := hid (KT.out.alloc (.cells #[.int .u64 0, .int .u64 0, .int .u64 0] 24))
  replace GB := hid (grownAlloc GB.out (.cells #[.int .u64 0, .int .u64 0, .int .u64 0] 24))
  generalize w1.alloc (.cells #[.int .u64 0, .int .u64 0, .int .u64 0] 24) = X1 at *
  generalize w1.heap.size = p7 at *
  refine (c25.out _).mono ?_; rintro e w4 ⟨rfl, hb4⟩
  replace KA := hid (KA.out.grown hb4)
  replace KB := hid (KB.out.grown hb4)
  replace KT := hid (KT.out.grown hb4)
  replace GB := hid (gt GB.out hb4)
  clear hb4
  have LKA := KA.out.lt
  obtain ⟨⟨KA0, KA1, KA2⟩, KAf⟩ := KA.out
  have LKB := KB.out.lt
  obtain ⟨⟨KB0, KB1, KB2⟩, KBf⟩ := KB.out
  have LKT := KT.out.lt
  obtain ⟨KT0, KT1⟩ := KT.out
  go_wp2_with fail
  clear KA0 KA1 KA2 KAf LKA KB0 KB1 KB2 KBf LKB KT0 KT1 LKT
  refine (C23.out _).mono ?_; rintro e w5 ⟨rfl, hb5⟩
  replace KA := hid (KA.out.grown hb5)
  replace KB := hid (KB.out.grown hb5)
  replace KT := hid (KT.out.grown hb5)
  replace GB := hid (gt GB.out hb5)
  clear hb5
  have LKA := KA.out.lt
  obtain ⟨⟨KA0, KA1, KA2⟩, KAf⟩ := KA.out
  have LKB := KB.out.lt
  obtain ⟨⟨KB0, KB1, KB2⟩, KBf⟩ := KB.out
  have LKT := KT.out.lt
  obtain ⟨KT0, KT1⟩ := KT.out
  go_wp2_with fail
  replace GB := hid (grownAlloc GB.out (.cells #[.int .u64 (W0 m), .int .u64 (W1 m), .int .u64 (W2 m)] 24))
  go_quiet (fail)
  replace GB := hid (below_drewN GB.out nq)
  clear KA0 KA1 KA2 KAf LKA KB0 KB1 KB2 KBf LKB KT0 KT1 LKT
  rcases hkb with hk0 | ⟨hk0, hk1⟩
  · go_wp2_with fail
    refine (o1.out _).mono ?_; rintro e w6 ⟨rfl, hb6⟩
    replace GB := hid (gt GB.out hb6)
    clear hb6
    go_wp2_with fail
    refine (l1.out _).mono ?_; rintro e w7 ⟨rfl, hb7⟩
    replace GB := hid (gt GB.out hb7)
    clear hb7
    go_wp2_with fail
    refine (o2.out _).mono ?_; rintro e w8 ⟨rfl, hb8⟩
    replace GB := hid (gt GB.out hb8)
    clear hb8
    go_wp2_with fail
    refine (l2.out _).mono ?_; rintro e w9 ⟨rfl, hb9⟩
    replace GB := hid (gt GB.out hb9)
    clear hb9
    go_wp2_with fail
    refine (c18.out _).mono ?_; rintro e w10 ⟨rfl, hb10⟩
    replace GB := hid (gt GB.out hb10)
    clear hb10
    go_wp2_with fail
    refine (l3.out _).mono ?_; rintro e w11 ⟨rfl, hb11⟩
    replace GB := hid (gt GB.out hb11)
    clear hb11
    go_wp2_with fail
    refine (c18.out _).mono ?_; rintro e w12 ⟨rfl, hb12⟩
    replace GB := hid (gt GB.out hb12)
    clear hb12
    go_wp2_with fail
    refine (c18'.out _).mono ?_; rintro e w13 ⟨rfl, hb13⟩
    replace GB := hid (gt GB.out hb13)
    clear hb13
    go_wp2_with fail
    refine (lives_any _).mono ?_; rintro e w14 ⟨rfl, hb14⟩
    replace GB := hid (gt GB.out hb14)
    go_wp2
    go_ret
    exact ⟨rfl, GB.out⟩
  · go_wp2_with fail
    refine (o1.out _).mono ?_; rintro e w6 ⟨rfl, hb6⟩
    replace GB := hid (gt GB.out hb6)
    clear hb6
    go_wp2_with fail
    refine (l1.out _).mono ?_; rintro e w7 ⟨rfl, hb7⟩
    replace GB := hid (gt GB.out hb7)
    clear hb7
    go_wp2_with fail
    refine (o2.out _).mono ?_; rintro e w8 ⟨rfl, hb8⟩
    replace GB := hid (gt GB.out hb8)
    clear hb8
    go_wp2_with fail
    refine (l2.out _).mono ?_; rintro e w9 ⟨rfl, hb9⟩
    replace GB := hid (gt GB.out hb9)
    clear hb9
    go_wp2_with fail
    refine (c18.out _).mono ?_; rintro e w10 ⟨rfl, hb10⟩
    replace GB := hid (gt GB.out hb10)
    clear hb10
    go_wp2_with fail
    refine (l3.out _).mono ?_; rintro e w11 ⟨rfl, hb11⟩
    replace GB := hid (gt GB.out hb11)
    clear hb11
    go_wp2_with fail
    refine (c18.out _).mono ?_; rintro e w12 ⟨rfl, hb12⟩
    replace GB := hid (gt GB.out hb12)
    clear hb12
    go_wp2_with fail
    refine (c18'.out _).mono ?_; rintro e w13 ⟨rfl, hb13⟩
    replace GB := hid (gt GB.out hb13)
    clear hb13
    go_wp2_with fail
    refine (lives_any _).mono ?_; rintro e w14 ⟨rfl, hb14⟩
    replace GB := hid (gt GB.out hb14)
    go_wp2
    go_ret
    exact ⟨rfl, GB.out⟩

theorem back_law (m n x y : Nat) (hm : m < 6277101735386680763835789423207666416102355444464034512896) (hn : n < 6277101735386680763835789423207666416102355444464034512896) (hx : x < 18446744073709551616) (hy : y < 18446744073709551616) (w : World) :
    Calls Try.prog 6 #[.agg #[.int .u64 (W0 (m)), .int .u64 (W1 (m)), .int .u64 (W2 (m))], .agg #[.int .u64 (W0 (n)), .int .u64 (W1 (n)), .int .u64 (W2 (n))], .agg #[.int .u64 x, .int .u64 y]] w fun e w' => e = .returned (.bool true) ∧ Below w.heap.size w w' := by
  by_cases hf : m + n < 6277101735386680763835789423207666416102355444464034512896
  · by_cases hz : x = 0 ∨ y = 0
    · exact back_fit_nought m n x y hm hn hx hy hf hz w
    · exact back_fit_some m n x y hm hn hx hy hf (by omega) w
  · by_cases hz : x = 0 ∨ y = 0
    · exact back_over_nought m n x y hm hn hx hy hf hz w
    · exact back_over_some m n x y hm hn hx hy hf (by omega) w

end Go.Proofs.Ytfjepmhlkelinaa
