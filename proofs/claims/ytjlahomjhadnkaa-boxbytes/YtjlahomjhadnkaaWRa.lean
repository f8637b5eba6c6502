/- What the document's own functions bit, put and Add return, as contracts over numbers below 2^192; no statement of the seat is proved here. -/
import Derived.Test.YtjlahomjhadnkaaWWd
import Derived.Test.YtjlahomjhadnkaaWNum2
import Derived.Deep.RegionHeld3
namespace Go.Proofs.Ytjlahomjhadnkaa
namespace Wid
open Go.RowKit

set_option maxRecDepth 100000 in
theorem gt {w a b : World} (h : Below w.heap.size w a) (k : Below a.heap.size a b) : Below w.heap.size w b := h.trans (k.mono h.size)

set_option maxRecDepth 100000 in
theorem hid {p : Prop} (h : p) : Hid p := h

set_option maxRecDepth 100000 in
theorem undrew {w w' : World} (h : Below w.drew.heap.size w.drew w') : Below w.heap.size w w' := ⟨h.os, h.tape, h.output, h.size, h.block⟩

set_option maxRecDepth 100000 in
theorem and_one (x j : Nat) (hx : x < 18446744073709551616) : bits .and .u64 ((x : Int) / 2 ^ j) 1 = ((x / 2 ^ j % 2 : Nat) : Int) := by
  have h := bits_and_u64_nat (x / 2 ^ j) 1 (Nat.lt_of_le_of_lt (Nat.div_le_self _ _) hx) (by omega)
  rw [Nat.and_one_is_mod] at h
  rw [show ((x : Int) / 2 ^ j) = ((x / 2 ^ j : Nat) : Int) by simp]
  exact h

set_option maxRecDepth 100000 in
set_option maxHeartbeats 400000 in
theorem bit_0 (a : Nat) (b c : Int) (j : Nat) (hj : j < 64) (ha : a < 18446744073709551616) (w : World) :
    Calls Try.prog 67 #[.agg #[.int .u64 a, .int .u64 b, .int .u64 c], .int .i64 j] w fun e w' => e = .returned (.int .u64 ((a / 2 ^ j % 2 : Nat) : Int)) ∧ Below w.heap.size w w' := by
  have e1 : (j : Int) / 64 = 0 := by omega
  have e2 : (j : Int) % 64 = j := by omega
  have e3 := and_one a j ha
  generalize ((a / 2 ^ j % 2 : Nat) : Int) = r at *
  go_enter Try.func67, Try.ntmps67
  go_wp2
  go_ret
  exact ⟨rfl, (by repeat (first | with_reducible exact Below.refl _ _ | with_reducible assumption | with_reducible refine Below.drew ?_ | with_reducible refine below_drewN ?_ _ | with_reducible refine Below.alloc ?_ (by simp <;> omega) _ | with_reducible refine Below.setCell ?_ (by simp <;> omega) _))⟩

set_option maxRecDepth 100000 in
set_option maxHeartbeats 400000 in
theorem bit_1 (a : Int) (b : Nat) (c : Int) (j : Nat) (hj : j < 64) (hb : b < 18446744073709551616) (w : World) :
    Calls Try.prog 67 #[.agg #[.int .u64 a, .int .u64 b, .int .u64 c], .int .i64 (64 + j)] w fun e w' => e = .returned (.int .u64 ((b / 2 ^ j % 2 : Nat) : Int)) ∧ Below w.heap.size w w' := by
  have e1 : (64 + (j : Int)) / 64 = 1 := by omega
  have e2 : (64 + (j : Int)) % 64 = j := by omega
  have e3 := and_one b j hb
  generalize ((b / 2 ^ j % 2 : Nat) : Int) = r at *
  go_enter Try.func67, Try.ntmps67
  go_wp2
  go_ret
  exact ⟨rfl, (by repeat (first | with_reducible exact Below.refl _ _ | with_reducible assumption | with_reducible refine Below.drew ?_ | with_reducible refine below_drewN ?_ _ | with_reducible refine Below.alloc ?_ (by simp <;> omega) _ | with_reducible refine Below.setCell ?_ (by simp <;> omega) _))⟩

set_option maxRecDepth 100000 in
set_option maxHeartbeats 400000 in
theorem bit_2 (a b : Int) (c : Nat) (j : Nat) (hj : j < 64) (hc : c < 18446744073709551616) (w : World) :
    Calls Try.prog 67 #[.agg #[.int .u64 a, .int .u64 b, .int .u64 c], .int .i64 (128 + j)] w fun e w' => e = .returned (.int .u64 ((c / 2 ^ j % 2 : Nat) : Int)) ∧ Below w.heap.size w w' := by
  have e1 : (128 + (j : Int)) / 64 = 2 := by omega
  have e2 : (128 + (j : Int)) % 64 = j := by omega
  have e3 := and_one c j hc
  generalize ((c / 2 ^ j % 2 : Nat) : Int) = r at *
  go_enter Try.func67, Try.ntmps67
  go_wp2
  go_ret
  exact ⟨rfl, (by repeat (first | with_reducible exact Below.refl _ _ | with_reducible assumption | with_reducible refine Below.drew ?_ | with_reducible refine below_drewN ?_ _ | with_reducible refine Below.alloc ?_ (by simp <;> omega) _ | with_reducible refine Below.setCell ?_ (by simp <;> omega) _))⟩

set_option maxRecDepth 100000 in
theorem bit_any (n i : Nat) (hi : i < 192) (w : World) :
    Calls Try.prog 67 #[.agg #[.int .u64 (W0 (n)), .int .u64 (W1 (n)), .int .u64 (W2 (n))], .int .i64 i] w fun e w' => e = .returned (.int .u64 ((n / 2 ^ i % 2 : Nat) : Int)) ∧ Below w.heap.size w w' := by
  by_cases h0 : i < 64
  · rw [← bit_w0 n i h0]
    exact bit_0 (n % 18446744073709551616) _ _ i h0 (by omega) w
  · by_cases h1 : i < 128
    · obtain ⟨j, rfl⟩ : ∃ j, i = 64 + j := ⟨i - 64, by omega⟩
      rw [← bit_w1 n j (by omega), show ((64 + j : Nat) : Int) = 64 + (j : Int) by omega]
      exact bit_1 _ (n / 18446744073709551616 % 18446744073709551616) _ j (by omega) (by omega) w
    · obtain ⟨j, rfl⟩ : ∃ j, i = 128 + j := ⟨i - 128, by omega⟩
      rw [← bit_w2 n j (by omega), show ((128 + j : Nat) : Int) = 128 + (j : Int) by omega]
      exact bit_2 _ _ (n / 340282366920938463463374607431768211456 % 18446744073709551616) j (by omega) (by omega) w

set_option maxRecDepth 100000 in
theorem or_word (x j : Nat) (hx : x < 18446744073709551616) (hj : j < 64) : bits .or .u64 (x : Int) (IntKind.u64.wrap (2 ^ j)) = ((x ||| 2 ^ j : Nat) : Int) := by
  have hp := pow_lt64 j hj
  rw [show ((2 : Int) ^ j) = ((2 ^ j : Nat) : Int) by simp]
  generalize (2 : Nat) ^ j = p at *
  rw [wrapNat p hp]
  exact bits_or_u64_nat x p hx hp

set_option maxRecDepth 100000 in
set_option maxHeartbeats 400000 in
theorem put_0 (a : Nat) (b c : Int) (j : Nat) (hj : j < 64) (ha : a < 18446744073709551616) (w : World) :
    Calls Try.prog 68 #[.agg #[.int .u64 a, .int .u64 b, .int .u64 c], .int .i64 j] w fun e w' => e = .returned (.agg #[.int .u64 ((a ||| 2 ^ j : Nat) : Int), .int .u64 b, .int .u64 c]) ∧ Below w.heap.size w w' := by
  have e1 : (j : Int) / 64 = 0 := by omega
  have e2 : (j : Int) % 64 = j := by omega
  have e3 := or_word a j ha hj
  generalize ((a ||| 2 ^ j : Nat) : Int) = r at *
  go_enter Try.func68, Try.ntmps68
  go_wp2
  exact bodyPost_ret (v := .agg #[.int .u64 r, .int .u64 b, .int .u64 c]) (by simp [results, Try.results68, go_sem]) rfl ⟨rfl, (by repeat (first | with_reducible exact Below.refl _ _ | with_reducible assumption | with_reducible refine Below.drew ?_ | with_reducible refine below_drewN ?_ _ | with_reducible refine Below.alloc ?_ (by simp <;> omega) _ | with_reducible refine Below.setCell ?_ (by simp <;> omega) _))⟩

set_option maxRecDepth 100000 in
set_option maxHeartbeats 400000 in
theorem put_1 (a : Int) (b : Nat) (c : Int) (j : Nat) (hj : j < 64) (hb : b < 18446744073709551616) (w : World) :
    Calls Try.prog 68 #[.agg #[.int .u64 a, .int .u64 b, .int .u64 c], .int .i64 (64 + j)] w fun e w' => e = .returned (.agg #[.int .u64 a, .int .u64 ((b ||| 2 ^ j : Nat) : Int), .int .u64 c]) ∧ Below w.heap.size w w' := by
  have e1 : (64 + (j : Int)) / 64 = 1 := by omega
  have e2 : (64 + (j : Int)) % 64 = j := by omega
  have e3 := or_word b j hb hj
  generalize ((b ||| 2 ^ j : Nat) : Int) = r at *
  go_enter Try.func68, Try.ntmps68
  go_wp2
  exact bodyPost_ret (v := .agg #[.int .u64 a, .int .u64 r, .int .u64 c]) (by simp [results, Try.results68, go_sem]) rfl ⟨rfl, (by repeat (first | with_reducible exact Below.refl _ _ | with_reducible assumption | with_reducible refine Below.drew ?_ | with_reducible refine below_drewN ?_ _ | with_reducible refine Below.alloc ?_ (by simp <;> omega) _ | with_reducible refine Below.setCell ?_ (by simp <;> omega) _))⟩

set_option maxRecDepth 100000 in
set_option maxHeartbeats 400000 in
theorem put_2 (a b : Int) (c : Nat) (j : Nat) (hj : j < 64) (hc : c < 18446744073709551616) (w : World) :
    Calls Try.prog 68 #[.agg #[.int .u64 a, .int .u64 b, .int .u64 c], .int .i64 (128 + j)] w fun e w' => e = .returned (.agg #[.int .u64 a, .int .u64 b, .int .u64 ((c ||| 2 ^ j : Nat) : Int)]) ∧ Below w.heap.size w w' := by
  have e1 : (128 + (j : Int)) / 64 = 2 := by omega
  have e2 : (128 + (j : Int)) % 64 = j := by omega
  have e3 := or_word c j hc hj
  generalize ((c ||| 2 ^ j : Nat) : Int) = r at *
  go_enter Try.func68, Try.ntmps68
  go_wp2
  exact bodyPost_ret (v := .agg #[.int .u64 a, .int .u64 b, .int .u64 r]) (by simp [results, Try.results68, go_sem]) rfl ⟨rfl, (by repeat (first | with_reducible exact Below.refl _ _ | with_reducible assumption | with_reducible refine Below.drew ?_ | with_reducible refine below_drewN ?_ _ | with_reducible refine Below.alloc ?_ (by simp <;> omega) _ | with_reducible refine Below.setCell ?_ (by simp <;> omega) _))⟩

set_option maxRecDepth 100000 in
theorem put_any (n i : Nat) (hi : i < 192) (w : World) :
    Calls Try.prog 68 #[.agg #[.int .u64 (W0 (n)), .int .u64 (W1 (n)), .int .u64 (W2 (n))], .int .i64 i] w fun e w' => e = .returned (.agg #[.int .u64 (W0 (n ||| 2 ^ i)), .int .u64 (W1 (n ||| 2 ^ i)), .int .u64 (W2 (n ||| 2 ^ i))]) ∧ Below w.heap.size w w' := by
  rw [W0_or, W1_or, W2_or]
  by_cases h0 : i < 64
  · obtain ⟨p0, p1, p2⟩ := pw0 i h0
    rw [p0, p1, p2, or_zero_cast, or_zero_cast]
    exact put_0 (n % 18446744073709551616) _ _ i h0 (by omega) w
  · by_cases h1 : i < 128
    · obtain ⟨j, rfl⟩ : ∃ j, i = 64 + j := ⟨i - 64, by omega⟩
      obtain ⟨p0, p1, p2⟩ := pw1 j (by omega)
      rw [p0, p1, p2, or_zero_cast, or_zero_cast, show ((64 + j : Nat) : Int) = 64 + (j : Int) by omega]
      exact put_1 _ (n / 18446744073709551616 % 18446744073709551616) _ j (by omega) (by omega) w
    · obtain ⟨j, rfl⟩ : ∃ j, i = 128 + j := ⟨i - 128, by omega⟩
      obtain ⟨p0, p1, p2⟩ := pw2 j (by omega)
      rw [p0, p1, p2, or_zero_cast, or_zero_cast, show ((128 + j : Nat) : Int) = 128 + (j : Int) by omega]
      exact put_2 _ _ (n / 340282366920938463463374607431768211456 % 18446744073709551616) j (by omega) (by omega) w

-- block b of the world holds the number n, and may be written
def Has (W : World) (b n : Nat) : Prop :=
  (W.cell? ⟨b, 0, none⟩ = some (.int .u64 (W0 n)) ∧ W.cell? ⟨b, 1, none⟩ = some (.int .u64 (W1 n)) ∧ W.cell? ⟨b, 2, none⟩ = some (.int .u64 (W2 n))) ∧ ∀ j, W.frozen? ⟨b, j, none⟩ = false

set_option maxRecDepth 100000 in
theorem Has.below {W W' : World} {B b n : Nat} (h : Has W b n) (hb : Below B W W') (hB : b < B) : Has W' b n := by
  obtain ⟨⟨h0, h1, h2⟩, hf⟩ := h
  refine ⟨⟨?_, ?_, ?_⟩, fun j => ?_⟩
  · rw [hb.cell (p := ⟨b, 0, none⟩) hB]; exact h0
  · rw [hb.cell (p := ⟨b, 1, none⟩) hB]; exact h1
  · rw [hb.cell (p := ⟨b, 2, none⟩) hB]; exact h2
  · rw [hb.frozen (p := ⟨b, j, none⟩) hB]; exact hf j

set_option maxRecDepth 100000 in
theorem Has.far {W : World} {b n : Nat} (h : Has W b n) (c j : Nat) (v : Value) (hc : c ≠ b) : Has (W.setCell ⟨c, j, none⟩ v) b n := by
  obtain ⟨⟨h0, h1, h2⟩, hf⟩ := h
  refine ⟨⟨?_, ?_, ?_⟩, fun i => ?_⟩
  · rw [World.cell?_setCell_other _ _ _ _ (fun e => hc (Addr.mk.inj e).1)]; exact h0
  · rw [World.cell?_setCell_other _ _ _ _ (fun e => hc (Addr.mk.inj e).1)]; exact h1
  · rw [World.cell?_setCell_other _ _ _ _ (fun e => hc (Addr.mk.inj e).1)]; exact h2
  · simp [hf i]

set_option maxRecDepth 100000 in
theorem Has.set {W : World} {b m : Nat} (h : Has W b m) (n : Nat) : Has (((W.setCell ⟨b, 0, none⟩ (.int .u64 (W0 n))).setCell ⟨b, 1, none⟩ (.int .u64 (W1 n))).setCell ⟨b, 2, none⟩ (.int .u64 (W2 n))) b n := by
  obtain ⟨⟨h0, h1, h2⟩, hf⟩ := h
  refine ⟨⟨?_, ?_, ?_⟩, fun i => ?_⟩
  · rw [World.cell?_setCell_other _ _ _ _ (by simp), World.cell?_setCell_other _ _ _ _ (by simp)]
    exact World.cell?_setCell_same _ _ _ h0
  · rw [World.cell?_setCell_other _ _ _ _ (by simp)]
    exact World.cell?_setCell_same _ _ _ (u := .int .u64 (W1 m)) (by rw [World.cell?_setCell_other _ _ _ _ (by simp)]; exact h1)
  · exact World.cell?_setCell_same _ _ _ (u := .int .u64 (W2 m)) (by rw [World.cell?_setCell_other _ _ _ _ (by simp), World.cell?_setCell_other _ _ _ _ (by simp)]; exact h2)
  · simp [hf i]

-- the three cells of block b hold the number n (for 'go_region_held3')
abbrev Cells (W : World) (b n : Nat) : Prop := W.cell? ⟨b, 0, none⟩ = some (.int .u64 (W0 n)) ∧ W.cell? ⟨b, 1, none⟩ = some (.int .u64 (W1 n)) ∧ W.cell? ⟨b, 2, none⟩ = some (.int .u64 (W2 n))

set_option maxRecDepth 100000 in
theorem Cells.keep {W W' : World} {b n : Nat} (h : Cells W b n) (hb : Below W.heap.size W W') : Cells W' b n :=
  ⟨cell_later hb h.1, cell_later hb h.2.1, cell_later hb h.2.2⟩
set_option maxRecDepth 100000 in
theorem Cells.far {W : World} {b n : Nat} (h : Cells W b n) (c j : Nat) (v : Value) (hc : c ≠ b) : Cells (W.setCell ⟨c, j, none⟩ v) b n :=
  ⟨by rw [World.cell?_setCell_other _ _ _ _ (fun e => hc (Addr.mk.inj e).1)]; exact h.1, by rw [World.cell?_setCell_other _ _ _ _ (fun e => hc (Addr.mk.inj e).1)]; exact h.2.1, by rw [World.cell?_setCell_other _ _ _ _ (fun e => hc (Addr.mk.inj e).1)]; exact h.2.2⟩
set_option maxRecDepth 100000 in
theorem keep2 {W W' : World} {a m b n : Nat} (h : Cells W a m ∧ Cells W b n) (hb : Below W.heap.size W W') : Cells W' a m ∧ Cells W' b n := ⟨h.1.keep hb, h.2.keep hb⟩
set_option maxRecDepth 100000 in
theorem keep2alloc {W : World} {a m b n : Nat} {o : Obj} (h : Cells W a m ∧ Cells W b n) : Cells (W.alloc o) a m ∧ Cells (W.alloc o) b n := keep2 h ((Below.refl _ _).alloc (Nat.le_refl _) _)
set_option maxRecDepth 100000 in
theorem keep2set {W : World} {a m b n c : Nat} {u v x : Value} (h : Cells W a m ∧ Cells W b n) (h1 : c ≠ a) (h2 : c ≠ b) :
    Cells (((W.setCell ⟨c, 0, none⟩ u).setCell ⟨c, 1, none⟩ v).setCell ⟨c, 2, none⟩ x) a m ∧ Cells (((W.setCell ⟨c, 0, none⟩ u).setCell ⟨c, 1, none⟩ v).setCell ⟨c, 2, none⟩ x) b n :=
  ⟨((h.1.far _ _ _ h1).far _ _ _ h1).far _ _ _ h1, ((h.2.far _ _ _ h2).far _ _ _ h2).far _ _ _ h2⟩

set_option maxRecDepth 100000 in
theorem Has.lt {W : World} {b n : Nat} (h : Has W b n) : b < W.heap.size := World.block_lt_of_cell? W ⟨b, 0, none⟩ h.1.1

set_option maxRecDepth 100000 in
theorem Has.alloc {W : World} {b n : Nat} (h : Has W b n) (o : Obj) : Has (W.alloc o) b n :=
  h.below ((Below.refl W.heap.size W).alloc (Nat.le_refl _) o) h.lt

set_option maxRecDepth 100000 in
theorem Has.grown {W W' : World} {b n : Nat} (h : Has W b n) (hb : Below W.heap.size W W') : Has W' b n := h.below hb h.lt

set_option maxRecDepth 100000 in
theorem Has.new (W : World) (n b : Nat) (t : TypeId) (hb : b = W.heap.size) : Has (W.alloc (.cells #[.int .u64 (W0 n), .int .u64 (W1 n), .int .u64 (W2 n)] t)) b n := by
  subst hb
  refine ⟨⟨?_, ?_, ?_⟩, fun j => ?_⟩
  · simp
  · simp
  · simp
  · exact World.frozen?_alloc_at _ _ _ _ rfl

end Wid
end Go.Proofs.Ytjlahomjhadnkaa
