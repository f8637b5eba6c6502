/- What the document's own function Add returns, as a contract over numbers below 2^192; no statement of the seat is proved here. -/
import Derived.Test.YtjlahomjhadnkaaWRa
namespace Go.Proofs.Ytjlahomjhadnkaa
namespace Wid
open Go.RowKit

set_option maxHeartbeats 1000000 in
set_option maxRecDepth 100000 in
theorem radd_v (m n : Nat) (hm : m < 6277101735386680763835789423207666416102355444464034512896) (hn : n < 6277101735386680763835789423207666416102355444464034512896) (w : World) (V : Value)
    (hV : Hid (m + n < 6277101735386680763835789423207666416102355444464034512896 → V = .tuple #[.agg #[.int .u64 (W0 (m + n)), .int .u64 (W1 (m + n)), .int .u64 (W2 (m + n))], .bool true])) (hV' : Hid (¬ m + n < 6277101735386680763835789423207666416102355444464034512896 → V = .tuple #[.agg #[.int .u64 (W0 (0)), .int .u64 (W1 (0)), .int .u64 (W2 (0))], .bool false])) :
    Calls Try.prog 39 #[.agg #[.int .u64 (W0 (m)), .int .u64 (W1 (m)), .int .u64 (W2 (m))], .agg #[.int .u64 (W0 (n)), .int .u64 (W1 (n)), .int .u64 (W2 (n))]] w fun e w' => e = .returned V ∧ Below w.heap.size w w' := by
  go_enter Try.func39, Try.ntmps39
  go_wp2
  go_loopw [7, 8] (fun c i W => ∃ k : Nat, k ≤ 192 ∧ i = .int .i64 k ∧ c = .int .u64 (((m % 2 ^ k + n % 2 ^ k) / 2 ^ k : Nat) : Int) ∧ Has W w.heap.size m ∧ Has W (w.heap.size + 1) n ∧ Has W (w.heap.size + 1 + 1) 0 ∧ Has W (w.heap.size + 1 + 1 + 1) ((m + n) % 2 ^ k) ∧ Below w.heap.size w W) (fun _ i W => 192 - (intOf i).toNat)
  case atStart =>
    refine ⟨0, by omega, rfl, by simp [Nat.mod_one], ?_, ?_, ?_, ?_, (by repeat (first | with_reducible exact Below.refl _ _ | with_reducible assumption | with_reducible refine Below.drew ?_ | with_reducible refine below_drewN ?_ _ | with_reducible refine Below.alloc ?_ (by simp <;> omega) _ | with_reducible refine Below.setCell ?_ (by simp <;> omega) _))⟩
    · exact (((Has.new w m _ _ rfl).alloc _).alloc _).alloc _
    · exact ((Has.new _ n _ _ (by simp)).alloc _).alloc _
    · exact (Has.new _ 0 _ _ (by simp)).alloc _
    · rw [Nat.pow_zero, Nat.mod_one]; exact Has.new _ 0 _ _ (by simp)
  case round =>
    obtain ⟨k, hk, rfl, rfl, ha, hb, hr, ho, hB⟩ := hrel
    have la := ha.lt; have lb := hb.lt; have lr := hr.lt; have lo := ho.lt
    have hb' := hid hB
    generalize h3 : w.heap.size + 1 + 1 + 1 = p3 at *
    generalize h2 : w.heap.size + 1 + 1 = p2 at *
    generalize h1 : w.heap.size + 1 = p1 at *
    have P1 : Hid (w.heap.size + 1 = p1) := h1
    have P2 : Hid (p1 + 1 = p2) := h2
    have P3 : Hid (p2 + 1 = p3) := h3
    clear h1 h2 h3
    by_cases hk' : k < 192
    · have st := add_step m n k
      have hp : 0 < 2 ^ k := Nat.two_pow_pos k
      have cb : (m % 2 ^ k + n % 2 ^ k) / 2 ^ k < 2 := by
        rw [Nat.div_lt_iff_lt_mul hp]
        have := Nat.mod_lt m hp; have := Nat.mod_lt n hp; omega
      have oo : (m + n) % 2 ^ k < 2 ^ k := Nat.mod_lt _ hp
      have hbm := fun w => bit_any m k hk' w
      have hbn := fun w => bit_any n k hk' w
      have hpt := fun w => put_any ((m + n) % 2 ^ k) k hk' w
      rw [or_pow _ _ oo] at hpt
      have xb : m / 2 ^ k % 2 < 2 := Nat.mod_lt _ (by omega)
      have yb : n / 2 ^ k % 2 < 2 := Nat.mod_lt _ (by omega)
      have hs : bits .and .u64 (((m / 2 ^ k % 2 : Nat) : Int) + ((n / 2 ^ k % 2 : Nat) : Int) + (((m % 2 ^ k + n % 2 ^ k) / 2 ^ k : Nat) : Int)) 1 = (((m / 2 ^ k % 2 + n / 2 ^ k % 2 + (m % 2 ^ k + n % 2 ^ k) / 2 ^ k) % 2 : Nat) : Int) := by
        rw [← Int.natCast_add, ← Int.natCast_add]
        have sb : m / 2 ^ k % 2 + n / 2 ^ k % 2 + (m % 2 ^ k + n % 2 ^ k) / 2 ^ k < 18446744073709551616 := by omega
        clear st
        generalize m / 2 ^ k % 2 + n / 2 ^ k % 2 + (m % 2 ^ k + n % 2 ^ k) / 2 ^ k = s at *
        have := and_one s 0 sb
        simpa using this
      generalize m / 2 ^ k % 2 = x at *
      generalize n / 2 ^ k % 2 = y at *
      generalize (m % 2 ^ k + n % 2 ^ k) / 2 ^ k = c at *
      generalize (m + n) % 2 ^ k = o at *
      obtain ⟨q, hq⟩ : ∃ q, o + 2 ^ k = q := ⟨_, rfl⟩
      rw [hq] at hpt
      have HQ : Hid (o + 2 ^ k = q) := hq
      have ST := hid st
      have BM := hid hbm; have BN := hid hbn; have PT := hid hpt
      have HA : Hid (Has wr w.heap.size m) := ha; have HB : Hid (Has wr (p1) n) := hb; have HR : Hid (Has wr (p2) 0) := hr; have HO : Hid (Has wr (p3) o) := ho
      obtain ⟨⟨a0, a1, a2⟩, fa⟩ := ha
      obtain ⟨⟨b0, b1, b2⟩, fb⟩ := hb
      obtain ⟨⟨o0, o1, o2⟩, fo⟩ := ho
      have x1 : (x : Int) ≤ 1 := by omega
      have y1 : (y : Int) ≤ 1 := by omega
      have c1 : (c : Int) ≤ 1 := by omega
      have kk : (k : Int) < 192 := by omega
      clear hq st hbm hbn hpt hr hB oo hp xb yb cb hk
      have hr01 : (x + y + c) % 2 = 0 ∨ (x + y + c) % 2 = 1 := by omega
      rcases hr01 with h01 | h01
      · rw [h01] at hs
        have H01 := hid h01
        clear h01
        go_wp2_with fail
        go_region_held3 (fun W => (W.cell? ⟨w.heap.size, 0, none⟩ = some (.int .u64 (W0 m)) ∧ W.cell? ⟨w.heap.size, 1, none⟩ = some (.int .u64 (W1 m)) ∧ W.cell? ⟨w.heap.size, 2, none⟩ = some (.int .u64 (W2 m))) ∧ (W.cell? ⟨p1, 0, none⟩ = some (.int .u64 (W0 n)) ∧ W.cell? ⟨p1, 1, none⟩ = some (.int .u64 (W1 n)) ∧ W.cell? ⟨p1, 2, none⟩ = some (.int .u64 (W2 n)))) (first | exact ⟨(HA.out.grown (Below.refl _ _).drew).1, (HB.out.grown (Below.refl _ _).drew).1⟩ | exact ⟨(HA.out.grown hb1).1, (HB.out.grown hb1).1⟩ | exact ⟨((HA.out.grown hb1).grown hb2).1, ((HB.out.grown hb1).grown hb2).1⟩) (first | (go_at_call_of 67 m; refine (BM.out _).mono ?_; rintro e w1 ⟨rfl, hb1⟩; replace hb1 := undrew hb1; obtain ⟨bc1, bf1⟩ := bcell hb1; have hz1 : p3 < w1.heap.size := by have := hb1.size; (try simp at this); omega) | (go_at_call_of 67 n; refine (BN.out _).mono ?_; rintro e w2 ⟨rfl, hb2⟩; obtain ⟨bc2, bf2⟩ := bcell hb2; have hz2 : p3 < w2.heap.size := by have := hb2.size; (try simp at this); omega))
        go_wp2
        have g := gt hb1 hb2
        refine ⟨⟨k + 1, by omega, by go_num, congrArg (Value.int .u64) (by rw [← ST.out.1]; omega), HA.out.grown g, HB.out.grown g, HR.out.grown g, ?_, gt hb'.out g⟩, by simp [intOf]; omega⟩
        rw [ST.out.2, H01.out, Nat.zero_mul, Nat.add_zero]
        exact HO.out.grown g
      · rw [h01] at hs
        have H01 := hid h01
        clear h01
        go_wp2_with fail
        go_region_held3 (fun W => (W.cell? ⟨w.heap.size, 0, none⟩ = some (.int .u64 (W0 m)) ∧ W.cell? ⟨w.heap.size, 1, none⟩ = some (.int .u64 (W1 m)) ∧ W.cell? ⟨w.heap.size, 2, none⟩ = some (.int .u64 (W2 m))) ∧ (W.cell? ⟨p1, 0, none⟩ = some (.int .u64 (W0 n)) ∧ W.cell? ⟨p1, 1, none⟩ = some (.int .u64 (W1 n)) ∧ W.cell? ⟨p1, 2, none⟩ = some (.int .u64 (W2 n)))) (first | exact ⟨(HA.out.grown (Below.refl _ _).drew).1, (HB.out.grown (Below.refl _ _).drew).1⟩ | exact ⟨(HA.out.grown hb1).1, (HB.out.grown hb1).1⟩ | exact ⟨((HA.out.grown hb1).grown hb2).1, ((HB.out.grown hb1).grown hb2).1⟩) (first | (go_at_call_of 67 m; refine (BM.out _).mono ?_; rintro e w1 ⟨rfl, hb1⟩; replace hb1 := undrew hb1; obtain ⟨bc1, bf1⟩ := bcell hb1; have hz1 : p3 < w1.heap.size := by have := hb1.size; (try simp at this); omega) | (go_at_call_of 67 n; refine (BN.out _).mono ?_; rintro e w2 ⟨rfl, hb2⟩; obtain ⟨bc2, bf2⟩ := bcell hb2; have hz2 : p3 < w2.heap.size := by have := hb2.size; (try simp at this); omega))
        go_wp2_with (go_at_call 68; refine (PT.out _).mono ?_; rintro e w3 ⟨rfl, hb3⟩; obtain ⟨bc3, bf3⟩ := bcell hb3)
        have g := gt (gt hb1 hb2) hb3
        refine ⟨⟨k + 1, by omega, by go_num, congrArg (Value.int .u64) (by rw [← ST.out.1]; omega), ?_, ?_, ?_, ?_, (((gt hb'.out g).setCell (by have := P1.out; have := P2.out; have := P3.out; show w.heap.size ≤ p3; omega) _).setCell (by have := P1.out; have := P2.out; have := P3.out; show w.heap.size ≤ p3; omega) _).setCell (by have := P1.out; have := P2.out; have := P3.out; show w.heap.size ≤ p3; omega) _⟩, by simp [intOf]; omega⟩
        · exact (((HA.out.grown g).far _ _ _ (by have := P1.out; have := P2.out; have := P3.out; omega)).far _ _ _ (by have := P1.out; have := P2.out; have := P3.out; omega)).far _ _ _ (by have := P1.out; have := P2.out; have := P3.out; omega)
        · exact (((HB.out.grown g).far _ _ _ (by have := P1.out; have := P2.out; have := P3.out; omega)).far _ _ _ (by have := P1.out; have := P2.out; have := P3.out; omega)).far _ _ _ (by have := P1.out; have := P2.out; have := P3.out; omega)
        · exact (((HR.out.grown g).far _ _ _ (by have := P1.out; have := P2.out; have := P3.out; omega)).far _ _ _ (by have := P1.out; have := P2.out; have := P3.out; omega)).far _ _ _ (by have := P1.out; have := P2.out; have := P3.out; omega)
        · rw [ST.out.2, H01.out, Nat.one_mul, HQ.out]
          exact (HO.out.grown g).set _
    · obtain rfl : k = 192 := by omega
      have em : m % 2 ^ 192 = m := Nat.mod_eq_of_lt hm
      have en : n % 2 ^ 192 = n := Nat.mod_eq_of_lt hn
      rw [em, en]
      obtain ⟨⟨r0, r1, r2⟩, fr⟩ := hr
      by_cases hs : m + n < 6277101735386680763835789423207666416102355444464034512896
      · rw [Nat.mod_eq_of_lt hs] at ho
        obtain ⟨⟨o0, o1, o2⟩, fo⟩ := ho
        have hc : (((m + n) / 2 ^ 192 : Nat) : Int) = 0 := by rw [Nat.div_eq_of_lt hs]; rfl
        rw [hc]
        obtain rfl := hV.out hs
        have HS := hid hs
        clear hs hc em en hV hV' ha hb hB
        go_wp2
        exact bodyPost_ret (v := .tuple #[.agg #[.int .u64 (W0 (m + n)), .int .u64 (W1 (m + n)), .int .u64 (W2 (m + n))], .bool true]) (by simp [results, Try.results39, go_sem, *]) rfl ⟨rfl, ((hb'.out.setCell (by have := P1.out; have := P2.out; show w.heap.size ≤ p2; omega) _).setCell (by have := P1.out; have := P2.out; show w.heap.size ≤ p2; omega) _).setCell (by have := P1.out; have := P2.out; show w.heap.size ≤ p2; omega) _⟩
      · obtain ⟨c, hc, hc0⟩ : ∃ c : Int, (((m + n) / 2 ^ 192 : Nat) : Int) = c ∧ 0 < c := by
          refine ⟨_, rfl, ?_⟩
          have : 0 < (m + n) / 2 ^ 192 := Nat.div_pos (by rw [show (2 : Nat) ^ 192 = 6277101735386680763835789423207666416102355444464034512896 from rfl]; omega) (Nat.two_pow_pos 192)
          omega
        rw [hc]
        obtain rfl := hV'.out hs
        have HS := hid hs
        clear hs hc em en hV hV' ha hb hB ho
        simp only [W0_zero, W1_zero, W2_zero] at r0 r1 r2 ⊢
        go_wp2
        exact bodyPost_ret (v := .tuple #[.agg #[.int .u64 0, .int .u64 0, .int .u64 0], .bool false]) (by simp [results, Try.results39, go_sem, *]) rfl ⟨rfl, ((hb'.out.setCell (by have := P1.out; have := P2.out; show w.heap.size ≤ p2; omega) _).setCell (by have := P1.out; have := P2.out; show w.heap.size ≤ p2; omega) _).setCell (by have := P1.out; have := P2.out; show w.heap.size ≤ p2; omega) _⟩

set_option maxRecDepth 100000 in
theorem radd_any (m n : Nat) (hm : m < 6277101735386680763835789423207666416102355444464034512896) (hn : n < 6277101735386680763835789423207666416102355444464034512896) (w : World)
    (h : m + n < 6277101735386680763835789423207666416102355444464034512896) :
    Calls Try.prog 39 #[.agg #[.int .u64 (W0 (m)), .int .u64 (W1 (m)), .int .u64 (W2 (m))], .agg #[.int .u64 (W0 (n)), .int .u64 (W1 (n)), .int .u64 (W2 (n))]] w fun e w' => e = .returned (.tuple #[.agg #[.int .u64 (W0 (m + n)), .int .u64 (W1 (m + n)), .int .u64 (W2 (m + n))], .bool true]) ∧ Below w.heap.size w w' :=
  radd_v m n hm hn w _ (fun _ => rfl) (fun k => absurd h k)

set_option maxRecDepth 100000 in
theorem radd_over (m n : Nat) (hm : m < 6277101735386680763835789423207666416102355444464034512896) (hn : n < 6277101735386680763835789423207666416102355444464034512896) (w : World)
    (h : ¬ m + n < 6277101735386680763835789423207666416102355444464034512896) :
    Calls Try.prog 39 #[.agg #[.int .u64 (W0 (m)), .int .u64 (W1 (m)), .int .u64 (W2 (m))], .agg #[.int .u64 (W0 (n)), .int .u64 (W1 (n)), .int .u64 (W2 (n))]] w fun e w' => e = .returned (.tuple #[.agg #[.int .u64 0, .int .u64 0, .int .u64 0], .bool false]) ∧ Below w.heap.size w w' :=
  radd_v m n hm hn w _ (fun k => absurd k h) (fun _ => by rw [W0_zero, W1_zero, W2_zero])

end Wid
end Go.Proofs.Ytjlahomjhadnkaa
