/- What the document's own function Sub returns, as a contract over numbers below 2^192; no statement of the seat is proved here. -/
import Derived.Test.YtfjepmhlkelinaaRd
namespace Go.Proofs.Ytfjepmhlkelinaa
open Go.RowKit

theorem bor_all (m n : Nat) (hm : m < 6277101735386680763835789423207666416102355444464034512896) (hn : n < 6277101735386680763835789423207666416102355444464034512896) : bor m n 192 = if m < n then 1 else 0 := by
  unfold bor
  rw [Nat.mod_eq_of_lt (show m < 2 ^ 192 from hm), Nat.mod_eq_of_lt (show n < 2 ^ 192 from hn)]

set_option maxHeartbeats 1000000 in
set_option maxRecDepth 100000 in
theorem rsub_v (m n : Nat) (hm : m < 6277101735386680763835789423207666416102355444464034512896) (hn : n < 6277101735386680763835789423207666416102355444464034512896) (w : World) (V : Value)
    (hV : Hid (n ≤ m → V = .tuple #[.agg #[.int .u64 (W0 (m - n)), .int .u64 (W1 (m - n)), .int .u64 (W2 (m - n))], .bool true])) (hV' : Hid (¬ n ≤ m → V = .tuple #[.agg #[.int .u64 (W0 (0)), .int .u64 (W1 (0)), .int .u64 (W2 (0))], .bool false])) :
    Calls Try.prog 12 #[.agg #[.int .u64 (W0 (m)), .int .u64 (W1 (m)), .int .u64 (W2 (m))], .agg #[.int .u64 (W0 (n)), .int .u64 (W1 (n)), .int .u64 (W2 (n))]] w fun e w' => e = .returned V ∧ Below w.heap.size w w' := by
  go_enter Try.func12, Try.ntmps12
  go_wp2
  go_loopw [7, 8] (fun c i W => ∃ k : Nat, k ≤ 192 ∧ i = .int .i64 k ∧ c = .int .u64 ((bor m n k : Nat) : Int) ∧ Has W w.heap.size m ∧ Has W (w.heap.size + 1) n ∧ Has W (w.heap.size + 1 + 1) 0 ∧ Has W (w.heap.size + 1 + 1 + 1) (m % 2 ^ k + bor m n k * 2 ^ k - n % 2 ^ k) ∧ Below w.heap.size w W) (fun _ i W => 192 - (intOf i).toNat)
  case atStart =>
    have b0 : bor m n 0 = 0 := by simp [bor, Nat.mod_one]
    refine ⟨0, by omega, rfl, by rw [b0]; rfl, ?_, ?_, ?_, ?_, (by repeat (first | with_reducible exact Below.refl _ _ | with_reducible assumption | with_reducible refine Below.drew ?_ | with_reducible refine below_drewN ?_ _ | with_reducible refine Below.alloc ?_ (by simp <;> omega) _ | with_reducible refine Below.setCell ?_ (by simp <;> omega) _))⟩
    · exact (((Has.new w m _ _ rfl).alloc _).alloc _).alloc _
    · exact ((Has.new _ n _ _ (by simp)).alloc _).alloc _
    · exact (Has.new _ 0 _ _ (by simp)).alloc _
    · rw [b0, Nat.pow_zero, Nat.mod_one, Nat.mod_one]; exact Has.new _ 0 _ _ (by simp)
  case round =>
    obtain ⟨k, hk, rfl, rfl, ha, hb, hr, ho, hB⟩ := hrel
    have la := ha.lt; have lb := hb.lt; have lr := hr.lt; have lo := ho.lt
    have hb' := hid hB
    generalize h3 : w.heap.size + 1 + 1 + 1 = p3 at *
    generalize h2 : w.heap.size + 1 + 1 = p2 at *
    generalize h1 : w.heap.size + 1 = p1 at *
    have P1 : Hid (w.heap.size + 1 = p1) := h1
    have P2 : Hid (p1 + 1 = p2) := h2
    have P3 : Hid (p2 + 1 = p3) := h3
    clear h1 h2 h3
    by_cases hk' : k < 192
    · have st := sub_step m n k
      have cb := bor_01 m n k
      have oo := dif_lt m n k
      have hbm := fun w => bit_any m k hk' w
      have hbn := fun w => bit_any n k hk' w
      have hpt := fun w => put_any (m % 2 ^ k + bor m n k * 2 ^ k - n % 2 ^ k) k hk' w
      rw [or_pow _ _ oo] at hpt
      have xb : m / 2 ^ k % 2 < 2 := Nat.mod_lt _ (by omega)
      have yb : n / 2 ^ k % 2 < 2 := Nat.mod_lt _ (by omega)
      generalize m / 2 ^ k % 2 = x at *
      generalize n / 2 ^ k % 2 = y at *
      generalize m % 2 ^ k + bor m n k * 2 ^ k - n % 2 ^ k = o at *
      generalize bor m n k = c at *
      have hs : bits .and .u64 ((x : Int) + ((y : Int) + (c : Int))) 1 = (((x + (y + c)) % 2 : Nat) : Int) := by
        have := and_one (x + (y + c)) 0 (by omega)
        simpa using this
      obtain ⟨q, hq⟩ : ∃ q, o + 2 ^ k = q := ⟨_, rfl⟩
      rw [hq] at hpt
      have HQ : Hid (o + 2 ^ k = q) := hq
      have ST := hid st
      have BM := hid hbm; have BN := hid hbn; have PT := hid hpt
      have HA : Hid (Has wr w.heap.size m) := ha; have HB : Hid (Has wr p1 n) := hb; have HR : Hid (Has wr p2 0) := hr; have HO : Hid (Has wr p3 o) := ho
      obtain ⟨⟨a0, a1, a2⟩, fa⟩ := ha
      obtain ⟨⟨b0, b1, b2⟩, fb⟩ := hb
      obtain ⟨⟨o0, o1, o2⟩, fo⟩ := ho
      have x1 : (x : Int) ≤ 1 := by omega
      have y1 : (y : Int) ≤ 1 := by omega
      have c1 : (c : Int) ≤ 1 := by omega
      have kk : (k : Int) < 192 := by omega
      have cases4 : ((x + (y + c)) % 2 = 0 ∧ x < y + c) ∨ ((x + (y + c)) % 2 = 0 ∧ ¬ x < y + c) ∨ ((x + (y + c)) % 2 = 1 ∧ x < y + c) ∨ ((x + (y + c)) % 2 = 1 ∧ ¬ x < y + c) := by omega
      clear hq st hbm hbn hpt hr hB oo xb yb cb hk
      rcases cases4 with ⟨h01, hg⟩ | ⟨h01, hg⟩ | ⟨h01, hg⟩ | ⟨h01, hg⟩
      · rw [h01] at hs
        have H01 := hid h01
        have HG := hid hg
        have hg' : (x : Int) < (y : Int) + (c : Int) := by omega
        clear h01 hg
        go_wp2_with fail
        go_region_held3 (fun W => (W.cell? ⟨w.heap.size, 0, none⟩ = some (.int .u64 (W0 m)) ∧ W.cell? ⟨w.heap.size, 1, none⟩ = some (.int .u64 (W1 m)) ∧ W.cell? ⟨w.heap.size, 2, none⟩ = some (.int .u64 (W2 m))) ∧ (W.cell? ⟨p1, 0, none⟩ = some (.int .u64 (W0 n)) ∧ W.cell? ⟨p1, 1, none⟩ = some (.int .u64 (W1 n)) ∧ W.cell? ⟨p1, 2, none⟩ = some (.int .u64 (W2 n)))) (first | exact ⟨(HA.out.grown (Below.refl _ _).drew).1, (HB.out.grown (Below.refl _ _).drew).1⟩ | exact ⟨(HA.out.grown hb1).1, (HB.out.grown hb1).1⟩ | exact ⟨((HA.out.grown hb1).grown hb2).1, ((HB.out.grown hb1).grown hb2).1⟩) (first | (go_at_call_of 28 m; refine (BM.out _).mono ?_; rintro e w1 ⟨rfl, hb1⟩; replace hb1 := undrew hb1; obtain ⟨bc1, bf1⟩ := bcell hb1; have hz1 : p3 < w1.heap.size := by have := hb1.size; (try simp at this); omega) | (go_at_call_of 28 n; refine (BN.out _).mono ?_; rintro e w2 ⟨rfl, hb2⟩; obtain ⟨bc2, bf2⟩ := bcell hb2; have hz2 : p3 < w2.heap.size := by have := hb2.size; (try simp at this); omega))
        go_wp2
        have g := gt hb1 hb2
        refine ⟨⟨k + 1, by omega, by go_num, congrArg (Value.int .u64) (by rw [ST.out.1, if_pos HG.out]; rfl), HA.out.grown g, HB.out.grown g, HR.out.grown g, ?_, gt hb'.out g⟩, by simp [intOf]; omega⟩
        rw [ST.out.2, H01.out, Nat.zero_mul, Nat.add_zero]
        exact HO.out.grown g
      · rw [h01] at hs
        have H01 := hid h01
        have HG := hid hg
        have hg' : ¬ (x : Int) < (y : Int) + (c : Int) := by omega
        clear h01 hg
        go_wp2_with fail
        go_region_held3 (fun W => (W.cell? ⟨w.heap.size, 0, none⟩ = some (.int .u64 (W0 m)) ∧ W.cell? ⟨w.heap.size, 1, none⟩ = some (.int .u64 (W1 m)) ∧ W.cell? ⟨w.heap.size, 2, none⟩ = some (.int .u64 (W2 m))) ∧ (W.cell? ⟨p1, 0, none⟩ = some (.int .u64 (W0 n)) ∧ W.cell? ⟨p1, 1, none⟩ = some (.int .u64 (W1 n)) ∧ W.cell? ⟨p1, 2, none⟩ = some (.int .u64 (W2 n)))) (first | exact ⟨(HA.out.grown (Below.refl _ _).drew).1, (HB.out.grown (Below.refl _ _).drew).1⟩ | exact ⟨(HA.out.grown hb1).1, (HB.out.grown hb1).1⟩ | exact ⟨((HA.out.grown hb1).grown hb2).1, ((HB.out.grown hb1).grown hb2).1⟩) (first | (go_at_call_of 28 m; refine (BM.out _).mono ?_; rintro e w1 ⟨rfl, hb1⟩; replace hb1 := undrew hb1; obtain ⟨bc1, bf1⟩ := bcell hb1; have hz1 : p3 < w1.heap.size := by have := hb1.size; (try simp at this); omega) | (go_at_call_of 28 n; refine (BN.out _).mono ?_; rintro e w2 ⟨rfl, hb2⟩; obtain ⟨bc2, bf2⟩ := bcell hb2; have hz2 : p3 < w2.heap.size := by have := hb2.size; (try simp at this); omega))
        go_wp2
        have g := gt hb1 hb2
        refine ⟨⟨k + 1, by omega, by go_num, congrArg (Value.int .u64) (by rw [ST.out.1, if_neg HG.out]; rfl), HA.out.grown g, HB.out.grown g, HR.out.grown g, ?_, gt hb'.out g⟩, by simp [intOf]; omega⟩
        rw [ST.out.2, H01.out, Nat.zero_mul, Nat.add_zero]
        exact HO.out.grown g
      · rw [h01] at hs
        have H01 := hid h01
        have HG := hid hg
        have hg' : (x : Int) < (y : Int) + (c : Int) := by omega
        clear h01 hg
        go_wp2_with fail
        go_region_held3 (fun W => (W.cell? ⟨w.heap.size, 0, none⟩ = some (.int .u64 (W0 m)) ∧ W.cell? ⟨w.heap.size, 1, none⟩ = some (.int .u64 (W1 m)) ∧ W.cell? ⟨w.heap.size, 2, none⟩ = some (.int .u64 (W2 m))) ∧ (W.cell? ⟨p1, 0, none⟩ = some (.int .u64 (W0 n)) ∧ W.cell? ⟨p1, 1, none⟩ = some (.int .u64 (W1 n)) ∧ W.cell? ⟨p1, 2, none⟩ = some (.int .u64 (W2 n)))) (first | exact ⟨(HA.out.grown (Below.refl _ _).drew).1, (HB.out.grown (Below.refl _ _).drew).1⟩ | exact ⟨(HA.out.grown hb1).1, (HB.out.grown hb1).1⟩ | exact ⟨((HA.out.grown hb1).grown hb2).1, ((HB.out.grown hb1).grown hb2).1⟩) (first | (go_at_call_of 28 m; refine (BM.out _).mono ?_; rintro e w1 ⟨rfl, hb1⟩; replace hb1 := undrew hb1; obtain ⟨bc1, bf1⟩ := bcell hb1; have hz1 : p3 < w1.heap.size := by have := hb1.size; (try simp at this); omega) | (go_at_call_of 28 n; refine (BN.out _).mono ?_; rintro e w2 ⟨rfl, hb2⟩; obtain ⟨bc2, bf2⟩ := bcell hb2; have hz2 : p3 < w2.heap.size := by have := hb2.size; (try simp at this); omega))
        go_wp2_with (go_at_call 29; refine (PT.out _).mono ?_; rintro e w3 ⟨rfl, hb3⟩; obtain ⟨bc3, bf3⟩ := bcell hb3)
        have g := gt (gt hb1 hb2) hb3
        refine ⟨⟨k + 1, by omega, by go_num, congrArg (Value.int .u64) (by rw [ST.out.1, if_pos HG.out]; rfl), ?_, ?_, ?_, ?_, (((gt hb'.out g).setCell (by have := P1.out; have := P2.out; have := P3.out; show w.heap.size ≤ p3; omega) _).setCell (by have := P1.out; have := P2.out; have := P3.out; show w.heap.size ≤ p3; omega) _).setCell (by have := P1.out; have := P2.out; have := P3.out; show w.heap.size ≤ p3; omega) _⟩, by simp [intOf]; omega⟩
        · exact (((HA.out.grown g).far _ _ _ (by have := P1.out; have := P2.out; have := P3.out; omega)).far _ _ _ (by have := P1.out; have := P2.out; have := P3.out; omega)).far _ _ _ (by have := P1.out; have := P2.out; have := P3.out; omega)
        · exact (((HB.out.grown g).far _ _ _ (by have := P1.out; have := P2.out; have := P3.out; omega)).far _ _ _ (by have := P1.out; have := P2.out; have := P3.out; omega)).far _ _ _ (by have := P1.out; have := P2.out; have := P3.out; omega)
        · exact (((HR.out.grown g).far _ _ _ (by have := P1.out; have := P2.out; have := P3.out; omega)).far _ _ _ (by have := P1.out; have := P2.out; have := P3.out; omega)).far _ _ _ (by have := P1.out; have := P2.out; have := P3.out; omega)
        · rw [ST.out.2, H01.out, Nat.one_mul, HQ.out]
          exact (HO.out.grown g).set _
      · rw [h01] at hs
        have H01 := hid h01
        have HG := hid hg
        have hg' : ¬ (x : Int) < (y : Int) + (c : Int) := by omega
        clear h01 hg
        go_wp2_with fail
        go_region_held3 (fun W => (W.cell? ⟨w.heap.size, 0, none⟩ = some (.int .u64 (W0 m)) ∧ W.cell? ⟨w.heap.size, 1, none⟩ = some (.int .u64 (W1 m)) ∧ W.cell? ⟨w.heap.size, 2, none⟩ = some (.int .u64 (W2 m))) ∧ (W.cell? ⟨p1, 0, none⟩ = some (.int .u64 (W0 n)) ∧ W.cell? ⟨p1, 1, none⟩ = some (.int .u64 (W1 n)) ∧ W.cell? ⟨p1, 2, none⟩ = some (.int .u64 (W2 n)))) (first | exact ⟨(HA.out.grown (Below.refl _ _).drew).1, (HB.out.grown (Below.refl _ _).drew).1⟩ | exact ⟨(HA.out.grown hb1).1, (HB.out.grown hb1).1⟩ | exact ⟨((HA.out.grown hb1).grown hb2).1, ((HB.out.grown hb1).grown hb2).1⟩) (first | (go_at_call_of 28 m; refine (BM.out _).mono ?_; rintro e w1 ⟨rfl, hb1⟩; replace hb1 := undrew hb1; obtain ⟨bc1, bf1⟩ := bcell hb1; have hz1 : p3 < w1.heap.size := by have := hb1.size; (try simp at this); omega) | (go_at_call_of 28 n; refine (BN.out _).mono ?_; rintro e w2 ⟨rfl, hb2⟩; obtain ⟨bc2, bf2⟩ := bcell hb2; have hz2 : p3 < w2.heap.size := by have := hb2.size; (try simp at this); omega))
        go_wp2_with (go_at_call 29; refine (PT.out _).mono ?_; rintro e w3 ⟨rfl, hb3⟩; obtain ⟨bc3, bf3⟩ := bcell hb3)
        have g := gt (gt hb1 hb2) hb3
        refine ⟨⟨k + 1, by omega, by go_num, congrArg (Value.int .u64) (by rw [ST.out.1, if_neg HG.out]; rfl), ?_, ?_, ?_, ?_, (((gt hb'.out g).setCell (by have := P1.out; have := P2.out; have := P3.out; show w.heap.size ≤ p3; omega) _).setCell (by have := P1.out; have := P2.out; have := P3.out; show w.heap.size ≤ p3; omega) _).setCell (by have := P1.out; have := P2.out; have := P3.out; show w.heap.size ≤ p3; omega) _⟩, by simp [intOf]; omega⟩
        · exact (((HA.out.grown g).far _ _ _ (by have := P1.out; have := P2.out; have := P3.out; omega)).far _ _ _ (by have := P1.out; have := P2.out; have := P3.out; omega)).far _ _ _ (by have := P1.out; have := P2.out; have := P3.out; omega)
        · exact (((HB.out.grown g).far _ _ _ (by have := P1.out; have := P2.out; have := P3.out; omega)).far _ _ _ (by have := P1.out; have := P2.out; have := P3.out; omega)).far _ _ _ (by have := P1.out; have := P2.out; have := P3.out; omega)
        · exact (((HR.out.grown g).far _ _ _ (by have := P1.out; have := P2.out; have := P3.out; omega)).far _ _ _ (by have := P1.out; have := P2.out; have := P3.out; omega)).far _ _ _ (by have := P1.out; have := P2.out; have := P3.out; omega)
        · rw [ST.out.2, H01.out, Nat.one_mul, HQ.out]
          exact (HO.out.grown g).set _
    · obtain rfl : k = 192 := by omega
      have hbo := bor_all m n hm hn
      rw [hbo] at ho ⊢
      rw [Nat.mod_eq_of_lt (show m < 2 ^ 192 from hm), Nat.mod_eq_of_lt (show n < 2 ^ 192 from hn)] at ho
      obtain ⟨⟨r0, r1, r2⟩, fr⟩ := hr
      by_cases hs : n ≤ m
      · rw [if_neg (by omega)] at ho ⊢
        rw [Nat.zero_mul, Nat.add_zero] at ho
        obtain ⟨⟨o0, o1, o2⟩, fo⟩ := ho
        obtain rfl := hV.out hs
        clear hs hbo hV hV' ha hb hB
        go_wp2
        exact bodyPost_ret (v := .tuple #[.agg #[.int .u64 (W0 (m - n)), .int .u64 (W1 (m - n)), .int .u64 (W2 (m - n))], .bool true]) (by simp [results, Try.results12, go_sem, *]) rfl ⟨rfl, ((hb'.out.setCell (by have := P1.out; have := P2.out; show w.heap.size ≤ p2; omega) _).setCell (by have := P1.out; have := P2.out; show w.heap.size ≤ p2; omega) _).setCell (by have := P1.out; have := P2.out; show w.heap.size ≤ p2; omega) _⟩
      · rw [if_pos (by omega)]
        obtain rfl := hV'.out hs
        clear hs hbo hV hV' ha hb hB ho
        simp only [W0_zero, W1_zero, W2_zero] at r0 r1 r2 ⊢
        go_wp2
        exact bodyPost_ret (v := .tuple #[.agg #[.int .u64 0, .int .u64 0, .int .u64 0], .bool false]) (by simp [results, Try.results12, go_sem, *]) rfl ⟨rfl, ((hb'.out.setCell (by have := P1.out; have := P2.out; show w.heap.size ≤ p2; omega) _).setCell (by have := P1.out; have := P2.out; show w.heap.size ≤ p2; omega) _).setCell (by have := P1.out; have := P2.out; show w.heap.size ≤ p2; omega) _⟩

end Go.Proofs.Ytfjepmhlkelinaa
