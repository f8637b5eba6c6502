/- What the document's own function Times returns, as a contract; no statement of the seat is proved here. What the document's own function Sub returns, as a contract over numbers below 2^192; no statement of the seat is proved here. What the document's own functions Cmp and Width, and Bits of package wide, return, as contracts over numbers below 2^192; no statement of the seat is proved here. -/
import Derived.Test.YtjlahomjhadnkaaWRb
import Derived.Test.YtjlahomjhadnkaaWRd
namespace Go.Proofs.Ytjlahomjhadnkaa
namespace Wid
open Go.RowKit

set_option maxRecDepth 100000 in
theorem mul_step (a b k : Nat) : a * (b % 2 ^ (k + 1)) = a * (b % 2 ^ k) + a * 2 ^ k * (b / 2 ^ k % 2) ∧ a * 2 ^ (k + 1) = a * 2 ^ k + a * 2 ^ k := by
  constructor
  · rw [Nat.pow_succ, Nat.mod_mul, Nat.mul_add, Nat.mul_assoc]
  · rw [Nat.pow_succ, ← Nat.mul_assoc, Nat.mul_two]

set_option maxRecDepth 100000 in
theorem mul_bd (a b k : Nat) (ha : a < 18446744073709551616) (hk : k ≤ 64) : a * (b % 2 ^ k) ≤ 340282366920938463463374607431768211456 ∧ a * 2 ^ k ≤ 340282366920938463463374607431768211456 := by
  have hp : (2 : Nat) ^ k ≤ 18446744073709551616 := by
    have := Nat.pow_le_pow_right (n := 2) (by omega) hk
    rwa [show (2 : Nat) ^ 64 = 18446744073709551616 from rfl] at this
  have hm : b % 2 ^ k ≤ 18446744073709551616 := Nat.le_trans (Nat.le_of_lt (Nat.mod_lt _ (Nat.two_pow_pos k))) hp
  have h1 := Nat.mul_le_mul (Nat.le_of_lt ha) hm
  have h2 := Nat.mul_le_mul (Nat.le_of_lt ha) hp
  omega

set_option maxHeartbeats 1000000 in
set_option maxRecDepth 100000 in
theorem rtimes_any (a b : Nat) (ha : a < 18446744073709551616) (hb : b < 18446744073709551616) (w : World) :
    Calls Try.prog 51 #[.int .u64 a, .int .u64 b] w fun e w' => e = .returned (.agg #[.int .u64 (W0 (a * b)), .int .u64 (W1 (a * b)), .int .u64 (W2 (a * b))]) ∧ Below w.heap.size w w' := by
  go_enter Try.func51, Try.ntmps51
  go_wp2
  go_loopw [7] (fun i W => ∃ k : Nat, k ≤ 64 ∧ i = .int .i64 k ∧ Has W w.heap.size 0 ∧ Has W (w.heap.size + 1) (a * (b % 2 ^ k)) ∧ Has W (w.heap.size + 1 + 1) (a * 2 ^ k) ∧ Below w.heap.size w W) (fun i W => 64 - (intOf i).toNat)
  case atStart =>
    obtain ⟨e0, e1, e2⟩ := W_small a ha
    refine ⟨0, by omega, rfl, ?_, ?_, ?_, (by repeat (first | with_reducible exact Below.refl _ _ | with_reducible assumption | with_reducible refine Below.drew ?_ | with_reducible refine below_drewN ?_ _ | with_reducible refine Below.alloc ?_ (by simp <;> omega) _ | with_reducible refine Below.setCell ?_ (by simp <;> omega) _))⟩
    · exact ((Has.new w 0 _ _ rfl).alloc _).alloc _
    · rw [Nat.pow_zero, Nat.mod_one, Nat.mul_zero]; exact (Has.new _ 0 _ _ (by simp)).alloc _
    · rw [Nat.pow_zero, Nat.mul_one]
      have := Has.new ((w.alloc (Obj.cells #[Value.int IntKind.u64 0, Value.int IntKind.u64 0, Value.int IntKind.u64 0] 27)).alloc (Obj.cells #[Value.int IntKind.u64 0, Value.int IntKind.u64 0, Value.int IntKind.u64 0] 27)) a (w.heap.size + 1 + 1) 27 (by simp)
      rw [e0, e1, e2] at this
      exact this
  case round =>
    obtain ⟨k, hk, rfl, hr, ho, ht, hB⟩ := hrel
    have lr := hr.lt; have lo := ho.lt; have lt := ht.lt
    have hb' : Hid _ := hB
    generalize h2 : w.heap.size + 1 + 1 = p2 at *
    generalize h1 : w.heap.size + 1 = p1 at *
    have P1 : Hid (w.heap.size + 1 = p1) := h1
    have P2 : Hid (p1 + 1 = p2) := h2
    have d12 : ¬ p1 = p2 := by omega
    have d21 : ¬ p2 = p1 := by omega
    clear h1 h2
    by_cases hk' : k < 64
    · obtain ⟨s1, s2⟩ := mul_step a b k
      obtain ⟨m1, m2⟩ := mul_bd a b k ha hk
      have bb : b / 2 ^ k % 2 < 2 := Nat.mod_lt _ (by omega)
      have hs := and_one b k hb
      generalize b / 2 ^ k % 2 = x at *
      generalize a * (b % 2 ^ k) = o at *
      generalize a * 2 ^ k = t at *
      have ad1 := fun w => radd_any o t (by omega) (by omega) w (by omega)
      have ad2 := fun w => radd_any t t (by omega) (by omega) w (by omega)
      have A1 := hid ad1; have A2 := hid ad2; have S1 := hid s1; have S2 := hid s2
      have HR : Hid (Has wr w.heap.size 0) := hr; have HO : Hid (Has wr p1 o) := ho; have HT : Hid (Has wr p2 t) := ht
      obtain ⟨⟨o0, o1, o2⟩, fo⟩ := ho
      obtain ⟨⟨t0, t1, t2⟩, ft⟩ := ht
      have kk : (k : Int) < 64 := by omega
      clear ad1 ad2 s1 s2 hr hB hk m1 m2
      rcases (by omega : x = 0 ∨ x = 1) with rfl | rfl
      · go_wp2_with fail
        refine (A2.out _).mono ?_; rintro e w1 ⟨rfl, hb1⟩; obtain ⟨bc1, bf1⟩ := bcell hb1
        go_wp2
        refine ⟨⟨k + 1, by omega, by go_num, ?_, ?_, ?_, (((gt hb'.out hb1).setCell (by have := P1.out; have := P2.out; show w.heap.size ≤ p2; omega) _).setCell (by have := P1.out; have := P2.out; show w.heap.size ≤ p2; omega) _).setCell (by have := P1.out; have := P2.out; show w.heap.size ≤ p2; omega) _⟩, by simp [intOf]; omega⟩
        · exact (((HR.out.grown hb1).far _ _ _ (by have := P1.out; have := P2.out; omega)).far _ _ _ (by have := P1.out; have := P2.out; omega)).far _ _ _ (by have := P1.out; have := P2.out; omega)
        · rw [S1.out, Nat.mul_zero, Nat.add_zero]
          exact (((HO.out.grown hb1).far _ _ _ d21).far _ _ _ d21).far _ _ _ d21
        · rw [S2.out]
          exact (HT.out.grown hb1).set _
      · go_wp2_with fail
        refine (A1.out _).mono ?_; rintro e w1 ⟨rfl, hb1⟩; obtain ⟨bc1, bf1⟩ := bcell hb1
        go_wp2_with fail
        have xr := (((HR.out.grown hb1).far p1 0 (.int .u64 (W0 (o + t))) (by have := P1.out; have := P2.out; omega)).far p1 1 (.int .u64 (W1 (o + t))) (by have := P1.out; have := P2.out; omega)).far p1 2 (.int .u64 (W2 (o + t))) (by have := P1.out; have := P2.out; omega)
        have xt := (((HT.out.grown hb1).far p1 0 (.int .u64 (W0 (o + t))) d12).far p1 1 (.int .u64 (W1 (o + t))) d12).far p1 2 (.int .u64 (W2 (o + t))) d12
        have xo := (HO.out.grown hb1).set (o + t)
        have xb := (((gt hb'.out hb1).setCell (p := ⟨p1, 0, none⟩) (by have := P1.out; show w.heap.size ≤ p1; omega) (.int .u64 (W0 (o + t)))).setCell (p := ⟨p1, 1, none⟩) (by have := P1.out; show w.heap.size ≤ p1; omega) (.int .u64 (W1 (o + t)))).setCell (p := ⟨p1, 2, none⟩) (by have := P1.out; show w.heap.size ≤ p1; omega) (.int .u64 (W2 (o + t)))
        have XR := hid xr; have XT := hid xt; have XO := hid xo; have XB := hid xb
        clear xr xt xo xb
        refine (A2.out _).mono ?_; rintro e w2 ⟨rfl, hb2⟩
        have yr := XR.out.grown hb2; have yt := XT.out.grown hb2; have yo := XO.out.grown hb2; have yb := gt XB.out hb2
        clear XR XT XO XB hb2 bc1 bf1 hb1 o0 o1 o2 t0 t1 t2 fo ft
        have YR := hid yr; have YT : Hid (Has w2 p2 t) := yt; have YO := hid yo; have YB := hid yb
        obtain ⟨⟨t0, t1, t2⟩, ft⟩ := yt
        clear yr yo yb
        go_wp2
        refine ⟨⟨k + 1, by omega, by go_num, ?_, ?_, ?_, ((YB.out.setCell (by have := P1.out; have := P2.out; show w.heap.size ≤ p2; omega) _).setCell (by have := P1.out; have := P2.out; show w.heap.size ≤ p2; omega) _).setCell (by have := P1.out; have := P2.out; show w.heap.size ≤ p2; omega) _⟩, by simp [intOf]; omega⟩
        · exact ((YR.out.far _ _ _ (by have := P1.out; have := P2.out; omega)).far _ _ _ (by have := P1.out; have := P2.out; omega)).far _ _ _ (by have := P1.out; have := P2.out; omega)
        · rw [S1.out, Nat.mul_one]
          exact ((YO.out.far _ _ _ d21).far _ _ _ d21).far _ _ _ d21
        · rw [S2.out]
          exact YT.out.set _
    · obtain rfl : k = 64 := by omega
      rw [Nat.mod_eq_of_lt (show b < 2 ^ 64 from hb)] at ho
      obtain ⟨⟨o0, o1, o2⟩, fo⟩ := ho
      obtain ⟨⟨r0, r1, r2⟩, fr⟩ := hr
      clear ht hB
      go_wp2
      exact bodyPost_ret (v := .agg #[.int .u64 (W0 (a * b)), .int .u64 (W1 (a * b)), .int .u64 (W2 (a * b))]) (by simp [results, Try.results51, go_sem, *]) rfl ⟨rfl, ((hb'.out.setCell (by simp) _).setCell (by simp) _).setCell (by simp) _⟩
end Wid
end Go.Proofs.Ytjlahomjhadnkaa
namespace Go.Proofs.Ytjlahomjhadnkaa
namespace Wid
open Go.RowKit

set_option maxRecDepth 100000 in
theorem bor_all (m n : Nat) (hm : m < 6277101735386680763835789423207666416102355444464034512896) (hn : n < 6277101735386680763835789423207666416102355444464034512896) : bor m n 192 = if m < n then 1 else 0 := by
  unfold bor
  rw [Nat.mod_eq_of_lt (show m < 2 ^ 192 from hm), Nat.mod_eq_of_lt (show n < 2 ^ 192 from hn)]

set_option maxHeartbeats 1000000 in
set_option maxRecDepth 100000 in
theorem rsub_v (m n : Nat) (hm : m < 6277101735386680763835789423207666416102355444464034512896) (hn : n < 6277101735386680763835789423207666416102355444464034512896) (w : World) (V : Value)
    (hV : Hid (n ≤ m → V = .tuple #[.agg #[.int .u64 (W0 (m - n)), .int .u64 (W1 (m - n)), .int .u64 (W2 (m - n))], .bool true])) (hV' : Hid (¬ n ≤ m → V = .tuple #[.agg #[.int .u64 (W0 (0)), .int .u64 (W1 (0)), .int .u64 (W2 (0))], .bool false])) :
    Calls Try.prog 41 #[.agg #[.int .u64 (W0 (m)), .int .u64 (W1 (m)), .int .u64 (W2 (m))], .agg #[.int .u64 (W0 (n)), .int .u64 (W1 (n)), .int .u64 (W2 (n))]] w fun e w' => e = .returned V ∧ Below w.heap.size w w' := by
  go_enter Try.func41, Try.ntmps41
  go_wp2
  go_loopw [7, 8] (fun c i W => ∃ k : Nat, k ≤ 192 ∧ i = .int .i64 k ∧ c = .int .u64 ((bor m n k : Nat) : Int) ∧ Has W w.heap.size m ∧ Has W (w.heap.size + 1) n ∧ Has W (w.heap.size + 1 + 1) 0 ∧ Has W (w.heap.size + 1 + 1 + 1) (m % 2 ^ k + bor m n k * 2 ^ k - n % 2 ^ k) ∧ Below w.heap.size w W) (fun _ i W => 192 - (intOf i).toNat)
  case atStart =>
    have b0 : bor m n 0 = 0 := by simp [bor, Nat.mod_one]
    refine ⟨0, by omega, rfl, by rw [b0]; rfl, ?_, ?_, ?_, ?_, (by repeat (first | with_reducible exact Below.refl _ _ | with_reducible assumption | with_reducible refine Below.drew ?_ | with_reducible refine below_drewN ?_ _ | with_reducible refine Below.alloc ?_ (by simp <;> omega) _ | with_reducible refine Below.setCell ?_ (by simp <;> omega) _))⟩
    · exact (((Has.new w m _ _ rfl).alloc _).alloc _).alloc _
    · exact ((Has.new _ n _ _ (by simp)).alloc _).alloc _
    · exact (Has.new _ 0 _ _ (by simp)).alloc _
    · rw [b0, Nat.pow_zero, Nat.mod_one, Nat.mod_one]; exact Has.new _ 0 _ _ (by simp)
  case round =>
    obtain ⟨k, hk, rfl, rfl, ha, hb, hr, ho, hB⟩ := hrel
    have la := ha.lt; have lb := hb.lt; have lr := hr.lt; have lo := ho.lt
    have hb' := hid hB
    generalize h3 : w.heap.size + 1 + 1 + 1 = p3 at *
    generalize h2 : w.heap.size + 1 + 1 = p2 at *
    generalize h1 : w.heap.size + 1 = p1 at *
    have P1 : Hid (w.heap.size + 1 = p1) := h1
    have P2 : Hid (p1 + 1 = p2) := h2
    have P3 : Hid (p2 + 1 = p3) := h3
    clear h1 h2 h3
    by_cases hk' : k < 192
    · have st := sub_step m n k
      have cb := bor_01 m n k
      have oo := dif_lt m n k
      have hbm := fun w => bit_any m k hk' w
      have hbn := fun w => bit_any n k hk' w
      have hpt := fun w => put_any (m % 2 ^ k + bor m n k * 2 ^ k - n % 2 ^ k) k hk' w
      rw [or_pow _ _ oo] at hpt
      have xb : m / 2 ^ k % 2 < 2 := Nat.mod_lt _ (by omega)
      have yb : n / 2 ^ k % 2 < 2 := Nat.mod_lt _ (by omega)
      generalize m / 2 ^ k % 2 = x at *
      generalize n / 2 ^ k % 2 = y at *
      generalize m % 2 ^ k + bor m n k * 2 ^ k - n % 2 ^ k = o at *
      generalize bor m n k = c at *
      have hs : bits .and .u64 ((x : Int) + ((y : Int) + (c : Int))) 1 = (((x + (y + c)) % 2 : Nat) : Int) := by
        have := and_one (x + (y + c)) 0 (by omega)
        simpa using this
      obtain ⟨q, hq⟩ : ∃ q, o + 2 ^ k = q := ⟨_, rfl⟩
      rw [hq] at hpt
      have HQ : Hid (o + 2 ^ k = q) := hq
      have ST := hid st
      have BM := hid hbm; have BN := hid hbn; have PT := hid hpt
      have HA : Hid (Has wr w.heap.size m) := ha; have HB : Hid (Has wr p1 n) := hb; have HR : Hid (Has wr p2 0) := hr; have HO : Hid (Has wr p3 o) := ho
      obtain ⟨⟨a0, a1, a2⟩, fa⟩ := ha
      obtain ⟨⟨b0, b1, b2⟩, fb⟩ := hb
      obtain ⟨⟨o0, o1, o2⟩, fo⟩ := ho
      have x1 : (x : Int) ≤ 1 := by omega
      have y1 : (y : Int) ≤ 1 := by omega
      have c1 : (c : Int) ≤ 1 := by omega
      have kk : (k : Int) < 192 := by omega
      have cases4 : ((x + (y + c)) % 2 = 0 ∧ x < y + c) ∨ ((x + (y + c)) % 2 = 0 ∧ ¬ x < y + c) ∨ ((x + (y + c)) % 2 = 1 ∧ x < y + c) ∨ ((x + (y + c)) % 2 = 1 ∧ ¬ x < y + c) := by omega
      clear hq st hbm hbn hpt hr hB oo xb yb cb hk
      rcases cases4 with ⟨h01, hg⟩ | ⟨h01, hg⟩ | ⟨h01, hg⟩ | ⟨h01, hg⟩
      · rw [h01] at hs
        have H01 := hid h01
        have HG := hid hg
        have hg' : (x : Int) < (y : Int) + (c : Int) := by omega
        clear h01 hg
        go_wp2_with fail
        go_region_held3 (fun W => (W.cell? ⟨w.heap.size, 0, none⟩ = some (.int .u64 (W0 m)) ∧ W.cell? ⟨w.heap.size, 1, none⟩ = some (.int .u64 (W1 m)) ∧ W.cell? ⟨w.heap.size, 2, none⟩ = some (.int .u64 (W2 m))) ∧ (W.cell? ⟨p1, 0, none⟩ = some (.int .u64 (W0 n)) ∧ W.cell? ⟨p1, 1, none⟩ = some (.int .u64 (W1 n)) ∧ W.cell? ⟨p1, 2, none⟩ = some (.int .u64 (W2 n)))) (first | exact ⟨(HA.out.grown (Below.refl _ _).drew).1, (HB.out.grown (Below.refl _ _).drew).1⟩ | exact ⟨(HA.out.grown hb1).1, (HB.out.grown hb1).1⟩ | exact ⟨((HA.out.grown hb1).grown hb2).1, ((HB.out.grown hb1).grown hb2).1⟩) (first | (go_at_call_of 67 m; refine (BM.out _).mono ?_; rintro e w1 ⟨rfl, hb1⟩; replace hb1 := undrew hb1; obtain ⟨bc1, bf1⟩ := bcell hb1; have hz1 : p3 < w1.heap.size := by have := hb1.size; (try simp at this); omega) | (go_at_call_of 67 n; refine (BN.out _).mono ?_; rintro e w2 ⟨rfl, hb2⟩; obtain ⟨bc2, bf2⟩ := bcell hb2; have hz2 : p3 < w2.heap.size := by have := hb2.size; (try simp at this); omega))
        go_wp2
        have g := gt hb1 hb2
        refine ⟨⟨k + 1, by omega, by go_num, congrArg (Value.int .u64) (by rw [ST.out.1, if_pos HG.out]; rfl), HA.out.grown g, HB.out.grown g, HR.out.grown g, ?_, gt hb'.out g⟩, by simp [intOf]; omega⟩
        rw [ST.out.2, H01.out, Nat.zero_mul, Nat.add_zero]
        exact HO.out.grown g
      · rw [h01] at hs
        have H01 := hid h01
        have HG := hid hg
        have hg' : ¬ (x : Int) < (y : Int) + (c : Int) := by omega
        clear h01 hg
        go_wp2_with fail
        go_region_held3 (fun W => (W.cell? ⟨w.heap.size, 0, none⟩ = some (.int .u64 (W0 m)) ∧ W.cell? ⟨w.heap.size, 1, none⟩ = some (.int .u64 (W1 m)) ∧ W.cell? ⟨w.heap.size, 2, none⟩ = some (.int .u64 (W2 m))) ∧ (W.cell? ⟨p1, 0, none⟩ = some (.int .u64 (W0 n)) ∧ W.cell? ⟨p1, 1, none⟩ = some (.int .u64 (W1 n)) ∧ W.cell? ⟨p1, 2, none⟩ = some (.int .u64 (W2 n)))) (first | exact ⟨(HA.out.grown (Below.refl _ _).drew).1, (HB.out.grown (Below.refl _ _).drew).1⟩ | exact ⟨(HA.out.grown hb1).1, (HB.out.grown hb1).1⟩ | exact ⟨((HA.out.grown hb1).grown hb2).1, ((HB.out.grown hb1).grown hb2).1⟩) (first | (go_at_call_of 67 m; refine (BM.out _).mono ?_; rintro e w1 ⟨rfl, hb1⟩; replace hb1 := undrew hb1; obtain ⟨bc1, bf1⟩ := bcell hb1; have hz1 : p3 < w1.heap.size := by have := hb1.size; (try simp at this); omega) | (go_at_call_of 67 n; refine (BN.out _).mono ?_; rintro e w2 ⟨rfl, hb2⟩; obtain ⟨bc2, bf2⟩ := bcell hb2; have hz2 : p3 < w2.heap.size := by have := hb2.size; (try simp at this); omega))
        go_wp2
        have g := gt hb1 hb2
        refine ⟨⟨k + 1, by omega, by go_num, congrArg (Value.int .u64) (by rw [ST.out.1, if_neg HG.out]; rfl), HA.out.grown g, HB.out.grown g, HR.out.grown g, ?_, gt hb'.out g⟩, by simp [intOf]; omega⟩
        rw [ST.out.2, H01.out, Nat.zero_mul, Nat.add_zero]
        exact HO.out.grown g
      · rw [h01] at hs
        have H01 := hid h01
        have HG := hid hg
        have hg' : (x : Int) < (y : Int) + (c : Int) := by omega
        clear h01 hg
        go_wp2_with fail
        go_region_held3 (fun W => (W.cell? ⟨w.heap.size, 0, none⟩ = some (.int .u64 (W0 m)) ∧ W.cell? ⟨w.heap.size, 1, none⟩ = some (.int .u64 (W1 m)) ∧ W.cell? ⟨w.heap.size, 2, none⟩ = some (.int .u64 (W2 m))) ∧ (W.cell? ⟨p1, 0, none⟩ = some (.int .u64 (W0 n)) ∧ W.cell? ⟨p1, 1, none⟩ = some (.int .u64 (W1 n)) ∧ W.cell? ⟨p1, 2, none⟩ = some (.int .u64 (W2 n)))) (first | exact ⟨(HA.out.grown (Below.refl _ _).drew).1, (HB.out.grown (Below.refl _ _).drew).1⟩ | exact ⟨(HA.out.grown hb1).1, (HB.out.grown hb1).1⟩ | exact ⟨((HA.out.grown hb1).grown hb2).1, ((HB.out.grown hb1).grown hb2).1⟩) (first | (go_at_call_of 67 m; refine (BM.out _).mono ?_; rintro e w1 ⟨rfl, hb1⟩; replace hb1 := undrew hb1; obtain ⟨bc1, bf1⟩ := bcell hb1; have hz1 : p3 < w1.heap.size := by have := hb1.size; (try simp at this); omega) | (go_at_call_of 67 n; refine (BN.out _).mono ?_; rintro e w2 ⟨rfl, hb2⟩; obtain ⟨bc2, bf2⟩ := bcell hb2; have hz2 : p3 < w2.heap.size := by have := hb2.size; (try simp at this); omega))
        go_wp2_with (go_at_call 68; refine (PT.out _).mono ?_; rintro e w3 ⟨rfl, hb3⟩; obtain ⟨bc3, bf3⟩ := bcell hb3)
        have g := gt (gt hb1 hb2) hb3
        refine ⟨⟨k + 1, by omega, by go_num, congrArg (Value.int .u64) (by rw [ST.out.1, if_pos HG.out]; rfl), ?_, ?_, ?_, ?_, (((gt hb'.out g).setCell (by have := P1.out; have := P2.out; have := P3.out; show w.heap.size ≤ p3; omega) _).setCell (by have := P1.out; have := P2.out; have := P3.out; show w.heap.size ≤ p3; omega) _).setCell (by have := P1.out; have := P2.out; have := P3.out; show w.heap.size ≤ p3; omega) _⟩, by simp [intOf]; omega⟩
        · exact (((HA.out.grown g).far _ _ _ (by have := P1.out; have := P2.out; have := P3.out; omega)).far _ _ _ (by have := P1.out; have := P2.out; have := P3.out; omega)).far _ _ _ (by have := P1.out; have := P2.out; have := P3.out; omega)
        · exact (((HB.out.grown g).far _ _ _ (by have := P1.out; have := P2.out; have := P3.out; omega)).far _ _ _ (by have := P1.out; have := P2.out; have := P3.out; omega)).far _ _ _ (by have := P1.out; have := P2.out; have := P3.out; omega)
        · exact (((HR.out.grown g).far _ _ _ (by have := P1.out; have := P2.out; have := P3.out; omega)).far _ _ _ (by have := P1.out; have := P2.out; have := P3.out; omega)).far _ _ _ (by have := P1.out; have := P2.out; have := P3.out; omega)
        · rw [ST.out.2, H01.out, Nat.one_mul, HQ.out]
          exact (HO.out.grown g).set _
      · rw [h01] at hs
        have H01 := hid h01
        have HG := hid hg
        have hg' : ¬ (x : Int) < (y : Int) + (c : Int) := by omega
        clear h01 hg
        go_wp2_with fail
        go_region_held3 (fun W => (W.cell? ⟨w.heap.size, 0, none⟩ = some (.int .u64 (W0 m)) ∧ W.cell? ⟨w.heap.size, 1, none⟩ = some (.int .u64 (W1 m)) ∧ W.cell? ⟨w.heap.size, 2, none⟩ = some (.int .u64 (W2 m))) ∧ (W.cell? ⟨p1, 0, none⟩ = some (.int .u64 (W0 n)) ∧ W.cell? ⟨p1, 1, none⟩ = some (.int .u64 (W1 n)) ∧ W.cell? ⟨p1, 2, none⟩ = some (.int .u64 (W2 n)))) (first | exact ⟨(HA.out.grown (Below.refl _ _).drew).1, (HB.out.grown (Below.refl _ _).drew).1⟩ | exact ⟨(HA.out.grown hb1).1, (HB.out.grown hb1).1⟩ | exact ⟨((HA.out.grown hb1).grown hb2).1, ((HB.out.grown hb1).grown hb2).1⟩) (first | (go_at_call_of 67 m; refine (BM.out _).mono ?_; rintro e w1 ⟨rfl, hb1⟩; replace hb1 := undrew hb1; obtain ⟨bc1, bf1⟩ := bcell hb1; have hz1 : p3 < w1.heap.size := by have := hb1.size; (try simp at this); omega) | (go_at_call_of 67 n; refine (BN.out _).mono ?_; rintro e w2 ⟨rfl, hb2⟩; obtain ⟨bc2, bf2⟩ := bcell hb2; have hz2 : p3 < w2.heap.size := by have := hb2.size; (try simp at this); omega))
        go_wp2_with (go_at_call 68; refine (PT.out _).mono ?_; rintro e w3 ⟨rfl, hb3⟩; obtain ⟨bc3, bf3⟩ := bcell hb3)
        have g := gt (gt hb1 hb2) hb3
        refine ⟨⟨k + 1, by omega, by go_num, congrArg (Value.int .u64) (by rw [ST.out.1, if_neg HG.out]; rfl), ?_, ?_, ?_, ?_, (((gt hb'.out g).setCell (by have := P1.out; have := P2.out; have := P3.out; show w.heap.size ≤ p3; omega) _).setCell (by have := P1.out; have := P2.out; have := P3.out; show w.heap.size ≤ p3; omega) _).setCell (by have := P1.out; have := P2.out; have := P3.out; show w.heap.size ≤ p3; omega) _⟩, by simp [intOf]; omega⟩
        · exact (((HA.out.grown g).far _ _ _ (by have := P1.out; have := P2.out; have := P3.out; omega)).far _ _ _ (by have := P1.out; have := P2.out; have := P3.out; omega)).far _ _ _ (by have := P1.out; have := P2.out; have := P3.out; omega)
        · exact (((HB.out.grown g).far _ _ _ (by have := P1.out; have := P2.out; have := P3.out; omega)).far _ _ _ (by have := P1.out; have := P2.out; have := P3.out; omega)).far _ _ _ (by have := P1.out; have := P2.out; have := P3.out; omega)
        · exact (((HR.out.grown g).far _ _ _ (by have := P1.out; have := P2.out; have := P3.out; omega)).far _ _ _ (by have := P1.out; have := P2.out; have := P3.out; omega)).far _ _ _ (by have := P1.out; have := P2.out; have := P3.out; omega)
        · rw [ST.out.2, H01.out, Nat.one_mul, HQ.out]
          exact (HO.out.grown g).set _
    · obtain rfl : k = 192 := by omega
      have hbo := bor_all m n hm hn
      rw [hbo] at ho ⊢
      rw [Nat.mod_eq_of_lt (show m < 2 ^ 192 from hm), Nat.mod_eq_of_lt (show n < 2 ^ 192 from hn)] at ho
      obtain ⟨⟨r0, r1, r2⟩, fr⟩ := hr
      by_cases hs : n ≤ m
      · rw [if_neg (by omega)] at ho ⊢
        rw [Nat.zero_mul, Nat.add_zero] at ho
        obtain ⟨⟨o0, o1, o2⟩, fo⟩ := ho
        obtain rfl := hV.out hs
        clear hs hbo hV hV' ha hb hB
        go_wp2
        exact bodyPost_ret (v := .tuple #[.agg #[.int .u64 (W0 (m - n)), .int .u64 (W1 (m - n)), .int .u64 (W2 (m - n))], .bool true]) (by simp [results, Try.results41, go_sem, *]) rfl ⟨rfl, ((hb'.out.setCell (by have := P1.out; have := P2.out; show w.heap.size ≤ p2; omega) _).setCell (by have := P1.out; have := P2.out; show w.heap.size ≤ p2; omega) _).setCell (by have := P1.out; have := P2.out; show w.heap.size ≤ p2; omega) _⟩
      · rw [if_pos (by omega)]
        obtain rfl := hV'.out hs
        clear hs hbo hV hV' ha hb hB ho
        simp only [W0_zero, W1_zero, W2_zero] at r0 r1 r2 ⊢
        go_wp2
        exact bodyPost_ret (v := .tuple #[.agg #[.int .u64 0, .int .u64 0, .int .u64 0], .bool false]) (by simp [results, Try.results41, go_sem, *]) rfl ⟨rfl, ((hb'.out.setCell (by have := P1.out; have := P2.out; show w.heap.size ≤ p2; omega) _).setCell (by have := P1.out; have := P2.out; show w.heap.size ≤ p2; omega) _).setCell (by have := P1.out; have := P2.out; show w.heap.size ≤ p2; omega) _⟩

end Wid
end Go.Proofs.Ytjlahomjhadnkaa
namespace Go.Proofs.Ytjlahomjhadnkaa
namespace Wid
open Go.RowKit

set_option maxRecDepth 100000 in
theorem cmp_less (m n j : Nat) (h : m / 2 ^ (j + 1) = n / 2 ^ (j + 1)) (hx : m / 2 ^ j % 2 < n / 2 ^ j % 2) : m < n := by
  have e : m / 2 ^ j / 2 = m / 2 ^ (j + 1) := by rw [Nat.pow_succ, Nat.div_div_eq_div_mul]
  have f : n / 2 ^ j / 2 = n / 2 ^ (j + 1) := by rw [Nat.pow_succ, Nat.div_div_eq_div_mul]
  have g : m / 2 ^ j < n / 2 ^ j := by omega
  rcases Nat.lt_or_ge m n with k | k
  · exact k
  · have := Nat.div_le_div_right (c := 2 ^ j) k
    omega

set_option maxRecDepth 100000 in
theorem cmp_next (m n j : Nat) (h : m / 2 ^ (j + 1) = n / 2 ^ (j + 1)) (hx : m / 2 ^ j % 2 = n / 2 ^ j % 2) : m / 2 ^ j = n / 2 ^ j := by
  have e : m / 2 ^ j / 2 = m / 2 ^ (j + 1) := by rw [Nat.pow_succ, Nat.div_div_eq_div_mul]
  have f : n / 2 ^ j / 2 = n / 2 ^ (j + 1) := by rw [Nat.pow_succ, Nat.div_div_eq_div_mul]
  omega

set_option maxHeartbeats 1000000 in
set_option maxRecDepth 100000 in
theorem rcmp_any (m n : Nat) (hm : m < 6277101735386680763835789423207666416102355444464034512896) (hn : n < 6277101735386680763835789423207666416102355444464034512896) (w : World) (r : Int) (hr : Hid (r = cmpN m n)) :
    Calls Try.prog 40 #[.agg #[.int .u64 (W0 (m)), .int .u64 (W1 (m)), .int .u64 (W2 (m))], .agg #[.int .u64 (W0 (n)), .int .u64 (W1 (n)), .int .u64 (W2 (n))]] w fun e w' => e = .returned (.int .i64 r) ∧ Below w.heap.size w w' := by
  go_enter Try.func40, Try.ntmps40
  go_wp2
  go_loopw [5] (fun i W => ∃ k : Nat, k ≤ 192 ∧ i = .int .i64 ((k : Int) - 1) ∧ m / 2 ^ k = n / 2 ^ k ∧ Has W w.heap.size m ∧ Has W (w.heap.size + 1) n ∧ Below w.heap.size w W) (fun i W => (intOf i + 1).toNat)
  case atStart =>
    refine ⟨192, by omega, rfl, ?_, ?_, ?_, (by repeat (first | with_reducible exact Below.refl _ _ | with_reducible assumption | with_reducible refine Below.drew ?_ | with_reducible refine below_drewN ?_ _ | with_reducible refine Below.alloc ?_ (by simp <;> omega) _ | with_reducible refine Below.setCell ?_ (by simp <;> omega) _))⟩
    · rw [Nat.div_eq_of_lt (show m < 2 ^ 192 from hm), Nat.div_eq_of_lt (show n < 2 ^ 192 from hn)]
    · exact (Has.new w m _ _ rfl).alloc _
    · exact Has.new _ n _ _ (by simp)
  case round =>
    obtain ⟨k, hk, rfl, hh, ha, hb, hB⟩ := hrel
    have la := ha.lt; have lb := hb.lt
    have hb' := hid hB
    generalize h1 : w.heap.size + 1 = p1 at *
    have P1 : Hid (w.heap.size + 1 = p1) := h1
    clear h1
    cases k with
    | zero =>
      obtain rfl : m = n := by simpa using hh
      obtain rfl : r = 0 := by rw [hr.out]; simp [cmpN]
      clear hr hh ha hb hB
      go_wp2
      go_ret
      exact ⟨rfl, hb'.out⟩
    | succ j =>
      rw [show ((j + 1 : Nat) : Int) - 1 = (j : Int) by omega]
      have hbm := fun w => bit_any m j (by omega) w
      have hbn := fun w => bit_any n j (by omega) w
      have xb : m / 2 ^ j % 2 < 2 := Nat.mod_lt _ (by omega)
      have yb : n / 2 ^ j % 2 < 2 := Nat.mod_lt _ (by omega)
      have c1 := hid (cmp_less m n j hh)
      have c2 := hid (cmp_less n m j hh.symm)
      have c3 := hid (cmp_next m n j hh)
      generalize m / 2 ^ j % 2 = x at *
      generalize n / 2 ^ j % 2 = y at *
      have BM := hid hbm; have BN := hid hbn
      have HA : Hid (Has wr w.heap.size m) := ha; have HB : Hid (Has wr p1 n) := hb
      obtain ⟨⟨a0, a1, a2⟩, fa⟩ := ha
      obtain ⟨⟨b0, b1, b2⟩, fb⟩ := hb
      have kk : (j : Int) < 192 := by omega
      clear hbm hbn hB hk hh
      rcases Nat.lt_trichotomy x y with h | rfl | h
      · obtain rfl : r = -1 := by rw [hr.out, cmpN, if_pos (c1.out h)]
        have h' : (x : Int) < (y : Int) := by omega
        have hne : ((x : Int) != (y : Int)) = true := by simp; omega
        clear hr
        go_wp2_with fail
        go_region_held3 (fun W => (W.cell? ⟨w.heap.size, 0, none⟩ = some (.int .u64 (W0 m)) ∧ W.cell? ⟨w.heap.size, 1, none⟩ = some (.int .u64 (W1 m)) ∧ W.cell? ⟨w.heap.size, 2, none⟩ = some (.int .u64 (W2 m))) ∧ (W.cell? ⟨p1, 0, none⟩ = some (.int .u64 (W0 n)) ∧ W.cell? ⟨p1, 1, none⟩ = some (.int .u64 (W1 n)) ∧ W.cell? ⟨p1, 2, none⟩ = some (.int .u64 (W2 n)))) (first | exact ⟨(HA.out.grown (Below.refl _ _).drew).1, (HB.out.grown (Below.refl _ _).drew).1⟩ | exact ⟨(HA.out.grown hb1).1, (HB.out.grown hb1).1⟩ | exact ⟨((HA.out.grown hb1).grown hb2).1, ((HB.out.grown hb1).grown hb2).1⟩) (first | (go_at_call_of 67 m; refine (BM.out _).mono ?_; rintro e w1 ⟨rfl, hb1⟩; replace hb1 := undrew hb1; obtain ⟨bc1, bf1⟩ := bcell hb1; have hz1 : p1 < w1.heap.size := by have := hb1.size; (try simp at this); omega) | (go_at_call_of 67 n; refine (BN.out _).mono ?_; rintro e w2 ⟨rfl, hb2⟩; obtain ⟨bc2, bf2⟩ := bcell hb2; have hz2 : p1 < w2.heap.size := by have := hb2.size; (try simp at this); omega))
        go_wp2
        go_ret
        exact ⟨rfl, gt hb'.out (gt hb1 hb2)⟩
      · have hne : ((x : Int) != (x : Int)) = false := by simp
        go_wp2_with fail
        go_region_held3 (fun W => (W.cell? ⟨w.heap.size, 0, none⟩ = some (.int .u64 (W0 m)) ∧ W.cell? ⟨w.heap.size, 1, none⟩ = some (.int .u64 (W1 m)) ∧ W.cell? ⟨w.heap.size, 2, none⟩ = some (.int .u64 (W2 m))) ∧ (W.cell? ⟨p1, 0, none⟩ = some (.int .u64 (W0 n)) ∧ W.cell? ⟨p1, 1, none⟩ = some (.int .u64 (W1 n)) ∧ W.cell? ⟨p1, 2, none⟩ = some (.int .u64 (W2 n)))) (first | exact ⟨(HA.out.grown (Below.refl _ _).drew).1, (HB.out.grown (Below.refl _ _).drew).1⟩ | exact ⟨(HA.out.grown hb1).1, (HB.out.grown hb1).1⟩ | exact ⟨((HA.out.grown hb1).grown hb2).1, ((HB.out.grown hb1).grown hb2).1⟩) (first | (go_at_call_of 67 m; refine (BM.out _).mono ?_; rintro e w1 ⟨rfl, hb1⟩; replace hb1 := undrew hb1; obtain ⟨bc1, bf1⟩ := bcell hb1; have hz1 : p1 < w1.heap.size := by have := hb1.size; (try simp at this); omega) | (go_at_call_of 67 n; refine (BN.out _).mono ?_; rintro e w2 ⟨rfl, hb2⟩; obtain ⟨bc2, bf2⟩ := bcell hb2; have hz2 : p1 < w2.heap.size := by have := hb2.size; (try simp at this); omega))
        go_wp2
        refine ⟨⟨j, by omega, rfl, c3.out (by first | rfl | trivial), HA.out.grown (gt hb1 hb2), HB.out.grown (gt hb1 hb2), gt hb'.out (gt hb1 hb2)⟩, by simp [intOf] <;> omega⟩
      · obtain rfl : r = 1 := by
          have := c2.out h
          rw [hr.out, cmpN, if_neg (by omega), if_neg (by omega)]
        have h' : ¬ (x : Int) < (y : Int) := by omega
        have hne : ((x : Int) != (y : Int)) = true := by simp; omega
        clear hr
        go_wp2_with fail
        go_region_held3 (fun W => (W.cell? ⟨w.heap.size, 0, none⟩ = some (.int .u64 (W0 m)) ∧ W.cell? ⟨w.heap.size, 1, none⟩ = some (.int .u64 (W1 m)) ∧ W.cell? ⟨w.heap.size, 2, none⟩ = some (.int .u64 (W2 m))) ∧ (W.cell? ⟨p1, 0, none⟩ = some (.int .u64 (W0 n)) ∧ W.cell? ⟨p1, 1, none⟩ = some (.int .u64 (W1 n)) ∧ W.cell? ⟨p1, 2, none⟩ = some (.int .u64 (W2 n)))) (first | exact ⟨(HA.out.grown (Below.refl _ _).drew).1, (HB.out.grown (Below.refl _ _).drew).1⟩ | exact ⟨(HA.out.grown hb1).1, (HB.out.grown hb1).1⟩ | exact ⟨((HA.out.grown hb1).grown hb2).1, ((HB.out.grown hb1).grown hb2).1⟩) (first | (go_at_call_of 67 m; refine (BM.out _).mono ?_; rintro e w1 ⟨rfl, hb1⟩; replace hb1 := undrew hb1; obtain ⟨bc1, bf1⟩ := bcell hb1; have hz1 : p1 < w1.heap.size := by have := hb1.size; (try simp at this); omega) | (go_at_call_of 67 n; refine (BN.out _).mono ?_; rintro e w2 ⟨rfl, hb2⟩; obtain ⟨bc2, bf2⟩ := bcell hb2; have hz2 : p1 < w2.heap.size := by have := hb2.size; (try simp at this); omega))
        go_wp2
        go_ret
        exact ⟨rfl, gt hb'.out (gt hb1 hb2)⟩

def blen (n : Nat) : Nat := if n = 0 then 0 else n.log2 + 1

set_option maxRecDepth 100000 in
theorem blen_of (n j : Nat) (h : 2 ^ j ≤ n) (h' : n < 2 ^ (j + 1)) : blen n = j + 1 := by
  have hp : 0 < 2 ^ j := Nat.two_pow_pos j
  unfold blen
  rw [if_neg (by omega), (Nat.log2_eq_iff (by omega)).2 ⟨h, h'⟩]

set_option maxRecDepth 100000 in
theorem wid_yes (n j : Nat) (h : n / 2 ^ (j + 1) = 0) (hx : n / 2 ^ j % 2 = 1) : blen n = j + 1 := by
  have hp : 0 < 2 ^ j := Nat.two_pow_pos j
  have hp' : 0 < 2 ^ (j + 1) := Nat.two_pow_pos (j + 1)
  refine blen_of n j ?_ ?_
  · rcases Nat.lt_or_ge n (2 ^ j) with k | k
    · rw [Nat.div_eq_of_lt k] at hx; omega
    · exact k
  · rcases Nat.lt_or_ge n (2 ^ (j + 1)) with k | k
    · exact k
    · have := Nat.div_pos k hp'; omega

set_option maxRecDepth 100000 in
theorem wid_no (n j : Nat) (h : n / 2 ^ (j + 1) = 0) (hx : n / 2 ^ j % 2 = 0) : n / 2 ^ j = 0 := by
  have e : n / 2 ^ j / 2 = n / 2 ^ (j + 1) := by rw [Nat.pow_succ, Nat.div_div_eq_div_mul]
  omega

end Wid
end Go.Proofs.Ytjlahomjhadnkaa
