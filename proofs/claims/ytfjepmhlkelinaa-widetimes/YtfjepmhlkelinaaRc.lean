/- What the document's own function Times returns, as a contract; no statement of the seat is proved here. -/
import Derived.Test.YtfjepmhlkelinaaRb
namespace Go.Proofs.Ytfjepmhlkelinaa
open Go.RowKit

theorem mul_step (a b k : Nat) : a * (b % 2 ^ (k + 1)) = a * (b % 2 ^ k) + a * 2 ^ k * (b / 2 ^ k % 2) ∧ a * 2 ^ (k + 1) = a * 2 ^ k + a * 2 ^ k := by
  constructor
  · rw [Nat.pow_succ, Nat.mod_mul, Nat.mul_add, Nat.mul_assoc]
  · rw [Nat.pow_succ, ← Nat.mul_assoc, Nat.mul_two]

theorem mul_bd (a b k : Nat) (ha : a < 18446744073709551616) (hk : k ≤ 64) : a * (b % 2 ^ k) ≤ 340282366920938463463374607431768211456 ∧ a * 2 ^ k ≤ 340282366920938463463374607431768211456 := by
  have hp : (2 : Nat) ^ k ≤ 18446744073709551616 := by
    have := Nat.pow_le_pow_right (n := 2) (by omega) hk
    rwa [show (2 : Nat) ^ 64 = 18446744073709551616 from rfl] at this
  have hm : b % 2 ^ k ≤ 18446744073709551616 := Nat.le_trans (Nat.le_of_lt (Nat.mod_lt _ (Nat.two_pow_pos k))) hp
  have h1 := Nat.mul_le_mul (Nat.le_of_lt ha) hm
  have h2 := Nat.mul_le_mul (Nat.le_of_lt ha) hp
  omega

set_option maxHeartbeats 1000000 in
set_option maxRecDepth 100000 in
theorem rtimes_any (a b : Nat) (ha : a < 18446744073709551616) (hb : b < 18446744073709551616) (w : World) :
    Calls Try.prog 19 #[.int .u64 a, .int .u64 b] w fun e w' => e = .returned (.agg #[.int .u64 (W0 (a * b)), .int .u64 (W1 (a * b)), .int .u64 (W2 (a * b))]) ∧ Below w.heap.size w w' := by
  go_enter Try.func19, Try.ntmps19
  go_wp2
  go_loopw [7] (fun i W => ∃ k : Nat, k ≤ 64 ∧ i = .int .i64 k ∧ Has W w.heap.size 0 ∧ Has W (w.heap.size + 1) (a * (b % 2 ^ k)) ∧ Has W (w.heap.size + 1 + 1) (a * 2 ^ k) ∧ Below w.heap.size w W) (fun i W => 64 - (intOf i).toNat)
  case atStart =>
    obtain ⟨e0, e1, e2⟩ := W_small a ha
    refine ⟨0, by omega, rfl, ?_, ?_, ?_, (by repeat (first | with_reducible exact Below.refl _ _ | with_reducible assumption | with_reducible refine Below.drew ?_ | with_reducible refine below_drewN ?_ _ | with_reducible refine Below.alloc ?_ (by simp <;> omega) _ | with_reducible refine Below.setCell ?_ (by simp <;> omega) _))⟩
    · exact ((Has.new w 0 _ _ rfl).alloc _).alloc _
    · rw [Nat.pow_zero, Nat.mod_one, Nat.mul_zero]; exact (Has.new _ 0 _ _ (by simp)).alloc _
    · rw [Nat.pow_zero, Nat.mul_one]
      have := Has.new ((w.alloc (Obj.cells #[Value.int IntKind.u64 0, Value.int IntKind.u64 0, Value.int IntKind.u64 0] 23)).alloc (Obj.cells #[Value.int IntKind.u64 0, Value.int IntKind.u64 0, Value.int IntKind.u64 0] 23)) a (w.heap.size + 1 + 1) 23 (by simp)
      rw [e0, e1, e2] at this
      exact this
  case round =>
    obtain ⟨k, hk, rfl, hr, ho, ht, hB⟩ := hrel
    have lr := hr.lt; have lo := ho.lt; have lt := ht.lt
    have hb' : Hid _ := hB
    generalize h2 : w.heap.size + 1 + 1 = p2 at *
    generalize h1 : w.heap.size + 1 = p1 at *
    have P1 : Hid (w.heap.size + 1 = p1) := h1
    have P2 : Hid (p1 + 1 = p2) := h2
    have d12 : ¬ p1 = p2 := by omega
    have d21 : ¬ p2 = p1 := by omega
    clear h1 h2
    by_cases hk' : k < 64
    · obtain ⟨s1, s2⟩ := mul_step a b k
      obtain ⟨m1, m2⟩ := mul_bd a b k ha hk
      have bb : b / 2 ^ k % 2 < 2 := Nat.mod_lt _ (by omega)
      have hs := and_one b k hb
      generalize b / 2 ^ k % 2 = x at *
      generalize a * (b % 2 ^ k) = o at *
      generalize a * 2 ^ k = t at *
      have ad1 := fun w => radd_any o t (by omega) (by omega) w (by omega)
      have ad2 := fun w => radd_any t t (by omega) (by omega) w (by omega)
      have A1 := hid ad1; have A2 := hid ad2; have S1 := hid s1; have S2 := hid s2
      have HR : Hid (Has wr w.heap.size 0) := hr; have HO : Hid (Has wr p1 o) := ho; have HT : Hid (Has wr p2 t) := ht
      obtain ⟨⟨o0, o1, o2⟩, fo⟩ := ho
      obtain ⟨⟨t0, t1, t2⟩, ft⟩ := ht
      have kk : (k : Int) < 64 := by omega
      clear ad1 ad2 s1 s2 hr hB hk m1 m2
      rcases (by omega : x = 0 ∨ x = 1) with rfl | rfl
      · go_wp2_with fail
        refine (A2.out _).mono ?_; rintro e w1 ⟨rfl, hb1⟩; obtain ⟨bc1, bf1⟩ := bcell hb1
        go_wp2
        refine ⟨⟨k + 1, by omega, by go_num, ?_, ?_, ?_, (((gt hb'.out hb1).setCell (by have := P1.out; have := P2.out; show w.heap.size ≤ p2; omega) _).setCell (by have := P1.out; have := P2.out; show w.heap.size ≤ p2; omega) _).setCell (by have := P1.out; have := P2.out; show w.heap.size ≤ p2; omega) _⟩, by simp [intOf]; omega⟩
        · exact (((HR.out.grown hb1).far _ _ _ (by have := P1.out; have := P2.out; omega)).far _ _ _ (by have := P1.out; have := P2.out; omega)).far _ _ _ (by have := P1.out; have := P2.out; omega)
        · rw [S1.out, Nat.mul_zero, Nat.add_zero]
          exact (((HO.out.grown hb1).far _ _ _ d21).far _ _ _ d21).far _ _ _ d21
        · rw [S2.out]
          exact (HT.out.grown hb1).set _
      · go_wp2_with fail
        refine (A1.out _).mono ?_; rintro e w1 ⟨rfl, hb1⟩; obtain ⟨bc1, bf1⟩ := bcell hb1
        go_wp2_with fail
        have xr := (((HR.out.grown hb1).far p1 0 (.int .u64 (W0 (o + t))) (by have := P1.out; have := P2.out; omega)).far p1 1 (.int .u64 (W1 (o + t))) (by have := P1.out; have := P2.out; omega)).far p1 2 (.int .u64 (W2 (o + t))) (by have := P1.out; have := P2.out; omega)
        have xt := (((HT.out.grown hb1).far p1 0 (.int .u64 (W0 (o + t))) d12).far p1 1 (.int .u64 (W1 (o + t))) d12).far p1 2 (.int .u64 (W2 (o + t))) d12
        have xo := (HO.out.grown hb1).set (o + t)
        have xb := (((gt hb'.out hb1).setCell (p := ⟨p1, 0, none⟩) (by have := P1.out; show w.heap.size ≤ p1; omega) (.int .u64 (W0 (o + t)))).setCell (p := ⟨p1, 1, none⟩) (by have := P1.out; show w.heap.size ≤ p1; omega) (.int .u64 (W1 (o + t)))).setCell (p := ⟨p1, 2, none⟩) (by have := P1.out; show w.heap.size ≤ p1; omega) (.int .u64 (W2 (o + t)))
        have XR := hid xr; have XT := hid xt; have XO := hid xo; have XB := hid xb
        clear xr xt xo xb
        refine (A2.out _).mono ?_; rintro e w2 ⟨rfl, hb2⟩
        have yr := XR.out.grown hb2; have yt := XT.out.grown hb2; have yo := XO.out.grown hb2; have yb := gt XB.out hb2
        clear XR XT XO XB hb2 bc1 bf1 hb1 o0 o1 o2 t0 t1 t2 fo ft
        have YR := hid yr; have YT : Hid (Has w2 p2 t) := yt; have YO := hid yo; have YB := hid yb
        obtain ⟨⟨t0, t1, t2⟩, ft⟩ := yt
        clear yr yo yb
        go_wp2
        refine ⟨⟨k + 1, by omega, by go_num, ?_, ?_, ?_, ((YB.out.setCell (by have := P1.out; have := P2.out; show w.heap.size ≤ p2; omega) _).setCell (by have := P1.out; have := P2.out; show w.heap.size ≤ p2; omega) _).setCell (by have := P1.out; have := P2.out; show w.heap.size ≤ p2; omega) _⟩, by simp [intOf]; omega⟩
        · exact ((YR.out.far _ _ _ (by have := P1.out; have := P2.out; omega)).far _ _ _ (by have := P1.out; have := P2.out; omega)).far _ _ _ (by have := P1.out; have := P2.out; omega)
        · rw [S1.out, Nat.mul_one]
          exact ((YO.out.far _ _ _ d21).far _ _ _ d21).far _ _ _ d21
        · rw [S2.out]
          exact YT.out.set _
    · obtain rfl : k = 64 := by omega
      rw [Nat.mod_eq_of_lt (show b < 2 ^ 64 from hb)] at ho
      obtain ⟨⟨o0, o1, o2⟩, fo⟩ := ho
      obtain ⟨⟨r0, r1, r2⟩, fr⟩ := hr
      clear ht hB
      go_wp2
      exact bodyPost_ret (v := .agg #[.int .u64 (W0 (a * b)), .int .u64 (W1 (a * b)), .int .u64 (W2 (a * b))]) (by simp [results, Try.results19, go_sem, *]) rfl ⟨rfl, ((hb'.out.setCell (by simp) _).setCell (by simp) _).setCell (by simp) _⟩
end Go.Proofs.Ytfjepmhlkelinaa
