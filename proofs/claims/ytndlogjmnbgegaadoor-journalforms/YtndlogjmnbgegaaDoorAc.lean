/- What the document's own function Put returns; no statement of the seat is proved here. -/
import Derived.Test.YtndlogjmnbgegaaDoorAb
import Derived.LoopN
namespace Go.Proofs.YtndlogjmnbgegaaDoor
open Go.RowKit

set_option maxHeartbeats 2000000 in
theorem rput_high (ao : Option Addr) (n cap : Nat) (xs : List Nat) (v : Nat) (s : Int) (h8 : 8 < s) (l : Bool) (w : World) (h : Rd w ao n cap xs) (hn : n ≤ 70368744177664) :
    Calls Tryd.prog 33 #[.slice ao n cap, .int .u64 v, .int .i64 s, .bool l] w fun e w' => ∃ r, e = .returned r ∧ w'.ownsRow w.heap.size 5 1 r (n + 8) (bs (xs ++ putN v 8 l)) ∧ Below w.heap.size w w' := by
  have h' := hid h
  clear h
  go_enter Tryd.func33, Tryd.ntmps33
  go_wp2_with (at_builtin; refine wpList_append_rd rfl (.tmp 14) (.tmp 15) rfl w.heap.size _ 0 [] rfl (World.ownsRow_made w #[] 0 (Nat.le_refl _) (by decide) rfl) ao n cap xs rfl (h'.out.keep (Below.alloc (Below.refl _ _) (Nat.le_refl _) _)) (by omega) (by simp) ?_; intro v1 w1 ho1 hb1)
  go_loopw [9, 10] (fun o c W => ∃ (i : Nat) (ys : List Nat), i ≤ 8 ∧ c = .int .i64 i ∧ ys ++ up (fun j => v / 2 ^ (8 * place l 8 j) % 256) i (8 - i) = xs ++ putN v 8 l ∧
      W.ownsRow w.heap.size 5 1 o (n + i) (bs ys) ∧ Below w.heap.size w W) (fun _ c _ => 8 - (intOf c).toNat)
  case atStart => exact ⟨0, xs, by omega, rfl, rfl, by simpa using ho1, (Below.alloc (Below.refl _ _) (Nat.le_refl _) _).trans hb1⟩
  case round =>
    obtain ⟨i, ys, hi, rfl, he, ho, hb⟩ := hrel
    have he' := hid he
    clear he h' ho1 hb1
    by_cases hik : i < 8
    · obtain ⟨j, hj⟩ : ∃ j, j = place l 8 i := ⟨_, rfl⟩
      obtain ⟨q, hq⟩ : ∃ q, q = v / 2 ^ (8 * j) := ⟨_, rfl⟩
      have hsh : (v : Int) / 2 ^ (8 * j) = (q : Int) := by rw [hq]; simp
      have hj8 : j < 8 := by rw [hj]; unfold place; split <;> omega
      have hq' := hid hq
      clear hq
      cases l with
      | true =>
        have hj2 : j = i := by rw [hj]; rfl
        subst hj2
        have hj' := hid hj
        clear hj
        go_wp2_with (at_builtin; refine wpList_append_rd rfl (.tmp 28) (.tmp 35) rfl w.heap.size _ (n + j) ys rfl (ho.alloc _) (some ⟨wr.heap.size, 0, none⟩) 1 1 [q % 256] rfl (rd_one wr (q % 256)) (by omega) (by have := hb.size; simp; omega) ?_; intro w2v w3 ho3 hb3)
        refine ⟨⟨j + 1, ys ++ [q % 256], by omega, by go_num, ?_, by rw [← Nat.add_assoc]; exact ho3, (Below.alloc hb hb.size _).trans hb3⟩, by simp [intOf]; omega⟩
        rw [hq'.out]
        exact up_step (fun j => v / 2 ^ (8 * place true 8 j) % 256) j 8 hik ys _ he'.out
      | false =>
        have e1 : (7 : Int) - (i : Int) = (j : Int) := by rw [hj]; simp [place]; omega
        have hj' := hid hj
        clear hj
        go_wp2_with (at_builtin; refine wpList_append_rd rfl (.tmp 28) (.tmp 35) rfl w.heap.size _ (n + i) ys rfl (ho.alloc _) (some ⟨wr.heap.size, 0, none⟩) 1 1 [q % 256] rfl (rd_one wr (q % 256)) (by omega) (by have := hb.size; simp; omega) ?_; intro w2v w3 ho3 hb3)
        refine ⟨⟨i + 1, ys ++ [q % 256], by omega, by go_num, ?_, by rw [← Nat.add_assoc]; exact ho3, (Below.alloc hb hb.size _).trans hb3⟩, by simp [intOf]; omega⟩
        rw [hq'.out, hj'.out]
        exact up_step (fun j => v / 2 ^ (8 * place false 8 j) % 256) i 8 hik ys _ he'.out
    · obtain rfl : i = 8 := by omega
      go_wp2
      go_ret
      rw [Nat.sub_self] at he'
      simp only [up, List.append_nil] at he'
      rw [← he'.out]
      exact ⟨_, rfl, ho, hb⟩

set_option maxHeartbeats 2000000 in
theorem rput_mid (ao : Option Addr) (n cap : Nat) (xs : List Nat) (v : Nat) (k : Nat) (hk : 1 ≤ k) (h8 : k ≤ 8) (l : Bool) (w : World) (h : Rd w ao n cap xs) (hn : n ≤ 70368744177664) :
    Calls Tryd.prog 33 #[.slice ao n cap, .int .u64 v, .int .i64 (k : Int), .bool l] w fun e w' => ∃ r, e = .returned r ∧ w'.ownsRow w.heap.size 5 1 r (n + k) (bs (xs ++ putN v k l)) ∧ Below w.heap.size w w' := by
  have h' := hid h
  clear h
  go_enter Tryd.func33, Tryd.ntmps33
  go_wp2_with (at_builtin; refine wpList_append_rd rfl (.tmp 14) (.tmp 15) rfl w.heap.size _ 0 [] rfl (World.ownsRow_made w #[] 0 (Nat.le_refl _) (by decide) rfl) ao n cap xs rfl (h'.out.keep (Below.alloc (Below.refl _ _) (Nat.le_refl _) _)) (by omega) (by simp) ?_; intro v1 w1 ho1 hb1)
  go_loopw [9, 10] (fun o c W => ∃ (i : Nat) (ys : List Nat), i ≤ k ∧ c = .int .i64 i ∧ ys ++ up (fun j => v / 2 ^ (8 * place l k j) % 256) i (k - i) = xs ++ putN v k l ∧
      W.ownsRow w.heap.size 5 1 o (n + i) (bs ys) ∧ Below w.heap.size w W) (fun _ c _ => k - (intOf c).toNat)
  case atStart => exact ⟨0, xs, by omega, rfl, rfl, by simpa using ho1, (Below.alloc (Below.refl _ _) (Nat.le_refl _) _).trans hb1⟩
  case round =>
    obtain ⟨i, ys, hi, rfl, he, ho, hb⟩ := hrel
    have he' := hid he
    clear he h' ho1 hb1
    by_cases hik : i < k
    · obtain ⟨j, hj⟩ : ∃ j, j = place l k i := ⟨_, rfl⟩
      obtain ⟨q, hq⟩ : ∃ q, q = v / 2 ^ (8 * j) := ⟨_, rfl⟩
      have hsh : (v : Int) / 2 ^ (8 * j) = (q : Int) := by rw [hq]; simp
      have hj8 : j < 8 := by rw [hj]; unfold place; split <;> omega
      have hq' := hid hq
      clear hq
      cases l with
      | true =>
        have hj2 : j = i := by rw [hj]; rfl
        subst hj2
        have hj' := hid hj
        clear hj
        go_wp2_with (at_builtin; refine wpList_append_rd rfl (.tmp 28) (.tmp 35) rfl w.heap.size _ (n + j) ys rfl (ho.alloc _) (some ⟨wr.heap.size, 0, none⟩) 1 1 [q % 256] rfl (rd_one wr (q % 256)) (by omega) (by have := hb.size; simp; omega) ?_; intro w2v w3 ho3 hb3)
        refine ⟨⟨j + 1, ys ++ [q % 256], by omega, by go_num, ?_, by rw [← Nat.add_assoc]; exact ho3, (Below.alloc hb hb.size _).trans hb3⟩, by simp [intOf]; omega⟩
        rw [hq'.out]
        exact up_step (fun j => v / 2 ^ (8 * place true k j) % 256) j k hik ys _ he'.out
      | false =>
        have e1 : (k : Int) - 1 - (i : Int) = (j : Int) := by rw [hj]; simp [place]; omega
        have hj' := hid hj
        clear hj
        go_wp2_with (at_builtin; refine wpList_append_rd rfl (.tmp 28) (.tmp 35) rfl w.heap.size _ (n + i) ys rfl (ho.alloc _) (some ⟨wr.heap.size, 0, none⟩) 1 1 [q % 256] rfl (rd_one wr (q % 256)) (by omega) (by have := hb.size; simp; omega) ?_; intro w2v w3 ho3 hb3)
        refine ⟨⟨i + 1, ys ++ [q % 256], by omega, by go_num, ?_, by rw [← Nat.add_assoc]; exact ho3, (Below.alloc hb hb.size _).trans hb3⟩, by simp [intOf]; omega⟩
        rw [hq'.out, hj'.out]
        exact up_step (fun j => v / 2 ^ (8 * place false k j) % 256) i k hik ys _ he'.out
    · obtain rfl : i = k := by omega
      go_wp2
      go_ret
      rw [Nat.sub_self] at he'
      simp only [up, List.append_nil] at he'
      rw [← he'.out]
      exact ⟨_, rfl, ho, hb⟩

set_option maxHeartbeats 400000 in
theorem rput_low (ao : Option Addr) (n cap : Nat) (xs : List Nat) (v : Nat) (s : Int) (hs : s ≤ 0) (l : Bool) (w : World) (h : Rd w ao n cap xs) (hn : n ≤ 70368744177664) :
    Calls Tryd.prog 33 #[.slice ao n cap, .int .u64 v, .int .i64 s, .bool l] w fun e w' => ∃ r, e = .returned r ∧ w'.ownsRow w.heap.size 5 1 r n (bs xs) ∧ Below w.heap.size w w' := by
  have h' := hid h
  clear h
  go_enter Tryd.func33, Tryd.ntmps33
  go_wp2_with (at_builtin; refine wpList_append_rd rfl (.tmp 14) (.tmp 15) rfl w.heap.size _ 0 [] rfl (World.ownsRow_made w #[] 0 (Nat.le_refl _) (by decide) rfl) ao n cap xs rfl (h'.out.keep (Below.alloc (Below.refl _ _) (Nat.le_refl _) _)) (by omega) (by simp) ?_; intro v1 w1 ho1 hb1)
  refine wp_loop_rounds 1 ?_
  rw [rounds_succ]
  go_wp2
  go_ret
  exact ⟨_, rfl, by simpa using ho1, (Below.alloc (Below.refl _ _) (Nat.le_refl _) _).trans hb1⟩

theorem rput_any (ao : Option Addr) (n cap : Nat) (xs : List Nat) (v : Nat) (s : Int) (k : Nat) (l : Bool) (w : World) (h : Rd w ao n cap xs) (hn : n ≤ 70368744177664) (hs : min (max s 0) 8 = (k : Int)) :
    Calls Tryd.prog 33 #[.slice ao n cap, .int .u64 v, .int .i64 s, .bool l] w fun e w' => ∃ r, e = .returned r ∧ w'.ownsRow w.heap.size 5 1 r (n + k) (bs (xs ++ putN v k l)) ∧ Below w.heap.size w w' := by
  by_cases h8 : 8 < s
  · obtain rfl : k = 8 := by omega
    exact rput_high ao n cap xs v s h8 l w h hn
  · by_cases h0 : s ≤ 0
    · obtain rfl : k = 0 := by omega
      have := rput_low ao n cap xs v s h0 l w h hn
      simpa [putN, up] using this
    · obtain rfl : s = (k : Int) := by omega
      exact rput_mid ao n cap xs v k (by omega) (by omega) l w h hn

end Go.Proofs.YtndlogjmnbgegaaDoor
