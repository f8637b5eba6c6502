/- What the document's own function Put returns; no statement of the seat is proved here. -/
import Derived.Test.YtjieegnmofimkaaDoorCc
namespace Go.Proofs.YtjieegnmofimkaaDoor
open Go.RowKit

theorem rd_one (w : World) (x : Nat) : Rd (w.alloc (.cells #[.int .u8 (x : Int)] 5)) (some ⟨w.heap.size, 0, none⟩) 1 1 [x] := by
  refine ⟨rfl, Nat.le_refl _, fun h => (by cases h), fun _ => ⟨_, _, rfl, fun t ht => ?_⟩⟩
  have : t = 0 := by omega
  subst this
  simp
set_option maxRecDepth 100000 in
/-- 'append' onto a slice of the call's own, of bytes that can be read. -/
theorem wpList_append_rd {w : World} {ops : Array Oper} {rest : List Oper} {o : Oper} {a : Act} {Q : Exit → Act → World → Prop} (hgd : o.guard = none) (s x : Operand)
    (ho : o.op = .call { callee := .builtin .append, args := #[s, x], argTypes := #[27, 27] }) (B : Nat) (v : Value) (n : Nat) (xs : List Nat) (hs : a.eval s = v) (hown : w.ownsRow B 5 1 v n (bs xs))
    (ao : Option Addr) (m c : Nat) (ys : List Nat) (hx : a.eval x = .slice ao m c) (hr : Rd w ao m c ys) (hb : n + m ≤ 140737488355328) (hB : B ≤ w.heap.size)
    (h : ∀ v' w', w'.ownsRow B 5 1 v' (n + m) (bs (xs ++ ys)) → Below B w w' → wpList Tryd.prog ops Q rest (a.put o.dst v') w') : wpList Tryd.prog ops Q (o :: rest) a w := by
  obtain ⟨i5, hi5, hz0, hz1, hz2⟩ := info_parts Tryd.info5
  obtain ⟨hl, hc, hno, hat⟩ := hr
  cases ao with
  | none =>
    obtain ⟨rfl, rfl⟩ := hno rfl
    obtain rfl : ys = [] := List.eq_nil_of_length_eq_zero hl
    refine wpList_append_own_none hgd s x 27 ho B 5 i5 1 Tryd.underlying27 hi5 v n (bs xs) hs hown hx ?_
    exact h v w (by simpa using hown) (Below.refl _ _)
  | some ad =>
    refine wpList_append_own w hgd s x 27 ho B 5 i5 (.int .u8 0) 1 1 Tryd.underlying27 hi5 hz0 hz1 hz2 rfl (by decide) v n (bs xs) hs hown ad m c (bs ys) hx (by simp [bs, hl]) ?_ (bs_one ys) (by unfold maxLen; omega) (by omega) hB ?_
    · intro j u hu
      obtain ⟨hj, rfl⟩ := bs_get' ys j u hu
      obtain ⟨b, off, e, hcell⟩ := hat (by omega)
      simp only [Option.some.injEq] at e
      subst e
      rw [Addr.add_lit]
      exact hcell j (by omega)
    · intro v' w' h1 h2 _
      refine h v' w' (by rw [bs_append]; exact h1) ((Below.refl B w).grown h2 hB fun k hk => (hown.lt k hk).1)

set_option maxRecDepth 100000 in
/-- What a slice of the call's own is, as what can be read. -/
theorem rd_owned {w : World} {B n : Nat} {v : Value} {xs : List Nat} (h : w.ownsRow B 5 1 v n (bs xs)) : ∃ ao cap, v = .slice ao n cap ∧ Rd w ao n cap xs := by
  rcases h.2 with ⟨rfl, rfl⟩ | ⟨g, cap, cur, rfl, _⟩
  · obtain rfl : xs = [] := by have := h.1; simp [bs] at this; exact this
    exact ⟨none, 0, rfl, Rd.nil w⟩
  · exact ⟨_, _, rfl, rd_own h⟩

set_option maxRecDepth 100000 in
set_option maxHeartbeats 2000000 in
theorem rput_high (ao : Option Addr) (n cap : Nat) (xs : List Nat) (v : Nat) (s : Int) (h8 : 8 < s) (l : Bool) (w : World) (h : Rd w ao n cap xs) (hn : n ≤ 70368744177664) :
    Calls Tryd.prog 49 #[.slice ao n cap, .int .u64 v, .int .i64 s, .bool l] w fun e w' => ∃ r, e = .returned r ∧ w'.ownsRow w.heap.size 5 1 r (n + 8) (bs (xs ++ putN v 8 l)) ∧ Below w.heap.size w w' := by
  have h' := hid h
  clear h
  go_enter Tryd.func49, Tryd.ntmps49
  go_wp2_with (at_builtin; refine wpList_append_rd rfl (.tmp 14) (.tmp 15) rfl w.heap.size _ 0 [] rfl (World.ownsRow_made w #[] 0 (Nat.le_refl _) (by decide) rfl) ao n cap xs rfl (h'.out.keep (Below.alloc (Below.refl _ _) (Nat.le_refl _) _)) (by omega) (by simp) ?_; intro v1 w1 ho1 hb1)
  go_loopw [9, 10] (fun o c W => ∃ (i : Nat) (ys : List Nat), i ≤ 8 ∧ c = .int .i64 i ∧ ys ++ up (fun j => v / 2 ^ (8 * place l 8 j) % 256) i (8 - i) = xs ++ putN v 8 l ∧
      W.ownsRow w.heap.size 5 1 o (n + i) (bs ys) ∧ Below w.heap.size w W) (fun _ c _ => 8 - (intOf c).toNat)
  case atStart => exact ⟨0, xs, by omega, rfl, rfl, by simpa using ho1, (Below.alloc (Below.refl _ _) (Nat.le_refl _) _).trans hb1⟩
  case round =>
    obtain ⟨i, ys, hi, rfl, he, ho, hb⟩ := hrel
    have he' := hid he
    clear he h' ho1 hb1
    by_cases hik : i < 8
    · obtain ⟨j, hj⟩ : ∃ j, j = place l 8 i := ⟨_, rfl⟩
      obtain ⟨q, hq⟩ : ∃ q, q = v / 2 ^ (8 * j) := ⟨_, rfl⟩
      have hsh : (v : Int) / 2 ^ (8 * j) = (q : Int) := by rw [hq]; simp
      have hj8 : j < 8 := by rw [hj]; unfold place; split <;> omega
      have hq' := hid hq
      clear hq
      cases l with
      | true =>
        have hj2 : j = i := by rw [hj]; rfl
        subst hj2
        have hj' := hid hj
        clear hj
        go_wp2_with (at_builtin; refine wpList_append_rd rfl (.tmp 28) (.tmp 35) rfl w.heap.size _ (n + j) ys rfl (ho.alloc _) (some ⟨wr.heap.size, 0, none⟩) 1 1 [q % 256] rfl (rd_one wr (q % 256)) (by omega) (by have := hb.size; simp; omega) ?_; intro w2v w3 ho3 hb3)
        refine ⟨⟨j + 1, ys ++ [q % 256], by omega, by go_num, ?_, by rw [← Nat.add_assoc]; exact ho3, (Below.alloc hb hb.size _).trans hb3⟩, by simp [intOf]; omega⟩
        rw [hq'.out]
        exact up_step (fun j => v / 2 ^ (8 * place true 8 j) % 256) j 8 hik ys _ he'.out
      | false =>
        have e1 : (7 : Int) - (i : Int) = (j : Int) := by rw [hj]; simp [place]; omega
        have hj' := hid hj
        clear hj
        go_wp2_with (at_builtin; refine wpList_append_rd rfl (.tmp 28) (.tmp 35) rfl w.heap.size _ (n + i) ys rfl (ho.alloc _) (some ⟨wr.heap.size, 0, none⟩) 1 1 [q % 256] rfl (rd_one wr (q % 256)) (by omega) (by have := hb.size; simp; omega) ?_; intro w2v w3 ho3 hb3)
        refine ⟨⟨i + 1, ys ++ [q % 256], by omega, by go_num, ?_, by rw [← Nat.add_assoc]; exact ho3, (Below.alloc hb hb.size _).trans hb3⟩, by simp [intOf]; omega⟩
        rw [hq'.out, hj'.out]
        exact up_step (fun j => v / 2 ^ (8 * place false 8 j) % 256) i 8 hik ys _ he'.out
    · obtain rfl : i = 8 := by omega
      go_wp2
      go_ret
      rw [Nat.sub_self] at he'
      simp only [up, List.append_nil] at he'
      rw [← he'.out]
      exact ⟨_, rfl, ho, hb⟩

set_option maxRecDepth 100000 in
set_option maxHeartbeats 2000000 in
theorem rput_mid (ao : Option Addr) (n cap : Nat) (xs : List Nat) (v : Nat) (k : Nat) (hk : 1 ≤ k) (h8 : k ≤ 8) (l : Bool) (w : World) (h : Rd w ao n cap xs) (hn : n ≤ 70368744177664) :
    Calls Tryd.prog 49 #[.slice ao n cap, .int .u64 v, .int .i64 (k : Int), .bool l] w fun e w' => ∃ r, e = .returned r ∧ w'.ownsRow w.heap.size 5 1 r (n + k) (bs (xs ++ putN v k l)) ∧ Below w.heap.size w w' := by
  have h' := hid h
  clear h
  go_enter Tryd.func49, Tryd.ntmps49
  go_wp2_with (at_builtin; refine wpList_append_rd rfl (.tmp 14) (.tmp 15) rfl w.heap.size _ 0 [] rfl (World.ownsRow_made w #[] 0 (Nat.le_refl _) (by decide) rfl) ao n cap xs rfl (h'.out.keep (Below.alloc (Below.refl _ _) (Nat.le_refl _) _)) (by omega) (by simp) ?_; intro v1 w1 ho1 hb1)
  go_loopw [9, 10] (fun o c W => ∃ (i : Nat) (ys : List Nat), i ≤ k ∧ c = .int .i64 i ∧ ys ++ up (fun j => v / 2 ^ (8 * place l k j) % 256) i (k - i) = xs ++ putN v k l ∧
      W.ownsRow w.heap.size 5 1 o (n + i) (bs ys) ∧ Below w.heap.size w W) (fun _ c _ => k - (intOf c).toNat)
  case atStart => exact ⟨0, xs, by omega, rfl, rfl, by simpa using ho1, (Below.alloc (Below.refl _ _) (Nat.le_refl _) _).trans hb1⟩
  case round =>
    obtain ⟨i, ys, hi, rfl, he, ho, hb⟩ := hrel
    have he' := hid he
    clear he h' ho1 hb1
    by_cases hik : i < k
    · obtain ⟨j, hj⟩ : ∃ j, j = place l k i := ⟨_, rfl⟩
      obtain ⟨q, hq⟩ : ∃ q, q = v / 2 ^ (8 * j) := ⟨_, rfl⟩
      have hsh : (v : Int) / 2 ^ (8 * j) = (q : Int) := by rw [hq]; simp
      have hj8 : j < 8 := by rw [hj]; unfold place; split <;> omega
      have hq' := hid hq
      clear hq
      cases l with
      | true =>
        have hj2 : j = i := by rw [hj]; rfl
        subst hj2
        have hj' := hid hj
        clear hj
        go_wp2_with (at_builtin; refine wpList_append_rd rfl (.tmp 28) (.tmp 35) rfl w.heap.size _ (n + j) ys rfl (ho.alloc _) (some ⟨wr.heap.size, 0, none⟩) 1 1 [q % 256] rfl (rd_one wr (q % 256)) (by omega) (by have := hb.size; simp; omega) ?_; intro w2v w3 ho3 hb3)
        refine ⟨⟨j + 1, ys ++ [q % 256], by omega, by go_num, ?_, by rw [← Nat.add_assoc]; exact ho3, (Below.alloc hb hb.size _).trans hb3⟩, by simp [intOf]; omega⟩
        rw [hq'.out]
        exact up_step (fun j => v / 2 ^ (8 * place true k j) % 256) j k hik ys _ he'.out
      | false =>
        have e1 : (k : Int) - 1 - (i : Int) = (j : Int) := by rw [hj]; simp [place]; omega
        have hj' := hid hj
        clear hj
        go_wp2_with (at_builtin; refine wpList_append_rd rfl (.tmp 28) (.tmp 35) rfl w.heap.size _ (n + i) ys rfl (ho.alloc _) (some ⟨wr.heap.size, 0, none⟩) 1 1 [q % 256] rfl (rd_one wr (q % 256)) (by omega) (by have := hb.size; simp; omega) ?_; intro w2v w3 ho3 hb3)
        refine ⟨⟨i + 1, ys ++ [q % 256], by omega, by go_num, ?_, by rw [← Nat.add_assoc]; exact ho3, (Below.alloc hb hb.size _).trans hb3⟩, by simp [intOf]; omega⟩
        rw [hq'.out, hj'.out]
        exact up_step (fun j => v / 2 ^ (8 * place false k j) % 256) i k hik ys _ he'.out
    · obtain rfl : i = k := by omega
      go_wp2
      go_ret
      rw [Nat.sub_self] at he'
      simp only [up, List.append_nil] at he'
      rw [← he'.out]
      exact ⟨_, rfl, ho, hb⟩

set_option maxRecDepth 100000 in
set_option maxHeartbeats 400000 in
theorem rput_low (ao : Option Addr) (n cap : Nat) (xs : List Nat) (v : Nat) (s : Int) (hs : s ≤ 0) (l : Bool) (w : World) (h : Rd w ao n cap xs) (hn : n ≤ 70368744177664) :
    Calls Tryd.prog 49 #[.slice ao n cap, .int .u64 v, .int .i64 s, .bool l] w fun e w' => ∃ r, e = .returned r ∧ w'.ownsRow w.heap.size 5 1 r n (bs xs) ∧ Below w.heap.size w w' := by
  have h' := hid h
  clear h
  go_enter Tryd.func49, Tryd.ntmps49
  go_wp2_with (at_builtin; refine wpList_append_rd rfl (.tmp 14) (.tmp 15) rfl w.heap.size _ 0 [] rfl (World.ownsRow_made w #[] 0 (Nat.le_refl _) (by decide) rfl) ao n cap xs rfl (h'.out.keep (Below.alloc (Below.refl _ _) (Nat.le_refl _) _)) (by omega) (by simp) ?_; intro v1 w1 ho1 hb1)
  refine wp_loop_rounds 1 ?_
  rw [rounds_succ]
  go_wp2
  go_ret
  exact ⟨_, rfl, by simpa using ho1, (Below.alloc (Below.refl _ _) (Nat.le_refl _) _).trans hb1⟩

set_option maxRecDepth 100000 in
theorem rput_any (ao : Option Addr) (n cap : Nat) (xs : List Nat) (v : Nat) (s : Int) (k : Nat) (l : Bool) (w : World) (h : Rd w ao n cap xs) (hn : n ≤ 70368744177664) (hs : min (max s 0) 8 = (k : Int)) :
    Calls Tryd.prog 49 #[.slice ao n cap, .int .u64 v, .int .i64 s, .bool l] w fun e w' => ∃ r, e = .returned r ∧ w'.ownsRow w.heap.size 5 1 r (n + k) (bs (xs ++ putN v k l)) ∧ Below w.heap.size w w' := by
  by_cases h8 : 8 < s
  · obtain rfl : k = 8 := by omega
    exact rput_high ao n cap xs v s h8 l w h hn
  · by_cases h0 : s ≤ 0
    · obtain rfl : k = 0 := by omega
      have := rput_low ao n cap xs v s h0 l w h hn
      simpa [putN, up] using this
    · obtain rfl : s = (k : Int) := by omega
      exact rput_mid ao n cap xs v k (by omega) (by omega) l w h hn

end Go.Proofs.YtjieegnmofimkaaDoor
