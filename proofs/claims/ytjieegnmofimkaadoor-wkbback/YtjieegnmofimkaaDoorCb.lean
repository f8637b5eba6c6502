/- What sized, shift and Put return; no statement of the seat is proved here. -/
import Derived.Test.YtjieegnmofimkaaDoorCa
namespace Go.Proofs.YtjieegnmofimkaaDoor
open Go.RowKit

set_option maxRecDepth 100000 in
set_option maxHeartbeats 400000 in
theorem sized_any (s : Int) (w : World) : Calls Tryd.prog 89 #[.int .i64 s] w fun e w' => e = .returned (.bool (decide (1 ≤ s) && decide (s ≤ 8))) ∧ w' = w := by
  by_cases h : 1 ≤ s <;> by_cases h' : s ≤ 8
  all_goals
    go_enter Tryd.func89, Tryd.ntmps89
    go_wp2
    go_ret
    simp [h, h']

set_option maxRecDepth 100000 in
set_option maxHeartbeats 400000 in
theorem shift_little (i s : Nat) (w : World) (h : i < 8) :
    Calls Tryd.prog 48 #[.int .i64 i, .int .i64 s, .bool true] w fun e w' => e = .returned (.int .i64 (8 * (i : Int))) ∧ w' = w := by
  go_enter Tryd.func48, Tryd.ntmps48
  go_wp2
  go_ret
  exact ⟨rfl, rfl⟩

set_option maxRecDepth 100000 in
set_option maxHeartbeats 400000 in
theorem shift_big (i s : Nat) (w : World) (h : i < s) (h' : s ≤ 8) :
    Calls Tryd.prog 48 #[.int .i64 i, .int .i64 s, .bool false] w fun e w' => e = .returned (.int .i64 (8 * ((s - 1 - i : Nat) : Int))) ∧ w' = w := by
  obtain ⟨j, hj⟩ : ∃ j : Nat, s = i + 1 + j := ⟨s - 1 - i, by omega⟩
  subst hj
  rw [show i + 1 + j - 1 - i = j by omega]
  go_enter Tryd.func48, Tryd.ntmps48
  go_wp2
  go_ret
  refine ⟨?_, rfl⟩
  simp
  omega

/-- k numbers of F, from place i on. -/
def up (F : Nat → Nat) (i : Nat) : Nat → List Nat
  | 0 => []
  | k + 1 => F i :: up F (i + 1) k

def place (l : Bool) (s i : Nat) : Nat := if l then i else s - 1 - i

/-- The bytes that Put puts. -/
def putN (v s : Nat) (l : Bool) : List Nat := up (fun i => v / 2 ^ (8 * place l s i) % 256) 0 s

set_option maxRecDepth 100000 in
theorem up_length (F : Nat → Nat) (i k : Nat) : (up F i k).length = k := by
  induction k generalizing i with
  | zero => rfl
  | succ k ih => simp [up, ih]

set_option maxRecDepth 100000 in
theorem up_step (F : Nat → Nat) (i k : Nat) (h : i < k) (ys T : List Nat) (e : ys ++ up F i (k - i) = T) : (ys ++ [F i]) ++ up F (i + 1) (k - (i + 1)) = T := by
  rw [← e, show k - i = (k - (i + 1)) + 1 by omega]
  simp [up]

set_option maxRecDepth 100000 in
theorem shift_any (i s : Nat) (l : Bool) (w : World) (h : i < s) (h' : s ≤ 8) :
    Calls Tryd.prog 48 #[.int .i64 i, .int .i64 s, .bool l] w fun e w' => e = .returned (.int .i64 ((8 * place l s i : Nat) : Int)) ∧ w' = w := by
  cases l with
  | true => simpa [place] using shift_little i s w (by omega)
  | false => simpa [place] using shift_big i s w h h'

set_option maxRecDepth 100000 in
theorem shr_nat (v c : Nat) (yk : IntKind) (h : c ≤ 64) : Op.shift .shr .u64 (v : Int) yk (c : Int) = pure (.int .u64 ((v / 2 ^ c : Nat) : Int)) := by
  rw [shift_shr_any _ _ _ _ (by omega)]
  simp [IntKind.bits, Nat.min_eq_left h]

set_option maxRecDepth 100000 in
theorem shl_nat (v c : Nat) (yk : IntKind) (h : c ≤ 64) : Op.shift .shl .u64 (v : Int) yk (c : Int) = pure (.int .u64 (IntKind.u64.wrap ((v * 2 ^ c : Nat) : Int))) := by
  rw [shift_shl_any _ _ _ _ (by omega)]
  simp [IntKind.bits, Nat.min_eq_left h]

set_option maxRecDepth 100000 in
/-- The same, its answer a name: what a number is, shifted by it. -/
theorem shift_named (v i s : Nat) (l : Bool) (h : i < s) (h' : s ≤ 8) : ∃ (sh : Int) (q : Nat), (∀ w, Calls Tryd.prog 48 #[.int .i64 i, .int .i64 s, .bool l] w fun e w' => e = .returned (.int .i64 sh) ∧ w' = w) ∧
    Op.shift .shr .u64 (v : Int) .i64 sh = pure (.int .u64 (q : Int)) ∧ Op.shift .shl .u64 (v : Int) .i64 sh = pure (.int .u64 (IntKind.u64.wrap ((v * 2 ^ (8 * place l s i) : Nat) : Int))) ∧ q = v / 2 ^ (8 * place l s i) := by
  refine ⟨((8 * place l s i : Nat) : Int), v / 2 ^ (8 * place l s i), fun w => shift_any i s l w h h', ?_, ?_, rfl⟩
  · exact shr_nat v _ _ (by unfold place; split <;> omega)
  · exact shl_nat v _ _ (by unfold place; split <;> omega)

set_option maxRecDepth 100000 in
theorem one_cell (w : World) (x : Nat) : ∀ j u, (bs [x])[j]? = some u → (w.alloc (.cells #[.int .u8 (x : Int)] 5)).cell? ((⟨w.heap.size, 0, none⟩ : Addr).add j) = some u := by
  intro j u hu
  obtain ⟨hj, rfl⟩ := bs_get' [x] j u hu
  have : j = 0 := by simpa using hj
  subst this
  rw [Addr.add_lit]
  simp

set_option maxRecDepth 100000 in
theorem clip_ex (s : Int) : ∃ k : Nat, k ≤ 8 ∧ min (max s 0) 8 = (k : Int) := ⟨(min (max s 0) 8).toNat, by omega, by omega⟩

set_option maxRecDepth 100000 in
set_option maxHeartbeats 400000 in
theorem put_any (ao : Option Addr) (n cap : Nat) (xs : List Nat) (v : Nat) (s : Int) (k : Nat) (l : Bool) (w : World) (h : Rd w ao n cap xs) (hn : n ≤ 140737488355328) (hk : k ≤ 8) (hs : min (max s 0) 8 = (k : Int)) :
    Calls Tryd.prog 26 #[.slice ao n cap, .int .u64 v, .int .i64 s, .bool l] w fun e w' => e = .returned (.slice (some ⟨w.heap.size, 0, none⟩) (n + k) (n + k)) ∧
      w'.ownsRow w.heap.size 5 1 (.slice (some ⟨w.heap.size, 0, none⟩) (n + k) (n + k)) (n + k) (bs (xs ++ putN v k l)) ∧ Below w.heap.size w w' := by
  have cw := hid (widened_any ao n cap k xs w h (by omega))
  have hs' := hid hs
  go_enter Tryd.func26, Tryd.ntmps26
  go_wp2_with (go_at_call 47; refine cw.out.mono ?_; rintro e w1 ⟨rfl, ho1, hb1⟩)
  go_loopw [9, 18] (fun o c W => ∃ (i : Nat) (ys : List Nat), i ≤ k ∧ c = .int .i64 i ∧ o = .slice (some ⟨w.heap.size, 0, none⟩) (n + i) (n + k) ∧ ys ++ up (fun j => v / 2 ^ (8 * place l k j) % 256) i (k - i) = xs ++ putN v k l ∧
      W.ownsRow w.heap.size 5 1 (.slice (some ⟨w.heap.size, 0, none⟩) (n + i) (n + k)) (n + i) (bs ys) ∧ Below w.heap.size w W) (fun _ c _ => k - (intOf c).toNat)
  case atStart => exact ⟨0, xs, by omega, rfl, rfl, rfl, ho1, hb1⟩
  case round =>
    obtain ⟨i, ys, hi, rfl, rfl, he, ho, hb⟩ := hrel
    have he' := hid he
    clear he hs h cw ho1 hb1
    by_cases hik : i < k
    · obtain ⟨sh, q, c, hsh, _, hq⟩ := shift_named v i k l hik hk
      have c' := hid c
      obtain ⟨i5, hi5, hz0, hz1, hz2⟩ := info_parts Tryd.info5
      have hq' := hid hq
      clear c hq
      go_wp2_with (first | (go_at_call 48; refine (c'.out _).mono ?_; rintro e w2 ⟨rfl, rfl⟩) | (at_builtin; refine wpList_append_fits _ rfl (.tmp 21) (.tmp 29) 27 rfl w.heap.size 5 i5 1 Tryd.underlying27 hi5 hz1 w.heap.size (n + i) (n + k) (bs ys) rfl (ho.alloc _) ⟨w2.heap.size, 0, none⟩ 1 1 (bs [q % 256]) rfl rfl (one_cell w2 (q % 256)) (bs_one _) (by omega) ?_; intro w3 ho3 hg3))
      refine ⟨⟨i + 1, ys ++ [q % 256], by omega, by go_num, by rw [Nat.add_assoc], ?_, ?_, ?_⟩, by simp [intOf]; omega⟩
      · rw [hq'.out]
        exact up_step (fun j => v / 2 ^ (8 * place l k j) % 256) i k hik ys _ he'.out
      · rw [bs_append, ← Nat.add_assoc]; exact ho3
      · exact (Below.alloc hb hb.size _).grown hg3 (by have := hb.size; simp; omega) (fun j hj => by cases hj; exact Nat.le_refl _)
    · obtain rfl : i = k := by omega
      go_wp2
      go_ret
      rw [Nat.sub_self] at he'
      simp only [up, List.append_nil] at he'
      rw [← he'.out]
      exact ⟨rfl, ho, hb⟩

end Go.Proofs.YtjieegnmofimkaaDoor
