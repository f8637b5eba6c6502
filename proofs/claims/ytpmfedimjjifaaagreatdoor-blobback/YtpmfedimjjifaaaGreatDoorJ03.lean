/- How slices of bytes lie in memory, and what widened does: a copy with room; no statement of the seat is proved here. -/
import Derived.Test.YtpmfedimjjifaaaGreatDoorJ02
import Derived.Laws.CopyOwn
import Derived.Laws.BytesArg
import Derived.Laws.AppendOwnNone
import Derived.Lib.Walk
import Derived.OneCell
import Derived.Lib.BitFns
namespace Go.Proofs.YtpmfedimjjifaaaGreatDoor
open Go.RowKit

def bs (xs : List Nat) : List Value := xs.map fun x : Nat => Value.int .u8 (x : Int)
def str (xs : List Nat) : ByteArray := ⟨(xs.map UInt8.ofNat).toArray⟩

set_option maxRecDepth 100000 in
theorem bs_length (xs : List Nat) : (bs xs).length = xs.length := by simp [bs]
set_option maxRecDepth 100000 in
theorem bs_append (xs ys : List Nat) : bs (xs ++ ys) = bs xs ++ bs ys := by simp [bs]
set_option maxRecDepth 100000 in
theorem bs_one (xs : List Nat) : ∀ u ∈ bs xs, u.oneCell' = true := by
  intro u hu
  obtain ⟨x, _, rfl⟩ := List.mem_map.1 hu
  rfl
set_option maxRecDepth 100000 in
theorem bs_get (xs : List Nat) (t : Nat) (h : t < xs.length) : (bs xs)[t]? = some (.int .u8 ((xs.getD t 0 : Nat) : Int)) := by
  simp [bs, List.getElem?_map, List.getElem?_eq_getElem h, List.getD]
set_option maxRecDepth 100000 in
theorem bs_get' (xs : List Nat) (t : Nat) (u : Value) (h : (bs xs)[t]? = some u) : t < xs.length ∧ u = .int .u8 ((xs.getD t 0 : Nat) : Int) := by
  have hl : t < xs.length := by
    have := (List.getElem?_eq_some_iff.1 h).1
    simpa [bs] using this
  rw [bs_get xs t hl] at h
  exact ⟨hl, (Option.some.inj h).symm⟩
set_option maxRecDepth 100000 in
theorem str_size (xs : List Nat) : (str xs).size = xs.length := by simp [str, ByteArray.size]

/-- A slice of bytes that can be read. -/
def Rd (w : World) (ao : Option Addr) (n cap : Nat) (xs : List Nat) : Prop :=
  xs.length = n ∧ n ≤ cap ∧ (ao = none → n = 0 ∧ cap = 0) ∧
    (0 < n → ∃ b off, ao = some ⟨b, off, none⟩ ∧ ∀ t, t < n → w.cell? ⟨b, off + t, none⟩ = some (.int .u8 ((xs.getD t 0 : Nat) : Int)))

set_option maxRecDepth 100000 in
theorem Rd.keep {w w' : World} {ao : Option Addr} {n cap : Nat} {xs : List Nat} (h : Rd w ao n cap xs) (hb : Below w.heap.size w w') : Rd w' ao n cap xs := by
  refine ⟨h.1, h.2.1, h.2.2.1, fun hn => ?_⟩
  obtain ⟨b, off, e, hc⟩ := h.2.2.2 hn
  exact ⟨b, off, e, fun t ht => keep_old hb (hc t ht)⟩

set_option maxRecDepth 100000 in
theorem Rd.nil (w : World) : Rd w none 0 0 [] := ⟨rfl, Nat.le_refl _, fun _ => ⟨rfl, rfl⟩, fun h => by omega⟩

set_option maxRecDepth 100000 in
theorem rd_own {w : World} {B g n cap : Nat} {xs : List Nat} (h : w.ownsRow B 5 1 (.slice (some ⟨g, 0, none⟩) n cap) n (bs xs)) : Rd w (some ⟨g, 0, none⟩) n cap xs := by
  have hl : xs.length = n := by simpa [bs] using h.1
  refine ⟨hl, ?_, fun h => (by cases h), fun _ => ⟨g, 0, rfl, fun t ht => ?_⟩⟩
  · rcases h.2 with ⟨h', _⟩ | ⟨g', cap', cur, h', _, _, hnc, _⟩
    · simp at h'
    · simp only [Value.slice.injEq, Option.some.injEq, Addr.mk.injEq, and_true, true_and] at h'
      rw [h'.2]; exact hnc
  · rw [Nat.zero_add, h.cellAt t (by omega), bs_get xs t (by omega)]

set_option maxRecDepth 100000 in
theorem conv_rd {P : Program} {w : World} {ao : Option Addr} {n cap : Nat} {xs : List Nat} (h : Rd w ao n cap xs) (src dst e : TypeId) (hs : P.underlying src = some (.slice e)) (he : P.underlying e = some (.int .u8)) (hd : P.underlying dst = some .string) :
    (convert src dst (.slice ao n cap)).run P w = .ok (.string (str xs)) w := by
  obtain ⟨hl, hc, hno, hat⟩ := h
  rcases Nat.eq_zero_or_pos n with h0 | hp
  · subst h0
    obtain rfl : xs = [] := List.eq_nil_of_length_eq_zero hl
    cases ao with
    | none => rw [run_convert_bytes_nil w src e hs he 0 cap dst hd]; rfl
    | some a => 
      rw [run_convert_bytes_string w src dst e (some a) 0 cap hs he hd, run_bytesToString w a 0 cap [] (run_loadCells_list (P := P) w a [] (fun j v hj => by simp at hj))]
      rfl
  · obtain ⟨b, off, rfl, hcell⟩ := hat hp
    rw [run_convert_bytes_arg w src e hs he b off n cap (xs.map fun x : Nat => (x : Int)) (by simpa using hl) (fun i hi => by
      rw [hcell i hi]
      simp [List.getD, List.getElem?_map, List.getElem?_eq_getElem (show i < xs.length by omega)]) dst hd]
    simp [strOfNums, str, Function.comp_def]

set_option maxRecDepth 100000 in
theorem Tryz.info5 : (Tryz.prog.info? 5).map (fun i => (i.zero, i.size, i.bytes)) = some (some (.int .u8 0), 1, 1) := by kernel_rfl

set_option maxRecDepth 100000 in
theorem make_any (n cap : Nat) (h : n ≤ cap) (hc : cap ≤ 281474976710656) (w : World) :
    (Instr.makeSlice 22 (.int .i64 (n : Int)) (.int .i64 (cap : Int))).run Tryz.prog w = .ok (.slice (some ⟨w.heap.size, 0, none⟩) n cap) (w.alloc (.cells (Array.replicate cap (.int .u8 0)) 5)) := by
  obtain ⟨i, hi, hz0, hz1, hz2⟩ := info_parts Tryz.info5
  have hr := run_make (P := Tryz.prog) w 22 5 i (.int .u8 0) Tryz.underlying22 hi hz0 .i64 .i64 n cap (by omega) (by omega) (by rw [hz2]; omega) (by omega)
  simp only [Int.toNat_natCast, hz1, Nat.mul_one] at hr
  rw [hr, show Array.replicate cap (Value.int .u8 0) = (List.replicate cap (Value.int .u8 0)).toArray by simp, ← toList_madeCells_one, Array.toArray_toList]
  rfl

set_option maxRecDepth 100000 in
theorem own_of_row {w : World} {B g n cap : Nat} {cur : List Value} {xs : List Nat} (hB : B ≤ g) (hg : w.heap[g]? = some (.cells cur.toArray 5 (0, 0))) (hcap : cur.length = cap) (hm : cap ≤ 9223372036854775807)
    (hx : cur.take n = bs xs) (hn : xs.length = n) (hnc : n ≤ cap) : w.ownsRow B 5 1 (.slice (some ⟨g, 0, none⟩) n cap) n (bs xs) :=
  ⟨by simp [bs, hn], .inr ⟨g, cap, cur.toArray, rfl, hB, hg, hnc, hm, by simp [hcap], by simpa using hx⟩⟩

set_option maxRecDepth 100000 in
theorem splice_zero (n m : Nat) (xs : List Nat) (h : xs.length = n) : (splice (List.replicate (n + m) (Value.int .u8 0)) 0 (bs xs)).take n = bs xs := by
  have hl : (bs xs).length = n := by simp [bs, h]
  simp [splice, List.take_append_of_le_length (Nat.le_of_eq hl.symm), List.take_of_length_le (Nat.le_of_eq hl)]

set_option maxRecDepth 100000 in
theorem copy_hg (w : World) (k : Nat) : (w.alloc (.cells (Array.replicate k (.int .u8 0)) 5)).heap[w.heap.size]? = some (.cells (List.replicate k (Value.int .u8 0)).toArray 5 (0, 0)) := by
  rw [heap_alloc_new]; simp

set_option maxRecDepth 100000 in
theorem copy_hn {w : World} {ao : Option Addr} {n cap : Nat} {xs : List Nat} (h : Rd w ao n cap xs) : (bs xs).length = Nat.min n n := by
  rw [bs_length, h.1]; exact (Nat.min_self n).symm

set_option maxRecDepth 100000 in
theorem copy_hpos {w : World} {ao : Option Addr} {n cap : Nat} {xs : List Nat} (h : Rd w ao n cap xs) {o : Obj} : 0 < (bs xs).length → some (⟨w.heap.size, 0, none⟩ : Addr) = some ⟨w.heap.size, 0, none⟩ ∧ ∃ ad, ao = some ad ∧ ∀ j v, (bs xs)[j]? = some v → (w.alloc o).cell? (ad.add j) = some v := by
  intro hp
  rw [bs_length, h.1] at hp
  obtain ⟨b, off, rfl, hc⟩ := h.2.2.2 hp
  refine ⟨rfl, _, rfl, fun j v hv => ?_⟩
  obtain ⟨hj, rfl⟩ := bs_get' xs j v hv
  rw [Addr.add_lit]
  exact keep_old (Below.alloc (Below.refl _ _) (Nat.le_refl _) o) (hc j (by have := h.1; omega))

set_option maxRecDepth 100000 in
set_option maxHeartbeats 400000 in
theorem widened_any (ao : Option Addr) (n cap m : Nat) (xs : List Nat) (w : World) (h : Rd w ao n cap xs) (hm : n + m ≤ 281474976710656) :
    Calls Tryz.prog 77 #[.slice ao n cap, .int .i64 (m : Int)] w fun e w' => e = .returned (.slice (some ⟨w.heap.size, 0, none⟩) n (n + m)) ∧
      w'.ownsRow w.heap.size 5 1 (.slice (some ⟨w.heap.size, 0, none⟩) n (n + m)) n (bs xs) ∧ Below w.heap.size w w' := by
  have hmk := make_any n (n + m) (by omega) hm
  have e1 : ((n + m : Nat) : Int) = (n : Int) + (m : Int) := by omega
  rw [e1] at hmk
  have hr := hid h
  clear e1 h
  go_enter Tryz.func77, Tryz.ntmps77
  go_wp2_with ((with_reducible refine here_op 15 ?_); refine wpList_copy_splice rfl (.tmp 13) (.tmp 14) 22 22 rfl 5 Tryz.underlying22 (by kernel_rfl) _ _ _ _ _ _ rfl rfl w.heap.size 0 (List.replicate (n + m) (.int .u8 0)) 5 (copy_hg w (n + m)) (bs xs) (copy_hn hr.out) (copy_hpos hr.out) (by simp [bs, hr.out.1]) (bs_one xs) w.heap.size w (Below.alloc (Below.refl _ _) (Nat.le_refl _) _) (Nat.le_refl _) ?_; intro w2 hg2 hb2)
  go_ret
  exact ⟨rfl, own_of_row (Nat.le_refl _) hg2.out (by rw [length_splice _ _ _ (by simp [bs, hr.out.1])]; simp) (by omega) (splice_zero n m xs hr.out.1) hr.out.1 (by omega), hb2⟩

end Go.Proofs.YtpmfedimjjifaaaGreatDoor

/- What sized, shift and Put return; no statement of the seat is proved here. -/
namespace Go.Proofs.YtpmfedimjjifaaaGreatDoor
open Go.RowKit

set_option maxRecDepth 100000 in
set_option maxHeartbeats 400000 in
theorem sized_any (s : Int) (w : World) : Calls Tryz.prog 80 #[.int .i64 s] w fun e w' => e = .returned (.bool (decide (1 ≤ s) && decide (s ≤ 8))) ∧ w' = w := by
  by_cases h : 1 ≤ s <;> by_cases h' : s ≤ 8
  all_goals
    go_enter Tryz.func80, Tryz.ntmps80
    go_wp2
    go_ret
    simp [h, h']

set_option maxRecDepth 100000 in
set_option maxHeartbeats 400000 in
theorem shift_little (i s : Nat) (w : World) (h : i < 8) :
    Calls Tryz.prog 96 #[.int .i64 i, .int .i64 s, .bool true] w fun e w' => e = .returned (.int .i64 (8 * (i : Int))) ∧ w' = w := by
  go_enter Tryz.func96, Tryz.ntmps96
  go_wp2
  go_ret
  exact ⟨rfl, rfl⟩

set_option maxRecDepth 100000 in
set_option maxHeartbeats 400000 in
theorem shift_big (i s : Nat) (w : World) (h : i < s) (h' : s ≤ 8) :
    Calls Tryz.prog 96 #[.int .i64 i, .int .i64 s, .bool false] w fun e w' => e = .returned (.int .i64 (8 * ((s - 1 - i : Nat) : Int))) ∧ w' = w := by
  obtain ⟨j, hj⟩ : ∃ j : Nat, s = i + 1 + j := ⟨s - 1 - i, by omega⟩
  subst hj
  rw [show i + 1 + j - 1 - i = j by omega]
  go_enter Tryz.func96, Tryz.ntmps96
  go_wp2
  go_ret
  refine ⟨?_, rfl⟩
  simp
  omega

/-- k numbers of F, from place i on. -/
def up (F : Nat → Nat) (i : Nat) : Nat → List Nat
  | 0 => []
  | k + 1 => F i :: up F (i + 1) k

def place (l : Bool) (s i : Nat) : Nat := if l then i else s - 1 - i

/-- The bytes that Put puts. -/
def putN (v s : Nat) (l : Bool) : List Nat := up (fun i => v / 2 ^ (8 * place l s i) % 256) 0 s

set_option maxRecDepth 100000 in
theorem up_length (F : Nat → Nat) (i k : Nat) : (up F i k).length = k := by
  induction k generalizing i with
  | zero => rfl
  | succ k ih => simp [up, ih]

set_option maxRecDepth 100000 in
theorem up_step (F : Nat → Nat) (i k : Nat) (h : i < k) (ys T : List Nat) (e : ys ++ up F i (k - i) = T) : (ys ++ [F i]) ++ up F (i + 1) (k - (i + 1)) = T := by
  rw [← e, show k - i = (k - (i + 1)) + 1 by omega]
  simp [up]

set_option maxRecDepth 100000 in
theorem shift_any (i s : Nat) (l : Bool) (w : World) (h : i < s) (h' : s ≤ 8) :
    Calls Tryz.prog 96 #[.int .i64 i, .int .i64 s, .bool l] w fun e w' => e = .returned (.int .i64 ((8 * place l s i : Nat) : Int)) ∧ w' = w := by
  cases l with
  | true => simpa [place] using shift_little i s w (by omega)
  | false => simpa [place] using shift_big i s w h h'

set_option maxRecDepth 100000 in
theorem shr_nat (v c : Nat) (yk : IntKind) (h : c ≤ 64) : Op.shift .shr .u64 (v : Int) yk (c : Int) = pure (.int .u64 ((v / 2 ^ c : Nat) : Int)) := by
  rw [shift_shr_any _ _ _ _ (by omega)]
  simp [IntKind.bits, Nat.min_eq_left h]

set_option maxRecDepth 100000 in
theorem shl_nat (v c : Nat) (yk : IntKind) (h : c ≤ 64) : Op.shift .shl .u64 (v : Int) yk (c : Int) = pure (.int .u64 (IntKind.u64.wrap ((v * 2 ^ c : Nat) : Int))) := by
  rw [shift_shl_any _ _ _ _ (by omega)]
  simp [IntKind.bits, Nat.min_eq_left h]

set_option maxRecDepth 100000 in
/-- The same, its answer a name: what a number is, shifted by it. -/
theorem shift_named (v i s : Nat) (l : Bool) (h : i < s) (h' : s ≤ 8) : ∃ (sh : Int) (q : Nat), (∀ w, Calls Tryz.prog 96 #[.int .i64 i, .int .i64 s, .bool l] w fun e w' => e = .returned (.int .i64 sh) ∧ w' = w) ∧
    Op.shift .shr .u64 (v : Int) .i64 sh = pure (.int .u64 (q : Int)) ∧ Op.shift .shl .u64 (v : Int) .i64 sh = pure (.int .u64 (IntKind.u64.wrap ((v * 2 ^ (8 * place l s i) : Nat) : Int))) ∧ q = v / 2 ^ (8 * place l s i) := by
  refine ⟨((8 * place l s i : Nat) : Int), v / 2 ^ (8 * place l s i), fun w => shift_any i s l w h h', ?_, ?_, rfl⟩
  · exact shr_nat v _ _ (by unfold place; split <;> omega)
  · exact shl_nat v _ _ (by unfold place; split <;> omega)

set_option maxRecDepth 100000 in
theorem one_cell (w : World) (x : Nat) : ∀ j u, (bs [x])[j]? = some u → (w.alloc (.cells #[.int .u8 (x : Int)] 5)).cell? ((⟨w.heap.size, 0, none⟩ : Addr).add j) = some u := by
  intro j u hu
  obtain ⟨hj, rfl⟩ := bs_get' [x] j u hu
  have : j = 0 := by simpa using hj
  subst this
  rw [Addr.add_lit]
  simp

set_option maxRecDepth 100000 in
theorem clip_ex (s : Int) : ∃ k : Nat, k ≤ 8 ∧ min (max s 0) 8 = (k : Int) := ⟨(min (max s 0) 8).toNat, by omega, by omega⟩

set_option maxRecDepth 100000 in
set_option maxHeartbeats 400000 in
theorem put_any (ao : Option Addr) (n cap : Nat) (xs : List Nat) (v : Nat) (s : Int) (k : Nat) (l : Bool) (w : World) (h : Rd w ao n cap xs) (hn : n ≤ 140737488355328) (hk : k ≤ 8) (hs : min (max s 0) 8 = (k : Int)) :
    Calls Tryz.prog 60 #[.slice ao n cap, .int .u64 v, .int .i64 s, .bool l] w fun e w' => e = .returned (.slice (some ⟨w.heap.size, 0, none⟩) (n + k) (n + k)) ∧
      w'.ownsRow w.heap.size 5 1 (.slice (some ⟨w.heap.size, 0, none⟩) (n + k) (n + k)) (n + k) (bs (xs ++ putN v k l)) ∧ Below w.heap.size w w' := by
  have cw := hid (widened_any ao n cap k xs w h (by omega))
  have hs' := hid hs
  go_enter Tryz.func60, Tryz.ntmps60
  go_wp2_with (go_at_call 77; refine cw.out.mono ?_; rintro e w1 ⟨rfl, ho1, hb1⟩)
  go_loopw [9, 18] (fun o c W => ∃ (i : Nat) (ys : List Nat), i ≤ k ∧ c = .int .i64 i ∧ o = .slice (some ⟨w.heap.size, 0, none⟩) (n + i) (n + k) ∧ ys ++ up (fun j => v / 2 ^ (8 * place l k j) % 256) i (k - i) = xs ++ putN v k l ∧
      W.ownsRow w.heap.size 5 1 (.slice (some ⟨w.heap.size, 0, none⟩) (n + i) (n + k)) (n + i) (bs ys) ∧ Below w.heap.size w W) (fun _ c _ => k - (intOf c).toNat)
  case atStart => exact ⟨0, xs, by omega, rfl, rfl, rfl, ho1, hb1⟩
  case round =>
    obtain ⟨i, ys, hi, rfl, rfl, he, ho, hb⟩ := hrel
    have he' := hid he
    clear he hs h cw ho1 hb1
    by_cases hik : i < k
    · obtain ⟨sh, q, c, hsh, _, hq⟩ := shift_named v i k l hik hk
      have c' := hid c
      obtain ⟨i5, hi5, hz0, hz1, hz2⟩ := info_parts Tryz.info5
      have hq' := hid hq
      clear c hq
      go_wp2_with (first | (go_at_call 96; refine (c'.out _).mono ?_; rintro e w2 ⟨rfl, rfl⟩) | (at_builtin; refine wpList_append_fits _ rfl (.tmp 21) (.tmp 29) 22 rfl w.heap.size 5 i5 1 Tryz.underlying22 hi5 hz1 w.heap.size (n + i) (n + k) (bs ys) rfl (ho.alloc _) ⟨w2.heap.size, 0, none⟩ 1 1 (bs [q % 256]) rfl rfl (one_cell w2 (q % 256)) (bs_one _) (by omega) ?_; intro w3 ho3 hg3))
      refine ⟨⟨i + 1, ys ++ [q % 256], by omega, by go_num, by rw [Nat.add_assoc], ?_, ?_, ?_⟩, by simp [intOf]; omega⟩
      · rw [hq'.out]
        exact up_step (fun j => v / 2 ^ (8 * place l k j) % 256) i k hik ys _ he'.out
      · rw [bs_append, ← Nat.add_assoc]; exact ho3
      · exact (Below.alloc hb hb.size _).grown hg3 (by have := hb.size; simp; omega) (fun j hj => by cases hj; exact Nat.le_refl _)
    · obtain rfl : i = k := by omega
      go_wp2
      go_ret
      rw [Nat.sub_self] at he'
      simp only [up, List.append_nil] at he'
      rw [← he'.out]
      exact ⟨rfl, ho, hb⟩

end Go.Proofs.YtpmfedimjjifaaaGreatDoor

/- What octet.Get returns; no statement of the seat is proved here. -/
namespace Go.Proofs.YtpmfedimjjifaaaGreatDoor
open Go.RowKit

set_option maxRecDepth 100000 in
theorem getD_lt {xs : List Nat} (h : ∀ x ∈ xs, x < 256) (i : Nat) (hi : i < xs.length) : xs.getD i 0 < 256 := by
  rw [List.getD_eq_getElem?_getD, List.getElem?_eq_getElem hi]
  exact h _ (List.getElem_mem hi)

set_option maxRecDepth 100000 in
theorem drop_getD (xs : List Nat) (i : Nat) (hi : i < xs.length) : xs.drop i = xs.getD i 0 :: xs.drop (i + 1) := by
  rw [List.drop_eq_getElem_cons hi, List.getD_eq_getElem?_getD, List.getElem?_eq_getElem hi]
  rfl

/-- The number that the first i of s bytes make, in either order. -/
def psum (xs : List Nat) (s : Nat) (l : Bool) : Nat → Nat
  | 0 => 0
  | i + 1 => psum xs s l i + xs.getD i 0 * 2 ^ (8 * place l s i)

set_option maxRecDepth 100000 in
theorem psum_big (xs : List Nat) (s : Nat) (hx : ∀ x ∈ xs, x < 256) (hs : s ≤ xs.length) : ∀ i, i ≤ s → ∃ q, q < 2 ^ (8 * i) ∧ psum xs s false i = q * 2 ^ (8 * (s - i)) := by
  intro i
  induction i with
  | zero => intro _; exact ⟨0, by simp, by simp [psum]⟩
  | succ i ih =>
    intro hi
    obtain ⟨q, hq, e⟩ := ih (by omega)
    have hc := getD_lt hx i (by omega)
    refine ⟨q * 256 + xs.getD i 0, ?_, ?_⟩
    · rw [show 8 * (i + 1) = 8 * i + 8 by omega, Nat.pow_add]; omega
    · simp only [psum, e, place]
      rw [show 8 * (s - i) = 8 + 8 * (s - (i + 1)) by omega, Nat.pow_add, show s - 1 - i = s - (i + 1) by omega, Nat.add_mul, Nat.mul_assoc]
      rfl

set_option maxRecDepth 100000 in
theorem psum_little (xs : List Nat) (s : Nat) (hx : ∀ x ∈ xs, x < 256) (hs : s ≤ xs.length) : ∀ i, i ≤ s → psum xs s true i < 2 ^ (8 * i) := by
  intro i
  induction i with
  | zero => intro _; simp [psum]
  | succ i ih =>
    intro hi
    have h := ih (by omega)
    have hc := getD_lt hx i (by omega)
    simp only [psum, place, if_true]
    rw [show 8 * (i + 1) = 8 * i + 8 by omega, Nat.pow_add]
    have h2 : xs.getD i 0 * 2 ^ (8 * i) ≤ 255 * 2 ^ (8 * i) := Nat.mul_le_mul_right _ (by omega)
    omega

set_option maxRecDepth 100000 in
theorem psum_lt (xs : List Nat) (s : Nat) (l : Bool) (hx : ∀ x ∈ xs, x < 256) (hs : s ≤ xs.length) (h8 : s ≤ 8) (i : Nat) (hi : i ≤ s) : psum xs s l i < 18446744073709551616 := by
  cases l with
  | true =>
    have h := psum_little xs s hx hs i hi
    have hp : 2 ^ (8 * i) ≤ 2 ^ 64 := Nat.pow_le_pow_right (by omega) (by omega)
    omega
  | false =>
    obtain ⟨q, hq, e⟩ := psum_big xs s hx hs i hi
    have h1 : q * 2 ^ (8 * (s - i)) < 2 ^ (8 * i) * 2 ^ (8 * (s - i)) := Nat.mul_lt_mul_of_pos_right hq (Nat.pow_pos (by omega))
    rw [← Nat.pow_add, show 8 * i + 8 * (s - i) = 8 * s by omega] at h1
    have hp : 2 ^ (8 * s) ≤ 2 ^ 64 := Nat.pow_le_pow_right (by omega) (by omega)
    omega

set_option maxRecDepth 100000 in
theorem psum_or (xs : List Nat) (s : Nat) (l : Bool) (hx : ∀ x ∈ xs, x < 256) (hs : s ≤ xs.length) (i : Nat) (hi : i < s) :
    psum xs s l i ||| xs.getD i 0 * 2 ^ (8 * place l s i) = psum xs s l (i + 1) := by
  have hc := getD_lt hx i (by omega)
  cases l with
  | true =>
    have h := psum_little xs s hx hs i (by omega)
    simp only [psum, place, if_true]
    rw [Nat.or_comm, Nat.mul_comm, ← Nat.two_pow_add_eq_or_of_lt h, Nat.add_comm]
  | false =>
    obtain ⟨q, hq, e⟩ := psum_big xs s hx hs i (by omega)
    simp only [psum, e, place]
    have hlt : xs.getD i 0 * 2 ^ (8 * (s - 1 - i)) < 2 ^ (8 * (s - i)) := by
      rw [show 8 * (s - i) = 8 + 8 * (s - 1 - i) by omega, Nat.pow_add]
      exact Nat.mul_lt_mul_of_pos_right (by omega) (Nat.pow_pos (by omega))
    rw [if_neg (by simp), Nat.mul_comm q, ← Nat.two_pow_add_eq_or_of_lt hlt]

set_option maxRecDepth 100000 in
theorem getD_term_lt (xs : List Nat) (s : Nat) (l : Bool) (hx : ∀ x ∈ xs, x < 256) (hs : s ≤ xs.length) (h8 : s ≤ 8) (i : Nat) (hi : i < s) : xs.getD i 0 * 2 ^ (8 * place l s i) < 18446744073709551616 := by
  have := psum_lt xs s l hx hs h8 (i + 1) (by omega)
  simp only [psum] at this
  omega

/-- What Get answers. -/
def getV (xs : List Nat) (s : Int) (l : Bool) : Nat × Bool := if 1 ≤ s ∧ s ≤ 8 ∧ s ≤ (xs.length : Int) then (psum xs s.toNat l s.toNat, true) else (0, false)

set_option maxRecDepth 100000 in
theorem getV_lt (xs : List Nat) (s : Int) (l : Bool) (hx : ∀ x ∈ xs, x < 256) : (getV xs s l).1 < 18446744073709551616 := by
  unfold getV
  split
  · exact psum_lt xs s.toNat l hx (by omega) (by omega) s.toNat (Nat.le_refl _)
  · simp

/-- The two cells of a teller: how many bytes it has told, and its bytes. -/
def Tell (w : World) (pa pb : Nat) (ao : Option Addr) (n cap k : Nat) (W : World) : Prop :=
  W.heap[pa]? = some (.cells #[.int .i64 (k : Int)] 3 (0, 0)) ∧ W.heap[pb]? = some (.cells #[.slice ao n cap] 22 (0, 0)) ∧ w.heap.size ≤ pa ∧ Below w.heap.size w W

set_option maxRecDepth 100000 in
set_option maxHeartbeats 400000 in
theorem teller_any (ao : Option Addr) (n cap : Nat) (w : World) : Calls Tryz.prog 131 #[.slice ao n cap] w fun e w' => e = .returned (.func (.func 132) #[] #[.pointer (some ⟨w.heap.size + 1, 0, none⟩), .pointer (some ⟨w.heap.size, 0, none⟩)]) ∧ Tell w (w.heap.size + 1) w.heap.size ao n cap 0 w' := by
  go_enter Tryz.func131, Tryz.ntmps131
  go_wp2
  go_ret
  refine ⟨rfl, ?_, ?_, by omega, Below.alloc (Below.alloc (Below.refl _ _) (Nat.le_refl _) _) (by simp) _⟩
  · have := heap_alloc_new (w.alloc (Obj.cells #[Value.slice ao n cap] 22)) (Obj.cells #[Value.int IntKind.i64 0] 3)
    simpa using this
  · rw [Below.heap_alloc _ _ _ (by simp)]
    exact heap_alloc_new w _

set_option maxRecDepth 100000 in
set_option maxHeartbeats 400000 in
theorem tell_more (w : World) (pa pb : Nat) (ao : Option Addr) (n cap : Nat) (xs : List Nat) (h : Rd w ao n cap xs) (hn : n ≤ 9223372036854775807) (k : Nat) (W : World) (hT : Tell w pa pb ao n cap k W) (hk : k < n) :
    Calls Tryz.prog 132 #[.pointer (some ⟨pa, 0, none⟩), .pointer (some ⟨pb, 0, none⟩)] W fun e w' => e = .returned (.tuple #[.int .u8 ((xs.getD k 0 : Nat) : Int), .bool true]) ∧ Tell w pa pb ao n cap (k + 1) w' := by
  obtain ⟨b, off, rfl, hc⟩ := h.2.2.2 (by omega)
  have hck := hc k hk
  have hbl : b < w.heap.size := lt_cell (w := w) hck
  obtain ⟨ha, hb, hp, hB⟩ := hT
  have ca := cell_of_one ha
  have cb := cell_of_one hb
  have fa := free_of_one ha
  have hne : ¬ b = pa := by omega
  have hne2 : ¬ pb = pa := by rintro rfl; rw [ha] at hb; simp at hb
  have hcW := keep_old hB hck
  generalize ((xs.getD k 0 : Nat) : Int) = X at *
  have hk' : ((k : Int) == (n : Int)) = false := by simp; omega
  have ha' := hid ha
  have hb' := hid hb
  have hB' := hid hB
  clear hc h hck ha hb hB
  go_enter Tryz.func132, Tryz.ntmps132
  go_wp2
  go_ret2
  refine ⟨rfl, ?_, ?_, hp, Below.setCell hB'.out hp _⟩
  · rw [one_setCell ha'.out]; simp
  · rw [heap_setCell_other W ⟨pa, 0, none⟩ pb _ (by simpa using hne2)]
    exact hb'.out

set_option maxRecDepth 100000 in
set_option maxHeartbeats 400000 in
theorem tell_end (w : World) (pa pb : Nat) (ao : Option Addr) (n cap : Nat) (W : World) (hT : Tell w pa pb ao n cap n W) :
    Calls Tryz.prog 132 #[.pointer (some ⟨pa, 0, none⟩), .pointer (some ⟨pb, 0, none⟩)] W fun e w' => e = .returned (.tuple #[.int .u8 0, .bool false]) ∧ Tell w pa pb ao n cap n w' := by
  have hT' := hid hT
  obtain ⟨ha, hb, hp, hB⟩ := hT
  have ca := cell_of_one ha
  have cb := cell_of_one hb
  clear ha hb hp hB
  go_enter Tryz.func132, Tryz.ntmps132
  go_wp2
  go_ret2
  exact ⟨rfl, hT'.out⟩

set_option maxHeartbeats 1000000 in
set_option maxRecDepth 20000 in
theorem gather_tell (pa pb : Nat) (xs : List Nat) (hx : ∀ x ∈ xs, x < 256) (s : Nat) (l : Bool) (hs : s ≤ xs.length) (h8 : s ≤ 8) (St : Nat → World → Prop)
    (hmore : ∀ k W, St k W → k < xs.length → Calls Tryz.prog 132 #[.pointer (some ⟨pa, 0, none⟩), .pointer (some ⟨pb, 0, none⟩)] W fun e w' => e = .returned (.tuple #[.int .u8 ((xs.getD k 0 : Nat) : Int), .bool true]) ∧ St (k + 1) w')
    (w : World) (h0 : St 0 w) :
    Calls Tryz.prog 81 #[.func (.func 132) #[] #[.pointer (some ⟨pa, 0, none⟩), .pointer (some ⟨pb, 0, none⟩)], .int .i64 s, .bool l] w fun e w' =>
      e = .returned (.int .u64 (psum xs s l s : Nat)) ∧ St s w' := by
  have hmore' := hid hmore
  have hx' := hid hx
  have h0' := hid h0
  clear hmore hx h0
  go_enter Tryz.func81, Tryz.ntmps81
  go_wp2
  go_loopw [7, 12] (fun a c W => ∃ (i : Nat), i ≤ s ∧ a = .int .u64 (psum xs s l i : Nat) ∧ c = .int .i64 (i : Int) ∧ St i W) (fun _ c _ => s - (intOf c).toNat)
  case atStart => exact ⟨0, by omega, rfl, rfl, h0'.out⟩
  case round =>
    obtain ⟨i, hi, rfl, rfl, hS⟩ := hrel
    have hS' := hid hS
    clear hS
    by_cases his : i < s
    · have c := hid (hmore'.out i wr hS'.out (by omega))
      obtain ⟨sh, q, csh, _, hshl, _⟩ := shift_named (xs.getD i 0) i s l his h8
      have hor := bits_or_u64_nat (psum xs s l i) (xs.getD i 0 * 2 ^ (8 * place l s i)) (psum_lt xs s l hx'.out hs h8 i (by omega)) (getD_term_lt xs s l hx'.out hs h8 i his)
      rw [psum_or xs s l hx'.out hs i his] at hor
      have hw : IntKind.u64.wrap ((xs.getD i 0 * 2 ^ (8 * place l s i) : Nat) : Int) = ((xs.getD i 0 * 2 ^ (8 * place l s i) : Nat) : Int) := by
        rw [IntKind.wrap_u64]; have := getD_term_lt xs s l hx'.out hs h8 i his; omega
      rw [hw] at hshl
      have hX2 := getD_lt hx'.out i (by omega)
      have csh' := hid csh
      clear hw csh
      generalize xs.getD i 0 * 2 ^ (8 * place l s i) = t at *
      obtain ⟨P1, hP1⟩ : ∃ P, P = psum xs s l (i + 1) := ⟨_, rfl⟩
      rw [← hP1] at hor
      generalize psum xs s l i = P0 at *
      generalize xs.getD i 0 = X at *
      have hP1' := hid hP1
      clear hP1
      go_wp2_with (first | (go_at_call 132; refine c.out.mono ?_; rintro e w1 ⟨rfl, hS1⟩) | (go_at_call 96; refine (csh'.out _).mono ?_; rintro e w2 ⟨rfl, hw2⟩; obtain rfl := hw2.symm))
      exact ⟨⟨i + 1, by omega, by rw [hP1'.out], by go_num, hS1⟩, by simp [intOf]; omega⟩
    · obtain rfl : i = s := by omega
      go_wp2
      go_ret
      exact ⟨rfl, hS'.out⟩

set_option maxRecDepth 100000 in
set_option maxHeartbeats 1000000 in
theorem get_any (ao : Option Addr) (n cap : Nat) (xs : List Nat) (s : Int) (l : Bool) (w : World) (h : Rd w ao n cap xs) (hx : ∀ x ∈ xs, x < 256) (hn : n ≤ 9223372036854775807) :
    Calls Tryz.prog 130 #[.slice ao n cap, .int .i64 s, .bool l] w fun e w' => e = .returned (.tuple #[.int .u64 ((getV xs s l).1 : Nat), .bool (getV xs s l).2]) ∧ Below w.heap.size w w' := by
  have hl := h.1
  subst hl
  have c27 := hid (sized_any s)
  have ct := hid (teller_any ao xs.length cap w)
  by_cases hs : 1 ≤ s ∧ s ≤ 8 ∧ s ≤ (xs.length : Int)
  · obtain ⟨k, rfl⟩ : ∃ k : Nat, s = (k : Int) := ⟨s.toNat, by omega⟩
    have ca := hid fun w1 h0 => gather_tell (w.heap.size + 1) w.heap.size xs hx k l (by omega) (by omega) (fun k W => Tell w (w.heap.size + 1) w.heap.size ao xs.length cap k W)
      (fun k W hT hk => tell_more w _ _ ao xs.length cap xs h hn k W hT hk) w1 h0
    rw [show (decide ((1 : Int) ≤ (k : Int)) && decide ((k : Int) ≤ 8)) = true by simp; omega] at c27
    unfold getV
    rw [if_pos hs, Int.toNat_natCast]
    simp only
    generalize psum xs k l k = R at *
    generalize w.heap.size + 1 = p1 at *
    have hle : ¬ (xs.length : Int) < (k : Int) := by omega
    clear hx h hn hs
    go_enter Tryz.func130, Tryz.ntmps130
    go_wp2_with (first | (go_at_call 80; refine (c27.out _).mono ?_; rintro e w3 ⟨rfl, hw3⟩; obtain rfl := hw3.symm) | (go_at_call 131; refine ct.out.mono ?_; rintro e w1 ⟨rfl, hT⟩; replace hT := hid hT) | (go_at_call 81; refine (ca.out _ hT.out).mono ?_; rintro e w2 ⟨rfl, hT2⟩; replace hT2 := hid hT2))
    go_ret2
    exact ⟨rfl, hT2.out.2.2.2⟩
  · unfold getV
    rw [if_neg hs]
    simp only
    by_cases hz : 1 ≤ s ∧ s ≤ 8
    · rw [show (decide (1 ≤ s) && decide (s ≤ 8)) = true by simp; omega] at c27
      have hle : (xs.length : Int) < s := by omega
      clear hx h hn hs
      go_enter Tryz.func130, Tryz.ntmps130
      go_wp2_with (go_at_call 80; refine (c27.out _).mono ?_; rintro e w3 ⟨rfl, hw3⟩; obtain rfl := hw3.symm)
      go_ret2
      exact ⟨rfl, Below.refl _ _⟩
    · rw [show (decide (1 ≤ s) && decide (s ≤ 8)) = false by simp; omega] at c27
      clear hx h hn hs
      go_enter Tryz.func130, Tryz.ntmps130
      go_wp2_with (go_at_call 80; refine (c27.out _).mono ?_; rintro e w3 ⟨rfl, hw3⟩; obtain rfl := hw3.symm)
      go_ret2
      exact ⟨rfl, Below.refl _ _⟩

end Go.Proofs.YtpmfedimjjifaaaGreatDoor

/- What is counted of a shape, and asked of all in it; no statement of the seat is proved here. -/
namespace Go.Proofs.YtpmfedimjjifaaaGreatDoor
open Go.RowKit Go.Maps

def partsN (l : List (Nat × Sh)) : Nat := min 1001 (l.length - 1)
def depthN (l : List (Nat × Sh)) : Nat := l.foldl (fun a x => max a x.1) 0
set_option maxRecDepth 100000 in
theorem depthN_snoc (l : List (Nat × Sh)) (k : Nat) (x : Nat × Sh) (h : l[k]? = some x) : depthN (l.take (k + 1)) = max (depthN (l.take k)) x.1 := by
  unfold depthN; rw [List.take_add_one, h]; simp
set_option maxRecDepth 100000 in
theorem depthN_mono : ∀ (l : List (Nat × Sh)) (a : Nat), a ≤ l.foldl (fun a x => max a x.1) a
  | [], a => Nat.le_refl a
  | x :: r, a => Nat.le_trans (Nat.le_max_left a x.1) (depthN_mono r (max a x.1))
set_option maxRecDepth 100000 in
theorem depthN_take (l : List (Nat × Sh)) (k : Nat) : depthN (l.take k) ≤ depthN l := by
  unfold depthN
  conv => rhs; rw [← List.take_append_drop k l, List.foldl_append]
  exact depthN_mono _ _
set_option maxRecDepth 100000 in
theorem depthN_le : ∀ (l : List (Nat × Sh)) (a b : Nat), a ≤ b → (∀ x ∈ l, x.1 ≤ b) → l.foldl (fun a x => max a x.1) a ≤ b
  | [], _, _, h, _ => h
  | x :: r, a, b, h, hx => depthN_le r (max a x.1) b (Nat.max_le.2 ⟨h, hx x (by simp)⟩) (fun y hy => hx y (by simp [hy]))
set_option maxRecDepth 100000 in
theorem flat_pos (s : Sh) (d : Nat) : 0 < (s.flat d).length := by rw [flat_eq]; simp
set_option maxRecDepth 100000 in
theorem below2 {w : World} {a b : Obj} : Below w.heap.size w ((w.alloc a).alloc b) := gt (ext1 _) (ext1 _)

attribute [local go_sem] Oper.semAt_some
set_option maxRecDepth 100000 in
set_option maxHeartbeats 4000000 in
theorem parts_call (s : Sh) (w : World) (h : In (fun b => b < w.heap.size) w s) : Calls Tryz.prog 62 #[.agg #[.int .i64 (s).k, .slice (s).xo (s).xn (s).xc, .slice (s).po (s).pn (s).pc]] w fun e w' => e = .returned (.int .i64 (partsN (s.flat 1) : Nat)) ∧ Below w.heap.size w w' := by
  have H := hid h
  have WC := hid (fun d W => whole_call s d W)
  clear h
  obtain ⟨m, -⟩ : ∃ m : Nat, m = 3 := ⟨3, rfl⟩
  refine (callsIn_wide (n := m)).1 ?_
  refine callsIn_of_wp_marks Tryz.func62 rfl trivial ?_ rfl
  simp only [Tryz.ntmps62, List.size_toArray, List.length_cons, List.length_nil, Nat.reduceAdd, Nat.reduceSub, Array.replicate_succ, Array.replicate_zero, List.push_toArray, List.append_toArray, List.nil_append, List.cons_append]
  gi_wp2_with (refine ⟨trivial, fun h => (by cases h), ?_⟩; gi_at_call 93; refine (callsIn_wide.2 (WC.out _ _)).mono ?_; rintro e W6 ⟨rfl, h6⟩; subst h6)
  refine range_whole (N := w.heap.size) (w0 := w) (Nat.le_refl _) s 1 (by omega) H.out (w.heap.size + 1 + 1) rfl (by repeat (first | (refine at_new ?_; first | with_reducible rfl | (simp only [World.size_alloc]; done)) | refine at_old ?_)) (show Bx _ _ _ from (by repeat (first | (refine at_new ?_; first | with_reducible rfl | (simp only [World.size_alloc]; done)) | refine at_old ?_))) rfl
    (fun k G W => k ≤ 1001 ∧ Own w.heap.size w [(w.heap.size + 1, .cells #[.int .i64 ((k : Int) - 1)] 3)] G W)
    (fun c G W => (c = .exit 0 ∧ 1001 < (s.flat 1).length) ∧ Own w.heap.size w [(w.heap.size + 1, .cells #[.int .i64 1001] 3)] G W)
    (fun k => and_cns (own_cns _ _ (Nat.le_refl _) _)) (fun c => and_cns (own_cns _ _ (Nat.le_refl _) _)) ?h0 (fun x W => W) (fun x W => Fr.refl _ _)
    (fun x Wa => ⟨#[.agg #[.int .i64 (s).k, .slice (s).xo (s).xn (s).xc, .slice (s).po (s).pn (s).pc], .pointer (some ⟨w.heap.size, 0, none⟩), .int .i64 0, .pointer (some ⟨w.heap.size + 1, 0, none⟩), .agg #[.int .i64 (s).k, .slice (s).xo (s).xn (s).xc, .slice (s).po (s).pn (s).pc], .func (.func 121) #[] #[.pointer (some ⟨w.heap.size + 1 + 1 + 1, 0, none⟩), .pointer (some ⟨w.heap.size + 1 + 1, 0, none⟩)], .int .i64 (x.1 : Int), .agg #[.int .i64 (x.2).k, .slice (x.2).xo (x.2).xn (x.2).xc, .slice (x.2).po (x.2).pn (x.2).pc], undef, undef, undef, undef, undef], []⟩) ?hassign ?hbody ?hdone ?hstop
  case h0 =>
    refine ⟨by omega, (by repeat (first | with_reducible exact Below.refl _ _ | with_reducible refine Below.alloc ?_ (by simp <;> omega) _)), fun i hi => ⟨⟨by omega, by simp only [World.size_alloc]; omega⟩, fun x hx => by simp at hx; subst hx; show i ≠ _; omega⟩, fun x hx => ?_⟩
    simp at hx
    subst hx
    exact (by repeat (first | (refine at_new ?_; first | with_reducible rfl | (simp only [World.size_alloc]; done)) | refine at_old ?_))
  case hassign =>
    intro l' x W' K hK
    gi_wp2
    simpa using hK
  case hbody =>
    intro l' k x G Wa V hx hI hsz hnew
    obtain ⟨hle, hO⟩ := hI
    have hn : B1 V (w.heap.size + 1) 3 (.int .i64 ((k : Int) - 1)) := hO.b1 (by simp)
    have n0 := hn.cell; have n1 := hn.fz
    have hlt : k < (s.flat 1).length := (List.getElem?_eq_some_iff.1 hx).1
    have HN := hid hn; have HO := hid hO
    clear hn hO hsz hnew hx
    have fin := fun (c : Int) => HO.out.put1 (bs' := [(w.heap.size + 1, .cells #[.int .i64 c] 3)]) (w.heap.size + 1) (by omega) (Fr.set V (w.heap.size + 1) 0 (.int .i64 c)) (Nat.le_refl _) ⟨_, List.mem_cons_self, rfl⟩ (fun y hy => by
        simp at hy
        subst hy
        exact .inl ⟨rfl, HN.out.set _⟩)
    have FIN := hid fin
    clear fin
    by_cases hc : k ≤ 1000
    · have hc' : ¬ (1000 : Int) < ((k : Int) - 1) + 1 := by omega
      have e : (k : Int) - 1 + 1 = ((k + 1 : Nat) : Int) - 1 := by omega
      gi_wp2
      obtain ⟨p1, p2⟩ := FIN.out (k : Int)
      exact ⟨p2, p1⟩
    · obtain rfl : k = 1001 := by omega
      have hc' : (1000 : Int) < (((1001 : Nat) : Int) - 1) + 1 := by omega
      gi_wp2
      obtain ⟨p1, p2⟩ := FIN.out 1001
      exact ⟨p2, ⟨rfl, hlt⟩, p1⟩
  case hdone =>
    rintro W9 ⟨hle, hO⟩ hM
    have hn : B1 W9 (w.heap.size + 1) 3 (.int .i64 (((s.flat 1).length : Int) - 1)) := hO.b1 (by simp)
    have n0 := hn.cell
    have HO := hid hO; have HM := hid hM
    clear hn hO hM
    gi_wp2
    exact leave1 (own_cns _ _ (Nat.le_refl _) _) HO.out HM.out (fun W' h' => ⟨_, results_tmp rfl _ _ _, by have := flat_pos s 1; rw [show ((partsN (s.flat 1) : Nat) : Int) = ((s.flat 1).length : Int) - 1 by unfold partsN; omega]; rfl, h'.1⟩)
  case hstop =>
    rintro c W9 ⟨⟨rfl, hgt⟩, hO⟩ hM
    have hn : B1 W9 (w.heap.size + 1) 3 (.int .i64 1001) := hO.b1 (by simp)
    have n0 := hn.cell
    have HO := hid hO; have HM := hid hM
    clear hn hO hM
    gi_wp2
    exact leave1 (own_cns _ _ (Nat.le_refl _) _) HO.out HM.out (fun W' h' => ⟨_, results_tmp rfl _ _ _, by rw [show partsN (s.flat 1) = 1001 by unfold partsN; omega]; rfl, h'.1⟩)

set_option maxRecDepth 100000 in
set_option maxHeartbeats 4000000 in
theorem depth_call (s : Sh) (w : World) (h : In (fun b => b < w.heap.size) w s) : Calls Tryz.prog 61 #[.agg #[.int .i64 (s).k, .slice (s).xo (s).xn (s).xc, .slice (s).po (s).pn (s).pc]] w fun e w' => e = .returned (.int .i64 (depthN (s.flat 1) : Nat)) ∧ Below w.heap.size w w' := by
  have H := hid h
  have WC := hid (fun d W => whole_call s d W)
  clear h
  obtain ⟨m, -⟩ : ∃ m : Nat, m = 3 := ⟨3, rfl⟩
  refine (callsIn_wide (n := m)).1 ?_
  refine callsIn_of_wp_marks Tryz.func61 rfl trivial ?_ rfl
  simp only [Tryz.ntmps61, List.size_toArray, List.length_cons, List.length_nil, Nat.reduceAdd, Nat.reduceSub, Array.replicate_succ, Array.replicate_zero, List.push_toArray, List.append_toArray, List.nil_append, List.cons_append]
  gi_wp2_with (refine ⟨trivial, fun h => (by cases h), ?_⟩; gi_at_call 93; refine (callsIn_wide.2 (WC.out _ _)).mono ?_; rintro e W6 ⟨rfl, h6⟩; subst h6)
  have hall : ∀ x ∈ s.flat 1, x.1 ≤ 17 := fun x hx => (flat_mem _ s 1 (Nat.le_refl _) (by omega) x hx).2.2
  have HALL := hid hall
  clear hall
  refine range_whole (N := w.heap.size) (w0 := w) (Nat.le_refl _) s 1 (by omega) H.out (w.heap.size + 1 + 1) rfl (by repeat (first | (refine at_new ?_; first | with_reducible rfl | (simp only [World.size_alloc]; done)) | refine at_old ?_)) (show Bx _ _ _ from (by repeat (first | (refine at_new ?_; first | with_reducible rfl | (simp only [World.size_alloc]; done)) | refine at_old ?_))) rfl
    (fun k G W => depthN ((s.flat 1).take k) ≤ 16 ∧ Own w.heap.size w [(w.heap.size + 1, .cells #[.int .i64 (depthN ((s.flat 1).take k) : Nat)] 3)] G W)
    (fun c G W => (c = .exit 0 ∧ 17 ≤ depthN (s.flat 1)) ∧ Own w.heap.size w [(w.heap.size + 1, .cells #[.int .i64 17] 3)] G W)
    (fun k => and_cns (own_cns _ _ (Nat.le_refl _) _)) (fun c => and_cns (own_cns _ _ (Nat.le_refl _) _)) ?h0 (fun x W => W) (fun x W => Fr.refl _ _)
    (fun x Wa => ⟨#[.agg #[.int .i64 (s).k, .slice (s).xo (s).xn (s).xc, .slice (s).po (s).pn (s).pc], .pointer (some ⟨w.heap.size, 0, none⟩), .int .i64 0, .pointer (some ⟨w.heap.size + 1, 0, none⟩), .int .i64 (x.1 : Int), .agg #[.int .i64 (s).k, .slice (s).xo (s).xn (s).xc, .slice (s).po (s).pn (s).pc], .func (.func 121) #[] #[.pointer (some ⟨w.heap.size + 1 + 1 + 1, 0, none⟩), .pointer (some ⟨w.heap.size + 1 + 1, 0, none⟩)], .int .i64 (x.1 : Int), .agg #[.int .i64 (x.2).k, .slice (x.2).xo (x.2).xn (x.2).xc, .slice (x.2).po (x.2).pn (x.2).pc], undef, undef, undef, undef, undef, undef], []⟩) ?hassign ?hbody ?hdone ?hstop
  case h0 =>
    refine ⟨by simp [depthN], (by repeat (first | with_reducible exact Below.refl _ _ | with_reducible refine Below.alloc ?_ (by simp <;> omega) _)), fun i hi => ⟨⟨by omega, by simp only [World.size_alloc]; omega⟩, fun x hx => by simp at hx; subst hx; show i ≠ _; omega⟩, fun x hx => ?_⟩
    simp at hx
    subst hx
    exact (by repeat (first | (refine at_new ?_; first | with_reducible rfl | (simp only [World.size_alloc]; done)) | refine at_old ?_))
  case hassign =>
    intro l' x W' K hK
    gi_wp2
    exact hK
  case hbody =>
    intro l' k x G Wa V hx hI hsz hnew
    obtain ⟨hle, hO⟩ := hI
    have hn : B1 V (w.heap.size + 1) 3 (.int .i64 (depthN ((s.flat 1).take k) : Nat)) := hO.b1 (by simp)
    have hs := depthN_snoc _ _ _ hx
    have ht := depthN_take (s.flat 1) (k + 1)
    have hx17 := HALL.out x (List.mem_of_getElem? hx)
    obtain ⟨T, hT⟩ : ∃ T, T = depthN ((s.flat 1).take k) := ⟨_, rfl⟩
    rw [← hT] at hn hs hle hO
    have n0 := hn.cell; have n1 := hn.fz
    have HN := hid hn; have HO := hid hO; have HS := hid hs; have HT := hid ht
    clear hn hO hsz hnew hx hs ht hT
    have fin := fun (c : Int) => HO.out.put1 (bs' := [(w.heap.size + 1, .cells #[.int .i64 c] 3)]) (w.heap.size + 1) (by omega) (Fr.set V (w.heap.size + 1) 0 (.int .i64 c)) (Nat.le_refl _) ⟨_, List.mem_cons_self, rfl⟩ (fun y hy => by
        simp at hy
        subst hy
        exact .inl ⟨rfl, HN.out.set _⟩)
    have FIN := hid fin
    clear fin
    have mx : ∀ W, (Builtin.max_ #[3, 3] 3 #[.int .i64 (T : Int), .int .i64 (x.1 : Int)]).run Tryz.prog W = .ok (.int .i64 ((max T x.1 : Nat) : Int)) W := fun W => by
      simp [Builtin.max_, Builtin.max2]; split <;> omega
    obtain ⟨Mx, hMx⟩ : ∃ Mx, Mx = max T x.1 := ⟨_, rfl⟩
    have h17 : Mx ≤ 17 := by omega
    rw [← hMx] at HS mx
    clear hMx
    by_cases hc : Mx = 17
    · subst hc
      rw [show ((17 : Nat) : Int) = 17 from rfl] at mx
      gi_wp2
      obtain ⟨p1, p2⟩ := FIN.out 17
      exact ⟨p2, ⟨rfl, by have := HT.out; rw [HS.out] at this; exact this⟩, p1⟩
    · have n2 : ((Mx : Int) == 17) = false := by simp; omega
      gi_wp2
      obtain ⟨p1, p2⟩ := FIN.out (Mx : Int)
      exact ⟨p2, by rw [HS.out]; omega, by rw [HS.out]; exact p1⟩
  case hdone =>
    rintro W9 ⟨hle, hO⟩ hM
    have hn : B1 W9 (w.heap.size + 1) 3 (.int .i64 (depthN ((s.flat 1).take (s.flat 1).length) : Nat)) := hO.b1 (by simp)
    rw [List.take_length] at hn
    have n0 := hn.cell
    have HO := hid hO; have HM := hid hM
    clear hn hO hM
    gi_wp2
    exact leave1 (own_cns _ _ (Nat.le_refl _) _) HO.out HM.out (fun W' h' => ⟨_, results_tmp rfl _ _ _, rfl, h'.1⟩)
  case hstop =>
    rintro c W9 ⟨⟨rfl, hgt⟩, hO⟩ hM
    have hn : B1 W9 (w.heap.size + 1) 3 (.int .i64 17) := hO.b1 (by simp)
    have n0 := hn.cell
    have HO := hid hO; have HM := hid hM
    clear hn hO hM
    gi_wp2
    exact leave1 (own_cns _ _ (Nat.le_refl _) _) HO.out HM.out (fun W' h' => ⟨_, results_tmp rfl _ _ _, by rw [show depthN (s.flat 1) = 17 by have := depthN_le (s.flat 1) 0 17 (by omega) HALL.out; unfold depthN at *; omega]; rfl, h'.1⟩)
end Go.Proofs.YtpmfedimjjifaaaGreatDoor
