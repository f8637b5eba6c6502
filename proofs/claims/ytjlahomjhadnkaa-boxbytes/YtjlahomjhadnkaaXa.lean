/- How slices of bytes lie in memory, and what widened does: a copy with room; no statement of the seat is proved here. What shift, sized and both functions Size return; no statement of the seat is proved here. What the document's own function Size returns; no statement of the seat is proved here. What octet.Put returns; no statement of the seat is proved here. What octet.Var returns, and how a slice of the call's own grows by bytes; no statement of the seat is proved here. What teller and the function that it returns do; no statement of the seat is proved here. What assemble and gather do with a function that tells bytes; no statement of the seat is proved here. What octet.Take returns; no statement of the seat is proved here. What gather does with a function that tells bytes; no statement of the seat is proved here. -/
import Derived.Test.YtjlahomjhadnkaaProg
import Derived.WalkKit
import Derived.WalkSpells
import Derived.WalkLawsBesides
import Derived.Laws.CopyOwn
import Derived.Laws.BytesArg
import Derived.Laws.AppendOwnNone
import Derived.Deep.OwnRows
import Derived.BigRegion
import Derived.Deep.RegionWith
import Derived.Deep.RegionHeld3
import Derived.Lib.OthersKept
import Derived.Test.YtjlahomjhadnkaaXOLen
import Derived.LoopN
import Derived.OneCell
namespace Go.Proofs.Ytjlahomjhadnkaa
namespace Oct
open Go.RowKit

set_option maxRecDepth 100000 in
theorem gt {w a b : World} (h : Below w.heap.size w a) (k : Below a.heap.size a b) : Below w.heap.size w b := h.trans (k.mono h.size)

set_option maxRecDepth 100000 in
theorem hid {p : Prop} (h : p) : Hid p := h

set_option maxRecDepth 100000 in
theorem undrew {w w' : World} (h : Below w.drew.heap.size w.drew w') : Below w.heap.size w w' := ⟨h.os, h.tape, h.output, h.size, h.block⟩

set_option maxRecDepth 100000 in
theorem lt_cell {w : World} {a : Addr} {v : Value} (h : w.cell? a = some v) : a.block < w.heap.size := by
  rcases Nat.lt_or_ge a.block w.heap.size with h1 | h1
  · exact h1
  · exfalso
    have h2 : w.heap[a.block]? = none := Array.getElem?_eq_none h1
    simp [World.cell?, h2] at h

set_option maxRecDepth 100000 in
theorem keep_cell {B : Nat} {w w' : World} (h : Below B w w') {a : Addr} {v : Value} (hc : w.cell? a = some v) (hB : a.block < B) : w'.cell? a = some v := by
  rw [World.cell?_of_block (h.block a.block hB)]; exact hc

set_option maxRecDepth 100000 in
theorem keep_old {w w' : World} (h : Below w.heap.size w w') {a : Addr} {v : Value} (hc : w.cell? a = some v) : w'.cell? a = some v := keep_cell h hc (lt_cell hc)

set_option maxRecDepth 100000 in
theorem keep_frozen {B : Nat} {w w' : World} (h : Below B w w') {a : Addr} (hB : a.block < B) : w'.frozen? a = w.frozen? a := World.frozen?_of_block (h.block a.block hB)

def bs (xs : List Nat) : List Value := xs.map fun x : Nat => Value.int .u8 (x : Int)
def str (xs : List Nat) : ByteArray := ⟨(xs.map UInt8.ofNat).toArray⟩

set_option maxRecDepth 100000 in
theorem bs_length (xs : List Nat) : (bs xs).length = xs.length := by simp [bs]
set_option maxRecDepth 100000 in
theorem bs_append (xs ys : List Nat) : bs (xs ++ ys) = bs xs ++ bs ys := by simp [bs]
set_option maxRecDepth 100000 in
theorem bs_one (xs : List Nat) : ∀ u ∈ bs xs, u.oneCell' = true := by
  intro u hu
  obtain ⟨x, _, rfl⟩ := List.mem_map.1 hu
  rfl
set_option maxRecDepth 100000 in
theorem bs_get (xs : List Nat) (t : Nat) (h : t < xs.length) : (bs xs)[t]? = some (.int .u8 ((xs.getD t 0 : Nat) : Int)) := by
  simp [bs, List.getElem?_map, List.getElem?_eq_getElem h, List.getD]
set_option maxRecDepth 100000 in
theorem bs_get' (xs : List Nat) (t : Nat) (u : Value) (h : (bs xs)[t]? = some u) : t < xs.length ∧ u = .int .u8 ((xs.getD t 0 : Nat) : Int) := by
  have hl : t < xs.length := by
    have := (List.getElem?_eq_some_iff.1 h).1
    simpa [bs] using this
  rw [bs_get xs t hl] at h
  exact ⟨hl, (Option.some.inj h).symm⟩
set_option maxRecDepth 100000 in
theorem str_size (xs : List Nat) : (str xs).size = xs.length := by simp [str, ByteArray.size]

/-- A slice of bytes that can be read. -/
def Rd (w : World) (ao : Option Addr) (n cap : Nat) (xs : List Nat) : Prop :=
  xs.length = n ∧ n ≤ cap ∧ (ao = none → n = 0 ∧ cap = 0) ∧
    (0 < n → ∃ b off, ao = some ⟨b, off, none⟩ ∧ ∀ t, t < n → w.cell? ⟨b, off + t, none⟩ = some (.int .u8 ((xs.getD t 0 : Nat) : Int)))

set_option maxRecDepth 100000 in
theorem Rd.keep {w w' : World} {ao : Option Addr} {n cap : Nat} {xs : List Nat} (h : Rd w ao n cap xs) (hb : Below w.heap.size w w') : Rd w' ao n cap xs := by
  refine ⟨h.1, h.2.1, h.2.2.1, fun hn => ?_⟩
  obtain ⟨b, off, e, hc⟩ := h.2.2.2 hn
  exact ⟨b, off, e, fun t ht => keep_old hb (hc t ht)⟩

set_option maxRecDepth 100000 in
theorem Rd.nil (w : World) : Rd w none 0 0 [] := ⟨rfl, Nat.le_refl _, fun _ => ⟨rfl, rfl⟩, fun h => by omega⟩

set_option maxRecDepth 100000 in
theorem rd_own {w : World} {B g n cap : Nat} {xs : List Nat} (h : w.ownsRow B 5 1 (.slice (some ⟨g, 0, none⟩) n cap) n (bs xs)) : Rd w (some ⟨g, 0, none⟩) n cap xs := by
  have hl : xs.length = n := by simpa [bs] using h.1
  refine ⟨hl, ?_, fun h => (by cases h), fun _ => ⟨g, 0, rfl, fun t ht => ?_⟩⟩
  · rcases h.2 with ⟨h', _⟩ | ⟨g', cap', cur, h', _, _, hnc, _⟩
    · simp at h'
    · simp only [Value.slice.injEq, Option.some.injEq, Addr.mk.injEq, and_true, true_and] at h'
      rw [h'.2]; exact hnc
  · rw [Nat.zero_add, h.cellAt t (by omega), bs_get xs t (by omega)]

set_option maxRecDepth 100000 in
theorem conv_rd {P : Program} {w : World} {ao : Option Addr} {n cap : Nat} {xs : List Nat} (h : Rd w ao n cap xs) (src dst e : TypeId) (hs : P.underlying src = some (.slice e)) (he : P.underlying e = some (.int .u8)) (hd : P.underlying dst = some .string) :
    (convert src dst (.slice ao n cap)).run P w = .ok (.string (str xs)) w := by
  obtain ⟨hl, hc, hno, hat⟩ := h
  rcases Nat.eq_zero_or_pos n with h0 | hp
  · subst h0
    obtain rfl : xs = [] := List.eq_nil_of_length_eq_zero hl
    cases ao with
    | none => rw [run_convert_bytes_nil w src e hs he 0 cap dst hd]; rfl
    | some a => 
      rw [run_convert_bytes_string w src dst e (some a) 0 cap hs he hd, run_bytesToString w a 0 cap [] (run_loadCells_list (P := P) w a [] (fun j v hj => by simp at hj))]
      rfl
  · obtain ⟨b, off, rfl, hcell⟩ := hat hp
    rw [run_convert_bytes_arg w src e hs he b off n cap (xs.map fun x : Nat => (x : Int)) (by simpa using hl) (fun i hi => by
      rw [hcell i hi]
      simp [List.getD, List.getElem?_map, List.getElem?_eq_getElem (show i < xs.length by omega)]) dst hd]
    simp [strOfNums, str, Function.comp_def]

set_option maxRecDepth 100000 in
theorem Try.info5 : (Try.prog.info? 5).map (fun i => (i.zero, i.size, i.bytes)) = some (some (.int .u8 0), 1, 1) := by kernel_rfl

set_option maxRecDepth 100000 in
theorem make_any (n cap : Nat) (h : n ≤ cap) (hc : cap ≤ 281474976710656) (w : World) :
    (Instr.makeSlice 51 (.int .i64 (n : Int)) (.int .i64 (cap : Int))).run Try.prog w = .ok (.slice (some ⟨w.heap.size, 0, none⟩) n cap) (w.alloc (.cells (Array.replicate cap (.int .u8 0)) 5)) := by
  obtain ⟨i, hi, hz0, hz1, hz2⟩ := info_parts Try.info5
  have hr := run_make (P := Try.prog) w 51 5 i (.int .u8 0) Try.underlying51 hi hz0 .i64 .i64 n cap (by omega) (by omega) (by rw [hz2]; omega) (by omega)
  simp only [Int.toNat_natCast, hz1, Nat.mul_one] at hr
  rw [hr, show Array.replicate cap (Value.int .u8 0) = (List.replicate cap (Value.int .u8 0)).toArray by simp, ← toList_madeCells_one, Array.toArray_toList]
  rfl

set_option maxRecDepth 100000 in
theorem own_of_row {w : World} {B g n cap : Nat} {cur : List Value} {xs : List Nat} (hB : B ≤ g) (hg : w.heap[g]? = some (.cells cur.toArray 5 (0, 0))) (hcap : cur.length = cap) (hm : cap ≤ 9223372036854775807)
    (hx : cur.take n = bs xs) (hn : xs.length = n) (hnc : n ≤ cap) : w.ownsRow B 5 1 (.slice (some ⟨g, 0, none⟩) n cap) n (bs xs) :=
  ⟨by simp [bs, hn], .inr ⟨g, cap, cur.toArray, rfl, hB, hg, hnc, hm, by simp [hcap], by simpa using hx⟩⟩

set_option maxRecDepth 100000 in
theorem splice_zero (n m : Nat) (xs : List Nat) (h : xs.length = n) : (splice (List.replicate (n + m) (Value.int .u8 0)) 0 (bs xs)).take n = bs xs := by
  have hl : (bs xs).length = n := by simp [bs, h]
  simp [splice, List.take_append_of_le_length (Nat.le_of_eq hl.symm), List.take_of_length_le (Nat.le_of_eq hl)]

set_option maxRecDepth 100000 in
/-- A guard for a walk: the next operation writes slot k. -/
theorem here_op (k : Nat) {P : Program} {ops : Array Oper} {Q : Exit → Act → World → Prop} {a : Act} {w : World} {rest : List Oper} {op : Op} {t : TypeId} {pos : String} {after : Array Edge} {gd : Option (Nat × Bool)}
    (h : wpList P ops Q (⟨some k, op, t, pos, after, gd⟩ :: rest) a w) : wpList P ops Q (⟨some k, op, t, pos, after, gd⟩ :: rest) a w := h

set_option maxRecDepth 100000 in
theorem copy_hg (w : World) (k : Nat) : (w.alloc (.cells (Array.replicate k (.int .u8 0)) 5)).heap[w.heap.size]? = some (.cells (List.replicate k (Value.int .u8 0)).toArray 5 (0, 0)) := by
  rw [heap_alloc_new]; simp

set_option maxRecDepth 100000 in
theorem copy_hn {w : World} {ao : Option Addr} {n cap : Nat} {xs : List Nat} (h : Rd w ao n cap xs) : (bs xs).length = Nat.min n n := by
  rw [bs_length, h.1]; exact (Nat.min_self n).symm

set_option maxRecDepth 100000 in
theorem copy_hpos {w : World} {ao : Option Addr} {n cap : Nat} {xs : List Nat} (h : Rd w ao n cap xs) {o : Obj} : 0 < (bs xs).length → some (⟨w.heap.size, 0, none⟩ : Addr) = some ⟨w.heap.size, 0, none⟩ ∧ ∃ ad, ao = some ad ∧ ∀ j v, (bs xs)[j]? = some v → (w.alloc o).cell? (ad.add j) = some v := by
  intro hp
  rw [bs_length, h.1] at hp
  obtain ⟨b, off, rfl, hc⟩ := h.2.2.2 hp
  refine ⟨rfl, _, rfl, fun j v hv => ?_⟩
  obtain ⟨hj, rfl⟩ := bs_get' xs j v hv
  rw [Addr.add_lit]
  exact keep_old (Below.alloc (Below.refl _ _) (Nat.le_refl _) o) (hc j (by have := h.1; omega))

set_option maxRecDepth 100000 in
set_option maxHeartbeats 400000 in
theorem widened_any (ao : Option Addr) (n cap m : Nat) (xs : List Nat) (w : World) (h : Rd w ao n cap xs) (hm : n + m ≤ 281474976710656) :
    Calls Try.prog 74 #[.slice ao n cap, .int .i64 (m : Int)] w fun e w' => e = .returned (.slice (some ⟨w.heap.size, 0, none⟩) n (n + m)) ∧
      w'.ownsRow w.heap.size 5 1 (.slice (some ⟨w.heap.size, 0, none⟩) n (n + m)) n (bs xs) ∧ Below w.heap.size w w' := by
  have hmk := make_any n (n + m) (by omega) hm
  have e1 : ((n + m : Nat) : Int) = (n : Int) + (m : Int) := by omega
  rw [e1] at hmk
  have hr := hid h
  clear e1 h
  go_enter Try.func74, Try.ntmps74
  go_wp2_with ((with_reducible refine here_op 15 ?_); refine wpList_copy_splice rfl (.tmp 13) (.tmp 14) 51 51 rfl 5 Try.underlying51 (by kernel_rfl) _ _ _ _ _ _ rfl rfl w.heap.size 0 (List.replicate (n + m) (.int .u8 0)) 5 (copy_hg w (n + m)) (bs xs) (copy_hn hr.out) (copy_hpos hr.out) (by simp [bs, hr.out.1]) (bs_one xs) w.heap.size w (Below.alloc (Below.refl _ _) (Nat.le_refl _) _) (Nat.le_refl _) ?_; intro w2 hg2 hb2)
  go_ret
  exact ⟨rfl, own_of_row (Nat.le_refl _) hg2.out (by rw [length_splice _ _ _ (by simp [bs, hr.out.1])]; simp) (by omega) (splice_zero n m xs hr.out.1) hr.out.1 (by omega), hb2⟩

end Oct
end Go.Proofs.Ytjlahomjhadnkaa
namespace Go.Proofs.Ytjlahomjhadnkaa
namespace Oct
open Go.RowKit

/-- How many bytes a number has as a Var. -/
def szN (n : Nat) : Nat :=
  if n < 128 then 1 else if n < 16384 then 2 else if n < 2097152 then 3 else if n < 268435456 then 4 else if n < 34359738368 then 5 else if n < 4398046511104 then 6
  else if n < 562949953421312 then 7 else if n < 72057594037927936 then 8 else 9

set_option maxRecDepth 100000 in
theorem szN_cases (n : Nat) : (n < 128 ∧ szN n = 1) ∨ (128 ≤ n ∧ n < 16384 ∧ szN n = 2) ∨ (16384 ≤ n ∧ n < 2097152 ∧ szN n = 3) ∨ (2097152 ≤ n ∧ n < 268435456 ∧ szN n = 4) ∨ (268435456 ≤ n ∧ n < 34359738368 ∧ szN n = 5) ∨
    (34359738368 ≤ n ∧ n < 4398046511104 ∧ szN n = 6) ∨ (4398046511104 ≤ n ∧ n < 562949953421312 ∧ szN n = 7) ∨ (562949953421312 ≤ n ∧ n < 72057594037927936 ∧ szN n = 8) ∨ (72057594037927936 ≤ n ∧ szN n = 9) := by
  unfold szN
  (repeat' split) <;> omega
set_option maxRecDepth 100000 in
theorem szN_le (n : Nat) : 1 ≤ szN n ∧ szN n ≤ 9 := by have := szN_cases n; omega
set_option maxRecDepth 100000 in
theorem szN_9 (n : Nat) : szN n = 9 ↔ 72057594037927936 ≤ n := by have := szN_cases n; omega
set_option maxRecDepth 100000 in
theorem szN_lt (n k : Nat) (h : k < szN n) (hk : 1 ≤ k) (hk' : k ≤ 8) : 2 ^ (7 * k) ≤ n := by
  have e : k = 1 ∨ k = 2 ∨ k = 3 ∨ k = 4 ∨ k = 5 ∨ k = 6 ∨ k = 7 ∨ k = 8 := by omega
  have := szN_cases n
  rcases e with rfl | rfl | rfl | rfl | rfl | rfl | rfl | rfl <;> simp at h ⊢ <;> omega
set_option maxRecDepth 100000 in
theorem szN_ge (n k : Nat) (h : szN n ≤ k) (hk : k ≤ 8) : n < 2 ^ (7 * k) := by
  have e : k = 0 ∨ k = 1 ∨ k = 2 ∨ k = 3 ∨ k = 4 ∨ k = 5 ∨ k = 6 ∨ k = 7 ∨ k = 8 := by omega
  have := szN_cases n
  rcases e with rfl | rfl | rfl | rfl | rfl | rfl | rfl | rfl | rfl <;> simp only [Nat.reduceMul, Nat.reducePow] <;> omega
set_option maxRecDepth 100000 in
theorem szN_of (n k : Nat) (h1 : k = 1 ∨ 2 ^ (7 * (k - 1)) ≤ n) (h2 : n < 2 ^ (7 * k)) (hk : 1 ≤ k) (hk' : k ≤ 8) : szN n = k := by
  have e : k = 1 ∨ k = 2 ∨ k = 3 ∨ k = 4 ∨ k = 5 ∨ k = 6 ∨ k = 7 ∨ k = 8 := by omega
  have := szN_cases n
  rcases e with rfl | rfl | rfl | rfl | rfl | rfl | rfl | rfl <;> simp at h1 h2 <;> omega

set_option maxRecDepth 100000 in
set_option maxHeartbeats 400000 in
theorem sized_any (s : Int) (w : World) : Calls Try.prog 86 #[.int .i64 s] w fun e w' => e = .returned (.bool (decide (1 ≤ s) && decide (s ≤ 8))) ∧ w' = w := by
  by_cases h : 1 ≤ s <;> by_cases h' : s ≤ 8
  all_goals
    go_enter Try.func86, Try.ntmps86
    go_wp2
    go_ret
    simp [h, h']

set_option maxRecDepth 100000 in
set_option maxHeartbeats 400000 in
theorem shift_little (i s : Nat) (w : World) (h : i < 8) :
    Calls Try.prog 78 #[.int .i64 i, .int .i64 s, .bool true] w fun e w' => e = .returned (.int .i64 (8 * (i : Int))) ∧ w' = w := by
  go_enter Try.func78, Try.ntmps78
  go_wp2
  go_ret
  exact ⟨rfl, rfl⟩

set_option maxRecDepth 100000 in
set_option maxHeartbeats 400000 in
theorem shift_big (i s : Nat) (w : World) (h : i < s) (h' : s ≤ 8) :
    Calls Try.prog 78 #[.int .i64 i, .int .i64 s, .bool false] w fun e w' => e = .returned (.int .i64 (8 * ((s - 1 - i : Nat) : Int))) ∧ w' = w := by
  obtain ⟨j, hj⟩ : ∃ j : Nat, s = i + 1 + j := ⟨s - 1 - i, by omega⟩
  subst hj
  rw [show i + 1 + j - 1 - i = j by omega]
  go_enter Try.func78, Try.ntmps78
  go_wp2
  go_ret
  refine ⟨?_, rfl⟩
  simp
  omega

set_option maxRecDepth 100000 in
theorem len_nat (n : Nat) (hn : n < 18446744073709551616) (w : World) : Calls Try.prog 95 #[.int .u64 (n : Int)] w fun e w' => e = .returned (.int .i64 (Lib.bitLen n : Nat)) ∧ w' = w := by
  have := len64_any (n : Int) w (by omega) (by omega)
  simpa using this

set_option maxRecDepth 100000 in
theorem bitLen_pos (x : Nat) (h0 : x ≠ 0) (h : x < 18446744073709551616) : 1 ≤ Lib.bitLen x := by
  rw [Lib.bitLen_half x h0 h]; omega

set_option maxRecDepth 100000 in
theorem bitLen_ge (n k : Nat) (h : 2 ^ k ≤ n) (hn : n < 18446744073709551616) : k + 1 ≤ Lib.bitLen n := by
  have hp : 0 < 2 ^ k := Nat.pow_pos (by omega)
  rw [Lib.bitLen_shift k n h hn]
  have h1 : n / 2 ^ k ≠ 0 := by
    intro h0
    rw [Nat.div_eq_zero_iff] at h0
    omega
  have := bitLen_pos (n / 2 ^ k) h1 (Nat.lt_of_le_of_lt (Nat.div_le_self _ _) hn)
  omega

set_option maxRecDepth 100000 in
theorem sz_len (n : Nat) (h : n < 72057594037927936) : szN n = max ((Lib.bitLen n + 6) / 7) 1 := by
  have up := fun k hk hl => Lib.bitLen_le n k hk hl
  have dn := fun k hk => bitLen_ge n k hk (by omega)
  rcases szN_cases n with ⟨h1, e⟩ | ⟨h0, h1, e⟩ | ⟨h0, h1, e⟩ | ⟨h0, h1, e⟩ | ⟨h0, h1, e⟩ | ⟨h0, h1, e⟩ | ⟨h0, h1, e⟩ | ⟨h0, h1, e⟩ | ⟨h0, e⟩
  · have := up 7 (by omega) h1
    omega
  · have := up 14 (by omega) h1
    have := dn 7 h0
    omega
  · have := up 21 (by omega) h1
    have := dn 14 h0
    omega
  · have := up 28 (by omega) h1
    have := dn 21 h0
    omega
  · have := up 35 (by omega) h1
    have := dn 28 h0
    omega
  · have := up 42 (by omega) h1
    have := dn 35 h0
    omega
  · have := up 49 (by omega) h1
    have := dn 42 h0
    omega
  · have := up 56 (by omega) h1
    have := dn 49 h0
    omega
  · omega

end Oct
end Go.Proofs.Ytjlahomjhadnkaa
namespace Go.Proofs.Ytjlahomjhadnkaa
namespace Oct
open Go.RowKit

end Oct
end Go.Proofs.Ytjlahomjhadnkaa
namespace Go.Proofs.Ytjlahomjhadnkaa
namespace Oct
open Go.RowKit

/-- k numbers of F, from place i on. -/
def up (F : Nat → Nat) (i : Nat) : Nat → List Nat
  | 0 => []
  | k + 1 => F i :: up F (i + 1) k

def place (l : Bool) (s i : Nat) : Nat := if l then i else s - 1 - i

/-- The bytes that Put puts. -/
def putN (v s : Nat) (l : Bool) : List Nat := up (fun i => v / 2 ^ (8 * place l s i) % 256) 0 s

set_option maxRecDepth 100000 in
theorem up_length (F : Nat → Nat) (i k : Nat) : (up F i k).length = k := by
  induction k generalizing i with
  | zero => rfl
  | succ k ih => simp [up, ih]

set_option maxRecDepth 100000 in
theorem up_step (F : Nat → Nat) (i k : Nat) (h : i < k) (ys T : List Nat) (e : ys ++ up F i (k - i) = T) : (ys ++ [F i]) ++ up F (i + 1) (k - (i + 1)) = T := by
  rw [← e, show k - i = (k - (i + 1)) + 1 by omega]
  simp [up]

set_option maxRecDepth 100000 in
theorem shift_any (i s : Nat) (l : Bool) (w : World) (h : i < s) (h' : s ≤ 8) :
    Calls Try.prog 78 #[.int .i64 i, .int .i64 s, .bool l] w fun e w' => e = .returned (.int .i64 ((8 * place l s i : Nat) : Int)) ∧ w' = w := by
  cases l with
  | true => simpa [place] using shift_little i s w (by omega)
  | false => simpa [place] using shift_big i s w h h'

set_option maxRecDepth 100000 in
theorem shr_nat (v c : Nat) (yk : IntKind) (h : c ≤ 64) : Op.shift .shr .u64 (v : Int) yk (c : Int) = pure (.int .u64 ((v / 2 ^ c : Nat) : Int)) := by
  rw [shift_shr_any _ _ _ _ (by omega)]
  simp [IntKind.bits, Nat.min_eq_left h]

set_option maxRecDepth 100000 in
theorem shl_nat (v c : Nat) (yk : IntKind) (h : c ≤ 64) : Op.shift .shl .u64 (v : Int) yk (c : Int) = pure (.int .u64 (IntKind.u64.wrap ((v * 2 ^ c : Nat) : Int))) := by
  rw [shift_shl_any _ _ _ _ (by omega)]
  simp [IntKind.bits, Nat.min_eq_left h]

set_option maxRecDepth 100000 in
/-- The same, its answer a name: what a number is, shifted by it. -/
theorem shift_named (v i s : Nat) (l : Bool) (h : i < s) (h' : s ≤ 8) : ∃ (sh : Int) (q : Nat), (∀ w, Calls Try.prog 78 #[.int .i64 i, .int .i64 s, .bool l] w fun e w' => e = .returned (.int .i64 sh) ∧ w' = w) ∧
    Op.shift .shr .u64 (v : Int) .i64 sh = pure (.int .u64 (q : Int)) ∧ Op.shift .shl .u64 (v : Int) .i64 sh = pure (.int .u64 (IntKind.u64.wrap ((v * 2 ^ (8 * place l s i) : Nat) : Int))) ∧ q = v / 2 ^ (8 * place l s i) := by
  refine ⟨((8 * place l s i : Nat) : Int), v / 2 ^ (8 * place l s i), fun w => shift_any i s l w h h', ?_, ?_, rfl⟩
  · exact shr_nat v _ _ (by unfold place; split <;> omega)
  · exact shl_nat v _ _ (by unfold place; split <;> omega)

set_option maxRecDepth 100000 in
theorem one_cell (w : World) (x : Nat) : ∀ j u, (bs [x])[j]? = some u → (w.alloc (.cells #[.int .u8 (x : Int)] 5)).cell? ((⟨w.heap.size, 0, none⟩ : Addr).add j) = some u := by
  intro j u hu
  obtain ⟨hj, rfl⟩ := bs_get' [x] j u hu
  have : j = 0 := by simpa using hj
  subst this
  rw [Addr.add_lit]
  simp

set_option maxRecDepth 100000 in
theorem clip_ex (s : Int) : ∃ k : Nat, k ≤ 8 ∧ min (max s 0) 8 = (k : Int) := ⟨(min (max s 0) 8).toNat, by omega, by omega⟩

set_option maxRecDepth 100000 in
set_option maxHeartbeats 400000 in
theorem put_any (ao : Option Addr) (n cap : Nat) (xs : List Nat) (v : Nat) (s : Int) (k : Nat) (l : Bool) (w : World) (h : Rd w ao n cap xs) (hn : n ≤ 140737488355328) (hk : k ≤ 8) (hs : min (max s 0) 8 = (k : Int)) :
    Calls Try.prog 63 #[.slice ao n cap, .int .u64 v, .int .i64 s, .bool l] w fun e w' => e = .returned (.slice (some ⟨w.heap.size, 0, none⟩) (n + k) (n + k)) ∧
      w'.ownsRow w.heap.size 5 1 (.slice (some ⟨w.heap.size, 0, none⟩) (n + k) (n + k)) (n + k) (bs (xs ++ putN v k l)) ∧ Below w.heap.size w w' := by
  have cw := hid (widened_any ao n cap k xs w h (by omega))
  have hs' := hid hs
  go_enter Try.func63, Try.ntmps63
  go_wp2_with (go_at_call 74; refine cw.out.mono ?_; rintro e w1 ⟨rfl, ho1, hb1⟩)
  go_loopw [9, 18] (fun o c W => ∃ (i : Nat) (ys : List Nat), i ≤ k ∧ c = .int .i64 i ∧ o = .slice (some ⟨w.heap.size, 0, none⟩) (n + i) (n + k) ∧ ys ++ up (fun j => v / 2 ^ (8 * place l k j) % 256) i (k - i) = xs ++ putN v k l ∧
      W.ownsRow w.heap.size 5 1 (.slice (some ⟨w.heap.size, 0, none⟩) (n + i) (n + k)) (n + i) (bs ys) ∧ Below w.heap.size w W) (fun _ c _ => k - (intOf c).toNat)
  case atStart => exact ⟨0, xs, by omega, rfl, rfl, rfl, ho1, hb1⟩
  case round =>
    obtain ⟨i, ys, hi, rfl, rfl, he, ho, hb⟩ := hrel
    have he' := hid he
    clear he hs h cw ho1 hb1
    by_cases hik : i < k
    · obtain ⟨sh, q, c, hsh, _, hq⟩ := shift_named v i k l hik hk
      have c' := hid c
      obtain ⟨i5, hi5, hz0, hz1, hz2⟩ := info_parts Try.info5
      have hq' := hid hq
      clear c hq
      go_wp2_with (first | (go_at_call 78; refine (c'.out _).mono ?_; rintro e w2 ⟨rfl, rfl⟩) | (at_builtin; refine wpList_append_fits _ rfl (.tmp 21) (.tmp 29) 51 rfl w.heap.size 5 i5 1 Try.underlying51 hi5 hz1 w.heap.size (n + i) (n + k) (bs ys) rfl (ho.alloc _) ⟨w2.heap.size, 0, none⟩ 1 1 (bs [q % 256]) rfl rfl (one_cell w2 (q % 256)) (bs_one _) (by omega) ?_; intro w3 ho3 hg3))
      refine ⟨⟨i + 1, ys ++ [q % 256], by omega, by go_num, by rw [Nat.add_assoc], ?_, ?_, ?_⟩, by simp [intOf]; omega⟩
      · rw [hq'.out]
        exact up_step (fun j => v / 2 ^ (8 * place l k j) % 256) i k hik ys _ he'.out
      · rw [bs_append, ← Nat.add_assoc]; exact ho3
      · exact (Below.alloc hb hb.size _).grown hg3 (by have := hb.size; simp; omega) (fun j hj => by cases hj; exact Nat.le_refl _)
    · obtain rfl : i = k := by omega
      go_wp2
      go_ret
      rw [Nat.sub_self] at he'
      simp only [up, List.append_nil] at he'
      rw [← he'.out]
      exact ⟨rfl, ho, hb⟩

end Oct
end Go.Proofs.Ytjlahomjhadnkaa
namespace Go.Proofs.Ytjlahomjhadnkaa
namespace Oct
open Go.RowKit

/-- The first k bytes of a Var: seven bits each, the greatest first, 128 more. -/
def hd (a : Nat) : Nat → List Nat
  | 0 => []
  | k + 1 => (a / 2 ^ (7 * k) % 128 + 128) :: hd a k

def lastBits (n : Nat) : Nat := if szN n = 9 then 8 else 7

/-- The bytes of a Var. -/
def varN (n : Nat) : List Nat := hd (n / 2 ^ lastBits n) (szN n - 1) ++ [n % 2 ^ lastBits n]

set_option maxRecDepth 100000 in
theorem hd_length (a k : Nat) : (hd a k).length = k := by
  induction k with
  | zero => rfl
  | succ k ih => simp [hd, ih]

set_option maxRecDepth 100000 in
theorem varN_length (n : Nat) : (varN n).length = szN n := by
  have := szN_le n
  simp [varN, hd_length]; omega

set_option maxRecDepth 100000 in
theorem hd_step (a j : Nat) (ys T : List Nat) (e : ys ++ hd a (j + 1) = T) : (ys ++ [a / 2 ^ (7 * j) % 128 + 128]) ++ hd a j = T := by
  rw [← e]; simp [hd]

set_option maxRecDepth 100000 in
theorem rd_one (w : World) (x : Nat) : Rd (w.alloc (.cells #[.int .u8 (x : Int)] 5)) (some ⟨w.heap.size, 0, none⟩) 1 1 [x] := by
  refine ⟨rfl, Nat.le_refl _, fun h => (by cases h), fun _ => ⟨_, _, rfl, fun t ht => ?_⟩⟩
  have : t = 0 := by omega
  subst this
  simp

set_option maxRecDepth 100000 in
theorem or128_fin : ∀ c : Fin 256, c.val ||| 128 = c.val % 128 + 128 := by decide +kernel

set_option maxRecDepth 100000 in
theorem or128 (q : Nat) : bits .or .u8 ((q : Int) % 256) 128 = ((q % 128 + 128 : Nat) : Int) := by
  have h := (bits_nat .u8 8 (by decide) wraps_u8 (q % 256) 128 (by omega) (by omega)).2
  have h2 := or128_fin ⟨q % 256, by omega⟩
  rw [show ((q : Int) % 256) = ((q % 256 : Nat) : Int) by omega]
  rw [show ((128 : Int)) = ((128 : Nat) : Int) by rfl, h, h2]
  simp only
  omega

set_option maxRecDepth 100000 in
theorem and_low (v k : Nat) (hk : k ≤ 63) (hv : v < 18446744073709551616) : bits .and .u64 (v : Int) ((2 ^ k - 1 : Nat) : Int) = ((v % 2 ^ k : Nat) : Int) := by
  have hp : 2 ^ k ≤ 2 ^ 63 := Nat.pow_le_pow_right (by decide) hk
  rw [bits_and_u64_nat v (2 ^ k - 1) hv (by omega), Nat.and_two_pow_sub_one_eq_mod]

end Oct
end Go.Proofs.Ytjlahomjhadnkaa
namespace Go.Proofs.Ytjlahomjhadnkaa
namespace Oct
open Go.RowKit

/-- The two cells of a teller: how many bytes it has told, and its bytes. -/
def Tell (w : World) (pa pb : Nat) (ao : Option Addr) (n cap k : Nat) (W : World) : Prop :=
  W.heap[pa]? = some (.cells #[.int .i64 (k : Int)] 3 (0, 0)) ∧ W.heap[pb]? = some (.cells #[.slice ao n cap] 51 (0, 0)) ∧ w.heap.size ≤ pa ∧ Below w.heap.size w W

end Oct
end Go.Proofs.Ytjlahomjhadnkaa
namespace Go.Proofs.Ytjlahomjhadnkaa
namespace Oct
open Go.RowKit

/-- The Var that begins a list, be it the shortest or not, and how many bytes it has; k: how many bytes with a mark may still come. -/
def asm (acc : Nat) : Nat → List Nat → Nat × Nat
  | 0, [] => (0, 0)
  | 0, c :: _ => (acc * 256 + c, 9)
  | _ + 1, [] => (0, 0)
  | k + 1, c :: r => if c < 128 then (acc * 128 + c, 8 - k) else asm (acc * 128 + (c - 128)) k r

set_option maxRecDepth 100000 in
theorem getD_lt {xs : List Nat} (h : ∀ x ∈ xs, x < 256) (i : Nat) (hi : i < xs.length) : xs.getD i 0 < 256 := by
  rw [List.getD_eq_getElem?_getD, List.getElem?_eq_getElem hi]
  exact h _ (List.getElem_mem hi)

set_option maxRecDepth 100000 in
theorem drop_getD (xs : List Nat) (i : Nat) (hi : i < xs.length) : xs.drop i = xs.getD i 0 :: xs.drop (i + 1) := by
  rw [List.drop_eq_getElem_cons hi, List.getD_eq_getElem?_getD, List.getElem?_eq_getElem hi]
  rfl

set_option maxRecDepth 100000 in
theorem wraps_u64 (n : Int) (h0 : 0 ≤ n) (h1 : n < 2 ^ 64) : IntKind.u64.wrap n = n := by rw [IntKind.wrap_u64]; omega

set_option maxRecDepth 100000 in
theorem or_join (a x k : Nat) (hx : x < 2 ^ k) (h : a * 2 ^ k + x < 18446744073709551616) : bits .or .u64 ((a : Int) * ((2 ^ k : Nat) : Int)) (x : Int) = ((a * 2 ^ k + x : Nat) : Int) := by
  have h1 := (bits_nat .u64 64 (by decide) wraps_u64 (a * 2 ^ k) x (by omega) (by omega)).2
  rw [Int.natCast_mul] at h1
  rw [h1, Nat.mul_comm a, ← Nat.two_pow_add_eq_or_of_lt hx a]

set_option maxRecDepth 100000 in
theorem or7 (a x : Nat) (hx : x < 128) (h : a < 144115188075855872) : bits .or .u64 ((a : Int) * 128) (x : Int) = ((a * 128 + x : Nat) : Int) := by
  simpa using or_join a x 7 (by omega) (by omega)

set_option maxRecDepth 100000 in
theorem or8 (a x : Nat) (hx : x < 256) (h : a < 72057594037927936) : bits .or .u64 ((a : Int) * 256) (x : Int) = ((a * 256 + x : Nat) : Int) := by
  simpa using or_join a x 8 (by omega) (by omega)

set_option maxRecDepth 100000 in
theorem acc_step (a y i : Nat) (h : a < 2 ^ (7 * i)) (hy : y < 128) : a * 128 + y < 2 ^ (7 * (i + 1)) := by
  rw [show 7 * (i + 1) = 7 * i + 7 by omega, Nat.pow_add]
  omega

end Oct
end Go.Proofs.Ytjlahomjhadnkaa
namespace Go.Proofs.Ytjlahomjhadnkaa
namespace Oct
open Go.RowKit

/-- The number that begins a list as a Var, and how many bytes it has. -/
def takeN (xs : List Nat) : Nat × Nat := if (asm 0 8 xs).2 = szN (asm 0 8 xs).1 then asm 0 8 xs else (0, 0)

set_option maxRecDepth 100000 in
theorem asm_bound (m : Nat) : ∀ (acc : Nat) (xs : List Nat), (∀ x ∈ xs, x < 256) → m ≤ 8 → acc < 2 ^ (7 * (8 - m)) → (asm acc m xs).1 < 18446744073709551616 ∧ (asm acc m xs).2 ≤ 9 := by
  induction m with
  | zero =>
    intro acc xs hx _ ha
    cases xs with
    | nil => simp [asm]
    | cons c r =>
      have := hx c (by simp)
      simp [asm] at ha ⊢
      omega
  | succ m ih =>
    intro acc xs hx hm ha
    cases xs with
    | nil => simp [asm]
    | cons c r =>
      have hc := hx c (by simp)
      have hp : 2 ^ (7 * (8 - (m + 1))) ≤ 2 ^ 49 := Nat.pow_le_pow_right (by omega) (by omega)
      simp only [asm]
      split
      · simp; omega
      · refine ih _ r (fun x h => hx x (by simp [h])) (by omega) ?_
        have := acc_step acc (c - 128) (8 - (m + 1)) ha (by omega)
        rwa [show 8 - (m + 1) + 1 = 8 - m by omega] at this

end Oct
end Go.Proofs.Ytjlahomjhadnkaa
namespace Go.Proofs.Ytjlahomjhadnkaa
namespace Oct
open Go.RowKit

/-- The number that the first i of s bytes make, in either order. -/
def psum (xs : List Nat) (s : Nat) (l : Bool) : Nat → Nat
  | 0 => 0
  | i + 1 => psum xs s l i + xs.getD i 0 * 2 ^ (8 * place l s i)

set_option maxRecDepth 100000 in
theorem psum_big (xs : List Nat) (s : Nat) (hx : ∀ x ∈ xs, x < 256) (hs : s ≤ xs.length) : ∀ i, i ≤ s → ∃ q, q < 2 ^ (8 * i) ∧ psum xs s false i = q * 2 ^ (8 * (s - i)) := by
  intro i
  induction i with
  | zero => intro _; exact ⟨0, by simp, by simp [psum]⟩
  | succ i ih =>
    intro hi
    obtain ⟨q, hq, e⟩ := ih (by omega)
    have hc := getD_lt hx i (by omega)
    refine ⟨q * 256 + xs.getD i 0, ?_, ?_⟩
    · rw [show 8 * (i + 1) = 8 * i + 8 by omega, Nat.pow_add]; omega
    · simp only [psum, e, place]
      rw [show 8 * (s - i) = 8 + 8 * (s - (i + 1)) by omega, Nat.pow_add, show s - 1 - i = s - (i + 1) by omega, Nat.add_mul, Nat.mul_assoc]
      rfl

set_option maxRecDepth 100000 in
theorem psum_little (xs : List Nat) (s : Nat) (hx : ∀ x ∈ xs, x < 256) (hs : s ≤ xs.length) : ∀ i, i ≤ s → psum xs s true i < 2 ^ (8 * i) := by
  intro i
  induction i with
  | zero => intro _; simp [psum]
  | succ i ih =>
    intro hi
    have h := ih (by omega)
    have hc := getD_lt hx i (by omega)
    simp only [psum, place, if_true]
    rw [show 8 * (i + 1) = 8 * i + 8 by omega, Nat.pow_add]
    have h2 : xs.getD i 0 * 2 ^ (8 * i) ≤ 255 * 2 ^ (8 * i) := Nat.mul_le_mul_right _ (by omega)
    omega

set_option maxRecDepth 100000 in
theorem psum_lt (xs : List Nat) (s : Nat) (l : Bool) (hx : ∀ x ∈ xs, x < 256) (hs : s ≤ xs.length) (h8 : s ≤ 8) (i : Nat) (hi : i ≤ s) : psum xs s l i < 18446744073709551616 := by
  cases l with
  | true =>
    have h := psum_little xs s hx hs i hi
    have hp : 2 ^ (8 * i) ≤ 2 ^ 64 := Nat.pow_le_pow_right (by omega) (by omega)
    omega
  | false =>
    obtain ⟨q, hq, e⟩ := psum_big xs s hx hs i hi
    have h1 : q * 2 ^ (8 * (s - i)) < 2 ^ (8 * i) * 2 ^ (8 * (s - i)) := Nat.mul_lt_mul_of_pos_right hq (Nat.pow_pos (by omega))
    rw [← Nat.pow_add, show 8 * i + 8 * (s - i) = 8 * s by omega] at h1
    have hp : 2 ^ (8 * s) ≤ 2 ^ 64 := Nat.pow_le_pow_right (by omega) (by omega)
    omega

set_option maxRecDepth 100000 in
theorem psum_or (xs : List Nat) (s : Nat) (l : Bool) (hx : ∀ x ∈ xs, x < 256) (hs : s ≤ xs.length) (i : Nat) (hi : i < s) :
    psum xs s l i ||| xs.getD i 0 * 2 ^ (8 * place l s i) = psum xs s l (i + 1) := by
  have hc := getD_lt hx i (by omega)
  cases l with
  | true =>
    have h := psum_little xs s hx hs i (by omega)
    simp only [psum, place, if_true]
    rw [Nat.or_comm, Nat.mul_comm, ← Nat.two_pow_add_eq_or_of_lt h, Nat.add_comm]
  | false =>
    obtain ⟨q, hq, e⟩ := psum_big xs s hx hs i (by omega)
    simp only [psum, e, place]
    have hlt : xs.getD i 0 * 2 ^ (8 * (s - 1 - i)) < 2 ^ (8 * (s - i)) := by
      rw [show 8 * (s - i) = 8 + 8 * (s - 1 - i) by omega, Nat.pow_add]
      exact Nat.mul_lt_mul_of_pos_right (by omega) (Nat.pow_pos (by omega))
    rw [if_neg (by simp), Nat.mul_comm q, ← Nat.two_pow_add_eq_or_of_lt hlt]

set_option maxRecDepth 100000 in
theorem getD_term_lt (xs : List Nat) (s : Nat) (l : Bool) (hx : ∀ x ∈ xs, x < 256) (hs : s ≤ xs.length) (h8 : s ≤ 8) (i : Nat) (hi : i < s) : xs.getD i 0 * 2 ^ (8 * place l s i) < 18446744073709551616 := by
  have := psum_lt xs s l hx hs h8 (i + 1) (by omega)
  simp only [psum] at this
  omega

end Oct
end Go.Proofs.Ytjlahomjhadnkaa
