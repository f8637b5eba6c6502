/- How slices of bytes lie in memory, and what widened does: a copy with room; no statement of the seat is proved here. -/
import Derived.Test.YtjieegnmofimkaaDoorAe
import Derived.Laws.CopyOwn
import Derived.Laws.BytesArg
import Derived.Laws.AppendOwnNone
import Derived.Lib.Walk
namespace Go.Proofs.YtjieegnmofimkaaDoor
open Go.RowKit

def bs (xs : List Nat) : List Value := xs.map fun x : Nat => Value.int .u8 (x : Int)
def str (xs : List Nat) : ByteArray := ⟨(xs.map UInt8.ofNat).toArray⟩

set_option maxRecDepth 100000 in
theorem bs_length (xs : List Nat) : (bs xs).length = xs.length := by simp [bs]
set_option maxRecDepth 100000 in
theorem bs_append (xs ys : List Nat) : bs (xs ++ ys) = bs xs ++ bs ys := by simp [bs]
set_option maxRecDepth 100000 in
theorem bs_one (xs : List Nat) : ∀ u ∈ bs xs, u.oneCell' = true := by
  intro u hu
  obtain ⟨x, _, rfl⟩ := List.mem_map.1 hu
  rfl
set_option maxRecDepth 100000 in
theorem bs_get (xs : List Nat) (t : Nat) (h : t < xs.length) : (bs xs)[t]? = some (.int .u8 ((xs.getD t 0 : Nat) : Int)) := by
  simp [bs, List.getElem?_map, List.getElem?_eq_getElem h, List.getD]
set_option maxRecDepth 100000 in
theorem bs_get' (xs : List Nat) (t : Nat) (u : Value) (h : (bs xs)[t]? = some u) : t < xs.length ∧ u = .int .u8 ((xs.getD t 0 : Nat) : Int) := by
  have hl : t < xs.length := by
    have := (List.getElem?_eq_some_iff.1 h).1
    simpa [bs] using this
  rw [bs_get xs t hl] at h
  exact ⟨hl, (Option.some.inj h).symm⟩
set_option maxRecDepth 100000 in
theorem str_size (xs : List Nat) : (str xs).size = xs.length := by simp [str, ByteArray.size]

/-- A slice of bytes that can be read. -/
def Rd (w : World) (ao : Option Addr) (n cap : Nat) (xs : List Nat) : Prop :=
  xs.length = n ∧ n ≤ cap ∧ (ao = none → n = 0 ∧ cap = 0) ∧
    (0 < n → ∃ b off, ao = some ⟨b, off, none⟩ ∧ ∀ t, t < n → w.cell? ⟨b, off + t, none⟩ = some (.int .u8 ((xs.getD t 0 : Nat) : Int)))

set_option maxRecDepth 100000 in
theorem Rd.keep {w w' : World} {ao : Option Addr} {n cap : Nat} {xs : List Nat} (h : Rd w ao n cap xs) (hb : Below w.heap.size w w') : Rd w' ao n cap xs := by
  refine ⟨h.1, h.2.1, h.2.2.1, fun hn => ?_⟩
  obtain ⟨b, off, e, hc⟩ := h.2.2.2 hn
  exact ⟨b, off, e, fun t ht => keep_old hb (hc t ht)⟩

set_option maxRecDepth 100000 in
theorem Rd.nil (w : World) : Rd w none 0 0 [] := ⟨rfl, Nat.le_refl _, fun _ => ⟨rfl, rfl⟩, fun h => by omega⟩

set_option maxRecDepth 100000 in
theorem rd_own {w : World} {B g n cap : Nat} {xs : List Nat} (h : w.ownsRow B 5 1 (.slice (some ⟨g, 0, none⟩) n cap) n (bs xs)) : Rd w (some ⟨g, 0, none⟩) n cap xs := by
  have hl : xs.length = n := by simpa [bs] using h.1
  refine ⟨hl, ?_, fun h => (by cases h), fun _ => ⟨g, 0, rfl, fun t ht => ?_⟩⟩
  · rcases h.2 with ⟨h', _⟩ | ⟨g', cap', cur, h', _, _, hnc, _⟩
    · simp at h'
    · simp only [Value.slice.injEq, Option.some.injEq, Addr.mk.injEq, and_true, true_and] at h'
      rw [h'.2]; exact hnc
  · rw [Nat.zero_add, h.cellAt t (by omega), bs_get xs t (by omega)]

set_option maxRecDepth 100000 in
theorem conv_rd {P : Program} {w : World} {ao : Option Addr} {n cap : Nat} {xs : List Nat} (h : Rd w ao n cap xs) (src dst e : TypeId) (hs : P.underlying src = some (.slice e)) (he : P.underlying e = some (.int .u8)) (hd : P.underlying dst = some .string) :
    (convert src dst (.slice ao n cap)).run P w = .ok (.string (str xs)) w := by
  obtain ⟨hl, hc, hno, hat⟩ := h
  rcases Nat.eq_zero_or_pos n with h0 | hp
  · subst h0
    obtain rfl : xs = [] := List.eq_nil_of_length_eq_zero hl
    cases ao with
    | none => rw [run_convert_bytes_nil w src e hs he 0 cap dst hd]; rfl
    | some a => 
      rw [run_convert_bytes_string w src dst e (some a) 0 cap hs he hd, run_bytesToString w a 0 cap [] (run_loadCells_list (P := P) w a [] (fun j v hj => by simp at hj))]
      rfl
  · obtain ⟨b, off, rfl, hcell⟩ := hat hp
    rw [run_convert_bytes_arg w src e hs he b off n cap (xs.map fun x : Nat => (x : Int)) (by simpa using hl) (fun i hi => by
      rw [hcell i hi]
      simp [List.getD, List.getElem?_map, List.getElem?_eq_getElem (show i < xs.length by omega)]) dst hd]
    simp [strOfNums, str, Function.comp_def]

set_option maxRecDepth 100000 in
theorem Tryd.info5 : (Tryd.prog.info? 5).map (fun i => (i.zero, i.size, i.bytes)) = some (some (.int .u8 0), 1, 1) := by kernel_rfl

set_option maxRecDepth 100000 in
theorem make_any (n cap : Nat) (h : n ≤ cap) (hc : cap ≤ 281474976710656) (w : World) :
    (Instr.makeSlice 27 (.int .i64 (n : Int)) (.int .i64 (cap : Int))).run Tryd.prog w = .ok (.slice (some ⟨w.heap.size, 0, none⟩) n cap) (w.alloc (.cells (Array.replicate cap (.int .u8 0)) 5)) := by
  obtain ⟨i, hi, hz0, hz1, hz2⟩ := info_parts Tryd.info5
  have hr := run_make (P := Tryd.prog) w 27 5 i (.int .u8 0) Tryd.underlying27 hi hz0 .i64 .i64 n cap (by omega) (by omega) (by rw [hz2]; omega) (by omega)
  simp only [Int.toNat_natCast, hz1, Nat.mul_one] at hr
  rw [hr, show Array.replicate cap (Value.int .u8 0) = (List.replicate cap (Value.int .u8 0)).toArray by simp, ← toList_madeCells_one, Array.toArray_toList]
  rfl

set_option maxRecDepth 100000 in
theorem own_of_row {w : World} {B g n cap : Nat} {cur : List Value} {xs : List Nat} (hB : B ≤ g) (hg : w.heap[g]? = some (.cells cur.toArray 5 (0, 0))) (hcap : cur.length = cap) (hm : cap ≤ 9223372036854775807)
    (hx : cur.take n = bs xs) (hn : xs.length = n) (hnc : n ≤ cap) : w.ownsRow B 5 1 (.slice (some ⟨g, 0, none⟩) n cap) n (bs xs) :=
  ⟨by simp [bs, hn], .inr ⟨g, cap, cur.toArray, rfl, hB, hg, hnc, hm, by simp [hcap], by simpa using hx⟩⟩

set_option maxRecDepth 100000 in
theorem splice_zero (n m : Nat) (xs : List Nat) (h : xs.length = n) : (splice (List.replicate (n + m) (Value.int .u8 0)) 0 (bs xs)).take n = bs xs := by
  have hl : (bs xs).length = n := by simp [bs, h]
  simp [splice, List.take_append_of_le_length (Nat.le_of_eq hl.symm), List.take_of_length_le (Nat.le_of_eq hl)]

set_option maxRecDepth 100000 in
theorem copy_hg (w : World) (k : Nat) : (w.alloc (.cells (Array.replicate k (.int .u8 0)) 5)).heap[w.heap.size]? = some (.cells (List.replicate k (Value.int .u8 0)).toArray 5 (0, 0)) := by
  rw [heap_alloc_new]; simp

set_option maxRecDepth 100000 in
theorem copy_hn {w : World} {ao : Option Addr} {n cap : Nat} {xs : List Nat} (h : Rd w ao n cap xs) : (bs xs).length = Nat.min n n := by
  rw [bs_length, h.1]; exact (Nat.min_self n).symm

set_option maxRecDepth 100000 in
theorem copy_hpos {w : World} {ao : Option Addr} {n cap : Nat} {xs : List Nat} (h : Rd w ao n cap xs) {o : Obj} : 0 < (bs xs).length → some (⟨w.heap.size, 0, none⟩ : Addr) = some ⟨w.heap.size, 0, none⟩ ∧ ∃ ad, ao = some ad ∧ ∀ j v, (bs xs)[j]? = some v → (w.alloc o).cell? (ad.add j) = some v := by
  intro hp
  rw [bs_length, h.1] at hp
  obtain ⟨b, off, rfl, hc⟩ := h.2.2.2 hp
  refine ⟨rfl, _, rfl, fun j v hv => ?_⟩
  obtain ⟨hj, rfl⟩ := bs_get' xs j v hv
  rw [Addr.add_lit]
  exact keep_old (Below.alloc (Below.refl _ _) (Nat.le_refl _) o) (hc j (by have := h.1; omega))

set_option maxRecDepth 100000 in
set_option maxHeartbeats 400000 in
theorem widened_any (ao : Option Addr) (n cap m : Nat) (xs : List Nat) (w : World) (h : Rd w ao n cap xs) (hm : n + m ≤ 281474976710656) :
    Calls Tryd.prog 47 #[.slice ao n cap, .int .i64 (m : Int)] w fun e w' => e = .returned (.slice (some ⟨w.heap.size, 0, none⟩) n (n + m)) ∧
      w'.ownsRow w.heap.size 5 1 (.slice (some ⟨w.heap.size, 0, none⟩) n (n + m)) n (bs xs) ∧ Below w.heap.size w w' := by
  have hmk := make_any n (n + m) (by omega) hm
  have e1 : ((n + m : Nat) : Int) = (n : Int) + (m : Int) := by omega
  rw [e1] at hmk
  have hr := hid h
  clear e1 h
  go_enter Tryd.func47, Tryd.ntmps47
  go_wp2_with ((with_reducible refine here_op 15 ?_); refine wpList_copy_splice rfl (.tmp 13) (.tmp 14) 27 27 rfl 5 Tryd.underlying27 (by kernel_rfl) _ _ _ _ _ _ rfl rfl w.heap.size 0 (List.replicate (n + m) (.int .u8 0)) 5 (copy_hg w (n + m)) (bs xs) (copy_hn hr.out) (copy_hpos hr.out) (by simp [bs, hr.out.1]) (bs_one xs) w.heap.size w (Below.alloc (Below.refl _ _) (Nat.le_refl _) _) (Nat.le_refl _) ?_; intro w2 hg2 hb2)
  go_ret
  exact ⟨rfl, own_of_row (Nat.le_refl _) hg2.out (by rw [length_splice _ _ _ (by simp [bs, hr.out.1])]; simp) (by omega) (splice_zero n m xs hr.out.1) hr.out.1 (by omega), hb2⟩

end Go.Proofs.YtjieegnmofimkaaDoor
