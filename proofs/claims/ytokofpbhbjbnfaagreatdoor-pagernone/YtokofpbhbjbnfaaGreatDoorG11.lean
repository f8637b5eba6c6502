/- A disk's file in plain words: its sectors now, as they were sure, and which are dirty; what a write, a sync, a cut and a crash make of it. No statement of the seat is proved here. -/
import Derived.Test.YtokofpbhbjbnfaaGreatDoorRows
import Derived.Maps.Ext
import Derived.Lib.SlMapFilter
import Derived.Lib.SlKeysI
import Derived.Maps.AppendAt
import Derived.Maps.OwnSet
import Derived.Maps.OwnOps
import Derived.Deep.AppendSrc
import Derived.WalkKit
import Derived.WalkSpells
import Derived.WalkLawsBesides
import Derived.Laws.CopyOwn
import Derived.Laws.BytesArg
import Derived.Laws.AppendOwnNone
import Derived.Deep.OwnRows
import Derived.BigRegion
import Derived.Deep.RegionWith
import Derived.Deep.RegionHeld3
import Derived.Lib.OthersKept
import Derived.Deep.AppendLies
namespace Go.Proofs.YtokofpbhbjbnfaaGreatDoor.Dsk
open Go.Maps

abbrev Sec := List Nat
def noughts : Sec := List.replicate 128 0
theorem noughts_length : noughts.length = 128 := by simp [noughts]

structure FS where
  now : List Sec
  old : List Sec
  dirt : List Bool

/-- What was sure of sector i. -/
def was (old : List Sec) (i : Nat) : Sec := old.getD i noughts

structure FS.Ok (F : FS) : Prop where
  ld : F.dirt.length = F.now.length
  lo : F.old.length ≤ F.now.length
  sn : ∀ x ∈ F.now, x.length = 128
  so : ∀ x ∈ F.old, x.length = 128
  cl : ∀ i, i < F.now.length → F.dirt.getD i false = false → i < F.old.length ∧ F.now.getD i [] = was F.old i

def secD (x : Sec) : DataW Unit := .agg (x.map fun n : Nat => .lit (.int .u8 (n : Int)))
theorem secD_inj {x y : Sec} (h : secD x = secD y) : x = y := by
  simp only [secD, DataW.agg.injEq] at h
  induction x generalizing y with
  | nil => cases y <;> simp_all
  | cons a r ih =>
    cases y with
    | nil => simp at h
    | cons b t =>
      simp only [List.map_cons, List.cons.injEq, DataW.lit.injEq, Lit.int.injEq, true_and] at h
      rw [ih h.2, Int.ofNat_inj.1 h.1]

/-- Which are dirty, rising. -/
def idx (dirt : List Bool) : List Nat := (List.range dirt.length).filter fun i => dirt.getD i false
def entry (old : List Sec) (i : Nat) : Lit × DataW Unit := (.int .i64 (i : Int), secD (was old i))
def dirtD (dirt : List Bool) (old : List Sec) : DataW Unit := .map ((idx dirt).map (entry old))

theorem mem_idx {dirt : List Bool} {i : Nat} : i ∈ idx dirt ↔ dirt.getD i false = true := by
  simp only [idx, List.mem_filter, List.mem_range]
  constructor
  · exact fun h => h.2
  · intro h
    refine ⟨?_, h⟩
    rcases Nat.lt_or_ge i dirt.length with h1 | h1
    · exact h1
    · simp [List.getD, List.getElem?_eq_none h1] at h

theorem idx_rising (dirt : List Bool) : (idx dirt).Pairwise (· < ·) := List.Pairwise.filter _ List.pairwise_lt_range

theorem idx_lt {dirt : List Bool} {i : Nat} (h : i ∈ idx dirt) : i < dirt.length := by
  simpa using (List.mem_filter.1 h).1

theorem canon_dirt (dirt : List Bool) (old : List Sec) : Canon (dirtD dirt old) := by
  refine ⟨_, rfl, ?_, ?_⟩
  · refine List.pairwise_map.2 ((idx_rising dirt).imp ?_)
    intro a b hab
    simp only [entry, Lit.before, decide_eq_true_eq]
    omega
  · intro p hp
    obtain ⟨i, _, rfl⟩ := List.mem_map.1 hp
    trivial

theorem has_dirt (dirt : List Bool) (old : List Sec) (i : Nat) : has (dirtD dirt old) (.int .i64 (i : Int)) = dirt.getD i false := by
  rw [dirtD, has_eq]
  cases h : dirt.getD i false
  · rw [List.any_eq_false]
    intro p hp hs
    obtain ⟨j, hj, rfl⟩ := List.mem_map.1 hp
    have hij : j = i := by
      have := WideAt.sameKey_eq hs
      simp only [entry, Lit.int.injEq, true_and] at this
      omega
    subst hij
    rw [mem_idx, h] at hj
    cases hj
  · exact List.any_eq_true.2 ⟨entry old i, List.mem_map.2 ⟨i, mem_idx.2 h, rfl⟩, WideAt.sameKey_self trivial⟩

theorem at_dirt (dirt : List Bool) (old : List Sec) (i : Nat) (h : dirt.getD i false = true) (z : DataW Unit) : (dirtD dirt old).atKey (.int .i64 (i : Int)) z = secD (was old i) := by
  have hc := canon_dirt dirt old
  obtain ⟨es, he, hr, _⟩ := hc
  have hm : entry old i ∈ es := by
    have : entry old i ∈ (idx dirt).map (entry old) := List.mem_map.2 ⟨i, mem_idx.2 h, rfl⟩
    simp only [dirtD, DataW.map.injEq] at he
    rw [← he]; exact this
  rw [he]
  exact WideAt.atKey_mem z trivial (apart_of_rising hr) hm

theorem size_dirt (dirt : List Bool) (old : List Sec) : Maps.size (dirtD dirt old) = (idx dirt).length := by simp [dirtD, size_eq]

theorem keys_dirt (dirt : List Bool) (old : List Sec) : intKeys (dirtD dirt old) = (idx dirt).map fun i : Nat => (i : Int) := by
  simp [dirtD, intKeys, Function.comp_def, entry, intOf]

/-- The entries of a map, by its members: two such maps are one. -/
theorem dirt_ext {D : DataW Unit} (hc : Canon D) (dirt : List Bool) (old : List Sec) (h : ∀ es, D = .map es → ∀ p, p ∈ es ↔ ∃ i, dirt.getD i false = true ∧ p = entry old i) : D = dirtD dirt old := by
  obtain ⟨es, rfl, hr, _⟩ := hc
  obtain ⟨es2, he2, hr2, _⟩ := canon_dirt dirt old
  rw [he2]
  congr 1
  refine eq_of_mem_rising hr hr2 fun p => ?_
  rw [h es rfl p]
  simp only [dirtD, DataW.map.injEq] at he2
  rw [← he2]
  simp only [List.mem_map, mem_idx]
  constructor
  · rintro ⟨i, hi, rfl⟩; exact ⟨i, hi, rfl⟩
  · rintro ⟨i, hi, rfl⟩; exact ⟨i, hi, rfl⟩

theorem mem_insert {x p : Lit × DataW Unit} : ∀ {l : List (Lit × DataW Unit)}, p ∈ DataW.insert x l ↔ p = x ∨ p ∈ l
  | [] => by simp [DataW.insert]
  | y :: r => by
    unfold DataW.insert
    split
    · simp
    · simp only [List.mem_cons, mem_insert (l := r)]
      constructor
      · rintro (h | h | h) <;> simp [h]
      · rintro (h | h | h) <;> simp [h]

/-- A sector that was not dirty is noted. -/
theorem put_dirt {dirt dirt' : List Bool} {old : List Sec} {i : Nat} (h0 : dirt.getD i false = false) (hd : ∀ j, dirt'.getD j false = (dirt.getD j false || decide (j = i)))
    (hc : Canon ((dirtD dirt old).put (.int .i64 (i : Int)) (secD (was old i)))) : (dirtD dirt old).put (.int .i64 (i : Int)) (secD (was old i)) = dirtD dirt' old := by
  refine dirt_ext hc dirt' old fun es he p => ?_
  simp only [dirtD, DataW.put, DataW.map.injEq] at he
  rw [← he, mem_insert, List.mem_filter]
  constructor
  · rintro (rfl | ⟨hp, _⟩)
    · exact ⟨i, by rw [hd]; simp, rfl⟩
    · obtain ⟨j, hj, rfl⟩ := List.mem_map.1 hp
      exact ⟨j, by rw [hd, mem_idx.1 hj]; rfl, rfl⟩
  · rintro ⟨j, hj, rfl⟩
    by_cases hji : j = i
    · subst hji; left; rfl
    · right
      rw [hd] at hj
      simp only [hji, decide_false, Bool.or_false] at hj
      refine ⟨List.mem_map.2 ⟨j, mem_idx.2 hj, rfl⟩, ?_⟩
      simp only [entry, Lit.sameKey, true_and, Bool.not_eq_true', decide_eq_false_iff_not]
      omega

/-- What stands behind a cut is noted no more. -/
theorem cut_dirt (dirt : List Bool) (old old' : List Sec) (n : Nat) (ho : ∀ i, i < n → was old' i = was old i) :
    Lib.deleteFuncD (fun kl _ => match kl with | .int _ a => decide ((n : Int) ≤ a) | _ => false) (dirtD dirt old) = dirtD (dirt.take n) old' := by
  have hc : Canon (Lib.deleteFuncD (fun kl _ => match kl with | .int _ a => decide ((n : Int) ≤ a) | _ => false) (dirtD dirt old)) := by
    obtain ⟨es, he, hr, hk⟩ := canon_dirt dirt old
    rw [he]
    exact ⟨_, rfl, hr.filter _, fun p hp => hk p (List.mem_filter.1 hp).1⟩
  refine dirt_ext hc _ _ fun es he p => ?_
  simp only [dirtD, Lib.deleteFuncD, DataW.map.injEq] at he
  rw [← he, List.mem_filter]
  constructor
  · rintro ⟨hp, hq⟩
    obtain ⟨j, hj, rfl⟩ := List.mem_map.1 hp
    simp only [entry, Bool.not_eq_true', decide_eq_false_iff_not] at hq
    have hjn : j < n := by omega
    refine ⟨j, ?_, by simp [entry, ho j hjn]⟩
    have := mem_idx.1 hj
    simpa [List.getD, List.getElem?_take, hjn] using this
  · rintro ⟨j, hj, rfl⟩
    have hjn : j < n := by
      rcases Nat.lt_or_ge j n with h | h
      · exact h
      · exfalso
        rw [List.getD, List.getElem?_eq_none (by simp; omega)] at hj
        cases hj
    refine ⟨List.mem_map.2 ⟨j, mem_idx.2 ?_, by simp [entry, ho j hjn]⟩, ?_⟩
    · simpa [List.getD, List.getElem?_take, hjn] using hj
    · simp only [entry, Bool.not_eq_true', decide_eq_false_iff_not]
      omega

theorem idx_clean (n : Nat) : idx (List.replicate n false) = [] := by
  rw [List.eq_nil_iff_forall_not_mem]
  intro i hi
  rw [mem_idx] at hi
  simp only [List.getD, List.getElem?_replicate] at hi
  split at hi <;> simp at hi

theorem dirt_clean (n : Nat) (old : List Sec) : dirtD (List.replicate n false) old = .map [] := by simp [dirtD, idx_clean]

/-- The keys, sorted. -/
theorem keys_sorted {ss : List Int} {dirt : List Bool} {old : List Sec} (h : ss.Perm (intKeys (dirtD dirt old))) : ss.mergeSort (fun x y => decide (x ≤ y)) = (idx dirt).map fun i : Nat => (i : Int) := by
  rw [keys_dirt] at h
  refine List.Perm.eq_of_pairwise (le := fun a b : Int => a ≤ b) (fun a b _ _ h1 h2 => Int.le_antisymm h1 h2) ?_ ?_ ((List.mergeSort_perm _ _).trans h)
  · have := List.pairwise_mergeSort (le := fun x y : Int => decide (x ≤ y)) (fun a b c h1 h2 => by simp only [decide_eq_true_eq] at *; omega) (fun a b => by simp only [Bool.or_eq_true, decide_eq_true_eq]; omega) ss
    exact this.imp (fun h => by simpa using h)
  · exact List.pairwise_map.2 ((idx_rising dirt).imp (fun h => by omega))

end Go.Proofs.YtokofpbhbjbnfaaGreatDoor.Dsk

/- How slices of bytes lie in memory; no statement of the seat is proved here. -/
namespace Go.Proofs.YtokofpbhbjbnfaaGreatDoor.Dsk
open Go.RowKit

theorem gt {w a b : World} (h : Below w.heap.size w a) (k : Below a.heap.size a b) : Below w.heap.size w b := h.trans (k.mono h.size)

theorem hid {p : Prop} (h : p) : Hid p := h

theorem undrew {w w' : World} (h : Below w.drew.heap.size w.drew w') : Below w.heap.size w w' := ⟨h.os, h.tape, h.output, h.size, h.block⟩

theorem lt_cell {w : World} {a : Addr} {v : Value} (h : w.cell? a = some v) : a.block < w.heap.size := by
  rcases Nat.lt_or_ge a.block w.heap.size with h1 | h1
  · exact h1
  · exfalso
    have h2 : w.heap[a.block]? = none := Array.getElem?_eq_none h1
    simp [World.cell?, h2] at h

theorem keep_cell {B : Nat} {w w' : World} (h : Below B w w') {a : Addr} {v : Value} (hc : w.cell? a = some v) (hB : a.block < B) : w'.cell? a = some v := by
  rw [World.cell?_of_block (h.block a.block hB)]; exact hc

theorem keep_old {w w' : World} (h : Below w.heap.size w w') {a : Addr} {v : Value} (hc : w.cell? a = some v) : w'.cell? a = some v := keep_cell h hc (lt_cell hc)

theorem keep_frozen {B : Nat} {w w' : World} (h : Below B w w') {a : Addr} (hB : a.block < B) : w'.frozen? a = w.frozen? a := World.frozen?_of_block (h.block a.block hB)

def bs (xs : List Nat) : List Value := xs.map fun x : Nat => Value.int .u8 (x : Int)
def str (xs : List Nat) : ByteArray := ⟨(xs.map UInt8.ofNat).toArray⟩

theorem bs_length (xs : List Nat) : (bs xs).length = xs.length := by simp [bs]
theorem bs_append (xs ys : List Nat) : bs (xs ++ ys) = bs xs ++ bs ys := by simp [bs]
theorem bs_one (xs : List Nat) : ∀ u ∈ bs xs, u.oneCell' = true := by
  intro u hu
  obtain ⟨x, _, rfl⟩ := List.mem_map.1 hu
  rfl
theorem bs_get (xs : List Nat) (t : Nat) (h : t < xs.length) : (bs xs)[t]? = some (.int .u8 ((xs.getD t 0 : Nat) : Int)) := by
  simp [bs, List.getElem?_map, List.getElem?_eq_getElem h, List.getD]
theorem bs_get' (xs : List Nat) (t : Nat) (u : Value) (h : (bs xs)[t]? = some u) : t < xs.length ∧ u = .int .u8 ((xs.getD t 0 : Nat) : Int) := by
  have hl : t < xs.length := by
    have := (List.getElem?_eq_some_iff.1 h).1
    simpa [bs] using this
  rw [bs_get xs t hl] at h
  exact ⟨hl, (Option.some.inj h).symm⟩
theorem str_size (xs : List Nat) : (str xs).size = xs.length := by simp [str, ByteArray.size]

/-- A slice of bytes that can be read. -/
def Rd (w : World) (ao : Option Addr) (n cap : Nat) (xs : List Nat) : Prop :=
  xs.length = n ∧ n ≤ cap ∧ (ao = none → n = 0 ∧ cap = 0) ∧
    (0 < n → ∃ b off, ao = some ⟨b, off, none⟩ ∧ ∀ t, t < n → w.cell? ⟨b, off + t, none⟩ = some (.int .u8 ((xs.getD t 0 : Nat) : Int)))

theorem Rd.keep {w w' : World} {ao : Option Addr} {n cap : Nat} {xs : List Nat} (h : Rd w ao n cap xs) (hb : Below w.heap.size w w') : Rd w' ao n cap xs := by
  refine ⟨h.1, h.2.1, h.2.2.1, fun hn => ?_⟩
  obtain ⟨b, off, e, hc⟩ := h.2.2.2 hn
  exact ⟨b, off, e, fun t ht => keep_old hb (hc t ht)⟩

theorem Rd.nil (w : World) : Rd w none 0 0 [] := ⟨rfl, Nat.le_refl _, fun _ => ⟨rfl, rfl⟩, fun h => by omega⟩

theorem rd_own {w : World} {B g n cap : Nat} {xs : List Nat} (h : w.ownsRow B 5 1 (.slice (some ⟨g, 0, none⟩) n cap) n (bs xs)) : Rd w (some ⟨g, 0, none⟩) n cap xs := by
  have hl : xs.length = n := by simpa [bs] using h.1
  refine ⟨hl, ?_, fun h => (by cases h), fun _ => ⟨g, 0, rfl, fun t ht => ?_⟩⟩
  · rcases h.2 with ⟨h', _⟩ | ⟨g', cap', cur, h', _, _, hnc, _⟩
    · simp at h'
    · simp only [Value.slice.injEq, Option.some.injEq, Addr.mk.injEq, and_true, true_and] at h'
      rw [h'.2]; exact hnc
  · rw [Nat.zero_add, h.cellAt t (by omega), bs_get xs t (by omega)]

theorem conv_rd {P : Program} {w : World} {ao : Option Addr} {n cap : Nat} {xs : List Nat} (h : Rd w ao n cap xs) (src dst e : TypeId) (hs : P.underlying src = some (.slice e)) (he : P.underlying e = some (.int .u8)) (hd : P.underlying dst = some .string) :
    (convert src dst (.slice ao n cap)).run P w = .ok (.string (str xs)) w := by
  obtain ⟨hl, hc, hno, hat⟩ := h
  rcases Nat.eq_zero_or_pos n with h0 | hp
  · subst h0
    obtain rfl : xs = [] := List.eq_nil_of_length_eq_zero hl
    cases ao with
    | none => rw [run_convert_bytes_nil w src e hs he 0 cap dst hd]; rfl
    | some a => 
      rw [run_convert_bytes_string w src dst e (some a) 0 cap hs he hd, run_bytesToString w a 0 cap [] (run_loadCells_list (P := P) w a [] (fun j v hj => by simp at hj))]
      rfl
  · obtain ⟨b, off, rfl, hcell⟩ := hat hp
    rw [run_convert_bytes_arg w src e hs he b off n cap (xs.map fun x : Nat => (x : Int)) (by simpa using hl) (fun i hi => by
      rw [hcell i hi]
      simp [List.getD, List.getElem?_map, List.getElem?_eq_getElem (show i < xs.length by omega)]) dst hd]
    simp [strOfNums, str, Function.comp_def]

theorem Tryz.info5 : (Tryz.prog.info? 5).map (fun i => (i.zero, i.size, i.bytes)) = some (some (.int .u8 0), 1, 1) := by kernel_rfl

theorem make_any (n cap : Nat) (h : n ≤ cap) (hc : cap ≤ 281474976710656) (w : World) :
    (Instr.makeSlice 60 (.int .i64 (n : Int)) (.int .i64 (cap : Int))).run Tryz.prog w = .ok (.slice (some ⟨w.heap.size, 0, none⟩) n cap) (w.alloc (.cells (Array.replicate cap (.int .u8 0)) 5)) := by
  obtain ⟨i, hi, hz0, hz1, hz2⟩ := info_parts Tryz.info5
  have hr := run_make (P := Tryz.prog) w 60 5 i (.int .u8 0) Tryz.underlying60 hi hz0 .i64 .i64 n cap (by omega) (by omega) (by rw [hz2]; omega) (by omega)
  simp only [Int.toNat_natCast, hz1, Nat.mul_one] at hr
  rw [hr, show Array.replicate cap (Value.int .u8 0) = (List.replicate cap (Value.int .u8 0)).toArray by simp, ← toList_madeCells_one, Array.toArray_toList]
  rfl

theorem own_of_row {w : World} {B g n cap : Nat} {cur : List Value} {xs : List Nat} (hB : B ≤ g) (hg : w.heap[g]? = some (.cells cur.toArray 5 (0, 0))) (hcap : cur.length = cap) (hm : cap ≤ 9223372036854775807)
    (hx : cur.take n = bs xs) (hn : xs.length = n) (hnc : n ≤ cap) : w.ownsRow B 5 1 (.slice (some ⟨g, 0, none⟩) n cap) n (bs xs) :=
  ⟨by simp [bs, hn], .inr ⟨g, cap, cur.toArray, rfl, hB, hg, hnc, hm, by simp [hcap], by simpa using hx⟩⟩

theorem splice_zero (n m : Nat) (xs : List Nat) (h : xs.length = n) : (splice (List.replicate (n + m) (Value.int .u8 0)) 0 (bs xs)).take n = bs xs := by
  have hl : (bs xs).length = n := by simp [bs, h]
  simp [splice, List.take_append_of_le_length (Nat.le_of_eq hl.symm), List.take_of_length_le (Nat.le_of_eq hl)]

/-- A guard for a walk: the next operation writes slot k. -/
theorem here_op (k : Nat) {P : Program} {ops : Array Oper} {Q : Exit → Act → World → Prop} {a : Act} {w : World} {rest : List Oper} {op : Op} {t : TypeId} {pos : String} {after : Array Edge} {gd : Option (Nat × Bool)}
    (h : wpList P ops Q (⟨some k, op, t, pos, after, gd⟩ :: rest) a w) : wpList P ops Q (⟨some k, op, t, pos, after, gd⟩ :: rest) a w := h

theorem copy_hg (w : World) (k : Nat) : (w.alloc (.cells (Array.replicate k (.int .u8 0)) 5)).heap[w.heap.size]? = some (.cells (List.replicate k (Value.int .u8 0)).toArray 5 (0, 0)) := by
  rw [heap_alloc_new]; simp

theorem copy_hn {w : World} {ao : Option Addr} {n cap : Nat} {xs : List Nat} (h : Rd w ao n cap xs) : (bs xs).length = Nat.min n n := by
  rw [bs_length, h.1]; exact (Nat.min_self n).symm

theorem copy_hpos {w : World} {ao : Option Addr} {n cap : Nat} {xs : List Nat} (h : Rd w ao n cap xs) {o : Obj} : 0 < (bs xs).length → some (⟨w.heap.size, 0, none⟩ : Addr) = some ⟨w.heap.size, 0, none⟩ ∧ ∃ ad, ao = some ad ∧ ∀ j v, (bs xs)[j]? = some v → (w.alloc o).cell? (ad.add j) = some v := by
  intro hp
  rw [bs_length, h.1] at hp
  obtain ⟨b, off, rfl, hc⟩ := h.2.2.2 hp
  refine ⟨rfl, _, rfl, fun j v hv => ?_⟩
  obtain ⟨hj, rfl⟩ := bs_get' xs j v hv
  rw [Addr.add_lit]
  exact keep_old (Below.alloc (Below.refl _ _) (Nat.le_refl _) o) (hc j (by have := h.1; omega))

end Go.Proofs.YtokofpbhbjbnfaaGreatDoor.Dsk

/- How a file of a disk lies in memory, and what settle does; no statement of the seat is proved here. -/
namespace Go.Proofs.YtokofpbhbjbnfaaGreatDoor.Dsk
open Go.RowKit Go.Maps

def secV (x : Sec) : Value := .agg (bs x).toArray
theorem bs_inj {x y : List Nat} (h : bs x = bs y) : x = y := by
  induction x generalizing y with
  | nil => cases y <;> simp_all [bs]
  | cons a r ih =>
    cases y with
    | nil => simp [bs] at h
    | cons b t =>
      simp only [bs, List.map_cons, List.cons.injEq, Value.int.injEq, true_and] at h
      rw [ih h.2, Int.ofNat_inj.1 h.1]
theorem secV_inj {x y : Sec} (h : secV x = secV y) : x = y := by
  simp only [secV, Value.agg.injEq] at h
  exact bs_inj (by simpa using congrArg Array.toList h)

def byteOf : Value → Option Nat
  | .int .u8 a => if 0 ≤ a then some a.toNat else none
  | _ => none
def bytesOf : List Value → Option (List Nat)
  | [] => some []
  | v :: r => match byteOf v, bytesOf r with
    | some n, some x => some (n :: x)
    | _, _ => none
theorem bytesOf_bs (x : List Nat) : bytesOf (bs x) = some x := by
  induction x with
  | nil => rfl
  | cons a r ih =>
    have e : bs (a :: r) = .int .u8 (a : Int) :: bs r := rfl
    rw [e, bytesOf, ih]
    simp [byteOf]
theorem bs_bytesOf {l : List Value} {x : List Nat} (h : bytesOf l = some x) : l = bs x := by
  induction l generalizing x with
  | nil => cases h; rfl
  | cons v r ih =>
    rw [bytesOf] at h
    split at h
    · rename_i n y hn hy
      cases h
      rw [ih hy]
      unfold byteOf at hn
      split at hn
      · split at hn
        · rename_i a h0
          cases hn
          simp [bs, Int.toNat_of_nonneg h0]
        · cases hn
      · cases hn
    · cases h

/-- How a sector reads as a map's element. -/
def secR : Value → Option (DataW Unit × List MemPlace)
  | .agg cs => match bytesOf cs.toList with
    | some x => some (secD x, [])
    | none => none
  | _ => none
theorem secR_mk (x : Sec) : secR (secV x) = some (secD x, []) := by
  simp [secR, secV, bytesOf_bs]
theorem secR_inv {v : Value} {x : Sec} {ps : List MemPlace} (h : secR v = some (secD x, ps)) : v = secV x := by
  unfold secR at h
  split at h
  · rename_i cs
    split at h
    · rename_i y hy
      simp only [Option.some.injEq, Prod.mk.injEq] at h
      have e := bs_bytesOf hy
      have e2 := secD_inj h.1
      subst e2
      simp [secV, ← e]
    · cases h
  · cases h

/-- The cells of sectors that stand one behind the other. -/
def secs (l : List Sec) : List Value := bs l.flatten

/-- Blocks that were there, or that are new. -/
def From (S : Nat → Prop) (w : World) : Nat → Prop := fun k => S k ∨ w.heap.size ≤ k

structure FileAt (w : World) (p o : Nat) (S : Nat → Prop) (ao : Option Addr) (cap m : Nat) (F : FS) : Prop where
  c0 : w.cell? ⟨p, o, none⟩ = some (.slice ao F.now.length cap)
  c1 : w.cell? ⟨p, o + 1, none⟩ = some (.int .i64 (F.old.length : Int))
  c2 : w.cell? ⟨p, o + 2, none⟩ = some (.map (some m))
  f0 : w.frozen? ⟨p, o, none⟩ = false
  f1 : w.frozen? ⟨p, o + 1, none⟩ = false
  f2 : w.frozen? ⟨p, o + 2, none⟩ = false
  row : w.ownsRow 0 136 128 (.slice ao F.now.length cap) F.now.length (secs F.now)
  map : w.ownsMap Tryz.prog 3 secR m (idx F.dirt).length (dirtD F.dirt F.old)
  np : ¬ S p
  ina : ∀ a, ao = some a → S a.block
  inm : S m

structure FFrame (w w' : World) (p o : Nat) (S : Nat → Prop) : Prop where
  os : w'.os = w.os
  tape : w'.tape = w.tape
  output : w'.output = w.output
  size : w.heap.size ≤ w'.heap.size
  block : ∀ k, k < w.heap.size → k ≠ p → ¬ S k → w'.heap[k]? = w.heap[k]?
  cell : ∀ i, i ≠ o → i ≠ o + 1 → i ≠ o + 2 → w'.cell? ⟨p, i, none⟩ = w.cell? ⟨p, i, none⟩
  fz : ∀ i, w'.frozen? ⟨p, i, none⟩ = w.frozen? ⟨p, i, none⟩

theorem FFrame.refl (w : World) (p o : Nat) (S : Nat → Prop) : FFrame w w p o S := ⟨rfl, rfl, rfl, Nat.le_refl _, fun _ _ _ _ => rfl, fun _ _ _ _ => rfl, fun _ => rfl⟩
theorem FFrame.trans {w w1 w2 : World} {p o : Nat} {S : Nat → Prop} (h : FFrame w w1 p o S) (k : FFrame w1 w2 p o (From S w)) : FFrame w w2 p o S :=
  ⟨k.os.trans h.os, k.tape.trans h.tape, k.output.trans h.output, Nat.le_trans h.size k.size,
   fun i hi hp hS => (k.block i (Nat.lt_of_lt_of_le hi h.size) hp (fun hf => by rcases hf with h1 | h1; exact hS h1; omega)).trans (h.block i hi hp hS),
   fun i h0 h1 h2 => (k.cell i h0 h1 h2).trans (h.cell i h0 h1 h2), fun i => (k.fz i).trans (h.fz i)⟩

theorem from_from {S : Nat → Prop} {w w1 : World} (h : w.heap.size ≤ w1.heap.size) (k : Nat) : From (From S w) w1 k ↔ From S w k := by
  unfold From
  constructor
  · rintro ((h1 | h1) | h1)
    · exact Or.inl h1
    · exact Or.inr h1
    · exact Or.inr (by omega)
  · exact Or.inl

theorem FileAt.plt {w : World} {p o : Nat} {S : Nat → Prop} {ao : Option Addr} {cap m : Nat} {F : FS} (h : FileAt w p o S ao cap m F) : p < w.heap.size := lt_cell h.c0

theorem FileAt.imp {w : World} {p o : Nat} {S S' : Nat → Prop} {ao : Option Addr} {cap m : Nat} {F : FS} (h : FileAt w p o S ao cap m F) (hi : ∀ k, S k → S' k) (hp : ¬ S' p) : FileAt w p o S' ao cap m F :=
  ⟨h.c0, h.c1, h.c2, h.f0, h.f1, h.f2, h.row, h.map, hp, fun a ha => hi _ (h.ina a ha), hi _ h.inm⟩

theorem FileAt.up {w : World} {p o : Nat} {S : Nat → Prop} {ao : Option Addr} {cap m : Nat} {F : FS} (h : FileAt w p o S ao cap m F) : FileAt w p o (From S w) ao cap m F :=
  h.imp (fun _ => Or.inl) (fun hf => by rcases hf with h1 | h1; exact h.np h1; have := h.plt; omega)

theorem row_stay {w w' : World} {base n cap : Nat} {e : TypeId} {sz : Nat} {ao : Option Addr} {xs : List Value} (h : w.ownsRow base e sz (.slice ao n cap) n xs) (hb : ∀ a, ao = some a → w'.heap[a.block]? = w.heap[a.block]?) : w'.ownsRow base e sz (.slice ao n cap) n xs := by
  refine ⟨h.1, ?_⟩
  rcases h.2 with hn | ⟨g, cap', cur, hv, hb', hg, hr⟩
  · exact .inl hn
  · simp only [Value.slice.injEq, true_and] at hv
    obtain ⟨rfl, rfl⟩ := hv
    exact .inr ⟨g, cap, cur, rfl, hb', (hb _ rfl).trans hg, hr⟩
theorem map_stay {w w' : World} {m n : Nat} {D : DataW Unit} (h : w.ownsMap Tryz.prog 3 secR m n D) (hb : w'.heap[m]? = w.heap[m]?) : w'.ownsMap Tryz.prog 3 secR m n D := by
  obtain ⟨es, clock, hg, hF, hs', hD⟩ := h
  exact ⟨es, clock, hb.trans hg, hF, hs', hD⟩
theorem row_lt {w : World} {base n cap : Nat} {e : TypeId} {sz : Nat} {ao : Option Addr} {xs : List Value} (h : w.ownsRow base e sz (.slice ao n cap) n xs) : ∀ a, ao = some a → a.block < w.heap.size := by
  intro a ha
  rcases h.2 with ⟨hn, _⟩ | ⟨g, cap', cur, hv, hb', hg, hr⟩
  · simp only [Value.slice.injEq] at hn; rw [ha] at hn; simp at hn
  · simp only [Value.slice.injEq] at hv
    obtain ⟨rfl, _⟩ := hv
    cases ha
    exact (Array.getElem?_eq_some_iff.1 hg).1

theorem set_same {w : World} {p i : Nat} {u v : Value} (h : w.cell? ⟨p, i, none⟩ = some u) : (w.setCell ⟨p, i, none⟩ v).cell? ⟨p, i, none⟩ = some v := World.cell?_setCell_same _ _ _ h
theorem set_off (w : World) (p : Nat) {i j : Nat} (v : Value) (h : i ≠ j) : (w.setCell ⟨p, i, none⟩ v).cell? ⟨p, j, none⟩ = w.cell? ⟨p, j, none⟩ := World.cell?_setCell_other _ _ _ _ (by intro e; cases e; exact h rfl)
theorem set_heap (w : World) (p i k : Nat) (v : Value) (h : k ≠ p) : (w.setCell ⟨p, i, none⟩ v).heap[k]? = w.heap[k]? := heap_setCell_other w ⟨p, i, none⟩ k v h

/-- All that a file is made of stays. -/
theorem FileAt.stay {w w' : World} {p o : Nat} {S : Nat → Prop} {ao : Option Addr} {cap m : Nat} {F : FS} (h : FileAt w p o S ao cap m F)
    (hb : ∀ k, k < w.heap.size → S k → w'.heap[k]? = w.heap[k]?) (hc : ∀ i, o ≤ i → i ≤ o + 2 → w'.cell? ⟨p, i, none⟩ = w.cell? ⟨p, i, none⟩) (hf : ∀ i, w'.frozen? ⟨p, i, none⟩ = w.frozen? ⟨p, i, none⟩) : FileAt w' p o S ao cap m F := by
  exact ⟨(hc o (by omega) (by omega)).trans h.c0, (hc _ (by omega) (by omega)).trans h.c1, (hc _ (by omega) (by omega)).trans h.c2, (hf _).trans h.f0, (hf _).trans h.f1, (hf _).trans h.f2,
    row_stay h.row (fun a ha => hb _ (row_lt h.row a ha) (h.ina a ha)), map_stay h.map (hb m h.map.lt h.inm), h.np, h.ina, h.inm⟩

theorem tight {w : World} {m n : Nat} {D : DataW Unit} (h : w.ownsMap Tryz.prog 3 secR m n D) : w.ownsMap Tryz.prog 3 secR m (Maps.size D) D := by
  obtain ⟨es, clock, hb, F, hs, rfl⟩ := h
  exact ⟨es, clock, hb, F, by rw [Maps.size_eq, length_read]; exact Nat.le_refl _, rfl⟩

/-- All sectors are sure. -/
def syncF (F : FS) : FS := ⟨F.now, F.now, List.replicate F.now.length false⟩

theorem map_ne_cell {w : World} {m n : Nat} {D : DataW Unit} {a : Addr} {v : Value} (h : w.ownsMap Tryz.prog 3 secR m n D) (hc : w.cell? a = some v) : m ≠ a.block := by
  rintro rfl
  obtain ⟨es, clock, hb, _⟩ := h
  simp [World.cell?, hb] at hc

set_option maxHeartbeats 400000 in
theorem settle_raw (p o n cap : Nat) (ao : Option Addr) (s : Int) (m : Option Nat) (w : World)
    (c0 : w.cell? ⟨p, o, none⟩ = some (.slice ao n cap)) (c1 : w.cell? ⟨p, o + 1, none⟩ = some (.int .i64 s)) (c2 : w.cell? ⟨p, o + 2, none⟩ = some (.map m))
    (f1 : w.frozen? ⟨p, o + 1, none⟩ = false) (f2 : w.frozen? ⟨p, o + 2, none⟩ = false) :
    Calls Tryz.prog 40 #[.pointer (some ⟨p, o, none⟩)] w fun e w' => e = .returned (.tuple #[]) ∧ w' = ((w.setCell ⟨p, o + 1, none⟩ (.int .i64 (n : Int))).setCell ⟨p, o + 2, none⟩ (.map (some w.heap.size))).alloc (.map #[] 0) := by
  have mk := fun W => run_makeMap (P := Tryz.prog) 78 W
  have hp : p < w.heap.size := lt_cell c0
  have hp' : ¬ p = w.heap.size := by omega
  go_enter Tryz.func40, Tryz.ntmps40
  go_wp2
  go_end0
  exact ⟨rfl, rfl⟩

theorem settle_any (p o cap : Nat) (S : Nat → Prop) (ao : Option Addr) (s : Int) (mo : Option Nat) (now : List Sec) (w : World)
    (c0 : w.cell? ⟨p, o, none⟩ = some (.slice ao now.length cap)) (c1 : w.cell? ⟨p, o + 1, none⟩ = some (.int .i64 s)) (c2 : w.cell? ⟨p, o + 2, none⟩ = some (.map mo))
    (f0 : w.frozen? ⟨p, o, none⟩ = false) (f1 : w.frozen? ⟨p, o + 1, none⟩ = false) (f2 : w.frozen? ⟨p, o + 2, none⟩ = false)
    (row : w.ownsRow 0 136 128 (.slice ao now.length cap) now.length (secs now)) (np : ¬ S p) (ina : ∀ a, ao = some a → S a.block) :
    Calls Tryz.prog 40 #[.pointer (some ⟨p, o, none⟩)] w fun e w' => e = .returned (.tuple #[]) ∧ FileAt w' p o (From S w) ao cap w.heap.size ⟨now, now, List.replicate now.length false⟩ ∧ FFrame w w' p o S := by
  refine (settle_raw p o now.length cap ao s mo w c0 c1 c2 f1 f2).mono ?_
  rintro e w' ⟨rfl, rfl⟩
  have hp : p < w.heap.size := lt_cell c0
  have hs : ((w.setCell ⟨p, o + 1, none⟩ (.int .i64 (now.length : Int))).setCell ⟨p, o + 2, none⟩ (.map (some w.heap.size))).heap.size = w.heap.size := by simp
  have hc : ∀ (o' : Obj) i, ((((w.setCell ⟨p, o + 1, none⟩ (.int .i64 (now.length : Int))).setCell ⟨p, o + 2, none⟩ (.map (some w.heap.size))).alloc o').cell? ⟨p, i, none⟩) = ((w.setCell ⟨p, o + 1, none⟩ (.int .i64 (now.length : Int))).setCell ⟨p, o + 2, none⟩ (.map (some w.heap.size))).cell? ⟨p, i, none⟩ :=
    fun o' i => World.cell?_alloc_lt _ _ _ (by rw [hs]; exact hp)
  have hfz : ∀ i, ((((w.setCell ⟨p, o + 1, none⟩ (.int .i64 (now.length : Int))).setCell ⟨p, o + 2, none⟩ (.map (some w.heap.size))).alloc (.map #[] 0)).frozen? ⟨p, i, none⟩) = w.frozen? ⟨p, i, none⟩ := fun i => by
    rw [World.frozen?_alloc_old _ _ _ (by rw [hs]; exact Nat.ne_of_lt hp), World.frozen?_setCell, World.frozen?_setCell]
  have hbl : ∀ k, k < w.heap.size → k ≠ p → ((((w.setCell ⟨p, o + 1, none⟩ (.int .i64 (now.length : Int))).setCell ⟨p, o + 2, none⟩ (.map (some w.heap.size))).alloc (.map #[] 0)).heap[k]?) = w.heap[k]? := fun k hk hkp => by
    rw [heap_alloc_old _ _ _ (by rw [hs]; exact hk), set_heap _ _ _ _ _ hkp, set_heap _ _ _ _ _ hkp]
  refine ⟨rfl, ⟨?_, ?_, ?_, ?_, ?_, ?_, ?_, ?_, ?_, ?_, ?_⟩, ⟨rfl, rfl, rfl, ?_, ?_, ?_, ?_⟩⟩
  · rw [hc, set_off _ _ _ (by omega), set_off _ _ _ (by omega)]; exact c0
  · rw [hc, set_off _ _ _ (by omega)]; exact set_same c1
  · rw [hc]; exact set_same ((set_off _ _ _ (by omega)).trans c2)
  · rw [hfz]; exact f0
  · rw [hfz]; exact f1
  · rw [hfz]; exact f2
  · exact row_stay row (fun a ha => hbl _ (row_lt row a ha) (fun e => np (e ▸ ina a ha)))
  · have := World.ownsMap_made ((w.setCell ⟨p, o + 1, none⟩ (.int .i64 (now.length : Int))).setCell ⟨p, o + 2, none⟩ (.map (some w.heap.size))) Tryz.prog 3 secR
    rw [hs] at this
    simpa [dirt_clean, idx_clean] using this
  · rintro (h | h)
    · exact np h
    · omega
  · exact fun a ha => Or.inl (ina a ha)
  · exact Or.inr (Nat.le_refl _)
  · simp
  · exact fun k hk hkp _ => hbl k hk hkp
  · intro i h0 h1 h2
    rw [hc, set_off _ _ _ (by omega), set_off _ _ _ (by omega)]
  · exact hfz

end Go.Proofs.YtokofpbhbjbnfaaGreatDoor.Dsk

/- Laws at an operation, for sectors: a sector is loaded, stored, built, appended; no statement of the seat is proved here. -/
namespace Go.Proofs.YtokofpbhbjbnfaaGreatDoor.Dsk
open Go.RowKit Go.Maps

section
variable {P : Program} {ops : Array Oper} {rest : List Oper} {o : Oper} {a : Act} {w : World} {Q : Exit → Act → World → Prop}

theorem wpList_load_run (hgd : o.guard = none) (ty : TypeId) (x : Operand) (ho : o.op = .load ty x) (ad : Addr) (hx : a.eval x = .pointer (some ad)) (v : Value)
    (hrun : (loadVar ty ad).run P w = .ok v w) (h : wpList P ops Q rest (a.put o.dst v) w) : wpList P ops Q (o :: rest) a w := by
  refine wpList_plain hgd fun K hK => ?_
  unfold Oper.wp
  simp [execOp, ho, hx, Instr.loadAt, Instr.sureAddr, hrun, Result.andThen]
  exact hK _ _ h

theorem wpList_store_run (hgd : o.guard = none) (ty : TypeId) (x y : Operand) (ho : o.op = .store ty x y) (ad : Addr) (hx : a.eval x = .pointer (some ad)) (v : Value) (hy : a.eval y = v) (w' : World)
    (hrun : (storeVar ty ad v).run P w = .ok () w') (h : wpList P ops Q rest (a.put o.dst undef) w') : wpList P ops Q (o :: rest) a w := by
  refine wpList_plain hgd fun K hK => ?_
  unfold Oper.wp
  simp [execOp, ho, hx, hy, Instr.storeAt, Instr.sureAddr, hrun, Result.andThen]
  exact hK _ _ h

theorem wpList_build_run (hgd : o.guard = none) (ty : TypeId) (ho : o.op = .build ty #[]) (v : Value)
    (hrun : (Instr.build ty #[]).run P w = .ok v w) (h : wpList P ops Q rest (a.put o.dst v) w) : wpList P ops Q (o :: rest) a w := by
  refine wpList_plain hgd fun K hK => ?_
  unfold Oper.wp
  simp [execOp, ho, hrun, Result.andThen]
  exact hK _ _ h

theorem wpList_buildSlice_run (hgd : o.guard = none) (ty : TypeId) (x : Operand) (ho : o.op = .buildSlice ty 1 #[(0, x)]) (v u : Value) (hx : a.eval x = v) (w' : World)
    (hrun : (Instr.buildSlice ty 1 #[(0, v)]).run P w = .ok u w') (h : wpList P ops Q rest (a.put o.dst u) w') : wpList P ops Q (o :: rest) a w := by
  refine wpList_plain hgd fun K hK => ?_
  unfold Oper.wp
  simp [execOp, ho, hx, hrun, Result.andThen]
  exact hK _ _ h

theorem wpList_alloc_run (hgd : o.guard = none) (ty : TypeId) (ho : o.op = .alloc ty) (v : Value) (w' : World)
    (hrun : (Instr.alloc ty true (.tuple #[])).run P w = .ok v w') (h : wpList P ops Q rest (a.put o.dst v) w') : wpList P ops Q (o :: rest) a w := by
  refine wpList_plain hgd fun K hK => ?_
  unfold Oper.wp
  simp [execOp, ho, hrun, Result.andThen]
  exact hK _ _ h

theorem wpList_box_run (hgd : o.guard = none) (ty : TypeId) (x : Operand) (ho : o.op = .box ty x) (u v : Value) (hx : a.eval x = u) (w' : World)
    (hrun : (Instr.box ty u).run P w = .ok v w') (h : wpList P ops Q rest (a.put o.dst v) w') : wpList P ops Q (o :: rest) a w := by
  refine wpList_plain hgd fun K hK => ?_
  unfold Oper.wp
  simp [execOp, ho, hx, hrun, Result.andThen]
  exact hK _ _ h
end

theorem here_store {P : Program} {ops : Array Oper} {Q : Exit → Act → World → Prop} {a : Act} {w : World} {rest : List Oper} (ty : TypeId) {x y : Operand} {t : TypeId} {pos : String} {after : Array Edge} {gd : Option (Nat × Bool)}
    (h : wpList P ops Q (⟨none, .store ty x y, t, pos, after, gd⟩ :: rest) a w) : wpList P ops Q (⟨none, .store ty x y, t, pos, after, gd⟩ :: rest) a w := h

theorem build80 (W : World) : (Instr.build 136 #[]).run Tryz.prog W = .ok (secV noughts) W := by kernel_rfl
theorem zero80 (W : World) : (zeroValue 136).run Tryz.prog W = .ok (secV noughts) W := by kernel_rfl
theorem agg80 (W : World) : (isAgg 136).run Tryz.prog W = .ok true W := by kernel_rfl
theorem size80 (W : World) : (Go.sizeOf 136).run Tryz.prog W = .ok 128 W := by kernel_rfl
theorem info80 : (Tryz.prog.info? 136).map (fun i => (i.zero, i.size, i.bytes)) = some (some (secV noughts), 128, 128) := by kernel_rfl
theorem alloc80 (W : World) : (Instr.alloc 136 true (.tuple #[])).run Tryz.prog W = .ok (.pointer (some ⟨W.heap.size, 0, none⟩)) (W.alloc (.cells (bs noughts).toArray 136)) := by kernel_rfl

theorem slice80 (W : World) : (Instr.buildSlice 77 1 #[(0, secV noughts)]).run Tryz.prog W = .ok (.slice (some ⟨W.heap.size, 0, none⟩) 1 1) (W.alloc (.cells (bs noughts).toArray 136)) := by kernel_rfl

theorem load80 {W : World} {ad : Addr} {x : Sec} (hx : x.length = 128) (h : ∀ j v, (bs x)[j]? = some v → W.cell? (ad.add j) = some v) : (loadVar 136 ad).run Tryz.prog W = .ok (secV x) W := by
  have hl := run_loadCells_list (P := Tryz.prog) W ad (bs x) h
  rw [bs_length, hx] at hl
  simp [loadVar, hl, secV]

theorem store80 {W : World} {g : Nat} {x : Sec} {cur : List Value} {t : TypeId} (hx : x.length = 128) (hc : cur.length = 128) (hg : W.heap[g]? = some (.cells cur.toArray t (0, 0))) :
    (storeVar 136 ⟨g, 0, none⟩ (secV x)).run Tryz.prog W = .ok () (W.setRow g (bs x).toArray) := by
  have hs := run_storeCells_at Tryz.prog g 0 t (bs x) 0 cur.toArray W hg (by simp [bs_length, hx, hc]) (bs_one x)
  have hl : (bs x).length = 128 := by rw [bs_length, hx]
  simp [storeVar, secV, Value.cells, hl, hs]
  rw [show List.drop 128 cur = [] from List.drop_eq_nil_of_le (by omega)]
  simp

end Go.Proofs.YtokofpbhbjbnfaaGreatDoor.Dsk
