/- A disk's file in plain words: its sectors now, as they were sure, and which are dirty; what a write, a sync, a cut and a crash make of it. No statement of the seat is proved here. -/
import Derived.Test.YtkgenmooepfhjaaRows
import Derived.Maps.Ext
import Derived.Lib.SlMapFilter
import Derived.Lib.SlKeysI
namespace Go.Proofs.Ytkgenmooepfhjaa
open Go.Maps

abbrev Sec := List Nat
def noughts : Sec := List.replicate 128 0
theorem noughts_length : noughts.length = 128 := by simp [noughts]

structure FS where
  now : List Sec
  old : List Sec
  dirt : List Bool

/-- What was sure of sector i. -/
def was (old : List Sec) (i : Nat) : Sec := old.getD i noughts

structure FS.Ok (F : FS) : Prop where
  ld : F.dirt.length = F.now.length
  lo : F.old.length ≤ F.now.length
  sn : ∀ x ∈ F.now, x.length = 128
  so : ∀ x ∈ F.old, x.length = 128
  cl : ∀ i, i < F.now.length → F.dirt.getD i false = false → i < F.old.length ∧ F.now.getD i [] = was F.old i

def secD (x : Sec) : DataW Unit := .agg (x.map fun n : Nat => .lit (.int .u8 (n : Int)))
theorem secD_inj {x y : Sec} (h : secD x = secD y) : x = y := by
  simp only [secD, DataW.agg.injEq] at h
  induction x generalizing y with
  | nil => cases y <;> simp_all
  | cons a r ih =>
    cases y with
    | nil => simp at h
    | cons b t =>
      simp only [List.map_cons, List.cons.injEq, DataW.lit.injEq, Lit.int.injEq, true_and] at h
      rw [ih h.2, Int.ofNat_inj.1 h.1]

/-- Which are dirty, rising. -/
def idx (dirt : List Bool) : List Nat := (List.range dirt.length).filter fun i => dirt.getD i false
def entry (old : List Sec) (i : Nat) : Lit × DataW Unit := (.int .i64 (i : Int), secD (was old i))
def dirtD (dirt : List Bool) (old : List Sec) : DataW Unit := .map ((idx dirt).map (entry old))

theorem mem_idx {dirt : List Bool} {i : Nat} : i ∈ idx dirt ↔ dirt.getD i false = true := by
  simp only [idx, List.mem_filter, List.mem_range]
  constructor
  · exact fun h => h.2
  · intro h
    refine ⟨?_, h⟩
    rcases Nat.lt_or_ge i dirt.length with h1 | h1
    · exact h1
    · simp [List.getD, List.getElem?_eq_none h1] at h

theorem idx_rising (dirt : List Bool) : (idx dirt).Pairwise (· < ·) := List.Pairwise.filter _ List.pairwise_lt_range

theorem idx_lt {dirt : List Bool} {i : Nat} (h : i ∈ idx dirt) : i < dirt.length := by
  simpa using (List.mem_filter.1 h).1

theorem canon_dirt (dirt : List Bool) (old : List Sec) : Canon (dirtD dirt old) := by
  refine ⟨_, rfl, ?_, ?_⟩
  · refine List.pairwise_map.2 ((idx_rising dirt).imp ?_)
    intro a b hab
    simp only [entry, Lit.before, decide_eq_true_eq]
    omega
  · intro p hp
    obtain ⟨i, _, rfl⟩ := List.mem_map.1 hp
    trivial

theorem has_dirt (dirt : List Bool) (old : List Sec) (i : Nat) : has (dirtD dirt old) (.int .i64 (i : Int)) = dirt.getD i false := by
  rw [dirtD, has_eq]
  cases h : dirt.getD i false
  · rw [List.any_eq_false]
    intro p hp hs
    obtain ⟨j, hj, rfl⟩ := List.mem_map.1 hp
    have hij : j = i := by
      have := WideAt.sameKey_eq hs
      simp only [entry, Lit.int.injEq, true_and] at this
      omega
    subst hij
    rw [mem_idx, h] at hj
    cases hj
  · exact List.any_eq_true.2 ⟨entry old i, List.mem_map.2 ⟨i, mem_idx.2 h, rfl⟩, WideAt.sameKey_self trivial⟩

theorem at_dirt (dirt : List Bool) (old : List Sec) (i : Nat) (h : dirt.getD i false = true) (z : DataW Unit) : (dirtD dirt old).atKey (.int .i64 (i : Int)) z = secD (was old i) := by
  have hc := canon_dirt dirt old
  obtain ⟨es, he, hr, _⟩ := hc
  have hm : entry old i ∈ es := by
    have : entry old i ∈ (idx dirt).map (entry old) := List.mem_map.2 ⟨i, mem_idx.2 h, rfl⟩
    simp only [dirtD, DataW.map.injEq] at he
    rw [← he]; exact this
  rw [he]
  exact WideAt.atKey_mem z trivial (apart_of_rising hr) hm

theorem size_dirt (dirt : List Bool) (old : List Sec) : Maps.size (dirtD dirt old) = (idx dirt).length := by simp [dirtD, size_eq]

theorem keys_dirt (dirt : List Bool) (old : List Sec) : intKeys (dirtD dirt old) = (idx dirt).map fun i : Nat => (i : Int) := by
  simp [dirtD, intKeys, Function.comp_def, entry, intOf]

/-- The entries of a map, by its members: two such maps are one. -/
theorem dirt_ext {D : DataW Unit} (hc : Canon D) (dirt : List Bool) (old : List Sec) (h : ∀ es, D = .map es → ∀ p, p ∈ es ↔ ∃ i, dirt.getD i false = true ∧ p = entry old i) : D = dirtD dirt old := by
  obtain ⟨es, rfl, hr, _⟩ := hc
  obtain ⟨es2, he2, hr2, _⟩ := canon_dirt dirt old
  rw [he2]
  congr 1
  refine eq_of_mem_rising hr hr2 fun p => ?_
  rw [h es rfl p]
  simp only [dirtD, DataW.map.injEq] at he2
  rw [← he2]
  simp only [List.mem_map, mem_idx]
  constructor
  · rintro ⟨i, hi, rfl⟩; exact ⟨i, hi, rfl⟩
  · rintro ⟨i, hi, rfl⟩; exact ⟨i, hi, rfl⟩

theorem mem_insert {x p : Lit × DataW Unit} : ∀ {l : List (Lit × DataW Unit)}, p ∈ DataW.insert x l ↔ p = x ∨ p ∈ l
  | [] => by simp [DataW.insert]
  | y :: r => by
    unfold DataW.insert
    split
    · simp
    · simp only [List.mem_cons, mem_insert (l := r)]
      constructor
      · rintro (h | h | h) <;> simp [h]
      · rintro (h | h | h) <;> simp [h]

/-- A sector that was not dirty is noted. -/
theorem put_dirt {dirt dirt' : List Bool} {old : List Sec} {i : Nat} (h0 : dirt.getD i false = false) (hd : ∀ j, dirt'.getD j false = (dirt.getD j false || decide (j = i)))
    (hc : Canon ((dirtD dirt old).put (.int .i64 (i : Int)) (secD (was old i)))) : (dirtD dirt old).put (.int .i64 (i : Int)) (secD (was old i)) = dirtD dirt' old := by
  refine dirt_ext hc dirt' old fun es he p => ?_
  simp only [dirtD, DataW.put, DataW.map.injEq] at he
  rw [← he, mem_insert, List.mem_filter]
  constructor
  · rintro (rfl | ⟨hp, _⟩)
    · exact ⟨i, by rw [hd]; simp, rfl⟩
    · obtain ⟨j, hj, rfl⟩ := List.mem_map.1 hp
      exact ⟨j, by rw [hd, mem_idx.1 hj]; rfl, rfl⟩
  · rintro ⟨j, hj, rfl⟩
    by_cases hji : j = i
    · subst hji; left; rfl
    · right
      rw [hd] at hj
      simp only [hji, decide_false, Bool.or_false] at hj
      refine ⟨List.mem_map.2 ⟨j, mem_idx.2 hj, rfl⟩, ?_⟩
      simp only [entry, Lit.sameKey, true_and, Bool.not_eq_true', decide_eq_false_iff_not]
      omega

/-- What stands behind a cut is noted no more. -/
theorem cut_dirt (dirt : List Bool) (old old' : List Sec) (n : Nat) (ho : ∀ i, i < n → was old' i = was old i) :
    Lib.deleteFuncD (fun kl _ => match kl with | .int _ a => decide ((n : Int) ≤ a) | _ => false) (dirtD dirt old) = dirtD (dirt.take n) old' := by
  have hc : Canon (Lib.deleteFuncD (fun kl _ => match kl with | .int _ a => decide ((n : Int) ≤ a) | _ => false) (dirtD dirt old)) := by
    obtain ⟨es, he, hr, hk⟩ := canon_dirt dirt old
    rw [he]
    exact ⟨_, rfl, hr.filter _, fun p hp => hk p (List.mem_filter.1 hp).1⟩
  refine dirt_ext hc _ _ fun es he p => ?_
  simp only [dirtD, Lib.deleteFuncD, DataW.map.injEq] at he
  rw [← he, List.mem_filter]
  constructor
  · rintro ⟨hp, hq⟩
    obtain ⟨j, hj, rfl⟩ := List.mem_map.1 hp
    simp only [entry, Bool.not_eq_true', decide_eq_false_iff_not] at hq
    have hjn : j < n := by omega
    refine ⟨j, ?_, by simp [entry, ho j hjn]⟩
    have := mem_idx.1 hj
    simpa [List.getD, List.getElem?_take, hjn] using this
  · rintro ⟨j, hj, rfl⟩
    have hjn : j < n := by
      rcases Nat.lt_or_ge j n with h | h
      · exact h
      · exfalso
        rw [List.getD, List.getElem?_eq_none (by simp; omega)] at hj
        cases hj
    refine ⟨List.mem_map.2 ⟨j, mem_idx.2 ?_, by simp [entry, ho j hjn]⟩, ?_⟩
    · simpa [List.getD, List.getElem?_take, hjn] using hj
    · simp only [entry, Bool.not_eq_true', decide_eq_false_iff_not]
      omega

theorem idx_clean (n : Nat) : idx (List.replicate n false) = [] := by
  rw [List.eq_nil_iff_forall_not_mem]
  intro i hi
  rw [mem_idx] at hi
  simp only [List.getD, List.getElem?_replicate] at hi
  split at hi <;> simp at hi

theorem dirt_clean (n : Nat) (old : List Sec) : dirtD (List.replicate n false) old = .map [] := by simp [dirtD, idx_clean]

/-- The keys, sorted. -/
theorem keys_sorted {ss : List Int} {dirt : List Bool} {old : List Sec} (h : ss.Perm (intKeys (dirtD dirt old))) : ss.mergeSort (fun x y => decide (x ≤ y)) = (idx dirt).map fun i : Nat => (i : Int) := by
  rw [keys_dirt] at h
  refine List.Perm.eq_of_pairwise (le := fun a b : Int => a ≤ b) (fun a b _ _ h1 h2 => Int.le_antisymm h1 h2) ?_ ?_ ((List.mergeSort_perm _ _).trans h)
  · have := List.pairwise_mergeSort (le := fun x y : Int => decide (x ≤ y)) (fun a b c h1 h2 => by simp only [decide_eq_true_eq] at *; omega) (fun a b => by simp only [Bool.or_eq_true, decide_eq_true_eq]; omega) ss
    exact this.imp (fun h => by simpa using h)
  · exact List.pairwise_map.2 ((idx_rising dirt).imp (fun h => by omega))

end Go.Proofs.Ytkgenmooepfhjaa
