/- How a file of a disk lies in memory, and what settle does; no statement of the seat is proved here. -/
import Derived.Test.YtkgenmooepfhjaaAa
import Derived.Deep.AppendLies
namespace Go.Proofs.Ytkgenmooepfhjaa
open Go.RowKit Go.Maps

def secV (x : Sec) : Value := .agg (bs x).toArray
theorem bs_inj {x y : List Nat} (h : bs x = bs y) : x = y := by
  induction x generalizing y with
  | nil => cases y <;> simp_all [bs]
  | cons a r ih =>
    cases y with
    | nil => simp [bs] at h
    | cons b t =>
      simp only [bs, List.map_cons, List.cons.injEq, Value.int.injEq, true_and] at h
      rw [ih h.2, Int.ofNat_inj.1 h.1]
theorem secV_inj {x y : Sec} (h : secV x = secV y) : x = y := by
  simp only [secV, Value.agg.injEq] at h
  exact bs_inj (by simpa using congrArg Array.toList h)

def byteOf : Value → Option Nat
  | .int .u8 a => if 0 ≤ a then some a.toNat else none
  | _ => none
def bytesOf : List Value → Option (List Nat)
  | [] => some []
  | v :: r => match byteOf v, bytesOf r with
    | some n, some x => some (n :: x)
    | _, _ => none
theorem bytesOf_bs (x : List Nat) : bytesOf (bs x) = some x := by
  induction x with
  | nil => rfl
  | cons a r ih =>
    have e : bs (a :: r) = .int .u8 (a : Int) :: bs r := rfl
    rw [e, bytesOf, ih]
    simp [byteOf]
theorem bs_bytesOf {l : List Value} {x : List Nat} (h : bytesOf l = some x) : l = bs x := by
  induction l generalizing x with
  | nil => cases h; rfl
  | cons v r ih =>
    rw [bytesOf] at h
    split at h
    · rename_i n y hn hy
      cases h
      rw [ih hy]
      unfold byteOf at hn
      split at hn
      · split at hn
        · rename_i a h0
          cases hn
          simp [bs, Int.toNat_of_nonneg h0]
        · cases hn
      · cases hn
    · cases h

/-- How a sector reads as a map's element. -/
def secR : Value → Option (DataW Unit × List MemPlace)
  | .agg cs => match bytesOf cs.toList with
    | some x => some (secD x, [])
    | none => none
  | _ => none
theorem secR_mk (x : Sec) : secR (secV x) = some (secD x, []) := by
  simp [secR, secV, bytesOf_bs]
theorem secR_inv {v : Value} {x : Sec} {ps : List MemPlace} (h : secR v = some (secD x, ps)) : v = secV x := by
  unfold secR at h
  split at h
  · rename_i cs
    split at h
    · rename_i y hy
      simp only [Option.some.injEq, Prod.mk.injEq] at h
      have e := bs_bytesOf hy
      have e2 := secD_inj h.1
      subst e2
      simp [secV, ← e]
    · cases h
  · cases h

/-- The cells of sectors that stand one behind the other. -/
def secs (l : List Sec) : List Value := bs l.flatten

/-- Blocks that were there, or that are new. -/
def From (S : Nat → Prop) (w : World) : Nat → Prop := fun k => S k ∨ w.heap.size ≤ k

structure FileAt (w : World) (p o : Nat) (S : Nat → Prop) (ao : Option Addr) (cap m : Nat) (F : FS) : Prop where
  c0 : w.cell? ⟨p, o, none⟩ = some (.slice ao F.now.length cap)
  c1 : w.cell? ⟨p, o + 1, none⟩ = some (.int .i64 (F.old.length : Int))
  c2 : w.cell? ⟨p, o + 2, none⟩ = some (.map (some m))
  f0 : w.frozen? ⟨p, o, none⟩ = false
  f1 : w.frozen? ⟨p, o + 1, none⟩ = false
  f2 : w.frozen? ⟨p, o + 2, none⟩ = false
  row : w.ownsRow 0 80 128 (.slice ao F.now.length cap) F.now.length (secs F.now)
  map : w.ownsMap Try.prog 3 secR m (idx F.dirt).length (dirtD F.dirt F.old)
  np : ¬ S p
  ina : ∀ a, ao = some a → S a.block
  inm : S m

structure FFrame (w w' : World) (p o : Nat) (S : Nat → Prop) : Prop where
  os : w'.os = w.os
  tape : w'.tape = w.tape
  output : w'.output = w.output
  size : w.heap.size ≤ w'.heap.size
  block : ∀ k, k < w.heap.size → k ≠ p → ¬ S k → w'.heap[k]? = w.heap[k]?
  cell : ∀ i, i ≠ o → i ≠ o + 1 → i ≠ o + 2 → w'.cell? ⟨p, i, none⟩ = w.cell? ⟨p, i, none⟩
  fz : ∀ i, w'.frozen? ⟨p, i, none⟩ = w.frozen? ⟨p, i, none⟩

theorem FFrame.refl (w : World) (p o : Nat) (S : Nat → Prop) : FFrame w w p o S := ⟨rfl, rfl, rfl, Nat.le_refl _, fun _ _ _ _ => rfl, fun _ _ _ _ => rfl, fun _ => rfl⟩
theorem FFrame.trans {w w1 w2 : World} {p o : Nat} {S : Nat → Prop} (h : FFrame w w1 p o S) (k : FFrame w1 w2 p o (From S w)) : FFrame w w2 p o S :=
  ⟨k.os.trans h.os, k.tape.trans h.tape, k.output.trans h.output, Nat.le_trans h.size k.size,
   fun i hi hp hS => (k.block i (Nat.lt_of_lt_of_le hi h.size) hp (fun hf => by rcases hf with h1 | h1; exact hS h1; omega)).trans (h.block i hi hp hS),
   fun i h0 h1 h2 => (k.cell i h0 h1 h2).trans (h.cell i h0 h1 h2), fun i => (k.fz i).trans (h.fz i)⟩

theorem from_from {S : Nat → Prop} {w w1 : World} (h : w.heap.size ≤ w1.heap.size) (k : Nat) : From (From S w) w1 k ↔ From S w k := by
  unfold From
  constructor
  · rintro ((h1 | h1) | h1)
    · exact Or.inl h1
    · exact Or.inr h1
    · exact Or.inr (by omega)
  · exact Or.inl

theorem FileAt.plt {w : World} {p o : Nat} {S : Nat → Prop} {ao : Option Addr} {cap m : Nat} {F : FS} (h : FileAt w p o S ao cap m F) : p < w.heap.size := lt_cell h.c0

theorem FileAt.imp {w : World} {p o : Nat} {S S' : Nat → Prop} {ao : Option Addr} {cap m : Nat} {F : FS} (h : FileAt w p o S ao cap m F) (hi : ∀ k, S k → S' k) (hp : ¬ S' p) : FileAt w p o S' ao cap m F :=
  ⟨h.c0, h.c1, h.c2, h.f0, h.f1, h.f2, h.row, h.map, hp, fun a ha => hi _ (h.ina a ha), hi _ h.inm⟩

theorem FileAt.up {w : World} {p o : Nat} {S : Nat → Prop} {ao : Option Addr} {cap m : Nat} {F : FS} (h : FileAt w p o S ao cap m F) : FileAt w p o (From S w) ao cap m F :=
  h.imp (fun _ => Or.inl) (fun hf => by rcases hf with h1 | h1; exact h.np h1; have := h.plt; omega)

theorem row_stay {w w' : World} {base n cap : Nat} {e : TypeId} {sz : Nat} {ao : Option Addr} {xs : List Value} (h : w.ownsRow base e sz (.slice ao n cap) n xs) (hb : ∀ a, ao = some a → w'.heap[a.block]? = w.heap[a.block]?) : w'.ownsRow base e sz (.slice ao n cap) n xs := by
  refine ⟨h.1, ?_⟩
  rcases h.2 with hn | ⟨g, cap', cur, hv, hb', hg, hr⟩
  · exact .inl hn
  · simp only [Value.slice.injEq, true_and] at hv
    obtain ⟨rfl, rfl⟩ := hv
    exact .inr ⟨g, cap, cur, rfl, hb', (hb _ rfl).trans hg, hr⟩
theorem map_stay {w w' : World} {m n : Nat} {D : DataW Unit} (h : w.ownsMap Try.prog 3 secR m n D) (hb : w'.heap[m]? = w.heap[m]?) : w'.ownsMap Try.prog 3 secR m n D := by
  obtain ⟨es, clock, hg, hF, hs', hD⟩ := h
  exact ⟨es, clock, hb.trans hg, hF, hs', hD⟩
theorem row_lt {w : World} {base n cap : Nat} {e : TypeId} {sz : Nat} {ao : Option Addr} {xs : List Value} (h : w.ownsRow base e sz (.slice ao n cap) n xs) : ∀ a, ao = some a → a.block < w.heap.size := by
  intro a ha
  rcases h.2 with ⟨hn, _⟩ | ⟨g, cap', cur, hv, hb', hg, hr⟩
  · simp only [Value.slice.injEq] at hn; rw [ha] at hn; simp at hn
  · simp only [Value.slice.injEq] at hv
    obtain ⟨rfl, _⟩ := hv
    cases ha
    exact (Array.getElem?_eq_some_iff.1 hg).1

theorem set_same {w : World} {p i : Nat} {u v : Value} (h : w.cell? ⟨p, i, none⟩ = some u) : (w.setCell ⟨p, i, none⟩ v).cell? ⟨p, i, none⟩ = some v := World.cell?_setCell_same _ _ _ h
theorem set_off (w : World) (p : Nat) {i j : Nat} (v : Value) (h : i ≠ j) : (w.setCell ⟨p, i, none⟩ v).cell? ⟨p, j, none⟩ = w.cell? ⟨p, j, none⟩ := World.cell?_setCell_other _ _ _ _ (by intro e; cases e; exact h rfl)
theorem set_heap (w : World) (p i k : Nat) (v : Value) (h : k ≠ p) : (w.setCell ⟨p, i, none⟩ v).heap[k]? = w.heap[k]? := heap_setCell_other w ⟨p, i, none⟩ k v h

/-- All that a file is made of stays. -/
theorem FileAt.stay {w w' : World} {p o : Nat} {S : Nat → Prop} {ao : Option Addr} {cap m : Nat} {F : FS} (h : FileAt w p o S ao cap m F)
    (hb : ∀ k, k < w.heap.size → S k → w'.heap[k]? = w.heap[k]?) (hc : ∀ i, o ≤ i → i ≤ o + 2 → w'.cell? ⟨p, i, none⟩ = w.cell? ⟨p, i, none⟩) (hf : ∀ i, w'.frozen? ⟨p, i, none⟩ = w.frozen? ⟨p, i, none⟩) : FileAt w' p o S ao cap m F := by
  exact ⟨(hc o (by omega) (by omega)).trans h.c0, (hc _ (by omega) (by omega)).trans h.c1, (hc _ (by omega) (by omega)).trans h.c2, (hf _).trans h.f0, (hf _).trans h.f1, (hf _).trans h.f2,
    row_stay h.row (fun a ha => hb _ (row_lt h.row a ha) (h.ina a ha)), map_stay h.map (hb m h.map.lt h.inm), h.np, h.ina, h.inm⟩

theorem tight {w : World} {m n : Nat} {D : DataW Unit} (h : w.ownsMap Try.prog 3 secR m n D) : w.ownsMap Try.prog 3 secR m (Maps.size D) D := by
  obtain ⟨es, clock, hb, F, hs, rfl⟩ := h
  exact ⟨es, clock, hb, F, by rw [Maps.size_eq, length_read]; exact Nat.le_refl _, rfl⟩

/-- All sectors are sure. -/
def syncF (F : FS) : FS := ⟨F.now, F.now, List.replicate F.now.length false⟩

theorem map_ne_cell {w : World} {m n : Nat} {D : DataW Unit} {a : Addr} {v : Value} (h : w.ownsMap Try.prog 3 secR m n D) (hc : w.cell? a = some v) : m ≠ a.block := by
  rintro rfl
  obtain ⟨es, clock, hb, _⟩ := h
  simp [World.cell?, hb] at hc

set_option maxHeartbeats 400000 in
theorem settle_raw (p o n cap : Nat) (ao : Option Addr) (s : Int) (m : Option Nat) (w : World)
    (c0 : w.cell? ⟨p, o, none⟩ = some (.slice ao n cap)) (c1 : w.cell? ⟨p, o + 1, none⟩ = some (.int .i64 s)) (c2 : w.cell? ⟨p, o + 2, none⟩ = some (.map m))
    (f1 : w.frozen? ⟨p, o + 1, none⟩ = false) (f2 : w.frozen? ⟨p, o + 2, none⟩ = false) :
    Calls Try.prog 30 #[.pointer (some ⟨p, o, none⟩)] w fun e w' => e = .returned (.tuple #[]) ∧ w' = ((w.setCell ⟨p, o + 1, none⟩ (.int .i64 (n : Int))).setCell ⟨p, o + 2, none⟩ (.map (some w.heap.size))).alloc (.map #[] 0) := by
  have mk := fun W => run_makeMap (P := Try.prog) 58 W
  have hp : p < w.heap.size := lt_cell c0
  have hp' : ¬ p = w.heap.size := by omega
  go_enter Try.func30, Try.ntmps30
  go_wp2
  go_end0
  exact ⟨rfl, rfl⟩

theorem settle_any (p o cap : Nat) (S : Nat → Prop) (ao : Option Addr) (s : Int) (mo : Option Nat) (now : List Sec) (w : World)
    (c0 : w.cell? ⟨p, o, none⟩ = some (.slice ao now.length cap)) (c1 : w.cell? ⟨p, o + 1, none⟩ = some (.int .i64 s)) (c2 : w.cell? ⟨p, o + 2, none⟩ = some (.map mo))
    (f0 : w.frozen? ⟨p, o, none⟩ = false) (f1 : w.frozen? ⟨p, o + 1, none⟩ = false) (f2 : w.frozen? ⟨p, o + 2, none⟩ = false)
    (row : w.ownsRow 0 80 128 (.slice ao now.length cap) now.length (secs now)) (np : ¬ S p) (ina : ∀ a, ao = some a → S a.block) :
    Calls Try.prog 30 #[.pointer (some ⟨p, o, none⟩)] w fun e w' => e = .returned (.tuple #[]) ∧ FileAt w' p o (From S w) ao cap w.heap.size ⟨now, now, List.replicate now.length false⟩ ∧ FFrame w w' p o S := by
  refine (settle_raw p o now.length cap ao s mo w c0 c1 c2 f1 f2).mono ?_
  rintro e w' ⟨rfl, rfl⟩
  have hp : p < w.heap.size := lt_cell c0
  have hs : ((w.setCell ⟨p, o + 1, none⟩ (.int .i64 (now.length : Int))).setCell ⟨p, o + 2, none⟩ (.map (some w.heap.size))).heap.size = w.heap.size := by simp
  have hc : ∀ (o' : Obj) i, ((((w.setCell ⟨p, o + 1, none⟩ (.int .i64 (now.length : Int))).setCell ⟨p, o + 2, none⟩ (.map (some w.heap.size))).alloc o').cell? ⟨p, i, none⟩) = ((w.setCell ⟨p, o + 1, none⟩ (.int .i64 (now.length : Int))).setCell ⟨p, o + 2, none⟩ (.map (some w.heap.size))).cell? ⟨p, i, none⟩ :=
    fun o' i => World.cell?_alloc_lt _ _ _ (by rw [hs]; exact hp)
  have hfz : ∀ i, ((((w.setCell ⟨p, o + 1, none⟩ (.int .i64 (now.length : Int))).setCell ⟨p, o + 2, none⟩ (.map (some w.heap.size))).alloc (.map #[] 0)).frozen? ⟨p, i, none⟩) = w.frozen? ⟨p, i, none⟩ := fun i => by
    rw [World.frozen?_alloc_old _ _ _ (by rw [hs]; exact Nat.ne_of_lt hp), World.frozen?_setCell, World.frozen?_setCell]
  have hbl : ∀ k, k < w.heap.size → k ≠ p → ((((w.setCell ⟨p, o + 1, none⟩ (.int .i64 (now.length : Int))).setCell ⟨p, o + 2, none⟩ (.map (some w.heap.size))).alloc (.map #[] 0)).heap[k]?) = w.heap[k]? := fun k hk hkp => by
    rw [heap_alloc_old _ _ _ (by rw [hs]; exact hk), set_heap _ _ _ _ _ hkp, set_heap _ _ _ _ _ hkp]
  refine ⟨rfl, ⟨?_, ?_, ?_, ?_, ?_, ?_, ?_, ?_, ?_, ?_, ?_⟩, ⟨rfl, rfl, rfl, ?_, ?_, ?_, ?_⟩⟩
  · rw [hc, set_off _ _ _ (by omega), set_off _ _ _ (by omega)]; exact c0
  · rw [hc, set_off _ _ _ (by omega)]; exact set_same c1
  · rw [hc]; exact set_same ((set_off _ _ _ (by omega)).trans c2)
  · rw [hfz]; exact f0
  · rw [hfz]; exact f1
  · rw [hfz]; exact f2
  · exact row_stay row (fun a ha => hbl _ (row_lt row a ha) (fun e => np (e ▸ ina a ha)))
  · have := World.ownsMap_made ((w.setCell ⟨p, o + 1, none⟩ (.int .i64 (now.length : Int))).setCell ⟨p, o + 2, none⟩ (.map (some w.heap.size))) Try.prog 3 secR
    rw [hs] at this
    simpa [dirt_clean, idx_clean] using this
  · rintro (h | h)
    · exact np h
    · omega
  · exact fun a ha => Or.inl (ina a ha)
  · exact Or.inr (Nat.le_refl _)
  · simp
  · exact fun k hk hkp _ => hbl k hk hkp
  · intro i h0 h1 h2
    rw [hc, set_off _ _ _ (by omega), set_off _ _ _ (by omega)]
  · exact hfz

end Go.Proofs.Ytkgenmooepfhjaa
