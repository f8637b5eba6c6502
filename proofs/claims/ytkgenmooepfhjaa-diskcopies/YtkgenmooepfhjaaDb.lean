/- What a cut makes of a file, and Cut of a disk; no statement of the seat is proved here. -/
import Derived.Test.YtkgenmooepfhjaaDa
namespace Go.Proofs.Ytkgenmooepfhjaa
open Go.RowKit Go.Maps

/-- The file behind a cut. -/
def cutF (F : FS) (n : Nat) : FS := ⟨F.now.take n, F.old.take n ++ List.replicate (n - F.old.length) noughts, F.dirt.take n⟩

theorem cutF_old (F : FS) (n : Nat) : (cutF F n).old.length = n := by simp [cutF]; omega
theorem cutF_now (F : FS) (n : Nat) (h : n ≤ F.now.length) : (cutF F n).now.length = n := by simp [cutF]; omega
theorem cutF_was (F : FS) (n i : Nat) (h : i < n) : was (cutF F n).old i = was F.old i := by
  simp only [was, cutF, List.getD, List.getElem?_append, List.length_take, List.getElem?_take, List.getElem?_replicate]
  by_cases h1 : i < F.old.length
  · rw [if_pos (by omega), if_pos h]
  · rw [if_neg (by omega), if_pos (by omega), List.getElem?_eq_none (by omega)]; rfl
theorem cutF_ok {F : FS} (ok : F.Ok) {n : Nat} (h : n ≤ F.now.length) : (cutF F n).Ok := by
  refine ⟨by simp [cutF, ok.ld], by rw [cutF_old, cutF_now F n h]; exact Nat.le_refl _, fun x hx => ok.sn x (List.mem_of_mem_take hx), fun x hx => ?_, fun i hi hd => ?_⟩
  · rcases List.mem_append.1 hx with h1 | h1
    · exact ok.so x (List.mem_of_mem_take h1)
    · rw [List.eq_of_mem_replicate h1]; exact noughts_length
  · rw [cutF_now F n h] at hi
    refine ⟨by rw [cutF_old]; exact hi, ?_⟩
    rw [cutF_was F n i hi]
    have e1 : (cutF F n).dirt.getD i false = F.dirt.getD i false := by simp [cutF, List.getD, hi]
    have e2 : (cutF F n).now.getD i [] = F.now.getD i [] := by simp [cutF, List.getD, hi]
    rw [e1] at hd; rw [e2]
    exact (ok.cl i (by omega) hd).2

set_option maxHeartbeats 4000000 in
theorem cut_raw (p o n L cap : Nat) (ao : Option Addr) (s : Int) (m : Nat) (w : World) (R : World → Prop)
    (c0 : w.cell? ⟨p, o, none⟩ = some (.slice ao L cap)) (c1 : w.cell? ⟨p, o + 1, none⟩ = some (.int .i64 s)) (c2 : w.cell? ⟨p, o + 2, none⟩ = some (.map (some m)))
    (f0 : w.frozen? ⟨p, o, none⟩ = false) (f1 : w.frozen? ⟨p, o + 1, none⟩ = false) (hn : n ≤ L) (hL : L ≤ cap)
    (hdo : Calls Try.prog 63 #[.map (some m), .func (.func 64) #[] #[.pointer (some ⟨w.heap.size, 0, none⟩)]] ((((w.setCell ⟨p, o, none⟩ (.slice ao n cap)).setCell ⟨p, o + 1, none⟩ (.int .i64 (n : Int))).alloc (.cells #[.int .i64 (n : Int)] 3)).drew) fun e w' => e = .returned (.tuple #[]) ∧ R w') :
    Calls Try.prog 54 #[.pointer (some ⟨p, o, none⟩), .int .i64 (n : Int)] w fun e w' => e = .returned (.tuple #[]) ∧ R w' := by
  have hp : p < w.heap.size := lt_cell c0
  have hp' : ¬ p = w.heap.size := by omega
  have hn' : (n : Int) ≤ (cap : Int) := by omega
  have HD := hid hdo
  clear hdo
  go_enter Try.func54, Try.ntmps54
  go_wp2_with fail
  go_region
  go_wp2_with (go_at_call 63; refine HD.out.mono ?_; rintro e w3 ⟨rfl, hR⟩; replace hR := hid hR)
  go_end0
  exact ⟨rfl, hR.out⟩

theorem cut_any (p o cap m n : Nat) (S : Nat → Prop) (ao : Option Addr) (F : FS) (w : World) (h : FileAt w p o S ao cap m F) (ok : F.Ok) (hn : n ≤ F.now.length) :
    Calls Try.prog 54 #[.pointer (some ⟨p, o, none⟩), .int .i64 (n : Int)] w fun e w' => e = .returned (.tuple #[]) ∧ FileAt w' p o (From S w) ao cap m (cutF F n) ∧ FFrame w w' p o S := by
  have hcap : F.now.length ≤ cap := by
    rcases h.row.2 with ⟨_, hz⟩ | ⟨g, cap', cur, hv', _, _, hnc, _⟩
    · omega
    · simp only [Value.slice.injEq] at hv'; obtain ⟨_, _, rfl⟩ := hv'; exact hnc
  have hpl := h.plt
  obtain ⟨w2, hw2⟩ : ∃ w2, w2 = ((((w.setCell ⟨p, o, none⟩ (.slice ao n cap)).setCell ⟨p, o + 1, none⟩ (.int .i64 (n : Int))).alloc (.cells #[.int .i64 (n : Int)] 3)).drew) := ⟨_, rfl⟩
  have hs : ((w.setCell ⟨p, o, none⟩ (.slice ao n cap)).setCell ⟨p, o + 1, none⟩ (.int .i64 (n : Int))).heap.size = w.heap.size := by simp
  have hsz : w2.heap.size = w.heap.size + 1 := by rw [hw2]; simp
  have hcell : ∀ i, w2.cell? ⟨p, i, none⟩ = ((w.setCell ⟨p, o, none⟩ (.slice ao n cap)).setCell ⟨p, o + 1, none⟩ (.int .i64 (n : Int))).cell? ⟨p, i, none⟩ := fun i => by
    rw [hw2]; exact World.cell?_alloc_lt _ _ _ (by rw [hs]; exact hpl)
  have hblk : ∀ k, k < w.heap.size → k ≠ p → w2.heap[k]? = w.heap[k]? := fun k hk hkp => by
    rw [hw2]
    exact (heap_alloc_old _ _ _ (by rw [hs]; exact hk)).trans ((set_heap _ _ _ _ _ hkp).trans (set_heap _ _ _ _ _ hkp))
  have hfz : ∀ i, w2.frozen? ⟨p, i, none⟩ = w.frozen? ⟨p, i, none⟩ := fun i => by
    rw [hw2]
    refine (World.frozen?_alloc_old _ _ _ (by rw [hs]; exact Nat.ne_of_lt hpl)).trans ?_
    rw [World.frozen?_setCell, World.frozen?_setCell]
  have hB : w2.cell? ⟨w.heap.size, 0, none⟩ = some (.int .i64 (n : Int)) := by
    rw [hw2]; exact (World.cell?_alloc_at _ _ _ _ hs.symm).trans rfl
  have hmp : m ≠ p := fun e => h.np (e ▸ h.inm)
  have hml := h.map.lt
  have hmap2 : w2.ownsMap Try.prog 3 secR m (idx F.dirt).length (dirtD F.dirt F.old) := map_stay h.map (hblk m hml hmp)
  have cd := delete_secs F.dirt F.old n w.heap.size m _ w2 (was_len ok) hmap2 hB (by omega)
  rw [hw2] at cd
  refine (cut_raw p o n F.now.length cap ao _ m w _ h.c0 h.c1 h.c2 h.f0 h.f1 hn hcap cd).mono ?_
  rintro e w' ⟨rfl, hm', hg⟩
  rw [← hw2] at hg
  have e1 : Lib.deleteFuncD (behind n) (dirtD F.dirt F.old) = dirtD (cutF F n).dirt (cutF F n).old := cut_dirt F.dirt F.old _ n (cutF_was F n)
  rw [e1] at hm'
  have hm2 := tight hm'
  rw [size_dirt] at hm2
  have hc' : ∀ i, w'.cell? ⟨p, i, none⟩ = w2.cell? ⟨p, i, none⟩ := fun i => World.cell?_of_block (hg.block p (by omega) (fun e => by cases e; exact hmp rfl))
  have hf' : ∀ i, w'.frozen? ⟨p, i, none⟩ = w2.frozen? ⟨p, i, none⟩ := fun i => World.frozen?_of_block (hg.block p (by omega) (fun e => by cases e; exact hmp rfl))
  refine ⟨rfl, ⟨?_, ?_, ?_, ?_, ?_, ?_, ?_, hm2, ?_, fun a ha => Or.inl (h.ina a ha), Or.inl h.inm⟩, ⟨?_, ?_, ?_, ?_, ?_, ?_, ?_⟩⟩
  · rw [hc', hcell, set_off _ _ _ (by omega), cutF_now F n hn]; exact set_same h.c0
  · rw [hc', hcell, cutF_old]; exact set_same ((set_off _ _ _ (by omega)).trans h.c1)
  · rw [hc', hcell, set_off _ _ _ (by omega), set_off _ _ _ (by omega)]; exact h.c2
  · rw [hf', hfz]; exact h.f0
  · rw [hf', hfz]; exact h.f1
  · rw [hf', hfz]; exact h.f2
  · refine row_stay (row_cut h.row ok.sn n hn) (fun a ha => ?_)
    have hab := h.row_block a ha
    have hal := row_lt h.row a ha
    exact (hg.block a.block (by omega) (fun e => by cases e; exact hab.1 rfl)).trans (hblk _ hal hab.2)
  · rintro (h1 | h1)
    · exact h.np h1
    · omega
  · rw [hg.os, hw2]; rfl
  · rw [hg.tape, hw2]; rfl
  · rw [hg.output, hw2]; rfl
  · have := hg.size; omega
  · intro k hk hkp hkS
    exact (hg.block k (by omega) (fun e => by cases e; exact hkS h.inm)).trans (hblk k hk hkp)
  · intro i h0 h1 h2
    rw [hc', hcell, set_off _ _ _ (by omega), set_off _ _ _ (by omega)]
  · intro i; rw [hf', hfz]

end Go.Proofs.Ytkgenmooepfhjaa
