/- The small functions of the document's disk; no statement of the seat is proved here. -/
import Derived.Test.YtkgenmooepfhjaaEb
namespace Go.Proofs.Ytkgenmooepfhjaa
open Go.RowKit Go.Maps

theorem make30 (n : Nat) (hc : n ≤ 281474976710656) (w : World) :
    (Instr.makeSlice 30 (.int .i64 (n : Int)) (.int .i64 (n : Int))).run Try.prog w = .ok (.slice (some ⟨w.heap.size, 0, none⟩) n n) (w.alloc (.cells (List.replicate n (Value.bool false)).toArray 4)) := by
  obtain ⟨i, hi, hz0, hz1, hz2⟩ := info_parts info4
  have hr := run_make (P := Try.prog) w 30 4 i (.bool false) Try.underlying30 hi hz0 .i64 .i64 n n (by omega) (by omega) (by rw [hz2]; omega) (by omega)
  simp only [Int.toNat_natCast, hz1, Nat.mul_one] at hr
  rw [hr, ← toList_madeCells_one, Array.toArray_toList]
  rfl

theorem vb_replicate (n : Nat) : vb (List.replicate n false) = List.replicate n (Value.bool false) := by simp [vb]

set_option maxHeartbeats 1000000 in
set_option maxRecDepth 20000 in
theorem rsure_any (r o : Nat) (S : Nat → Prop) (B : RP) (F : FS) (w : World) (h : RefF w r o S B F) (hl : F.now.length ≤ 100000) (fz : ∀ i, w.frozen? ⟨r, i, none⟩ = false) :
    Calls Try.prog 56 #[.pointer (some ⟨r, o, none⟩)] w fun e w' => e = .returned (.tuple #[]) ∧ ∃ B', FTurn w w' r o S B (sureF F.now) B' := by
  obtain ⟨l, hll⟩ : ∃ l, l = F.now.length := ⟨_, rfl⟩
  have c0 := h.c0; have c1 := h.c1; have c2 := h.c2
  have rn := h.rn
  rw [← hll] at c0 rn hl
  have hrl := h.plt
  have hb1 : Below w.heap.size w (w.alloc (.cells #[] 37)) := (Below.refl _ _).alloc (Nat.le_refl _) _
  have hsr := src_row (own_later rn hb1) h.an.one
  have RN := hid rn; have H := hid h; have HSR := hid hsr; have HL := hid hll; have HFZ := hid fz
  have mk := make30 l (by omega)
  have f1 := fz (o + 1); have f2 := fz (o + 2)
  clear h rn hsr hll fz hb1
  have hro : ¬ r = w.heap.size := by omega
  go_enter Try.func56, Try.ntmps56
  go_wp2_with ((with_reducible refine here_op 8 ?_); refine wpList_app rfl (.tmp 3) (.tmp 7) el66 rfl (.slice (some ⟨w.heap.size, 0, none⟩) 0 0) 0 [] rfl (World.ownsRow_made w #[] 0 (Nat.zero_le _) (by decide) rfl) B.aN l B.cN B.vs rfl HSR.out (by omega) ?_; simp only [Nat.zero_add, List.nil_append]; intro a2 n2 w2 ho2 hg2 hat2; have hb2 : Below w.heap.size w w2 := ((Below.refl _ w).alloc (Nat.le_refl _) _).grown hg2 (by simp) (fun k hk => by simp [Value.ownBlock] at hk; omega); have d0 := keep_old hb2 c0; have d1 := keep_old hb2 c1; have d2 := keep_old hb2 c2; have g1 := (keep_frozen hb2 hrl (a := ⟨r, o + 1, none⟩)).trans f1; have g2 := (keep_frozen hb2 hrl (a := ⟨r, o + 2, none⟩)).trans f2; have HO2 := hid ho2; have HG2 := hid hg2; have HA2 := hid hat2; have HB2 := hid hb2; have hrl2 : ¬ r = w2.heap.size := (by have := hb2.size; omega); have hrl3 : r < w2.heap.size := (by have := hb2.size; omega); clear ho2 hg2 hat2 hb2)
  go_end0
  obtain ⟨W, hW⟩ : ∃ W, W = ((w2.setCell ⟨r, o + 1, none⟩ (.slice a2 l n2)).setCell ⟨r, o + 2, none⟩ (.slice (some ⟨w2.heap.size, 0, none⟩) l l)).alloc (.cells (Array.replicate l (.bool false)) 4) := ⟨_, rfl⟩
  rw [← hW]
  have hs2 : ((w2.setCell ⟨r, o + 1, none⟩ (.slice a2 l n2)).setCell ⟨r, o + 2, none⟩ (.slice (some ⟨w2.heap.size, 0, none⟩) l l)).heap.size = w2.heap.size := by simp
  have hsz : W.heap.size = w2.heap.size + 1 := by rw [hW]; simp
  have hzz := HB2.out.size
  have hcell : ∀ i, W.cell? ⟨r, i, none⟩ = ((w2.setCell ⟨r, o + 1, none⟩ (.slice a2 l n2)).setCell ⟨r, o + 2, none⟩ (.slice (some ⟨w2.heap.size, 0, none⟩) l l)).cell? ⟨r, i, none⟩ := fun i => by rw [hW]; exact World.cell?_alloc_lt _ _ _ (by rw [hs2]; exact hrl3)
  have hblk2 : ∀ k, k < w2.heap.size → k ≠ r → W.heap[k]? = w2.heap[k]? := fun k hk hkr => by
    rw [hW]; exact (heap_alloc_old _ _ _ (by rw [hs2]; exact hk)).trans ((set_heap _ _ _ _ _ hkr).trans (set_heap _ _ _ _ _ hkr))
  have hblk : ∀ k, k < w.heap.size → k ≠ r → W.heap[k]? = w.heap[k]? := fun k hk hkr => (hblk2 k (by omega) hkr).trans (HB2.out.block k hk)
  have hnew : W.heap[w2.heap.size]? = some (.cells (List.replicate l (Value.bool false)).toArray 4 (0, 0)) := by
    rw [hW]; have := heap_alloc_new ((w2.setCell ⟨r, o + 1, none⟩ (.slice a2 l n2)).setCell ⟨r, o + 2, none⟩ (.slice (some ⟨w2.heap.size, 0, none⟩) l l)) (.cells (Array.replicate l (.bool false)) 4)
    rw [hs2] at this; simpa using this
  have ha2 : ∀ a, a2 = some a → w.heap.size ≤ a.block ∧ a.block < w2.heap.size := fun a ha => by
    refine ⟨?_, row_lt1 HO2.out ha⟩
    rcases HA2.out a ha with h1 | h1
    · simp [Value.ownBlock] at h1; omega
    · simp at h1; omega
  have hfin : W.os = w.os ∧ W.tape = w.tape ∧ W.output = w.output := ⟨by rw [hW]; exact HB2.out.os, by rw [hW]; exact HB2.out.tape, by rw [hW]; exact HB2.out.output⟩
  have hfz : ∀ i, W.frozen? ⟨r, i, none⟩ = w.frozen? ⟨r, i, none⟩ := fun i => by
    rw [hW]
    refine (World.frozen?_alloc_old _ _ _ (by rw [hs2]; exact hrl2)).trans ?_
    rw [World.frozen?_setCell, World.frozen?_setCell]
    exact keep_frozen HB2.out hrl
  clear hW
  have F1 := H.out
  have hl' := HL.out
  subst hl'
  have hS : ∀ k, k < w.heap.size → S k → W.heap[k]? = w.heap[k]? := fun k hk hS => hblk k hk (fun e => F1.np (e ▸ hS))
  refine ⟨rfl, ⟨B.aN, B.cN, B.vs, a2, n2, B.vs, some ⟨w2.heap.size, 0, none⟩, F.now.length⟩, ⟨⟨?_, ?_, ?_, ?_, ?_, ?_, ?_, ?_, ?_, fun a ha => Or.inl (F1.sn a ha), fun a ha => Or.inr (ha2 a ha).1, fun a ha => ?_, fun a b ha hb => ?_⟩, ⟨hfin.1, hfin.2.1, hfin.2.2, by omega, fun k hk hkr _ => hblk k hk hkr, fun i h0 h1 h2 => ?_, hfz⟩, ?_⟩⟩
  · rw [hcell, set_off _ _ _ (by omega), set_off _ _ _ (by omega)]; exact d0
  · rw [hcell, set_off _ _ _ (by omega)]; exact set_same d1
  · rw [hcell]; simp only [sureF, List.length_replicate]; exact set_same ((set_off _ _ _ (by omega)).trans d2)
  · exact own_stay F1.rn (fun k hk => by obtain ⟨a, ha, rfl⟩ := slice_own hk; exact hS _ (own_lt F1.rn hk) (F1.sn a ha))
  · exact own_stay HO2.out (fun k hk => by obtain ⟨a, ha, rfl⟩ := slice_own hk; exact hblk2 _ (ha2 a ha).2 (by have := (ha2 a ha).1; omega))
  · simp only [sureF, List.length_replicate, vb_replicate]
    exact ⟨by simp, .inr ⟨_, _, _, rfl, Nat.zero_le _, hnew, Nat.le_refl _, by unfold maxLen; omega, by simp, by simp⟩⟩
  · exact F1.an.stay (fun i v x _ hs k hk => hS k (own_lt hs.1 hk) (hs.2 k hk)) (fun k hk => Or.inl hk)
  · exact F1.an.stay (fun i v x _ hs k hk => hS k (own_lt hs.1 hk) (hs.2 k hk)) (fun k hk => Or.inl hk)
  · rintro (h1 | h1)
    · exact F1.np h1
    · omega
  · cases ha; exact Or.inr (by show w.heap.size ≤ w2.heap.size; exact hzz)
  · have := row_lt1 F1.rn ha; have := (ha2 b hb).1; omega
  · rw [hcell, set_off _ _ _ (by omega), set_off _ _ _ (by omega)]
    exact World.cell?_of_block (HB2.out.block r hrl)
  · rintro k (⟨a, ha, rfl⟩ | ⟨a, ha, rfl⟩)
    · exact Or.inl (Or.inl ⟨a, ha, rfl⟩)
    · cases ha; exact Or.inr (by show w.heap.size ≤ w2.heap.size; exact hzz)

end Go.Proofs.Ytkgenmooepfhjaa
