/- What Encode's closure puts, and what Size's counts; no statement of the seat is proved here. -/
import Derived.Test.YtjieegnmofimkaaDoorEb
import Derived.Test.YtjieegnmofimkaaDoorEc
namespace Go.Proofs.YtjieegnmofimkaaDoor
open Go.RowKit Go.Maps

theorem own_same {w w' : World} {base : Nat} {e : TypeId} {size : Nat} {v : Value} {n : Nat} {xs : List Value} (h : w.ownsRow base e size v n xs) (hb : ∀ g, v.ownBlock = some g → w'.heap[g]? = w.heap[g]?) : w'.ownsRow base e size v n xs := by
  refine ⟨h.1, ?_⟩
  rcases h.2 with h1 | ⟨g, cap, cur, rfl, h2, h3, h4⟩
  · exact .inl h1
  · exact .inr ⟨g, cap, cur, rfl, h2, (hb g rfl).trans h3, h4⟩
/-- What Encode's closure holds: a list of bytes that grows. -/
structure JE (N : Nat) (w0 : World) (oa ob : Nat) (l : Bool) (L : List (Nat × Nat)) (G : Nat → Prop) (W : World) : Prop where
  base : Below N w0 W
  at2 : N ≤ oa ∧ N ≤ ob ∧ oa ≠ ob
  lit : Bo W ob #[.bool l] 4
  row : ∃ v, Bo W oa #[v] 27 ∧ W.ownsRow N 5 1 v (sizeI L) (bs (bytesI l L)) ∧ v.ownBlock ≠ some oa ∧ v.ownBlock ≠ some ob ∧ ∀ i, G i → v.ownBlock ≠ some i
  gd : ∀ i, G i → (N ≤ i ∧ i < W.heap.size) ∧ i ≠ oa ∧ i ≠ ob
theorem own_lt {w : World} {base : Nat} {e : TypeId} {size : Nat} {v : Value} {n : Nat} {xs : List Value} (h : w.ownsRow base e size v n xs) {g : Nat} (hg : v.ownBlock = some g) : base ≤ g ∧ g < w.heap.size := h.lt g hg
theorem je_cns (N : Nat) (w0 : World) (hN : N ≤ w0.heap.size) (oa ob : Nat) (l : Bool) (L : List (Nat × Nat)) : Cns N w0 (JE N w0 oa ob l L) := by
  refine ⟨fun G W h => h.base, fun G W h i hi => (h.gd i hi).1, fun G G' W W' h hf hs => ?_⟩
  obtain ⟨v, ha, hr, n1, n2, n3⟩ := h.row
  have hz := h.base.size
  refine ⟨h.base.trans (hf.below (Nat.le_trans hN hz) fun k hk hG => by have := (h.gd k hG).1.1; omega), h.at2, (hf.blk _ h.lit.lt fun hG => (h.gd _ hG).2.2 rfl).trans h.lit, ⟨v, (hf.blk _ ha.lt fun hG => (h.gd _ hG).2.1 rfl).trans ha, own_same hr fun g hg => hf.blk g (own_lt hr hg).2 fun hG => n3 g hG hg, n1, n2, fun i hi => ?_⟩, fun i hi => ?_⟩
  · rcases hs i hi with h1 | h1
    · exact n3 i h1
    · intro e; have := (own_lt hr e).2; omega
  · rcases hs i hi with h1 | h1
    · exact ⟨⟨(h.gd i h1).1.1, Nat.lt_of_lt_of_le (h.gd i h1).1.2 hf.size⟩, (h.gd i h1).2⟩
    · have := h.lit.lt; have := ha.lt
      exact ⟨⟨by omega, h1.2⟩, by omega, by omega⟩

set_option maxRecDepth 100000 in
set_option maxHeartbeats 2000000 in
theorem enc_put (N : Nat) (w0 : World) (hN : N ≤ w0.heap.size) (oa ob : Nat) (l : Bool) : Enc.Puts oa ob (JE N w0 oa ob l) := by
  intro L G W v n hJ hv hn hB
  obtain ⟨v0, ha, hr, n1, n2, n3⟩ := hJ.row
  obtain ⟨ao, cap, rfl⟩ := row_form hr
  have HJ := hid hJ; have HR := hid hr; have HA := hid ha; have HN := hid n3
  have a0 := ha.cell 0 _ rfl
  have b0 := hJ.lit.cell 0 _ rfl
  have PC := hid (show ∀ w, Calls Tryd.prog 26 #[.slice none 0 0, .int .u64 (v : Int), .int .i64 (n : Int), .bool l] w fun e w' => e = .returned (.slice (some ⟨w.heap.size, 0, none⟩) n n) ∧ w'.ownsRow w.heap.size 5 1 (.slice (some ⟨w.heap.size, 0, none⟩) n n) n (bs (putN v n l)) ∧ Below w.heap.size w w' from fun w => by
    have h := put_any none 0 0 [] v (n : Int) n l w (Rd.nil w) (by omega) (by omega) (by omega)
    simpa only [Nat.zero_add, List.nil_append] using h)
  obtain ⟨i5, hi5, hz0, hz1, hz2⟩ := info_parts Tryd.info5
  have HI := hid hi5; have HZ0 := hid hz0; have HZ1 := hid hz1; have HZ2 := hid hz2
  have hn8 := hn.2
  have hn0 := hn.1
  have hlb := bytesI_length l L
  generalize sizeI L = sl at *
  clear hJ hr ha n3 hi5 hz0 hz1 hz2 hn
  go_enter Tryd.func25, Tryd.ntmps25
  refine wp_region_K (S := (fun W : World => W.cell? ⟨oa, 0, none⟩ = some (.slice ao sl cap) ∧ W.cell? ⟨ob, 0, none⟩ = some (.bool l))) (fun i => i == 6) (by kernel_rfl) (by exact ⟨a0, b0⟩) (fun hHeld => ?_)
  refine gkt 0 ?_ (h := by intro W hSw; obtain ⟨r0, r1⟩ := hSw; go_simp; first | done | with_reducible rfl)
  refine gkp 1 ?_
  refine gkp 2 ?_
  refine gkt 3 ?_ (h := by intro W hSw; obtain ⟨r0, r1⟩ := hSw; go_simp; first | done | with_reducible rfl)
  refine gk1 4 (fun K hK => ?_)
  go_simp
  go_at_call 26; refine (PC.out _).mono ?_; rintro e w1 ⟨rfl, ho1, hb1⟩; have H1 := hid (undrew hb1); have O1 := hid ho1; have hR : (fun W : World => W.cell? ⟨oa, 0, none⟩ = some (.slice ao sl cap) ∧ W.cell? ⟨ob, 0, none⟩ = some (.bool l)) w1 := ⟨keep_old H1.out hHeld.1, keep_old H1.out hHeld.2⟩; clear hb1 ho1
  refine hK.out _ _ hR (fun hHeld => ?_)
  clear hK K hR
  (try simp only [Act.put, sA, sZ, sS])
  have HR1 := hid (own_same HR.out (w' := w1) fun g hg => H1.out.block g (own_lt HR.out hg).2)
  have z1 := H1.out.size
  have zN := HJ.out.base.size
  have RD := hid (rd_own O1.out)
  refine gk1 5 (fun K hK => ?_)
  refine step_append_lies _ rfl (.tmp 6) (.tmp 10) 27 rfl N 5 i5 (.int .u8 0) 1 1 Tryd.underlying27 HI.out HZ0.out HZ1.out HZ2.out rfl (by decide) (.slice ao sl cap) sl (bs (bytesI l L)) rfl HR1.out ⟨W.heap.size, 0, none⟩ n n (bs (putN v n l)) rfl (by simp [bs, putN_length]) ?_ (bs_one _) hn0 (by unfold maxLen; omega) (by omega) (by omega) w1.heap.size rfl ?_
  · intro j u hu
    obtain ⟨hj, rfl⟩ := bs_get' (putN v n l) j u hu
    obtain ⟨b, off, e, hcell⟩ := RD.out.2.2.2 hn0
    simp only [Option.some.injEq, Addr.mk.injEq, and_true] at e
    have h := hcell j (by rw [putN_length] at hj; exact hj)
    rw [← e.1, ← e.2] at h
    rw [Addr.add_lit]
    exact h
  intro g c2 w2 ho2 hg2 hgc hlt
  have O2 := hid ho2; have G2 := hid hg2; have GC := hid hgc
  have keep : ∀ i, i < w1.heap.size → (Value.slice ao sl cap).ownBlock ≠ some i → w2.heap[i]? = w1.heap[i]? := fun i hi hne => hg2.block i hi fun e => hne e.symm
  have z2 := hg2.size
  have A2 := hid (show Bo w2 oa #[.slice ao sl cap] 27 from (keep oa (by have := HA.out.lt; omega) n1).trans ((H1.out.block oa HA.out.lt).trans HA.out))
  have B2 := hid (show Bo w2 ob #[.bool l] 4 from (keep ob (by have := HJ.out.lit.lt; omega) n2).trans ((H1.out.block ob HJ.out.lit.lt).trans HJ.out.lit))
  have KP := hid keep
  have c0 := A2.out.cell 0 _ rfl
  have f0 := A2.out.fz 0
  have hR : (fun W : World => W.cell? ⟨oa, 0, none⟩ = some (.slice ao sl cap) ∧ W.cell? ⟨ob, 0, none⟩ = some (.bool l)) w2 := ⟨c0, B2.out.cell 0 _ rfl⟩
  refine hK.out _ _ hR (fun hHeld => ?_)
  clear hK K hR keep ho2 hg2 hgc
  (try simp only [Act.put, sA, sZ, sS])
  refine gkl 6 (fun K hK => ?_)
  go_simp
  refine hK.out _ _ ?_
  clear hK K
  (try simp only [Act.put, sA, sZ, sS])
  refine wpAnyK_done (by kernel_rfl) ?_ _
  refine bodyPost_end (results_none rfl _ _ _) rfl ?_
  have old : ∀ i, i < W.heap.size → i ≠ oa → (Value.slice ao sl cap).ownBlock ≠ some i → (w2.setCell ⟨oa, 0, none⟩ (.slice (some ⟨g, 0, none⟩) (sl + n) c2)).heap[i]? = W.heap[i]? := fun i h1 h2 h3 => (heap_setCell_other _ _ _ _ h2).trans ((KP.out i (by omega) h3).trans (H1.out.block i h1))
  have lo := HJ.out.at2
  have la := HA.out.lt
  have lb := HJ.out.lit.lt
  have gne : ∀ i, i < W.heap.size → (Value.slice ao sl cap).ownBlock ≠ some i → (Value.slice (some ⟨g, 0, none⟩) (sl + n) c2).ownBlock ≠ some i := by
    intro i hi hne e
    have e2 : g = i := by simpa [Value.ownBlock] using e
    rcases GC.out with h | h
    · exact hne (by rw [h, e2])
    · omega
  have hgN : N ≤ g := (own_lt O2.out rfl).1
  refine ⟨⟨_, rfl⟩, ⟨by simp; omega, fun i hi => old i (HJ.out.gd i hi).1.2 (HJ.out.gd i hi).2.1 (HN.out i hi)⟩, ?_⟩
  refine { base := ?_, at2 := lo, lit := ?_, row := ⟨_, A2.out.set 0 _, ?_, gne _ la n1, gne _ lb n2, fun i hi => gne i (HJ.out.gd i hi).1.2 (HN.out i hi)⟩, gd := fun i hi => ⟨⟨(HJ.out.gd i hi).1.1, by have := (HJ.out.gd i hi).1.2; simp; omega⟩, (HJ.out.gd i hi).2⟩ }
  · refine Below.setCell ((HJ.out.base.trans (H1.out.mono (by omega))).grown G2.out (by omega) fun k hk => (own_lt HR1.out hk).1) lo.1 _
  · exact B2.out.other (by omega)
  · have : sizeI (L ++ [(v, n)]) = sl + n := by rw [sizeI_append, ← hlb, bytesI_length]; simp [sizeI]
    rw [this, bytesI_append, bs_append]
    have e2 : bytesI l [(v, n)] = putN v n l := by simp [bytesI]
    rw [e2]
    exact own_same O2.out fun k hk => by
      have e : g = k := by simpa [Value.ownBlock] using hk
      subst e
      refine heap_setCell_other _ _ _ _ fun e => ?_
      exact gne oa la n1 (congrArg some (show g = oa from e))

/-- What Size's closure holds: how many bytes there are. -/
structure JS (N : Nat) (w0 : World) (oa : Nat) (L : List (Nat × Nat)) (G : Nat → Prop) (W : World) : Prop where
  base : Below N w0 W
  lo : N ≤ oa
  box : Bo W oa #[.int .i64 (sizeI L : Nat)] 3
  gd : ∀ i, G i → (N ≤ i ∧ i < W.heap.size) ∧ i ≠ oa
theorem js_cns (N : Nat) (w0 : World) (hN : N ≤ w0.heap.size) (oa : Nat) (L : List (Nat × Nat)) : Cns N w0 (JS N w0 oa L) := by
  refine ⟨fun G W h => h.base, fun G W h i hi => (h.gd i hi).1, fun G G' W W' h hf hs => ?_⟩
  have hz := h.base.size
  refine ⟨h.base.trans (hf.below (Nat.le_trans hN hz) fun k hk hG => by have := (h.gd k hG).1.1; omega), h.lo, (hf.blk _ h.box.lt fun hG => (h.gd _ hG).2 rfl).trans h.box, fun i hi => ?_⟩
  rcases hs i hi with h1 | h1
  · exact ⟨⟨(h.gd i h1).1.1, Nat.lt_of_lt_of_le (h.gd i h1).1.2 hf.size⟩, (h.gd i h1).2⟩
  · have := h.box.lt
    exact ⟨⟨by omega, h1.2⟩, by omega⟩
set_option maxRecDepth 100000 in
set_option maxHeartbeats 1000000 in
theorem siz_put (N : Nat) (w0 : World) (oa : Nat) : Siz.Puts oa (JS N w0 oa) := by
  intro L G W v n hJ hv hn hB
  have HJ := hid hJ
  have a0 := hJ.box.cell 0 _ rfl
  have f0 := hJ.box.fz 0
  have e : sizeI (L ++ [(v, n)]) = sizeI L + n := by rw [sizeI_append]; simp [sizeI]
  have EE := hid e
  obtain ⟨sl, hsl⟩ : ∃ sl, sl = sizeI L := ⟨_, rfl⟩
  have HSL := hid hsl
  have hn8 := hn.2
  have a1 : W.cell? ⟨oa, 0, none⟩ = some (.int .i64 (sl : Nat)) := by rw [hsl]; exact a0
  rw [← hsl] at hB
  clear hJ hn e a0 hsl
  go_enter Tryd.func27, Tryd.ntmps27
  go_wp2
  refine bodyPost_end (results_none rfl _ _ _) rfl ?_
  refine ⟨⟨_, rfl⟩, ⟨by simp, fun i hi => heap_setCell_other _ _ _ _ (HJ.out.gd i hi).2⟩, Below.setCell HJ.out.base HJ.out.lo _, HJ.out.lo, ?_, fun i hi => ⟨⟨(HJ.out.gd i hi).1.1, by have := (HJ.out.gd i hi).1.2; simpa using this⟩, (HJ.out.gd i hi).2⟩⟩
  have := HJ.out.box.set 0 (.int .i64 ((sl : Int) + (n : Int)))
  rw [EE.out, ← HSL.out]
  exact this
end Go.Proofs.YtjieegnmofimkaaDoor
