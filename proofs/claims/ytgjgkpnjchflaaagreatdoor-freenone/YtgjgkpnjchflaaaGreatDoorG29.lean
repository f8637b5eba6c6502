/- Grow and Put; no statement of the seat is proved here. -/
import Derived.Test.YtgjgkpnjchflaaaGreatDoorG28
import Derived.Test.YtgjgkpnjchflaaaGreatDoorG17
import Derived.Test.YtgjgkpnjchflaaaGreatDoorG07
namespace Go.Proofs.YtgjgkpnjchflaaaGreatDoor
open Go.RowKit Go.Maps
open Dsk (gt hid undrew keep_old keep_cell lt_cell Rd DS FS Sec DiskP DFrame Grew From op_at idx dirtD was secD)
open Cch (CS CP Fr wpAnyK wpAnyK_take wpAnyK_pure wpAnyK_ready wpAnyK_done wp_region_K AllReadyK.cons AllReadyK.nil)

theorem cell_no_map {w : World} {m n : Nat} {D : DataW Unit} (h : w.ownsMap Tryz.prog 3 slR m n D) {o : Nat} {v : Value} (hc : w.cell? ⟨m, o, none⟩ = some v) : False := by
  obtain ⟨es, clock, h1, _⟩ := h
  simp [World.cell?, h1] at hc

/-- A page's slice is noted. -/
theorem Chg.note {w w' : World} {N : Nat → Prop} {m n z g o cap : Nat} {now now' : List Pg} {c c' : List Bool} {enc enc' : List Sec} {b : Pg} (h : Chg w N m n now c enc) (hr : Rd w (some ⟨g, o, none⟩) 512 cap b) (hog : Out w N g)
    (hm : w'.ownsMap Tryz.prog 3 slR m (n + 1) ((dirtD (false :: c) enc).put (.int .i64 (z : Int)) (secD [g, o, 512, cap]))) (hg : w.grownBy w' (some m)) (hl : c'.length = now'.length) (hel : enc'.length = c'.length + 1)
    (hd : ∀ j, (false :: c').getD j false = ((false :: c).getD j false || decide (j = z))) (ho : ∀ j, (false :: c).getD j false = true → j ≠ z → was enc' j = was enc j) (hz : was enc' z = [g, o, 512, cap]) (hb : now'.getD (z - 1) [] = b) (hz1 : 1 ≤ z) (hn : ∀ i, i + 1 ≠ z → c.getD i false = true → now'.getD i [] = now.getD i []) :
    Chg w' N m (n + 1) now' c' enc' := by
  have hD := put_ch hd ho hz (hm.canon (int_keyed Tryz.underlying3))
  rw [hD] at hm
  have key : ∀ {a : Addr} {cp : Nat} {x : Pg}, Rd w (some a) 512 cp x → Rd w' (some a) 512 cp x := fun {a cp x} hx => by
    refine ⟨hx.1, hx.2.1, hx.2.2.1, fun hp => ?_⟩
    obtain ⟨b', o', e', h2⟩ := hx.2.2.2 hp
    refine ⟨b', o', e', fun t ht => cell_grown hg (h2 t ht) (fun e => ?_)⟩
    obtain rfl := Option.some.inj e
    exact cell_no_map h.map (h2 t ht)
  refine ⟨hm, hl, hel, fun i hi => ?_⟩
  have hdi := hd (i + 1)
  simp only [List.getD_cons_succ] at hdi
  rw [hi] at hdi
  by_cases hiz : i + 1 = z
  · subst hiz
    exact ⟨g, o, cap, hz, by rw [Nat.add_sub_cancel] at hb; rw [hb]; exact key hr, hog.later hg.size⟩
  · have hci : c.getD i false = true := by simpa [hiz] using hdi.symm
    obtain ⟨b1, o1, c1, e1, hr1, ho1⟩ := h.at_ i hci
    exact ⟨b1, o1, c1, by rw [ho (i + 1) (by simpa using hci) hiz]; exact e1, by rw [hn i hiz hci]; exact key hr1, ho1.later hg.size⟩

/-- What a change of a page leaves. -/
structure PutTo (w w' : World) (p : Nat) (x x' : PC) (P : Dsk.Parts) (C : Cch.Parts) (d : DS) (s : CS) (sure : List Pg) (n : Nat) (now : List Pg) (c : List Bool) : Prop where
  is : ∃ enc, Tx w' p x' P C d s sure n now c enc
  fr : Fr (fun b => b = p ∨ b = x.m) w w'

/-- Entries of the map: the old ones, or of new blocks. -/
def EncTo (w : World) (enc enc' : List Sec) : Prop := ∀ e ∈ enc', e ∈ enc ∨ ∃ g l c, e = [g, 0, l, c] ∧ w.heap.size ≤ g
/-- The same, and where the entries come from. -/
structure PutE (w w' : World) (p : Nat) (x x' : PC) (P : Dsk.Parts) (C : Cch.Parts) (d : DS) (s : CS) (sure : List Pg) (n : Nat) (now : List Pg) (c : List Bool) (enc : List Sec) : Prop where
  is : ∃ enc', Tx w' p x' P C d s sure n now c enc' ∧ EncTo w enc enc'
  fr : Fr (fun b => b = p ∨ b = x.m) w w'
theorem PutE.to {w w' : World} {p : Nat} {x x' : PC} {P : Dsk.Parts} {C : Cch.Parts} {d : DS} {s : CS} {sure : List Pg} {n : Nat} {now : List Pg} {c : List Bool} {enc : List Sec} (h : PutE w w' p x x' P C d s sure n now c enc) : PutTo w w' p x x' P C d s sure n now c := by
  obtain ⟨e, h1, _⟩ := h.is
  exact ⟨⟨e, h1⟩, h.fr⟩

theorem getD_snoc (c : List Bool) (j : Nat) : (c ++ [true]).getD j false = (c.getD j false || decide (j = c.length)) := by
  simp only [List.getD, List.getElem?_append]
  by_cases hj : j < c.length
  · have : ¬ j = c.length := by omega
    simp [hj, this]
  · rw [if_neg hj, List.getElem?_eq_none (l := c) (by omega)]
    by_cases hj2 : j = c.length
    · subst hj2; simp
    · rw [List.getElem?_eq_none (by simp; omega)]
      simp [hj2]
theorem getD_setB (c : List Bool) (i j : Nat) (hi : i < c.length) : (c.set i true).getD j false = (c.getD j false || decide (j = i)) := by
  simp only [List.getD, List.getElem?_set]
  by_cases h : i = j
  · subst h; simp [hi]
  · have : ¬ j = i := fun e => h e.symm
    simp [h, this]

def zeros : Pg := List.replicate 512 0

theorem zeros_length : zeros.length = 512 := List.length_replicate ..
theorem rd_madeN (n : Nat) (w : World) : Rd (w.alloc (.cells (Array.replicate n (.int .u8 0)) 5)) (some ⟨w.heap.size, 0, none⟩) n n (List.replicate n 0) := by
  refine ⟨List.length_replicate .., Nat.le_refl _, fun h => (by cases h), fun _ => ⟨w.heap.size, 0, rfl, fun t ht => ?_⟩⟩
  rw [World.cell?_alloc_at _ _ _ _ rfl]
  have : (List.replicate n 0).getD t 0 = 0 := by simp [List.getD, ht]
  rw [this]
  simp [ht]
theorem rd_made (w : World) : Rd (w.alloc (.cells (Array.replicate 512 (.int .u8 0)) 5)) (some ⟨w.heap.size, 0, none⟩) 512 512 zeros := rd_madeN 512 w

set_option maxHeartbeats 4000000 in
set_option maxRecDepth 20000 in
theorem grow_calle (p : Nat) (x : PC) (P : Dsk.Parts) (C : Cch.Parts) (d : DS) (s : CS) (sure : List Pg) (n : Nat) (now : List Pg) (c : List Bool) (enc : List Sec) (w : World) (h : Tx w p x P C d s sure n now c enc) (hb : x.busy = true) (hn : now.length < 4000) (hnb : n ≤ 1000000) :
    Calls Tryz.prog 35 #[.pointer (some ⟨p, 0, none⟩)] w fun e w' => e = .returned (.tuple #[.int .i64 ((now.length + 1 : Nat) : Int), .int .i64 0]) ∧ PutE w w' p x { x with np := now.length + 1 } P C d s sure (n + 1) (now ++ [zeros]) (c ++ [true]) enc := by
  have cw := within_live p x w h.core.hd
  rw [hb] at cw
  have CW := hid cw
  have H := hid h; have HB := hid hb
  obtain ⟨L, hL⟩ : ∃ L, now.length = L := ⟨_, rfl⟩
  have HNL : Hid (x.np = L) := hid (h.np.trans hL)
  have HLL := hid hL
  rw [hL] at hn ⊢
  clear cw h hb hL
  go_enter Tryz.func35, Tryz.ntmps35
  go_upto_region 7 with (go_at_call 50; refine CW.out.mono ?_; rintro e w1 ⟨rfl, hb1⟩; have H1 := hid (H.out.later hb1); have B1 := hid hb1; obtain ⟨a0, a1, a2, a3, a4, a5, a6, a7, a8, a9, a10, a11⟩ := H1.out.core.hd.cells; have f6 := H1.out.core.hd.frozen 6; rw [HNL.out] at a6; clear hb1)
  obtain ⟨z, hz⟩ : ∃ z, z = L + 1 := ⟨_, rfl⟩
  have HZ := hid hz
  rw [show (L : Int) + 1 = (z : Int) by omega]
  obtain ⟨W2, hW2⟩ : ∃ W2, W2 = w1.setCell ⟨p, 6, none⟩ (.int .i64 (z : Int)) := ⟨_, rfl⟩
  obtain ⟨NN, hNN⟩ : ∃ NN, NN = Array.replicate 512 (Value.int .u8 0) := ⟨_, rfl⟩
  obtain ⟨W3, hW3⟩ : ∃ W3, W3 = (W2.alloc (.cells NN 5)).drew := ⟨_, rfl⟩
  obtain ⟨g, hg⟩ : ∃ g, g = W2.heap.size := ⟨_, rfl⟩
  obtain ⟨X, hX⟩ : ∃ X : PC, X = { x with np := z } := ⟨_, rfl⟩
  have mk : ∀ W, (Instr.makeSlice 79 (.int .i64 512) (.int .i64 512)).run Tryz.prog W = .ok (.slice (some ⟨W.heap.size, 0, none⟩) 512 512) (W.alloc (.cells NN 5)) := fun W => by rw [hNN]; exact Dsk.make_any 512 512 (Nat.le_refl _) (by omega) W
  have h2o : ∀ b, b ≠ p → W2.heap[b]? = w1.heap[b]? := fun b hb => by rw [hW2, heap_setCell_other _ _ _ _ hb]
  have h2s : W2.heap.size = w1.heap.size := by rw [hW2]; simp
  have hP2 : PgAt W2 p X := by
    have h1 := Cch.blk_set H1.out.core.hd (i := 6) (v := .int .i64 (z : Int))
    unfold PgAt
    rw [hW2, h1, hX]; rfl
  have h3b : Below W2.heap.size W2 W3 := by rw [hW3]; exact (Below.alloc (Below.refl _ _) (Nat.le_refl _) _).drew
  have hqk : X.q = x.q ∧ X.k = x.k ∧ X.m = x.m := by rw [hX]; exact ⟨rfl, rfl, rfl⟩
  have hC2 : Core W2 p X P C d s := by
    have hc := H1.out.core
    subst hX
    exact ⟨hP2, hc.dk.stay (Nat.le_of_eq h2s.symm) (fun b _ hd => h2o b (fun e => hc.dp (by rcases hd with h1 | h1; exact Or.inr (e ▸ h1); exact Or.inl (e ▸ h1)))), hc.ck.stay (fun b _ hS => h2o b (fun e => hc.cp (e ▸ hS))), hc.dc, hc.dp, hc.cp⟩
  have hOp : ∀ b, Out w1 (NC p x P C) b → b ≠ p := fun b ho e => ho.2 (Or.inr (Or.inr e))
  have hG2 : Chg W2 (NC p x P C) x.m n now c enc := H1.out.chg.turn (h2o _ (hOp _ H1.out.mo)) (fun b ho => ⟨by rw [h2s]; exact ho.1, ho.2⟩) (fun b o v ho hc => (World.cell?_of_block (h2o b (hOp b ho))).trans hc)
  have C3 := hid (hC2.later h3b); have G3 := hid (hG2.later h3b)
  have RD3 : Hid (Rd W3 (some ⟨g, 0, none⟩) 512 512 zeros) := hid (by rw [hW3, hg, hNN]; exact (rd_made W2).keep (Below.refl _ _).drew)
  have OG3 : Hid (Out W3 (NC p x P C) g) := hid ⟨by rw [hW3, hg]; simp, fun hk => by have := H1.out.core.lt hk; omega⟩
  have hpm : Hid (p ≠ x.m) := hid (fun e => H1.out.mo.2 (Or.inr (Or.inr e.symm)))
  have HPX0 : Hid (PgAt W2.drew p X) := hid (hP2.later (Below.refl _ _).drew)
  have HPX := hid C3.out.hd
  have MP := hid G3.out.map
  have HNB : Hid (n < maxLen) := hid (by unfold maxLen; omega)
  have hwz : Hid ((Lit.int .i64 (z : Int)).wf = true) := hid (Dsk.wf_i64 z (by omega))
  have HW3 := hid hW3
  have HOS : Hid (W2.os = w.os ∧ W2.tape = w.tape ∧ W2.output = w.output) := hid (by rw [hW2]; exact ⟨B1.out.os, B1.out.tape, B1.out.output⟩)
  have HG3 : Hid (g = w1.heap.size) := hid (by rw [hg, h2s])
  have HNZ : Hid (X.np = z) := hid (by rw [hX])
  have HXM := hid hqk; have HXX := hid hX; have H2O := hid h2o; have H2S := hid h2s
  have hXm : X.m = x.m := hqk.2.2
  rw [← hW2]
  have HW2s : Hid (W2.heap.size = g) := hid hg.symm
  obtain ⟨cp, hcp⟩ : ∃ cp, cp = 512 := ⟨_, rfl⟩
  clear hW2 hW3 hNN hg hX h2o h2s hP2 h3b hqk hC2 hG2 hz a0 a1 a2 a3 a4 a5 a6 a7 a8 a9 a10 a11 f6
  refine wp_region_K (S := fun W => PgAt W p X) (fun _ => false) (by kernel_rfl) HPX0.out (fun hHeld => ?_)
  refine gkp 0 ?_
  refine gkp 1 ?_
  refine gkp 2 ?_
  refine gkp 3 ?_
  refine gkt 4 ?_ (h := by intro W hSw; obtain ⟨a0, a1, a2, a3, a4, a5, a6, a7, a8, a9, a10, a11⟩ := hSw.cells; (try rw [HXM.out.2.2] at a7); go_simp; first | done | with_reducible rfl)
  refine gkp 5 ?_
  refine gkp 6 ?_
  refine gkp 7 ?_
  refine gkp 8 ?_
  refine gkt 9 ?_ (h := by intro W hSw; obtain ⟨a0, a1, a2, a3, a4, a5, a6, a7, a8, a9, a10, a11⟩ := hSw.cells; (try rw [HXM.out.2.2] at a7); rw [HNZ.out] at a6; go_simp; first | done | with_reducible rfl)
  refine gk1 10 (fun K hK => ?_)
  go_simp
  have hR : PgAt W3 p X := HPX.out; (try rw [HW2s.out]); rw [← HW3.out]
  refine hK.out _ _ hR (fun hHeld => ?_)
  clear hK K
  (try simp only [Act.put, sA, sZ, sS])
  clear hR
  refine gk1 11 (fun K hK => ?_)
  refine Dsk.step_mapUpdate rfl (.tmp 29) (.tmp 34) (.tmp 35) 70 rfl 3 79 (int_keyed Tryz.underlying3) Tryz.underlying70 slR x.m n (dirtD (false :: c) enc) rfl MP.out HNB.out _ _ (.int .i64 (z : Int)) rfl rfl (keyOf_int_mk Tryz.underlying3 hwz.out) (secD [g, 0, 512, 512]) [] (slR_mk g 0 512 512) ?_; intro w6 ho6 hg6; have O6 := hid ho6; have G6 := hid hg6; have hR : PgAt w6 p X := HPX.out.stay (hg6.block p HPX.out.lt (by intro e; exact hpm.out (Option.some.inj e))); clear ho6 hg6
  refine hK.out _ _ hR (fun hHeld => ?_)
  clear hK K
  (try simp only [Act.put])
  clear hR
  refine wpAnyK_done (by kernel_rfl) ?_ _
  have HP6 := hid (HPX.out.stay (G6.out.block p HPX.out.lt (by intro e; exact hpm.out (Option.some.inj e))))
  obtain ⟨a0, a1, a2, a3, a4, a5, a6, a7, a8, a9, a10, a11⟩ := HP6.out.cells
  rw [HNZ.out] at a6
  go_wp2
  go_ret2
  have hcl := H1.out.chg.len; have hel := H1.out.chg.el
  have hLn := HLL.out; have hzL := HZ.out
  have hgm : ∀ b, b < W3.heap.size → b ≠ x.m → w6.heap[b]? = W3.heap[b]? := fun b hb hbm => G6.out.block b hb (fun e => hbm (Option.some.inj e))
  have hchg : Chg w6 (NC p x P C) x.m (n + 1) (now ++ [zeros]) (c ++ [true]) (enc ++ [[g, 0, 512, 512]]) :=
    G3.out.note (z := z) RD3.out OG3.out O6.out G6.out (by simp [hcl]) (by simp [hel]) (fun j => by
      cases j with
      | zero => rw [show decide (0 = z) = false by simp; omega]; rfl
      | succ j =>
        simp only [List.getD_cons_succ]
        rw [getD_snoc, show decide (j = c.length) = decide (j + 1 = z) from decide_eq_decide.2 (by omega)]) (fun j hj hjz => by
      have hjl : j < enc.length := by
        rcases Nat.lt_or_ge j (false :: c).length with h1 | h1
        · rw [hel]; simpa using h1
        · rw [List.getD, List.getElem?_eq_none h1] at hj; cases hj
      simp only [was, List.getD, List.getElem?_append_left hjl]) (by
      simp only [was, List.getD]
      rw [List.getElem?_append_right (by omega), show z - enc.length = 0 by omega]; rfl) (by
      simp only [List.getD]
      rw [List.getElem?_append_right (by omega), show z - 1 - now.length = 0 by omega]; rfl) (by omega) (fun i hiz hci => by
      have hil : i < now.length := by
        rw [← hcl]
        rcases Nat.lt_or_ge i c.length with h1 | h1
        · exact h1
        · rw [List.getD, List.getElem?_eq_none h1] at hci; cases hci
      simp only [List.getD, List.getElem?_append_left hil])
  have hX := HXX.out
  have hOm : ¬ NC p x P C x.m := H1.out.mo.2
  have hW3s : w1.heap.size ≤ W3.heap.size := by have h1 := C3.out.hd.lt; have h2 := H2S.out; have h3 := HW2s.out; have h4 := OG3.out.1; omega
  have h30 : ∀ b, b < w1.heap.size → b ≠ p → W3.heap[b]? = w1.heap[b]? := fun b hb hbp => by
    rw [HW3.out]
    have := heap_alloc_old W2 (.cells NN 5) b (by rw [H2S.out]; exact hb)
    exact this.trans (H2O.out b hbp)
  have hcore : Core w6 p { x with np := L + 1 } P C d s := by
    rw [hX, hzL] at C3
    exact C3.out.stay G6.out.size (fun b hb hk => hgm b hb (fun e => hOm (e ▸ hk)))
  have hp0 : 0 ≠ p := fun e => H1.out.t0.2 (Or.inr (Or.inr e))
  refine ⟨by rw [hzL]; rfl, ⟨enc ++ [[g, 0, 512, 512]], ⟨hcore, hchg, ⟨Nat.lt_of_lt_of_le H1.out.mo.1 (Nat.le_trans hW3s G6.out.size), hOm⟩, H1.out.fits, H1.out.pages, by simp [hLn], H1.out.ws, ?_, H1.out.bs, by simp; omega, ?_, ⟨Nat.lt_of_lt_of_le H1.out.t0.1 (Nat.le_trans hW3s G6.out.size), H1.out.t0.2⟩, H1.out.tm, ?_⟩, fun e he => (by rcases List.mem_append.1 he with h8 | h8; exact Or.inl h8; (simp at h8; right; exact ⟨g, 512, 512, h8, by have h9 := HG3.out; have h7 := B1.out.size; omega⟩))⟩, ?_⟩
  · intro i hi
    simp only [List.length_append, List.length_singleton] at hi
    by_cases hil : i < now.length
    · simp only [List.getD, List.getElem?_append_left hil]; exact H1.out.wn i hil
    · obtain rfl : i = now.length := by omega
      have e : (now ++ [zeros]).getD now.length [] = zeros := by simp [List.getD]
      rw [e]
      exact ⟨zeros_length, fun b hb => by rw [List.eq_of_mem_replicate hb]; omega⟩
  · exact tab_of (tab_of H1.out.tab (h30 0 H1.out.t0.1 hp0)) (hgm 0 (Nat.lt_of_lt_of_le H1.out.t0.1 hW3s) (fun e => H1.out.tm e.symm))
  · intro i hi hci
    simp only [List.length_append, List.length_singleton] at hi
    by_cases hil : i < now.length
    · simp only [List.getD, List.getElem?_append_left hil]
      refine H1.out.sm i hil ?_
      simpa only [List.getD, List.getElem?_append_left (show i < c.length by omega)] using hci
    · obtain rfl : i = now.length := by omega
      rw [← hcl] at hci
      simp [List.getD] at hci
  · refine ⟨G6.out.os.trans ?_, G6.out.tape.trans ?_, G6.out.output.trans ?_, Nat.le_trans B1.out.size (Nat.le_trans hW3s G6.out.size), fun b hb hn => ?_⟩
    · rw [HW3.out]; exact HOS.out.1
    · rw [HW3.out]; exact HOS.out.2.1
    · rw [HW3.out]; exact HOS.out.2.2
    · have h1 := Nat.lt_of_lt_of_le hb B1.out.size
      rw [hgm b (Nat.lt_of_lt_of_le h1 hW3s) (fun e => hn (Or.inr e)), h30 b h1 (fun e => hn (Or.inl e)), B1.out.block b hb]

theorem grow_call (p : Nat) (x : PC) (P : Dsk.Parts) (C : Cch.Parts) (d : DS) (s : CS) (sure : List Pg) (n : Nat) (now : List Pg) (c : List Bool) (enc : List Sec) (w : World) (h : Tx w p x P C d s sure n now c enc) (hb : x.busy = true) (hn : now.length < 4000) (hnb : n ≤ 1000000) :
    Calls Tryz.prog 35 #[.pointer (some ⟨p, 0, none⟩)] w fun e w' => e = .returned (.tuple #[.int .i64 ((now.length + 1 : Nat) : Int), .int .i64 0]) ∧ PutTo w w' p x { x with np := now.length + 1 } P C d s sure (n + 1) (now ++ [zeros]) (c ++ [true]) :=
  (grow_calle p x P C d s sure n now c enc w h hb hn hnb).mono fun _ _ ⟨h1, h2⟩ => ⟨h1, h2.to⟩

set_option maxHeartbeats 4000000 in
set_option maxRecDepth 20000 in
theorem put_pagee (p z sb so cap : Nat) (b : Pg) (x : PC) (P : Dsk.Parts) (C : Cch.Parts) (d : DS) (s : CS) (sure : List Pg) (n : Nat) (now : List Pg) (c : List Bool) (enc : List Sec) (w : World) (h : Tx w p x P C d s sure n now c enc) (hb : x.busy = true) (hz1 : 1 ≤ z) (hz2 : z ≤ now.length) (hnb : n ≤ 1000000) (hr : Rd w (some ⟨sb, so, none⟩) 512 cap b) (hbb : ∀ y ∈ b, y < 256) :
    Calls Tryz.prog 86 #[.pointer (some ⟨p, 0, none⟩), .int .i64 (z : Int), .slice (some ⟨sb, so, none⟩) 512 cap] w fun e w' => e = .returned (.int .i64 0) ∧ PutE w w' p x x P C d s sure (n + 1) (now.set (z - 1) b) (c.set (z - 1) true) enc := by
  have cw := within_live p x w h.core.hd
  rw [hb] at cw
  have CW := hid cw
  have CH := hid (fun W (hW : Below w.heap.size w W) => has_any p x (z : Int) W (h.core.hd.later hW))
  rw [show (decide (1 ≤ (z : Int)) && decide ((z : Int) ≤ (x.np : Int))) = true by rw [h.np]; simp; omega] at CH
  have H := hid h; have HR := hid hr; have HBB := hid hbb
  have hbn := h.bn
  have HZ := hid (And.intro hz1 hz2)
  have hwz : Hid ((Lit.int .i64 (z : Int)).wf = true) := hid (Dsk.wf_i64 z (by omega))
  have HNB : Hid (n < maxLen) := hid (by unfold maxLen; omega)
  have hpm : Hid (p ≠ x.m) := hid (fun e => h.mo.2 (Or.inr (Or.inr e.symm)))
  clear cw h hb hr hbb hz1 hz2 hbn
  go_enter Tryz.func86, Tryz.ntmps86
  go_upto_region 8 with (first
    | (go_at_call 50; refine CW.out.mono ?_; rintro e w1 ⟨rfl, hb1⟩; have B1 := hid hb1; clear hb1)
    | (go_at_call 112; refine (CH.out w1 B1.out).mono ?_; rintro e w2 ⟨rfl, hb2⟩; have B2 := hid (gt B1.out hb2); clear hb2))
  have T2 := hid (H.out.later (B2.out.drew))
  have HPX0 := hid T2.out.core.hd
  have CC := hid (Cch.clone_any sb so 512 cap b w2.drew ((HR.out.keep B2.out).keep (Below.refl _ _).drew) (by omega))
  refine wp_region_K (S := fun W => PgAt W p x) (fun _ => false) (by kernel_rfl) HPX0.out (fun hHeld => ?_)
  refine gkp 0 ?_
  refine gkp 1 ?_
  refine gkp 2 ?_
  refine gkp 3 ?_
  refine gkt 4 ?_ (h := by intro W hSw; obtain ⟨a0, a1, a2, a3, a4, a5, a6, a7, a8, a9, a10, a11⟩ := hSw.cells; go_simp; first | done | with_reducible rfl)
  refine gkp 5 ?_
  refine gkp 6 ?_
  refine gk1 7 (fun K hK => ?_)
  go_simp
  go_at_call 113; refine (CC.out).mono ?_; rintro e w5 ⟨a5, cp0, rfl, h5, hb5⟩; obtain ⟨g, cp, hv, hB, hlt⟩ := h5.form (by omega); simp only [Value.slice.injEq] at hv; obtain ⟨rfl, -, rfl⟩ := hv; have RD : Hid (Rd w5 (some ⟨g, 0, none⟩) 512 cp0 b) := hid (Cch.rd_own h5); have HB5 := hid hb5; have HGB : Hid (w2.heap.size ≤ g) := hid hB; have HGL := hid hlt; have T5 := hid (T2.out.later hb5); have HPX := hid T5.out.core.hd; have hR : PgAt w5 p x := HPX.out; have MP := hid T5.out.chg.map; clear h5 hb5 hB hlt
  refine hK.out _ _ hR (fun hHeld => ?_)
  clear hK K
  (try simp only [Act.put, sA, sZ, sS])
  clear hR
  refine gk1 8 (fun K hK => ?_)
  refine Dsk.step_mapUpdate rfl (.tmp 24) (.tmp 25) (.tmp 27) 70 rfl 3 79 (int_keyed Tryz.underlying3) Tryz.underlying70 slR x.m n (dirtD (false :: c) enc) rfl MP.out HNB.out _ _ (.int .i64 (z : Int)) rfl rfl (keyOf_int_mk Tryz.underlying3 hwz.out) (secD [g, 0, 512, cp0]) [] (slR_mk g 0 512 cp0) ?_; intro w6 ho6 hg6; have O6 := hid ho6; have G6 := hid hg6; have hR : PgAt w6 p x := HPX.out.stay (hg6.block p HPX.out.lt (by intro e; exact hpm.out (Option.some.inj e))); clear ho6 hg6
  refine hK.out _ _ hR (fun hHeld => ?_)
  clear hK K
  (try simp only [Act.put])
  clear hR
  refine wpAnyK_done (by kernel_rfl) ?_ _
  go_wp2
  go_ret
  have hcl := T5.out.chg.len; have hel := T5.out.chg.el
  obtain ⟨hz1, hz2⟩ := HZ.out
  have OG : Out w5 (NC p x P C) g := ⟨HGL.out, fun hk => by have h1 := T2.out.core.lt hk; have h2 := HGB.out; have h3 : w2.drew.heap.size = w2.heap.size := rfl; omega⟩
  have hgm : ∀ y, y < w5.heap.size → y ≠ x.m → w6.heap[y]? = w5.heap[y]? := fun y hy hym => G6.out.block y hy (fun e => hym (Option.some.inj e))
  have hchg : Chg w6 (NC p x P C) x.m (n + 1) (now.set (z - 1) b) (c.set (z - 1) true) (enc.set z [g, 0, 512, cp0]) :=
    T5.out.chg.note (z := z) RD.out OG O6.out G6.out (by simp [hcl]) (by simp [hel]) (fun j => by
      cases j with
      | zero => rw [show decide (0 = z) = false by simp; omega]; rfl
      | succ j =>
        simp only [List.getD_cons_succ]
        rw [getD_setB _ _ _ (by omega), show decide (j = z - 1) = decide (j + 1 = z) from decide_eq_decide.2 (by omega)]) (fun j _ hjz => by
      simp only [was, List.getD]
      rw [List.getElem?_set_ne (fun e => hjz e.symm)]) (by
      simp only [was, List.getD]
      rw [List.getElem?_set_self (by omega)]; rfl) (by rw [getD_set, if_pos ⟨rfl, by omega⟩]) hz1 (fun i hiz _ => by rw [getD_set, if_neg (by omega)])
  have hOm : ¬ NC p x P C x.m := T5.out.mo.2
  refine ⟨rfl, ⟨enc.set z [g, 0, 512, cp0], ⟨T5.out.core.stay G6.out.size (fun y hy hk => hgm y hy (fun e => hOm (e ▸ hk))), hchg, T5.out.mo.later G6.out.size, T5.out.fits, T5.out.pages, by rw [List.length_set]; exact T5.out.np, T5.out.ws, ?_, T5.out.bs, by rw [List.length_set]; exact T5.out.bn, tab_of T5.out.tab (hgm 0 T5.out.t0.1 (fun e => T5.out.tm e.symm)), T5.out.t0.later G6.out.size, T5.out.tm, ?_⟩, fun e he => (by rcases List.mem_or_eq_of_mem_set he with h8 | h8; exact Or.inl h8; (right; exact ⟨g, 512, cp0, h8, by have h9 := HGB.out; have h7 := B2.out.size; omega⟩))⟩, ?_⟩
  · intro i hi
    rw [List.length_set] at hi
    rw [getD_set]
    split
    · exact ⟨RD.out.1, HBB.out⟩
    · exact T5.out.wn i hi
  · intro i hi hci
    rw [List.length_set] at hi
    rw [getD_setB _ _ _ (by omega)] at hci
    simp only [Bool.or_eq_false_iff, decide_eq_false_iff_not] at hci
    rw [getD_set, if_neg (by omega)]
    exact T5.out.sm i hi hci.1
  · have hb5 := gt B2.out (undrew HB5.out)
    exact ⟨G6.out.os.trans hb5.os, G6.out.tape.trans hb5.tape, G6.out.output.trans hb5.output, Nat.le_trans hb5.size G6.out.size, fun y hy hn => (hgm y (Nat.lt_of_lt_of_le hy hb5.size) (fun e => hn (Or.inr e))).trans (hb5.block y hy)⟩

theorem put_page (p z sb so cap : Nat) (b : Pg) (x : PC) (P : Dsk.Parts) (C : Cch.Parts) (d : DS) (s : CS) (sure : List Pg) (n : Nat) (now : List Pg) (c : List Bool) (enc : List Sec) (w : World) (h : Tx w p x P C d s sure n now c enc) (hb : x.busy = true) (hz1 : 1 ≤ z) (hz2 : z ≤ now.length) (hnb : n ≤ 1000000) (hr : Rd w (some ⟨sb, so, none⟩) 512 cap b) (hbb : ∀ y ∈ b, y < 256) :
    Calls Tryz.prog 86 #[.pointer (some ⟨p, 0, none⟩), .int .i64 (z : Int), .slice (some ⟨sb, so, none⟩) 512 cap] w fun e w' => e = .returned (.int .i64 0) ∧ PutTo w w' p x x P C d s sure (n + 1) (now.set (z - 1) b) (c.set (z - 1) true) :=
  (put_pagee p z sb so cap b x P C d s sure n now c enc w h hb hz1 hz2 hnb hr hbb).mono fun _ _ ⟨h1, h2⟩ => ⟨h1, h2.to⟩

end Go.Proofs.YtgjgkpnjchflaaaGreatDoor

/- Open on a disk without a journal; no statement of the seat is proved here. -/
namespace Go.Proofs.YtgjgkpnjchflaaaGreatDoor
open Go.RowKit Go.Maps
open Dsk (gt hid undrew keep_old keep_cell lt_cell Rd DS FS Sec DiskP DFrame Grew From lenD readD newD known)
open Cch (CS CP Fr)

/-- A disk without a journal, whose pages are these. -/
structure Clean (d : DS) (l : List Pg) : Prop where
  f0 : d.f0.now = secsOf l
  f1 : d.f1.now = []
  on : d.off = false

theorem hot_nil : Jrn.hotN [] = false := by decide

theorem Clean.len {d : DS} {l : List Pg} (h : Clean d l) : lenD d 0 = l.length * 4 ∧ lenD d 1 = 0 := by
  constructor
  · show d.f0.now.length = _
    rw [h.f0, secsOf_length]
  · show d.f1.now.length = _
    rw [h.f1]; rfl
theorem Clean.read {d : DS} {l : List Pg} (h : Clean d l) : readD d 1 0 0 = ([], 0) := by
  have hk : known 1 = true := rfl
  have hf : (d.file 1) = d.f1 := rfl
  unfold readD
  rw [h.on, hk, hf, h.f1]
  simp
theorem Clean.cut {d : DS} {l : List Pg} (h : Clean d l) : firstD [.ct 1 0] d = (0, d) := by
  simp [firstD, Stp.go, h.len.2]

set_option maxHeartbeats 4000000 in
set_option maxRecDepth 20000 in
theorem recovered_clean (q : Nat) (P : Dsk.Parts) (d : DS) (l : List Pg) (w : World) (h : DiskP w q P d) (hc : Clean d l) (hl : l.length ≤ 4000) (hT : Jrn.Tab w) (hop : d.ops ≤ 900000000) :
    Calls Tryz.prog 42 #[.pointer (some ⟨q, 0, none⟩)] w fun e w' => e = .returned (.tuple #[.int .i64 0, .int .i64 0]) ∧ DiskTo w w' q P d := by
  obtain ⟨hl0, hl1⟩ := hc.len
  have cs1 := Dsk.sectors_call q P d 1 w h
  rw [hl1] at cs1
  have cr := Dsk.read_call q P d 0 0 0 w h (by omega) (by omega)
  have cr1 := Dsk.read_call q P d 1 0 0 w h (by omega) (by omega)
  rw [hc.read] at cr1
  have C1 := hid cs1; have C2 := hid cr1; have H := hid h; have HT := hid hT; have HC := hid hc
  have HC0 : Hid (∀ W, DiskP W q P d → Calls Tryz.prog 43 #[.pointer (some ⟨q, 0, none⟩), .int .i64 0] W fun e w' => e = .returned (.int .i64 ((l.length * 4 : Nat) : Int)) ∧ w' = W) := hid (fun W hW => by have := Dsk.sectors_call q P d 0 W hW; rw [hl0] at this; exact this)
  obtain ⟨N, hN⟩ : ∃ N, l.length * 4 = N := ⟨_, rfl⟩
  rw [hN] at HC0
  have hm : (N : Int) % 4 = 0 := by omega
  have hq : (N : Int) / 4 ≤ 4000 := by omega
  have hN0 : (0 : Int) ≤ (N : Int) := by omega
  have htm : (N : Int).tmod 4 = 0 := by rw [Int.tmod_eq_emod_of_nonneg hN0]; exact hm
  have htd : (N : Int).tdiv 4 ≤ 4000 := by rw [Int.tdiv_eq_ediv_of_nonneg hN0]; exact hq
  clear cs1 cr cr1 h hT hc hl0 hl1 hN
  go_enter Tryz.func42, Tryz.ntmps42
  have t1 : Hid True := hid trivial
  go_wp2_with (first
    | (go_at_call 43; clear t1; refine C1.out.mono ?_; rintro e w1 ⟨rfl, hw⟩; obtain rfl := hw.symm)
    | (go_at_call 77; refine C2.out.mono ?_; rintro e w2 ⟨ro, rc, rfl, hr, _, hb⟩; have R2 : Hid (Rd w2 ro 0 rc []) := hid hr; have B2 := hid hb; clear hr hb)
    | (go_at_call 43; refine (HC0.out w2 (H.out.later B2.out)).mono ?_; rintro e w3 ⟨rfl, hw⟩; obtain rfl := hw.symm)
    | (go_at_call 78; refine (cut_make q 1 0 (DN q P) w2 (fun k hk => Nat.lt_of_lt_of_le (DN.lt H.out hk) B2.out.size)).mono ?_; rintro e w4 ⟨x4, rfl, s4, hb4⟩; obtain ⟨n4, cs4, rfl⟩ := step_func s4; have hb5 : Below w4.heap.size w4 (w4.alloc (.cells #[.func (.func n4) #[] cs4] 133)) := Below.alloc (Below.refl _ _) (Nat.le_refl _) _; have S5 := hid (s4.later hb5); have B4 : Hid (w2.heap.size ≤ w4.heap.size) := hid hb4.size; have B5 := hid (gt (gt B2.out hb4) hb5); have R5 := hid ((R2.out.keep hb4).keep hb5); clear s4 hb4 hb5)
    | (go_at_call 79; refine (Jrn.hot_any ro 0 rc [] _ R5.out (by intro x hx; cases hx) (by omega) (HT.out.keep B5.out)).mono ?_; rw [hot_nil]; rintro e w6 ⟨rfl, hb6⟩; have B6 := hid (gt B5.out hb6); have ST6 : Hid (StepsAt w6 q (DN q P) (some ⟨w4.heap.size, 0, none⟩) [.ct 1 0]) := hid (StepsAt.later (steps_lit (us := [.func (.func n4) #[] cs4]) 133 (fun k hk => Nat.lt_of_lt_of_le (DN.lt H.out hk) B2.out.size) B4.out (fun j s hs => by match j with | 0 => simp at hs; subst hs; exact ⟨_, rfl, S5.out⟩ | j + 1 => simp at hs)) hb6); clear hb6)
    | (go_at_call 83; refine (show Calls Tryz.prog 83 #[.slice (some ⟨w4.heap.size, 0, none⟩) 1 1] w6 _ from first_call q P d (some ⟨w4.heap.size, 0, none⟩) 1 [.ct 1 0] w6 (H.out.later B6.out) (by simp; omega) ST6.out).mono ?_; rw [HC.out.cut]; rintro e w7 ⟨rfl, hto⟩; have T7 := hid hto; clear hto))
  go_ret2
  exact ⟨rfl, DiskTo.first B6.out T7.out⟩

set_option maxHeartbeats 1000000 in
theorem end_gen (p : Nat) (T : Int) (w : World) (a4 : w.cell? ⟨p, 4, none⟩ = some (.int .i64 T)) (a5 : w.cell? ⟨p, 5, none⟩ = some (.bool false)) (a6 : w.cell? ⟨p, 6, none⟩ = some (.int .i64 0)) (a7 : w.cell? ⟨p, 7, none⟩ = some (.map none)) (a8 : w.cell? ⟨p, 8, none⟩ = some (.slice none 0 0)) (a9 : w.cell? ⟨p, 9, none⟩ = some (.int .i64 0)) (hf : ∀ i, w.frozen? ⟨p, i, none⟩ = false) :
    Calls Tryz.prog 44 #[.pointer (some ⟨p, 0, none⟩)] w fun e w' => e = .returned (.tuple #[]) ∧ w' = (((((w.setCell ⟨p, 5, none⟩ (.bool false)).setCell ⟨p, 6, none⟩ (.int .i64 T)).setCell ⟨p, 7, none⟩ (.map (some w.heap.size))).setCell ⟨p, 8, none⟩ (.slice none 0 0)).setCell ⟨p, 9, none⟩ (.int .i64 0)).alloc (.map #[] 0) := by
  have f5 := hf 5; have f6 := hf 6; have f7 := hf 7; have f8 := hf 8; have f9 := hf 9
  have hp : p < w.heap.size := lt_cell a4
  have hne : ¬ p = w.heap.size := by omega
  have mk := fun W => run_makeMap (P := Tryz.prog) 70 W
  clear hf
  go_enter Tryz.func44, Tryz.ntmps44
  go_wp2
  go_end0
  exact ⟨rfl, rfl⟩

/-- The cells of a pager that is being opened. -/
def rawP (q k : Nat) (T : Int) (rep : Int) : List Value := [.bool true, .int .i64 0, .pointer (some ⟨q, 0, none⟩), .pointer (some ⟨k, 0, none⟩), .int .i64 T, .bool false, .int .i64 0, .map none, .slice none 0 0, .int .i64 0, .int .i64 0, .int .i64 rep]

/-- What Open leaves. -/
structure OpenTo (w w' : World) (q : Nat) (P : Dsk.Parts) (d : DS) (room : Nat) (l : List Pg) (p : Nat) (x : PC) : Prop where
  is : ∃ P' C s, Rest w' p x P' C d s l ∧ s.hit = 0 ∧ s.miss = 0 ∧ s.room = room ∧ (∀ b, NC p x P' C b → DN q P b ∨ w.heap.size ≤ b)
  xq : x.q = q
  com : x.com = 0
  rep : x.rep = 0
  busy : x.busy = false
  new : w.heap.size ≤ p
  mnew : w.heap.size ≤ x.m
  mks : x.mo = none ∧ x.ml = 0 ∧ x.mc = 0 ∧ x.last = 0
  fr : Fr (DN q P) w w'

theorem tx_open {w w' : World} {p q k T : Nat} {P : Dsk.Parts} {C : Cch.Parts} {d : DS} {s : CS} {l : List Pg} (hd : w.heap[p]? = some (.cells (rawP q k (T : Int) 0).toArray 78 (0, 0))) (dk : DiskP w q P d) (ck : CP w k C s) (dc : ∀ b, DN q P b → ¬ C.S k b) (dp : ¬ DN q P p) (cp : ¬ C.S k p) (hf : Fits s l) (hT : T = l.length) (ws : Whole l) (bs : l.length ≤ 4000) (tab : Jrn.Tab w) (t0 : 0 < w.heap.size ∧ ¬ DN q P 0 ∧ ¬ C.S k 0 ∧ 0 ≠ p)
    (hw : w' = (((((w.setCell ⟨p, 5, none⟩ (.bool false)).setCell ⟨p, 6, none⟩ (.int .i64 (T : Int))).setCell ⟨p, 7, none⟩ (.map (some w.heap.size))).setCell ⟨p, 8, none⟩ (.slice none 0 0)).setCell ⟨p, 9, none⟩ (.int .i64 0)).alloc (.map #[] 0)) :
    Rest w' p ⟨q, k, T, false, T, w.heap.size, none, 0, 0, 0, 0, 0⟩ P C d s l ∧ Fr (fun b => b = p) w w' := by
  have hpl : p < w.heap.size := (Array.getElem?_eq_some_iff.1 hd).1
  obtain ⟨W, hW⟩ : ∃ W, W = ((((w.setCell ⟨p, 5, none⟩ (.bool false)).setCell ⟨p, 6, none⟩ (.int .i64 (T : Int))).setCell ⟨p, 7, none⟩ (.map (some w.heap.size))).setCell ⟨p, 8, none⟩ (.slice none 0 0)).setCell ⟨p, 9, none⟩ (.int .i64 0) := ⟨_, rfl⟩
  have hWs : W.heap.size = w.heap.size := by rw [hW]; simp
  have hWo : ∀ b, b ≠ p → W.heap[b]? = w.heap[b]? := fun b hb => by
    rw [hW, heap_setCell_other _ _ _ _ hb, heap_setCell_other _ _ _ _ hb, heap_setCell_other _ _ _ _ hb, heap_setCell_other _ _ _ _ hb, heap_setCell_other _ _ _ _ hb]
  rw [← hW] at hw
  have hs' : w'.heap.size = w.heap.size + 1 := by rw [hw]; simp [hWs]
  have ho : ∀ b, b < w.heap.size → b ≠ p → w'.heap[b]? = w.heap[b]? := fun b hb hbp => by
    rw [hw, heap_alloc_old _ _ _ (by rw [hWs]; exact hb)]; exact hWo b hbp
  have hPg : PgAt w' p ⟨q, k, T, false, T, w.heap.size, none, 0, 0, 0, 0, 0⟩ := by
    have h1 := Cch.blk_set (Cch.blk_set (Cch.blk_set (Cch.blk_set (Cch.blk_set hd (i := 5) (v := .bool false)) (i := 6) (v := .int .i64 (T : Int))) (i := 7) (v := .map (some w.heap.size))) (i := 8) (v := .slice none 0 0)) (i := 9) (v := .int .i64 0)
    rw [← hW] at h1
    unfold PgAt
    rw [hw, heap_alloc_old _ _ _ (by rw [hWs]; exact hpl), h1]
    rfl
  have hmap : w'.ownsMap Tryz.prog 3 slR w.heap.size 0 (Dsk.dirtD (false :: List.replicate l.length false) (List.replicate (l.length + 1) [])) := by
    rw [dirt_none, hw]
    have := World.ownsMap_made W Tryz.prog 3 slR (H := Unit)
    rw [hWs] at this; exact this
  have hcore : Core w' p ⟨q, k, T, false, T, w.heap.size, none, 0, 0, 0, 0, 0⟩ P C d s :=
    ⟨hPg, dk.stay (by omega) (fun b hb hdd => ho b hb (fun e => dp (by rcases hdd with h1 | h1; exact Or.inr (e ▸ h1); exact Or.inl (e ▸ h1)))), ck.stay (fun b hb hS => ho b hb (fun e => cp (e ▸ hS))), dc, dp, cp⟩
  have hfr : Fr (fun b => b = p) w w' := by rw [hw, hW]; exact alloc_frame (set_frame (set_frame (set_frame (set_frame (set_frame (Fr.refl _ _))))))
  have hcf : ∀ i, (List.replicate l.length false).getD i false = false := fun i => by
    rw [List.getD, List.getElem?_replicate]; split <;> rfl
  have hlt : ∀ b, NC p ⟨q, k, T, false, T, w.heap.size, none, 0, 0, 0, 0, 0⟩ P C b → b < w.heap.size := fun b hb => by
    rcases hb with hb | hb | rfl
    · exact DN.lt dk hb
    · exact ck.lt hb
    · exact hpl
  refine ⟨⟨hcore, ⟨hmap, by simp, by simp, fun i hi => ?_⟩, ⟨by show w.heap.size < _; omega, fun hk => by have := hlt _ hk; simp only at this; omega⟩, hf, hT, hT, ws, ws, bs, bs, tab_of tab (ho 0 t0.1 t0.2.2.2), ⟨by have := t0.1; omega, fun hk => ?_⟩, ?_, fun i hi _ => ⟨hi, rfl⟩⟩, hfr⟩
  · rw [hcf i] at hi; cases hi
  · rcases hk with hk | hk | hk
    · exact t0.2.1 hk
    · exact t0.2.2.1 hk
    · exact t0.2.2.2 hk
  · show w.heap.size ≠ 0
    have := t0.1; omega

set_option maxHeartbeats 8000000 in
set_option maxRecDepth 20000 in
theorem open_clean (q room : Nat) (P : Dsk.Parts) (d : DS) (l : List Pg) (w : World) (h : DiskP w q P d) (hc : Clean d l) (hw : Whole l) (hl : l.length ≤ 4000) (hr1 : 8 ≤ room) (hr2 : room ≤ 4096) (hT : Jrn.Tab w) (h0 : Out w (DN q P) 0) (hop : d.ops ≤ 900000000) :
    Calls Tryz.prog 18 #[.pointer (some ⟨q, 0, none⟩), .int .i64 (room : Int)] w fun e w' => ∃ p x, e = .returned (.tuple #[.pointer (some ⟨p, 0, none⟩), .int .i64 0]) ∧ OpenTo w w' q P d room l p x := by
  have c41 := hid (Dsk.room_any q P d w h)
  have hrm : ¬ (d.room : Int) = 0 := by have := h.ok.r1; omega
  have c42 := hid (Cch.new_yes room w (by omega) hr2)
  have HR := hid (fun W (hb : Below w.heap.size w W) => recovered_clean q P d l W (h.later hb) hc hl (hT.keep hb) hop)
  have H := hid h; have HC := hid hc; have HW := hid hw; have HT := hid hT; have H0 := hid h0
  have hl0 := hc.len.1
  have C29 : Hid (∀ W P', DiskP W q P' d → Calls Tryz.prog 43 #[.pointer (some ⟨q, 0, none⟩), .int .i64 0] W fun e w' => e = .returned (.int .i64 ((l.length * 4 : Nat) : Int)) ∧ w' = W) := hid (fun W P' hW => by have := Dsk.sectors_call q P' d 0 W hW; rw [hl0] at this; exact this)
  obtain ⟨T, hTl⟩ : ∃ T, T = l.length := ⟨_, rfl⟩
  rw [← hTl] at C29 hl
  have HTL := hid hTl
  obtain ⟨N, hN⟩ : ∃ N, T * 4 = N := ⟨_, rfl⟩
  rw [hN] at C29
  have hdiv : (N : Int).tdiv 4 = (T : Int) := by rw [Int.tdiv_eq_ediv_of_nonneg (by omega)]; omega
  have hr8 : ¬ (room : Int) < 8 := by omega
  clear h hc hw hT h0 hl0 hTl hN
  go_enter Tryz.func18, Tryz.ntmps18
  go_upto_region 10 with (first
    | (go_at_call 40; refine c41.out.mono ?_; rintro e w1 ⟨rfl, hw1⟩; obtain rfl := hw1.symm)
    | (go_at_call 41; refine c42.out.mono ?_; rintro e w2 ⟨k, rfl, C, hcp, hks, hCS, hb2⟩; have CP2 := hid hcp; have CS2 := hid hCS; have B2 := hid hb2; clear hcp hks hCS hb2)
    | (go_at_call 42; refine (HR.out w2 B2.out).mono ?_; rintro e w3 ⟨rfl, hto⟩; have T3 := hid hto; clear hto))
  obtain ⟨P3, hd3, hg3⟩ := T3.out.is
  obtain ⟨pp, hpp⟩ : ∃ pp, pp = w3.heap.size := ⟨_, rfl⟩
  obtain ⟨W4, hW4⟩ : ∃ W4, W4 = w3.alloc (.cells (rawP q k 0 0).toArray 78) := ⟨_, rfl⟩
  have hb4 : Below w3.heap.size w3 W4 := by rw [hW4]; exact Below.alloc (Below.refl _ _) (Nat.le_refl _) _
  have hr4 : W4.heap[pp]? = some (.cells (rawP q k 0 0).toArray 78 (0, 0)) := by rw [hW4, hpp]; exact heap_alloc_new w3 _
  obtain ⟨W5, hW5⟩ : ∃ W5, W5 = W4.setCell ⟨pp, 4, none⟩ (.int .i64 (T : Int)) := ⟨_, rfl⟩
  have hr5 : W5.heap[pp]? = some (.cells (rawP q k (T : Int) 0).toArray 78 (0, 0)) := by rw [hW5, Cch.blk_set hr4]; rfl
  have h5o : ∀ b, b ≠ pp → W5.heap[b]? = W4.heap[b]? := fun b hb => by rw [hW5, heap_setCell_other _ _ _ _ hb]
  have h5s : W5.heap.size = W4.heap.size := by rw [hW5]; simp
  have h4s : W4.heap.size = pp + 1 := by rw [hW4, hpp]; simp
  have h45 : ∀ b, b < pp → W5.heap[b]? = w3.heap[b]? := fun b hb => (h5o b (by omega)).trans (hb4.block b (by omega))
  have hdk5 : DiskP W5 q P3 d := hd3.stay (by omega) (fun b hb _ => h45 b (by omega))
  have hf3 := fr_df T3.out.fr
  have hDN : ∀ b, DN q P b → b < w.heap.size := fun b hb => DN.lt H.out hb
  have hck5 : CP W5 k C ⟨room, [], 0, 0⟩ := CP2.out.stay (fun b hb hS => (h45 b (by have := hf3.size; omega)).trans (hf3.blk b hb (fun hk => by have h1 := hDN b hk; have h2 := CS2.out b hS; omega)))
  have hDN3 : ∀ b, DN q P3 b → DN q P b ∨ w2.heap.size ≤ b := fun b hb => by
    rcases hb with hb | hb
    · exact Or.inl (Or.inl hb)
    · rcases hg3 b hb with h1 | h1
      · exact Or.inl (Or.inr h1)
      · exact Or.inr h1
  have hdc : ∀ b, DN q P3 b → ¬ C.S k b := fun b hb hS => by
    have h1 := CP2.out.lt hS
    rcases hDN3 b hb with h2 | h2
    · have h3 := hDN b h2; have h4 := CS2.out b hS; omega
    · omega
  have hdp : ¬ DN q P3 pp := fun hk => by have h1 := DN.lt hd3 hk; omega
  have hcp : ¬ C.S k pp := fun hk => by have h1 := CP2.out.lt hk; have := hf3.size; omega
  have hsz : w.heap.size ≤ w3.heap.size := Nat.le_trans B2.out.size hf3.size
  have h00 := H0.out.1
  have hD0 : ¬ DN q P3 0 := fun hk => by
    rcases hDN3 0 hk with h1 | h1
    · exact H0.out.2 h1
    · have := B2.out.size; omega
  have hC0 : ¬ C.S k 0 := fun hS => by have := CS2.out 0 hS; omega
  have htab : Jrn.Tab W5 := tab_of HT.out ((h45 0 (by omega)).trans ((hf3.blk 0 (by have := B2.out.size; omega) (fun hk => H0.out.2 hk)).trans (B2.out.block 0 h00)))
  have hfit : Fits (⟨room, [], 0, 0⟩ : CS) l := ⟨fun r hr => (by cases hr), Nat.zero_le _, hr1⟩
  have FF : Hid (∀ w', w' = (((((W5.setCell ⟨pp, 5, none⟩ (.bool false)).setCell ⟨pp, 6, none⟩ (.int .i64 (T : Int))).setCell ⟨pp, 7, none⟩ (.map (some W5.heap.size))).setCell ⟨pp, 8, none⟩ (.slice none 0 0)).setCell ⟨pp, 9, none⟩ (.int .i64 0)).alloc (.map #[] 0) → _) :=
    hid (fun w' hw => tx_open hr5 hdk5 hck5 hdc hdp hcp hfit HTL.out HW.out (by rw [← HTL.out]; exact hl) htab ⟨by omega, hD0, hC0, by omega⟩ hw)
  have CE := hid (end_gen pp (T : Int) W5 ((Cch.hd_cell hr5 4).trans rfl) ((Cch.hd_cell hr5 5).trans rfl) ((Cch.hd_cell hr5 6).trans rfl) ((Cch.hd_cell hr5 7).trans rfl) ((Cch.hd_cell hr5 8).trans rfl) ((Cch.hd_cell hr5 9).trans rfl) (fun i => Cch.hd_frozen hr5 i))
  have CS4 := hid (C29.out W4 P3 (hd3.later hb4))
  have k4 : W4.cell? ⟨pp, 4, none⟩ = some (.int .i64 0) := (Cch.hd_cell hr4 4).trans rfl
  have f4 : W4.frozen? ⟨pp, 4, none⟩ = false := Cch.hd_frozen hr4 4
  have HW5 := hid hW5
  have FIN : Hid (Fr (DN q P) w W5 ∧ w.heap.size ≤ pp ∧ (∀ b, DN q P3 b ∨ C.S k b ∨ b = pp → DN q P b ∨ w.heap.size ≤ b)) := hid ⟨⟨by rw [hW5, hW4]; exact hf3.os.trans B2.out.os, by rw [hW5, hW4]; exact hf3.tape.trans B2.out.tape, by rw [hW5, hW4]; exact hf3.output.trans B2.out.output, by omega, fun b hb hn => (h45 b (by omega)).trans ((hf3.blk b (Nat.lt_of_lt_of_le hb B2.out.size) hn).trans (B2.out.block b hb))⟩, by omega, fun b hb => by
    rcases hb with hb | hb | hb
    · rcases hDN3 b hb with h1 | h1
      · exact Or.inl h1
      · exact Or.inr (Nat.le_trans B2.out.size h1)
    · exact Or.inr (CS2.out b hb)
    · right; omega⟩
  have hw4 : w3.alloc (.cells #[.bool true, .int .i64 0, .pointer (some ⟨q, 0, none⟩), .pointer (some ⟨k, 0, none⟩), .int .i64 0, .bool false, .int .i64 0, .map none, .slice none 0 0, .int .i64 0, .int .i64 0, .int .i64 0] 78) = W4 := by rw [hW4]; rfl
  rw [hw4, ← hpp]
  clear hw4 hW4 hpp hb4 hr4 hr5 h5o h5s h4s h45 hdk5 hf3 hDN hck5 hDN3 hdc hdp hcp hsz h00 hD0 hC0 htab hfit hW5 hd3 hg3
  go_wp2_with (first
    | (go_at_call 43; refine CS4.out.mono ?_; rintro e w5 ⟨rfl, hw5⟩; obtain rfl := hw5.symm)
    | (go_at_call 44; rw [← HW5.out]; refine CE.out.mono ?_; rintro e w6 ⟨rfl, hw6⟩; have HW6 := hid hw6; clear hw6))
  go_ret2
  obtain ⟨t1, t2⟩ := FF.out w6 HW6.out
  obtain ⟨g1, g2, g3⟩ := FIN.out
  exact ⟨pp, _, rfl, ⟨⟨P3, C, _, t1, rfl, rfl, rfl, g3⟩, rfl, rfl, rfl, rfl, g2, g1.size, ⟨rfl, rfl, rfl, rfl⟩, fr_trans g1 t2 (fun b hb => by right; rw [hb]; exact g2)⟩⟩

end Go.Proofs.YtgjgkpnjchflaaaGreatDoor

/- The bytes of a page, as the laws make them; no statement of the seat is proved here. -/
namespace Go.Proofs.YtgjgkpnjchflaaaGreatDoor
open Go.RowKit Go.Maps
open Dsk (gt hid undrew keep_old keep_cell lt_cell Rd DS FS Sec DiskP DFrame Grew From lenD readD newD known)
open Cch (CS CP Fr)

/-- The bytes that the laws' page makes. -/
def pgF (x k : Nat) : Nat := (x + k / 97) % 256
def pageS (x : Nat) : Pg := (List.range 512).map (pgF x)
theorem pageS_length (x : Nat) : (pageS x).length = 512 := by rw [pageS, List.length_map, List.length_range]
theorem pageS_bytes (x : Nat) : ∀ b ∈ pageS x, b < 256 := by
  intro b hb
  obtain ⟨k, _, rfl⟩ := List.mem_map.1 hb
  exact Nat.mod_lt _ (by omega)
theorem pageS_get (x : Nat) {k : Nat} (h : k < 512) : (pageS x).getD k 0 = pgF x k := by
  rw [pageS, List.getD, List.getElem?_map, List.getElem?_range h]; rfl

def RowB (W : World) (g : Nat) (xs : List Nat) : Prop := W.heap[g]? = some (.cells (Dsk.bs xs).toArray 5 (0, 0))
theorem RowB.set {W : World} {g i v : Nat} {xs : List Nat} (h : RowB W g xs) : RowB (W.setCell ⟨g, i, none⟩ (.int .u8 (v : Int))) g (xs.set i v) := by
  unfold RowB
  rw [Cch.blk_set h]
  simp [Dsk.bs]
theorem RowB.rd {W : World} {g n : Nat} {xs : List Nat} (h : RowB W g xs) (hl : xs.length = n) : Rd W (some ⟨g, 0, none⟩) n n xs :=
  ⟨hl, Nat.le_refl _, fun h => (by cases h), fun _ => ⟨g, 0, rfl, fun t ht => by rw [Cch.hd_cell h, Nat.zero_add, Dsk.bs_get xs t (by omega)]⟩⟩

end Go.Proofs.YtgjgkpnjchflaaaGreatDoor
