/- What a loss of power makes of the document's disk; no statement of the seat is proved here. -/
import Derived.Test.YtkgenmooepfhjaaGa
import Derived.Deep.DeepCutAuto
namespace Go.Proofs.Ytkgenmooepfhjaa
open Go.RowKit Go.Maps

/-- How far a loss of power has come in a file. -/
structure CrI (w2 : World) (r o : Nat) (S : Nat → Prop) (B : RP) (F : FS) (s : Stay) (ct i kk En : Nat) (fl : Bool) (now : List Sec) (st : Stay) (vs : List Value) (W : World) : Prop where
  nl : now.length = F.now.length
  en : En ≤ F.now.length
  k : st.k = kk
  keep : st.keep = s.keep
  t : st.t = (if fl then ct else 0)
  fold : (idx (F.dirt.take i)).foldl (crash1 F.old) (F.now, F.old.length, s) = (now, En, st)
  rf : RefF W r o (From S w2) { B with vs := vs } ⟨now, F.old, F.dirt⟩
  fr : FFrame w2 W r o (Mut B)

def CrRel (L k0 : Nat) (Wa : World) (r o : Nat) (S : Nat → Prop) (B : RP) (F : FS) (s : Stay) (ct : Nat) (c n tb e : Value) (W : World) : Prop :=
  ∃ (i kk En : Nat) (fl : Bool) (now : List Sec) (st : Stay) (vs : List Value), i ≤ L ∧ c = .int .i64 (i : Int) ∧ n = .int .i64 (kk : Int) ∧ tb = .bool fl ∧ e = .int .i64 (En : Int) ∧ En ≤ L ∧ kk ≤ k0 + i ∧ Hid (CrI Wa r o S B F s ct i kk En fl now st vs W)

theorem idx_take_no (l : List Bool) (i : Nat) (h : l.getD i false = false) : idx (l.take (i + 1)) = idx (l.take i) := by
  rcases Nat.lt_or_ge i l.length with hi | hi
  · unfold idx
    have e1 : (l.take (i + 1)).length = i + 1 := by simp; omega
    have e2 : (l.take i).length = i := by simp; omega
    rw [e1, e2, List.range_succ, List.filter_append]
    have e3 : List.filter (fun j => (l.take (i + 1)).getD j false) [i] = [] := by
      simp [List.getD, List.getElem?_take] at h ⊢
      simpa [List.getD] using h
    rw [e3, List.append_nil]
    refine List.filter_congr (fun j hj => ?_)
    have : j < i := by simpa using hj
    simp [List.getD, this, show j < i + 1 by omega]
  · rw [List.take_of_length_le (by omega), List.take_of_length_le (by omega)]
theorem idx_take_yes (l : List Bool) (i : Nat) (h : l.getD i false = true) : idx (l.take (i + 1)) = idx (l.take i) ++ [i] := by
  have hi : i < l.length := by
    rcases Nat.lt_or_ge i l.length with hi | hi
    · exact hi
    · rw [List.getD, List.getElem?_eq_none hi] at h; cases h
  unfold idx
  have e1 : (l.take (i + 1)).length = i + 1 := by simp; omega
  have e2 : (l.take i).length = i := by simp; omega
  rw [e1, e2, List.range_succ, List.filter_append]
  have e3 : List.filter (fun j => (l.take (i + 1)).getD j false) [i] = [i] := by
    rw [List.filter_cons_of_pos]
    · rfl
    · simpa [List.getD, List.getElem?_take] using h
  rw [e3]
  congr 1
  refine List.filter_congr (fun j hj => ?_)
  have : j < i := by simpa using hj
  simp [List.getD, this, show j < i + 1 by omega]

theorem FTurn.after {w W W' : World} {r o : Nat} {S : Nat → Prop} {B B1 B2 : RP} {F : FS} (hw : w.heap.size ≤ W.heap.size) (hfr : FFrame w W r o (Mut B)) (hm : ∀ k, Mut B1 k → Mut B k) (ht : FTurn W W' r o (From S w) B1 F B2) (hr : ¬ From S w r) : FTurn w W' r o S B F B2 := by
  refine ⟨ht.f.imp (fun k hk hS => (from_from hw k).1 hS) hr, hfr.trans (ht.fr.imp (fun k _ hk => Or.inl (hm k hk))), fun k hk => ?_⟩
  rcases ht.mu k hk with h | h
  · exact Or.inl (hm k h)
  · exact Or.inr (Nat.le_trans hw h)

theorem sec_new {w W : World} {a : Option Addr} {c : Nat} {x : Sec} {S : Nat → Prop} (h : W.ownsRow 0 5 1 (.slice a 128 c) 128 (bs x)) (hn : ∀ y, a = some y → w.heap.size ≤ y.block) : SecAt W (From S w) (.slice a 128 c) x :=
  ⟨h, fun k hk => by obtain ⟨y, hy, rfl⟩ := slice_own hk; exact Or.inr (hn y hy)⟩

theorem zero_sec {w W : World} {S : Nat → Prop} (hw : w.heap.size ≤ W.heap.size) : SecAt (W.alloc (.cells (Array.replicate 128 (.int .u8 0)) 5)) (From S w) (.slice (some ⟨W.heap.size, 0, none⟩) 128 128) noughts := by
  refine sec_new ⟨by simp [bs, noughts], .inr ⟨_, _, _, rfl, Nat.zero_le _, heap_alloc_new _ _, Nat.le_refl _, by decide, by simp, ?_⟩⟩ (fun y hy => by cases hy; exact hw)
  simp [bs, noughts]

theorem SecAt.later {w w' : World} {S : Nat → Prop} {v : Value} {x : Sec} (h : SecAt w S v x) (hb : Below w.heap.size w w') : SecAt w' S v x := h.stay (fun k hk => hb.block k (own_lt h.1 hk)) (fun _ h => h)

theorem CrI.step {Wa wr W1 w7 W8 : World} {r o : Nat} {S : Nat → Prop} {B : RP} {F : FS} {s : Stay} {ct i kk En En' nq : Nat} {fl f2 : Bool} {now : List Sec} {st : Stay} {vs vs' : List Value} {x : Sec} (hI : CrI Wa r o S B F s ct i kk En fl now st vs wr) (hdi : F.dirt.getD i false = true) (hiL : i < F.now.length)
    (hb1 : Below wr.heap.size wr W1) (hb7 : Below (W1.drewN nq).drew.heap.size (W1.drewN nq).drew w7) (hrf : RefF W8 r o (From S Wa) { B with vs := vs' } ⟨now.set i x, F.old, F.dirt⟩) (hfr : FFrame w7 W8 r o (Mut B))
    (hx : x = (now.getD i []).take st.n ++ (was F.old i).drop st.n) (ht : st.next.t = (if f2 then ct else 0)) (hE : En' = if 0 < st.n then max En (i + 1) else En) : CrI Wa r o S B F s ct (i + 1) (kk + 1) En' f2 (now.set i x) st.next vs' W8 := by
  have hrl := hI.rf.plt
  have f1 := hI.fr.later hrl hb1
  have f2' : FFrame Wa (W1.drewN nq).drew r o (Mut B) := ⟨f1.os, f1.tape, f1.output, f1.size, f1.block, f1.cell, f1.fz⟩
  have f3 := f2'.later (by have := hb1.size; show r < W1.heap.size; omega) hb7
  refine ⟨by rw [List.length_set]; exact hI.nl, ?_, by simp only [Stay.next, hI.k], by simp only [Stay.next]; exact hI.keep, ht, ?_, hrf, f3.trans (hfr.imp (fun k _ hk => Or.inl hk))⟩
  · rw [hE]; have := hI.en; split <;> omega
  · rw [idx_take_yes _ _ hdi, List.foldl_append, hI.fold]
    simp only [List.foldl_cons, List.foldl_nil, crash1]
    rw [hx, hE]

/-- What the reading half of a store of a sector asks of the world. -/
def Reads24 (r o g i L cN gx cx : Nat) (W : World) : Prop := W.cell? ⟨r, o, none⟩ = some (.slice (some ⟨g, 0, none⟩) L cN) ∧ W.cell? ⟨g, i, none⟩ = some (.slice (some ⟨gx, 0, none⟩) 128 cx)
theorem Reads24.keep {r o g i L cN gx cx : Nat} {W W' : World} (h : Reads24 r o g i L cN gx cx W) (hb : Below W.heap.size W W') : Reads24 r o g i L cN gx cx W' := ⟨keep_old hb h.1, keep_old hb h.2⟩
theorem bs_take (x : List Nat) (n : Nat) : (bs x).take n = bs (x.take n) := by simp [bs, List.map_take]
theorem bs_drop (x : List Nat) (n : Nat) : (bs x).drop n = bs (x.drop n) := by simp [bs, List.map_drop]

theorem src_head {w : World} {S : Nat → Prop} {g c : Nat} {x : Sec} (h : SecAt w S (.slice (some ⟨g, 0, none⟩) 128 c) x) {n : Nat} (hn : n ≤ 128) (c' : Nat) : Src w (some ⟨g, 0, none⟩) n c' (bs (x.take n)) := by
  have hs := src_row h.1 (bs_one _)
  have hl := h.len
  refine ⟨by rw [bs_length, List.length_take]; omega, fun h => (by cases h), fun ad ha j u hu => ?_, bs_one _⟩
  cases ha
  refine hs.at_ _ rfl j u ?_
  rw [← bs_take, List.getElem?_take] at hu
  split at hu
  · exact hu
  · cases hu
theorem src_tail {w : World} {S : Nat → Prop} {g c : Nat} {x : Sec} (h : SecAt w S (.slice (some ⟨g, 0, none⟩) 128 c) x) {n : Nat} (hn : n ≤ 128) (c' : Nat) : Src w (some ⟨g, n, none⟩) (128 - n) c' (bs (x.drop n)) := by
  have hs := src_row h.1 (bs_one _)
  have hl := h.len
  refine ⟨by rw [bs_length, List.length_drop]; omega, fun h => (by cases h), fun ad ha j u hu => ?_, bs_one _⟩
  cases ha
  rw [← bs_drop, List.getElem?_drop] at hu
  have := hs.at_ _ rfl (n + j) u hu
  rw [Addr.add_lit] at this ⊢
  rw [Nat.zero_add] at this
  exact this
theorem src_none {w : World} (a : Addr) (c : Nat) (x : Sec) (hx : x.length = 128) : Src w (some a) 0 c (bs (x.drop 128)) :=
  ⟨by rw [bs_length, List.length_drop]; omega, fun h => (by cases h), fun ad _ j u hu => by rw [← bs_drop, List.drop_eq_nil_of_le (by rw [bs_length]; omega)] at hu; simp at hu, bs_one _⟩


set_option maxHeartbeats 16000000 in
set_option maxRecDepth 20000 in
theorem rcrash_on (r : Nat) (R : RParts) (d : DS) (ko : Option Addr) (kc : Nat) (keep : List Bool) (t : Int) (w : World) (h : RefP w r R d) (ho : d.off = false)
    (hrd : RdB w ko keep) (hl : keep.length ≤ 100) (hap : 0 < keep.length → ∀ a, ko = some a → ¬ R.mut a.block ∧ a.block ≠ r) :
    Calls Try.prog 34 #[.pointer (some ⟨r, 0, none⟩), .agg #[.slice ko keep.length kc, .int .i64 t]] w fun e w' => e = .returned (.bool true) ∧ (∃ R', RefP w' r R' (crashD d keep t) ∧ RGrew R w R') ∧ DFrame w w' r R.mut := by
  obtain ⟨kn, hkn⟩ : ∃ kn, kn = keep.length := ⟨_, rfl⟩
  rw [← hkn]
  have HKN := hid hkn
  have HLK := hid hl
  clear hl
  obtain ⟨ct, hct⟩ : ∃ ct, ct = clip t := ⟨_, rfl⟩
  have HCTE := hid hct
  have HCT : Hid (ct ≤ 128) := hid (by rw [hct]; exact clip_le t)
  obtain ⟨cb, hcb⟩ : ∃ cb, cb = w.heap.size := ⟨_, rfl⟩
  have hpl := h.rlt
  -- the power goes
  obtain ⟨D0, hD0⟩ : ∃ D0, D0 = { disarmD d with off := true } := ⟨_, rfl⟩
  obtain ⟨w2, hw2⟩ : ∃ w2, w2 = ((w.setCell ⟨r, 7, none⟩ (.bool true)).setCell ⟨r, 9, none⟩ (.int .i64 0)).alloc (.cells #[.slice ko kn kc, .int .i64 t] 70) := ⟨_, rfl⟩
  have hpl2 : RefP ((w.setCell ⟨r, 7, none⟩ (.bool true)).setCell ⟨r, 9, none⟩ (.int .i64 0)) r R D0 ∧ DFrame w ((w.setCell ⟨r, 7, none⟩ (.bool true)).setCell ⟨r, 9, none⟩ (.int .i64 0)) r R.mut := by
    rw [hD0]
    refine h.plain _ (by simp) (fun k hk => by rw [set_heap _ _ _ _ _ hk, set_heap _ _ _ _ _ hk]) (fun i hi => by rw [set_off _ _ _ (by omega), set_off _ _ _ (by omega)]) (fun i => by rw [World.frozen?_setCell, World.frozen?_setCell]) ⟨rfl, rfl, rfl⟩ ?_ ?_ ?_ rfl rfl rfl (fun hl => by simp [disarmD] at hl) ⟨h.ok.r1, h.ok.r2, h.ok.sum, h.ok.ok0, h.ok.ok1, by simp [disarmD], by simp [disarmD], by simp [disarmD], h.ok.op⟩
    · rw [set_off _ _ _ (by omega)]; exact set_same h.c7
    · rw [set_off _ _ _ (by omega), set_off _ _ _ (by omega)]; exact h.c8
    · exact set_same ((set_off _ _ _ (by omega)).trans h.c9)
  have hz2 : ((w.setCell ⟨r, 7, none⟩ (.bool true)).setCell ⟨r, 9, none⟩ (.int .i64 0)).heap.size = w.heap.size := by simp
  have hb2 : Below ((w.setCell ⟨r, 7, none⟩ (.bool true)).setCell ⟨r, 9, none⟩ (.int .i64 0)).heap.size ((w.setCell ⟨r, 7, none⟩ (.bool true)).setCell ⟨r, 9, none⟩ (.int .i64 0)) w2 := by rw [hw2]; exact (Below.refl _ _).alloc (Nat.le_refl _) _
  have HR0 := hid (hpl2.1.later hb2)
  have HFR0 : Hid (DFrame w w2 r R.mut) := hid (hpl2.2.trans (DFrame.below hb2))
  have HC0 : Hid (w2.cell? ⟨cb, 0, none⟩ = some (.slice ko kn kc) ∧ w2.cell? ⟨cb, 1, none⟩ = some (.int .i64 t) ∧ RdB w2 ko keep) := hid ⟨by rw [hw2, hcb, World.cell?_alloc_at _ _ _ _ hz2.symm]; rfl, by rw [hw2, hcb, World.cell?_alloc_at _ _ _ _ hz2.symm]; rfl, rdB_stay hrd (fun hp a ha hl => HFR0.out.block _ hl (hap hp a ha).2 (hap hp a ha).1)⟩
  have HCBR : Hid (cb ≠ r ∧ ¬ R.all cb) := hid ⟨by omega, fun hk => by have := h.lt hk; omega⟩
  have HCBM0 : Hid (¬ Mut R.B0 cb) := hid (fun hm => HCBR.out.2 (h.mut (Or.inl hm)))
  have HKO0 : Hid (0 < keep.length → ∀ a, ko = some a → a.block ≠ r ∧ ¬ Mut R.B0 a.block) := hid (fun hp a ha => ⟨(hap hp a ha).2, fun hm => (hap hp a ha).1 (Or.inl hm)⟩)
  have c7 := h.c7; have c9 := h.c9; have f7 := h.fz 7; have f9 := h.fz 9
  rw [ho] at c7
  have H := hid h; have HW2 := hid hw2; have HAP := hid hap; have HCBE := hid hcb; have HD0 := hid hD0
  clear h hrd hap hpl2 hb2 hw2 hcb hct hD0 hz2 hkn
  obtain ⟨s0, hs0⟩ : ∃ s0, s0 = (⟨keep, 0, ct⟩ : Stay) := ⟨_, rfl⟩
  have HS0 := hid hs0
  obtain ⟨k0, hk0⟩ : ∃ k0, k0 = 0 := ⟨_, rfl⟩
  obtain ⟨fl0, hfl0⟩ : ∃ fl0, fl0 = true := ⟨_, rfl⟩
  have HSK0 : Hid (s0.k = k0 ∧ s0.t = (if fl0 then ct else 0)) := hid (by rw [hs0, hk0, hfl0]; exact ⟨rfl, rfl⟩)
  have HSK0K : Hid (s0.keep = keep) := hid (by rw [hs0])
  have HSTART0 : Hid ((Value.int .i64 0 : Value) = .int .i64 (k0 : Int) ∧ (Value.bool true : Value) = .bool fl0) := hid (by rw [hk0, hfl0]; exact ⟨rfl, rfl⟩)
  have hkb0 : k0 ≤ 100000 := by omega
  clear hs0 hk0 hfl0
  go_enter Try.func34, Try.ntmps34
  go_wp2_with fail
  rw [← HCBE.out]
  rw [← HW2.out]
  refine wp_loop_rounds 3 ?_
  rw [rounds_succ]
  obtain ⟨R0, hR0⟩ : ∃ R0, R0 = R := ⟨_, rfl⟩
  rw [← hR0] at HR0 HCBM0 HKO0
  have HRE0 := hid hR0
  clear hR0
  have HL0 := HR0.out.ok.ok0
  have hF := HR0.out.f0
  obtain ⟨S, hS⟩ : ∃ S, S = R0.S0 := ⟨_, rfl⟩
  obtain ⟨B, hB⟩ : ∃ B, B = R0.B0 := ⟨_, rfl⟩
  obtain ⟨F, hFF⟩ : ∃ F, F = D0.f0 := ⟨_, rfl⟩
  rw [← hS, ← hB, ← hFF] at hF
  obtain ⟨Wa, hWa⟩ : ∃ W, W = w2 := ⟨_, rfl⟩
  rw [← hWa] at hF ⊢
  have HOK : Hid F.Ok := hid (by rw [hFF]; exact HL0)
  have hsum := HR0.out.ok.sum; have hr2 := HR0.out.ok.r2
  obtain ⟨L, hL⟩ : ∃ L, L = F.now.length := ⟨_, rfl⟩
  have hLd : F.dirt.length = L := by rw [hL]; exact HOK.out.ld
  have hLb : L ≤ 32768 := by rw [hL, hFF]; omega
  obtain ⟨OL, hOL⟩ : ∃ OL, OL = F.old.length := ⟨_, rfl⟩
  have hOLb : OL ≤ L := by rw [hOL, hL]; exact HOK.out.lo
  have HF := hid hF; have HS := hid hS; have HB := hid hB; have HFF := hid hFF; have HL := hid hL; have HOL := hid hOL; have HLD := hid hLd; have HWA := hid hWa
  have j1 := hF.c1; have j2 := hF.c2
  rw [← hOL] at j1
  rw [hLd] at j2
  have HCB : Hid (∀ W, FFrame Wa W r 1 (Mut B) → W.cell? ⟨cb, 0, none⟩ = some (.slice ko kn kc) ∧ W.cell? ⟨cb, 1, none⟩ = some (.int .i64 t) ∧ RdB W ko keep) := hid (fun W hfr => by
    have hbl : W.heap[cb]? = Wa.heap[cb]? := hfr.block cb (by rw [hWa]; exact lt_cell HC0.out.1) HCBR.out.1 (by rw [hB]; exact HCBM0.out)
    rw [hWa] at hbl
    exact ⟨(World.cell?_of_block hbl).trans HC0.out.1, (World.cell?_of_block hbl).trans HC0.out.2.1, rdB_stay HC0.out.2.2 (fun hp a ha hl => by
      have := hfr.block a.block (by rw [hWa]; exact hl) (HKO0.out hp a ha).1 (by rw [hB]; exact (HKO0.out hp a ha).2)
      rwa [hWa] at this)⟩)
  have hrl := hF.plt
  clear HL0 hF hS hB hFF hL hLd hOL hWa hsum hr2
  go_wp2_with fail
  go_loopw [44, 5, 6, 9] (fun c n tb e W => CrRel L k0 Wa r 1 S B F s0 ct c n tb e W) (fun c _ _ _ _ => L - (intOf c).toNat)
  case atStart => exact ⟨0, k0, OL, fl0, F.now, s0, B.vs, Nat.zero_le _, rfl, HSTART0.out.1, HSTART0.out.2, rfl, hOLb, by omega, hid ⟨rfl, by rw [← HL.out]; exact hOLb, HSK0.out.1, rfl, HSK0.out.2, by rw [HOL.out]; simp [idx], HF.out.up, FFrame.refl _ _ _ _⟩⟩
  case round =>
    obtain ⟨i, kk, En, fl, now, st, vs, hi, rfl, rfl, rfl, rfl, hEn, hkk, hI⟩ := hrel
    have HZ : Hid (Wa.heap.size ≤ wr.heap.size) := hid hI.out.fr.size
    by_cases hiL : i < L
    · have hiL' : (i : Int) < (L : Int) := by omega
      have hrd := hI.out.rf.rd
      (try simp only at hrd)
      rw [HLD.out] at hrd
      obtain ⟨gD, hgD, hcd, hgl⟩ := bool_cell hrd hiL
      (try simp only at hgD)
      have HGD := hid hgD
      rw [HGD.out]
      clear hrd hgD
      cases hdi : F.dirt.getD i false <;> rw [hdi] at hcd
      · go_wp2
        exact ⟨⟨i + 1, kk, En, fl, now, st, vs, by omega, by simp, rfl, rfl, rfl, hEn, by omega, hid ⟨hI.out.nl, hI.out.en, hI.out.k, hI.out.keep, hI.out.t, by rw [idx_take_no _ _ hdi]; exact hI.out.fold, hI.out.rf, hI.out.fr⟩⟩, by simp [intOf]; omega⟩
      · have mk : ∀ W : World, (Instr.makeSlice 37 (.int .i64 128) (.int .i64 128)).run Try.prog W = .ok (.slice (some ⟨W.heap.size, 0, none⟩) 128 128) (W.alloc (.cells (Array.replicate 128 (.int .u8 0)) 5)) := fun W => make_any 128 128 (Nat.le_refl _) (by omega) W
        obtain ⟨W1, hW1⟩ : ∃ W1, W1 = wr.alloc (.cells (Array.replicate 128 (.int .u8 0)) 5) := ⟨_, rfl⟩
        have hb1 : Below wr.heap.size wr W1 := by rw [hW1]; exact (Below.refl _ _).alloc (Nat.le_refl _) _
        have hz1 : SecAt W1 (From S Wa) (.slice (some ⟨wr.heap.size, 0, none⟩) 128 128) noughts := by rw [hW1]; exact zero_sec HZ.out
        have HRF1 := hid (hI.out.rf.later hb1)
        have j1' := HRF1.out.c1
        (try simp only at j1')
        rw [← HOL.out] at j1'
        have j1w := hI.out.rf.c1
        (try simp only at j1w)
        rw [← HOL.out] at j1w
        have hrlw : r < wr.heap.size := hI.out.rf.plt
        have HW1 := hid hW1; have HZ1 := hid hz1; have HB1 := hid hb1
        have HRDC := HCB.out W1 ⟨hb1.os.trans hI.out.fr.os, hb1.tape.trans hI.out.fr.tape, hb1.output.trans hI.out.fr.output, Nat.le_trans HZ.out hb1.size, fun k hk hkr hm => (hb1.block k (by have := HZ.out; omega)).trans (hI.out.fr.block k hk hkr hm), fun j h0 h1 h2 => (World.cell?_of_block (hb1.block r (by have := HZ.out; omega))).trans (hI.out.fr.cell j h0 h1 h2), fun j => (World.frozen?_of_block (hb1.block r (by have := HZ.out; omega))).trans (hI.out.fr.fz j)⟩
        obtain ⟨x0, x1, hrdk⟩ := HRDC
        have HRDK := hid hrdk
        clear hW1 hz1 hb1 hrdk
        go_upto_if 58 with (fail)
        rw [← HW1.out]
        clear mk j1w
        go_cut [12] (fun s W => W = W1 ∧ ∃ gs cs, s = .slice (some ⟨gs, 0, none⟩) 128 cs ∧ 128 ≤ cs ∧ Hid (SecAt W1 (From S Wa) (.slice (some ⟨gs, 0, none⟩) 128 cs) (was F.old i)))
        case first =>
          by_cases hio : i < OL
          · have hio' : (i : Int) < (OL : Int) := by omega
            obtain ⟨gS, hgS, hcS, _⟩ := row_cell HRF1.out.rs (i := i) (by show i < F.old.length; rw [← HOL.out]; exact hio)
            obtain ⟨v, hvv, hsec⟩ := HRF1.out.ao.get (i := i) (by show i < F.old.length; rw [← HOL.out]; exact hio)
            rw [hvv] at hcS
            obtain ⟨gs, cs, rfl, hcs, _⟩ := hsec.form
            (try simp only at hgS hcS hsec)
            rw [hgS] at j1'
            have hw : F.old.getD i [] = was F.old i := by rw [was, List.getD, List.getD, List.getElem?_eq_getElem (by rw [← HOL.out]; exact hio)]; rfl
            rw [hw] at hsec
            have HSEC := hid hsec
            clear hsec hvv hgS hw
            go_wp2
            go_meet
            case rel => exact ⟨rfl, gs, cs, rfl, hcs, HSEC⟩
          · have hio' : ¬ ((i : Int) < (OL : Int)) := by omega
            have hw : was F.old i = noughts := by rw [was, List.getD, List.getElem?_eq_none (by rw [← HOL.out]; omega)]; rfl
            have HZZ := HZ1.out
            rw [← hw] at HZZ
            replace HZZ := hid HZZ
            clear hw
            go_wp2
            go_meet
            case rel => exact ⟨rfl, wr.heap.size, 128, rfl, Nat.le_refl _, HZZ⟩
        case rest =>
          obtain ⟨rfl, gs, cs, rfl, hcs, HSEC⟩ := hcut
          obtain ⟨kp, hkp⟩ : ∃ kp, kp = st.kept := ⟨_, rfl⟩
          have HKP := hid hkp
          have HKE : Hid (st.keep = keep) := hid (hI.out.keep.trans HSK0K.out)
          have hkE := hI.out.k
          clear hkp
          go_upto_region 17 with (fail)
          go_cut [13] (fun s W => s = .bool kp ∧ ∃ n, W = wc.drewN n)
          case first =>
            rcases Nat.eq_zero_or_pos keep.length with h0 | h0
            · have hkpf : kp = false := by rw [HKP.out]; simp [Stay.kept, HKE.out, h0]
              have hkn : kn = 0 := by rw [HKN.out, h0]
              subst hkpf
              rw [hkn] at x0
              have hd : decide ((0 : Int) < ((0 : Nat) : Int)) = false := by simp
              go_quiet (fail)
              go_wp2
              go_meet
              case rel => exact ⟨rfl, nq, rfl⟩
            · obtain ⟨kb, kof, hko, hc⟩ := HRDK.out h0
              obtain ⟨M, hM⟩ : ∃ M, M = kk % keep.length := ⟨_, rfl⟩
              have hMl : M < keep.length := by rw [hM]; exact Nat.mod_lt _ h0
              have hcell := hc M hMl
              have hkpt : keep.getD M false = kp := by rw [HKP.out, hM]; simp [Stay.kept, HKE.out, h0, hkE]
              rw [hkpt] at hcell
              rw [hko] at x0
              have hm : (kk : Int).tmod (kn : Int) = (M : Int) := by rw [hM, Int.tmod_eq_emod_of_nonneg (by omega), HKN.out]; simp
              rw [← HKN.out] at hMl h0
              have h0' : (0 : Int) < (kn : Int) := by omega
              have h0'' : ¬ (kn : Int) = 0 := by omega
              have h0n : ((kn : Int) == 0) = false := by simp; omega
              have hMi : (M : Int) < (kn : Int) := by omega
              clear hc hM hko hkpt
              cases kp
              · go_quiet (fail)
                go_wp2
                go_meet
                case rel => exact ⟨rfl, nq, rfl⟩
              · go_quiet (fail)
                go_wp2
                go_meet
                case rel => exact ⟨rfl, nq, rfl⟩
          case rest =>
            obtain ⟨rfl, nq, rfl⟩ := hcut
            obtain ⟨Wd, hWd⟩ : ∃ Wd, Wd = wc.drewN nq := ⟨_, rfl⟩
            rw [← hWd]
            obtain ⟨nn, hnn⟩ : ∃ nn, nn = st.n := ⟨_, rfl⟩
            obtain ⟨f2, hf2⟩ : ∃ f2, f2 = (if kp then fl else false) := ⟨_, rfl⟩
            have htt := hI.out.t
            have HNXT : Hid (st.next.t = (if f2 then ct else 0)) := hid (by rw [hf2]; simp only [Stay.next, ← HKP.out]; cases kp <;> simp [htt])
            have HNN : Hid (nn ≤ 128) := hid (by rw [hnn]; exact n_le (by rw [htt]; have := HCT.out; split <;> omega))
            have HNE := hid hnn
            have y1 : Wd.cell? ⟨cb, 1, none⟩ = some (.int .i64 t) := by rw [hWd]; exact x1
            have HWD := hid hWd
            clear hWd
            go_upto_if 83 with (fail)
            go_cut [14, 6] (fun s14 s6 W => s14 = .int .i64 (nn : Int) ∧ s6 = .bool f2 ∧ W = Wd)
            case first =>
              cases kp
              · cases fl
                · have hn0 : (nn : Int) = 0 := by rw [hnn]; simp [Stay.n, ← HKP.out, htt]
                  have hf0 : f2 = false := by rw [hf2]; rfl
                  clear hnn hf2
                  go_wp2
                  go_meet
                  case rel => exact ⟨by rw [hn0], by rw [hf0], rfl⟩
                · have hn0 : nn = ct := by rw [hnn]; simp [Stay.n, ← HKP.out, htt]
                  have hf0 : f2 = false := by rw [hf2]; rfl
                  clear hnn hf2
                  go_wp2_with (go_at_call 57; refine (rclip_any t _).mono ?_; rintro e wx ⟨rfl, hwx⟩; obtain rfl := hwx.symm)
                  go_meet
                  case rel => exact ⟨by rw [hn0, HCTE.out], by rw [hf0], rfl⟩
              · have hn0 : nn = 128 := by rw [hnn]; simp [Stay.n, ← HKP.out]
                have hf0 : f2 = fl := by rw [hf2]; rfl
                clear hnn hf2
                go_wp2
                go_meet
                case rel => exact ⟨by rw [hn0]; rfl, by rw [hf0], rfl⟩
            case rest =>
              obtain ⟨rfl, rfl, hwc⟩ := hcut
              obtain rfl := hwc.symm
              clear hnn hf2 htt
              have hrn := HRF1.out.rn
              (try simp only at hrn)
              rw [hI.out.nl, ← HL.out] at hrn
              obtain ⟨gN, hgN, hcN, hgNl, hcap⟩ := row_cell hrn hiL
              obtain ⟨v, hvv, hsx⟩ := HRF1.out.an.get (i := i) (by show i < now.length; rw [hI.out.nl, ← HL.out]; exact hiL)
              (try simp only at hvv hsx)
              rw [hvv] at hcN
              obtain ⟨gx, cx, rfl, hcx, _⟩ := hsx.form
              obtain ⟨cN, hcNN⟩ : ∃ cN, cN = B.cN := ⟨_, rfl⟩
              have k0 : Wd.cell? ⟨r, 1, none⟩ = some (.slice (some ⟨gN, 0, none⟩) L cN) := by
                rw [HWD.out]
                have := HRF1.out.c0
                simp only at this
                rw [hI.out.nl, ← HL.out, hgN, ← hcNN] at this
                exact this
              have k1 : Wd.cell? ⟨gN, i, none⟩ = some (.slice (some ⟨gx, 0, none⟩) 128 cx) := by rw [HWD.out]; exact hcN
              have HGN : Hid (({ B with vs := vs } : RP).aN = some ⟨gN, 0, none⟩) := hid hgN
              have HRFd : Hid (RefF Wd r 1 (From S Wa) { B with vs := vs } ⟨now, F.old, F.dirt⟩) := hid (by rw [HWD.out]; exact HRF1.out.stay (fun _ _ _ => rfl) (fun _ _ _ => rfl))
              have HXd : Hid (SecAt Wd.drew (From S Wa) (.slice (some ⟨gx, 0, none⟩) 128 cx) (now.getD i [])) := hid (by rw [HWD.out]; exact hsx)
              have HSECd : Hid (SecAt Wd.drew (From S Wa) (.slice (some ⟨gs, 0, none⟩) 128 cs) (was F.old i)) := hid (by rw [HWD.out]; exact HSEC.out)
              have HIL : Hid (i < ({ now := now, old := F.old, dirt := F.dirt } : FS).now.length) := hid (by show i < now.length; rw [hI.out.nl, ← HL.out]; exact hiL)
              have HZd : Hid (Wa.heap.size ≤ Wd.heap.size) := hid (by rw [HWD.out]; exact Nat.le_trans HZ.out HB1.out.size)
              have hnnI : (nn : Int) ≤ 128 := by have := HNN.out; omega
              have hnnx : (nn : Int) ≤ (cx : Int) := by omega
              have hiLw : (i : Int) < (L : Int) := hiL'
              clear hrn hvv hsx hcN hgN hcNN
              by_cases hcn : cs = nn
              · have hn128 : nn = 128 := by have := HNN.out; omega
                subst hn128
                subst hcn
                have hcx' : (128 : Int) ≤ (cx : Int) := by omega
                have hR0 : Reads24 r 1 gN i L cN gx cx Wd.drew := ⟨k0, k1⟩
                have hR := hR0
                go_wp2_with fail
                refine wp_region_G (S := Reads24 r 1 gN i L cN gx cx) (fun i => i == 21) (by kernel_rfl) hR (fun hHeld => ?_)
                refine wpAnyG_take (i := 0) (v := ?_) (op_at _ 0 _ rfl) (by kernel_rfl) (by kernel_rfl) (by kernel_rfl) (by kernel_rfl) (fun _ _ _ h => h) (Or.inl ⟨by rfl, ?_⟩) (by assumption) ?_
                rotate_left 1
                focus (intro W hSw; obtain ⟨q0, q1⟩ := hSw; go_simp; first | done | with_reducible rfl)
                (try simp only [Act.put, List.setIfInBounds_toArray, List.set_cons_zero, List.set_cons_succ])
                refine wpAnyG_take (i := 1) (v := ?_) (op_at _ 1 _ rfl) (by kernel_rfl) (by kernel_rfl) (by kernel_rfl) (by kernel_rfl) (fun _ _ _ h => h) (Or.inl ⟨by rfl, ?_⟩) (by assumption) ?_
                rotate_left 1
                focus (intro W hSw; obtain ⟨q0, q1⟩ := hSw; go_simp; first | done | with_reducible rfl)
                (try simp only [Act.put, List.setIfInBounds_toArray, List.set_cons_zero, List.set_cons_succ])
                refine wpAnyG_take (i := 2) (v := ?_) (op_at _ 2 _ rfl) (by kernel_rfl) (by kernel_rfl) (by kernel_rfl) (by kernel_rfl) (fun _ _ _ h => h) (Or.inl ⟨by rfl, ?_⟩) (by assumption) ?_
                rotate_left 1
                focus (intro W hSw; obtain ⟨q0, q1⟩ := hSw; go_simp; first | done | with_reducible rfl)
                (try simp only [Act.put, List.setIfInBounds_toArray, List.set_cons_zero, List.set_cons_succ])
                refine wpAnyG_take (i := 3) (v := ?_) (op_at _ 3 _ rfl) (by kernel_rfl) (by kernel_rfl) (by kernel_rfl) (by kernel_rfl) (fun _ _ _ h => h) (Or.inl ⟨by rfl, ?_⟩) (by assumption) ?_
                rotate_left 1
                focus (intro W hSw; obtain ⟨q0, q1⟩ := hSw; go_simp; first | done | with_reducible rfl)
                (try simp only [Act.put, List.setIfInBounds_toArray, List.set_cons_zero, List.set_cons_succ])
                refine wpAnyG_take (i := 4) (v := ?_) (op_at _ 4 _ rfl) (by kernel_rfl) (by kernel_rfl) (by kernel_rfl) (by kernel_rfl) (fun _ _ _ h => h) (Or.inl ⟨by rfl, ?_⟩) (by assumption) ?_
                rotate_left 1
                focus (intro W hSw; obtain ⟨q0, q1⟩ := hSw; go_simp; first | done | with_reducible rfl)
                (try simp only [Act.put, List.setIfInBounds_toArray, List.set_cons_zero, List.set_cons_succ])
                refine wpAnyG_take (i := 6) (v := ?_) (op_at _ 6 _ rfl) (by kernel_rfl) (by kernel_rfl) (by kernel_rfl) (by kernel_rfl) (fun _ _ _ h => h) (Or.inl ⟨by rfl, ?_⟩) (by assumption) ?_
                rotate_left 1
                focus (intro W hSw; obtain ⟨q0, q1⟩ := hSw; go_simp; first | done | with_reducible rfl)
                (try simp only [Act.put, List.setIfInBounds_toArray, List.set_cons_zero, List.set_cons_succ])
                refine wpAnyG_take (i := 7) (v := ?_) (op_at _ 7 _ rfl) (by kernel_rfl) (by kernel_rfl) (by kernel_rfl) (by kernel_rfl) (fun _ _ _ h => h) (Or.inl ⟨by rfl, ?_⟩) (by assumption) ?_
                rotate_left 1
                focus (intro W hSw; obtain ⟨q0, q1⟩ := hSw; go_simp; first | done | with_reducible rfl)
                (try simp only [Act.put, List.setIfInBounds_toArray, List.set_cons_zero, List.set_cons_succ])
                refine wpAnyG_take (i := 8) (v := ?_) (op_at _ 8 _ rfl) (by kernel_rfl) (by kernel_rfl) (by kernel_rfl) (by kernel_rfl) (fun _ _ _ h => h) (Or.inl ⟨by rfl, ?_⟩) (by assumption) ?_
                rotate_left 1
                focus (intro W hSw; obtain ⟨q0, q1⟩ := hSw; go_simp; first | done | with_reducible rfl)
                (try simp only [Act.put, List.setIfInBounds_toArray, List.set_cons_zero, List.set_cons_succ])
                refine wpAnyG_take (i := 9) (v := ?_) (op_at _ 9 _ rfl) (by kernel_rfl) (by kernel_rfl) (by kernel_rfl) (by kernel_rfl) (fun _ _ _ h => h) (Or.inl ⟨by rfl, ?_⟩) (by assumption) ?_
                rotate_left 1
                focus (intro W hSw; obtain ⟨q0, q1⟩ := hSw; go_simp; first | done | with_reducible rfl)
                (try simp only [Act.put, List.setIfInBounds_toArray, List.set_cons_zero, List.set_cons_succ])
                refine wpAnyG_take (i := 10) (v := ?_) (op_at _ 10 _ rfl) (by kernel_rfl) (by kernel_rfl) (by kernel_rfl) (by kernel_rfl) (fun _ _ _ h => h) (Or.inl ⟨by rfl, ?_⟩) (by assumption) ?_
                rotate_left 1
                focus (intro W hSw; obtain ⟨q0, q1⟩ := hSw; go_simp; first | done | with_reducible rfl)
                (try simp only [Act.put, List.setIfInBounds_toArray, List.set_cons_zero, List.set_cons_succ])
                refine wpAnyG_take (i := 11) (v := ?_) (op_at _ 11 _ rfl) (by kernel_rfl) (by kernel_rfl) (by kernel_rfl) (by kernel_rfl) (fun _ _ _ h => h) (Or.inl ⟨by rfl, ?_⟩) (by assumption) ?_
                rotate_left 1
                focus (intro W hSw; obtain ⟨q0, q1⟩ := hSw; go_simp; first | done | with_reducible rfl)
                (try simp only [Act.put, List.setIfInBounds_toArray, List.set_cons_zero, List.set_cons_succ])
                refine wpAnyG_take (i := 12) (v := ?_) (op_at _ 12 _ rfl) (by kernel_rfl) (by kernel_rfl) (by kernel_rfl) (by kernel_rfl) (fun _ _ _ h => h) (Or.inl ⟨by rfl, ?_⟩) (by assumption) ?_
                rotate_left 1
                focus (intro W hSw; obtain ⟨q0, q1⟩ := hSw; go_simp; first | done | with_reducible rfl)
                (try simp only [Act.put, List.setIfInBounds_toArray, List.set_cons_zero, List.set_cons_succ])
                refine wpAnyG_take (i := 13) (v := ?_) (op_at _ 13 _ rfl) (by kernel_rfl) (by kernel_rfl) (by kernel_rfl) (by kernel_rfl) (fun _ _ _ h => h) (Or.inl ⟨by rfl, ?_⟩) (by assumption) ?_
                rotate_left 1
                focus (intro W hSw; obtain ⟨q0, q1⟩ := hSw; go_simp; first | done | with_reducible rfl)
                (try simp only [Act.put, List.setIfInBounds_toArray, List.set_cons_zero, List.set_cons_succ])
                refine wpAnyG_take (i := 14) (v := ?_) (op_at _ 14 _ rfl) (by kernel_rfl) (by kernel_rfl) (by kernel_rfl) (by kernel_rfl) (fun _ _ _ h => h) (Or.inl ⟨by rfl, ?_⟩) (by assumption) ?_
                rotate_left 1
                focus (intro W hSw; obtain ⟨q0, q1⟩ := hSw; go_simp; first | done | with_reducible rfl)
                (try simp only [Act.put, List.setIfInBounds_toArray, List.set_cons_zero, List.set_cons_succ])
                refine wpAnyG_take (i := 16) (v := ?_) (op_at _ 16 _ rfl) (by kernel_rfl) (by kernel_rfl) (by kernel_rfl) (by kernel_rfl) (fun _ _ _ h => h) (Or.inl ⟨by rfl, ?_⟩) (by assumption) ?_
                rotate_left 1
                focus (intro W hSw; obtain ⟨q0, q1⟩ := hSw; go_simp; first | done | with_reducible rfl)
                (try simp only [Act.put, List.setIfInBounds_toArray, List.set_cons_zero, List.set_cons_succ])
                refine wpAnyG_take (i := 17) (v := ?_) (op_at _ 17 _ rfl) (by kernel_rfl) (by kernel_rfl) (by kernel_rfl) (by kernel_rfl) (fun _ _ _ h => h) (Or.inl ⟨by rfl, ?_⟩) (by assumption) ?_
                rotate_left 1
                focus (intro W hSw; obtain ⟨q0, q1⟩ := hSw; go_simp; first | done | with_reducible rfl)
                (try simp only [Act.put, List.setIfInBounds_toArray, List.set_cons_zero, List.set_cons_succ])
                refine wpAnyG_take (i := 18) (v := ?_) (op_at _ 18 _ rfl) (by kernel_rfl) (by kernel_rfl) (by kernel_rfl) (by kernel_rfl) (fun _ _ _ h => h) (Or.inl ⟨by rfl, ?_⟩) (by assumption) ?_
                rotate_left 1
                focus (intro W hSw; obtain ⟨q0, q1⟩ := hSw; go_simp; first | done | with_reducible rfl)
                (try simp only [Act.put, List.setIfInBounds_toArray, List.set_cons_zero, List.set_cons_succ])
                refine wpAnyG_ready (rs := [5]) (by kernel_rfl) (by simp) ?_
                refine AllReadyG.cons (op_at _ 5 _ rfl) (fun K hK => ?_) AllReadyG.nil
                go_simp
                have hb5 : Below Wd.drew.heap.size Wd.drew (Wd.drew.alloc (.cells #[] 5)) := (Below.refl _ _).alloc (Nat.le_refl _) _; have hR := hR0.keep hb5
                refine hK.out _ _ hR (fun hHeld => ?_)
                clear hK K
                (try simp only [Act.put, List.setIfInBounds_toArray, List.set_cons_zero, List.set_cons_succ])
                refine wpAnyG_ready (rs := [15]) (by kernel_rfl) (by simp) ?_
                refine AllReadyG.cons (op_at _ 15 _ rfl) (fun K hK => ?_) AllReadyG.nil
                have ed : Wd.drew.heap.size = Wd.heap.size := rfl; refine step_app rfl (.tmp 93) (.tmp 102) el37 rfl (.slice (some ⟨Wd.heap.size, 0, none⟩) 0 0) 0 [] rfl (World.ownsRow_made Wd.drew #[] 0 (Nat.zero_le _) (by decide) rfl) (some ⟨gx, 0, none⟩) 128 cx _ rfl (src_head (HXd.out.later hb5) HNN.out _) (by have := HNN.out; omega) ?_; simp only [Nat.zero_add, List.nil_append]; intro a6 c6 w6 ho6 hg6 hat6; have hb6 : Below Wd.drew.heap.size Wd.drew w6 := ((Below.refl _ Wd.drew).alloc (Nat.le_refl _) _).grown hg6 (by simp) (fun k hk => by simp [Value.ownBlock] at hk; omega); have hR := hR0.keep hb6; have ha6 : ∀ a, a6 = some a → Wd.drew.heap.size ≤ a.block := (fun a ha => by rcases hat6 a ha with h | h; simp [Value.ownBlock] at h; omega; simp at h; omega)
                refine hK.out _ _ hR (fun hHeld => ?_)
                clear hK K
                (try simp only [Act.put, List.setIfInBounds_toArray, List.set_cons_zero, List.set_cons_succ])
                refine wpAnyG_ready (rs := [19]) (by kernel_rfl) (by simp) ?_
                refine AllReadyG.cons (op_at _ 19 _ rfl) (fun K hK => ?_) AllReadyG.nil
                refine step_app rfl (.tmp 103) (.tmp 106) el37 rfl (.slice a6 128 c6) 128 _ rfl ho6 (some ⟨gs, 0, none⟩) 0 0 _ rfl (src_none _ _ (was F.old i) HSECd.out.len) (by have := HNN.out; omega) ?_; rw [show 128 + 0 = 128 by have := HNN.out; omega]; intro a7 c7 w7 ho7 hg7 hat7; have hb7 : Below Wd.drew.heap.size Wd.drew w7 := hb6.grown hg7 hb6.size (fun k hk => by obtain ⟨a, ha, rfl⟩ := slice_own hk; exact ha6 a ha); have hR := hR0.keep hb7; have ha7 : ∀ a, a7 = some a → Wd.drew.heap.size ≤ a.block := (fun a ha => by rcases hat7 a ha with h | h; obtain ⟨y, hy, e⟩ := slice_own h; rw [← e]; exact ha6 y hy; have := hb6.size; have e : Wd.drew.heap.size = Wd.heap.size := rfl; omega); rw [← bs_append] at ho7; have hv7 := sec_new (S := S) (w := Wa) ho7 (fun y hy => Nat.le_trans HZd.out (ha7 y hy)); have hrf7 := (HRFd.out.stay (w' := Wd.drew) (fun _ _ _ => rfl) (fun _ _ _ => rfl)).later hb7; have hset := hid (hrf7.setNow (g := gN) (i := i) HGN.out HIL.out hv7); have hst7 := own_set (by have := hrf7.rn; rw [HGN.out] at this; exact this) HIL.out (.slice a7 128 c7); obtain ⟨u7, hu7⟩ := hst7.2.1; have hfz7 := hst7.2.2; have HB7 := hid hb7; clear hst7 hg7 hat7 ho7 hrf7 hv7
                refine hK.out _ _ hR (fun hHeld => ?_)
                clear hK K
                (try simp only [Act.put, List.setIfInBounds_toArray, List.set_cons_zero, List.set_cons_succ])
                refine wpAnyG_take (i := 20) (v := ?_) (op_at _ 20 _ rfl) (by kernel_rfl) (by kernel_rfl) (by kernel_rfl) (by kernel_rfl) (fun _ _ _ h => h) (Or.inl ⟨by rfl, ?_⟩) (by assumption) ?_
                rotate_left 1
                focus (intro W hSw; obtain ⟨q0, q1⟩ := hSw; go_simp; first | done | with_reducible rfl)
                (try simp only [Act.put, List.setIfInBounds_toArray, List.set_cons_zero, List.set_cons_succ])
                refine wpAnyG_ready (rs := [21]) (by kernel_rfl) (by simp) ?_
                refine AllReadyG.late (op_at _ 21 _ rfl) (by rfl) (fun K hK => ?_) AllReadyG.nil
                go_simp
                refine hK.out _ _ ?_
                clear hK K
                (try simp only [Act.put, List.setIfInBounds_toArray, List.set_cons_zero, List.set_cons_succ])
                refine wpAnyG_done (by kernel_rfl) ?_ _
                obtain ⟨W8, hW8⟩ : ∃ W8, W8 = w7.setCell ⟨gN, i, none⟩ (.slice a7 128 c7) := ⟨_, rfl⟩
                rw [← hW8] at hset
                have hrf8 := hset.out.1; have hfr8 := hset.out.2
                have HST : Hid (∀ En', En' = (if 0 < 128 then max En (i + 1) else En) → CrI Wa r 1 S B F s0 ct (i + 1) (kk + 1) En' f2 (now.set i ((now.getD i []).take 128 ++ (was F.old i).drop 128)) st.next (vs.set i (.slice a7 128 c7)) W8) := hid (fun En' hE => by
                  have hb7' := HB7.out
                  rw [HWD.out] at hb7'
                  exact hI.out.step hdi (by rw [← HL.out]; exact hiL) HB1.out hb7' hrf8 hfr8 (by rw [← HNE.out]) HNXT.out (by rw [← HNE.out]; exact hE))
                have HW8 := hid hW8
                clear hset hrf8 hfr8 hW8
                have hNN := HNN.out
                by_cases hE : En < i + 1
                · have hE' : (En : Int) < (i : Int) + 1 := by omega
                  go_wp2
                  rw [← HW8.out]
                  exact ⟨⟨i + 1, kk + 1, i + 1, f2, _, _, _, by omega, by simp, by simp, rfl, by simp, by omega, by omega, hid (HST.out (i + 1) (by rw [if_pos (by omega)]; omega))⟩, by simp [intOf]; omega⟩
                · have hE' : ¬ ((En : Int) < (i : Int) + 1) := by omega
                  go_wp2
                  rw [← HW8.out]
                  exact ⟨⟨i + 1, kk + 1, En, f2, _, _, _, by omega, by simp, by simp, rfl, rfl, hEn, by omega, hid (HST.out En (by rw [if_pos (by omega)]; omega))⟩, by simp [intOf]; omega⟩
              · have hR0 : Reads24 r 1 gN i L cN gx cx Wd.drew := ⟨k0, k1⟩
                have hR := hR0
                go_wp2_with fail
                refine wp_region_G (S := Reads24 r 1 gN i L cN gx cx) (fun i => i == 21) (by kernel_rfl) hR (fun hHeld => ?_)
                refine wpAnyG_take (i := 0) (v := ?_) (op_at _ 0 _ rfl) (by kernel_rfl) (by kernel_rfl) (by kernel_rfl) (by kernel_rfl) (fun _ _ _ h => h) (Or.inl ⟨by rfl, ?_⟩) (by assumption) ?_
                rotate_left 1
                focus (intro W hSw; obtain ⟨q0, q1⟩ := hSw; go_simp; first | done | with_reducible rfl)
                (try simp only [Act.put, List.setIfInBounds_toArray, List.set_cons_zero, List.set_cons_succ])
                refine wpAnyG_take (i := 1) (v := ?_) (op_at _ 1 _ rfl) (by kernel_rfl) (by kernel_rfl) (by kernel_rfl) (by kernel_rfl) (fun _ _ _ h => h) (Or.inl ⟨by rfl, ?_⟩) (by assumption) ?_
                rotate_left 1
                focus (intro W hSw; obtain ⟨q0, q1⟩ := hSw; go_simp; first | done | with_reducible rfl)
                (try simp only [Act.put, List.setIfInBounds_toArray, List.set_cons_zero, List.set_cons_succ])
                refine wpAnyG_take (i := 2) (v := ?_) (op_at _ 2 _ rfl) (by kernel_rfl) (by kernel_rfl) (by kernel_rfl) (by kernel_rfl) (fun _ _ _ h => h) (Or.inl ⟨by rfl, ?_⟩) (by assumption) ?_
                rotate_left 1
                focus (intro W hSw; obtain ⟨q0, q1⟩ := hSw; go_simp; first | done | with_reducible rfl)
                (try simp only [Act.put, List.setIfInBounds_toArray, List.set_cons_zero, List.set_cons_succ])
                refine wpAnyG_take (i := 3) (v := ?_) (op_at _ 3 _ rfl) (by kernel_rfl) (by kernel_rfl) (by kernel_rfl) (by kernel_rfl) (fun _ _ _ h => h) (Or.inl ⟨by rfl, ?_⟩) (by assumption) ?_
                rotate_left 1
                focus (intro W hSw; obtain ⟨q0, q1⟩ := hSw; go_simp; first | done | with_reducible rfl)
                (try simp only [Act.put, List.setIfInBounds_toArray, List.set_cons_zero, List.set_cons_succ])
                refine wpAnyG_take (i := 4) (v := ?_) (op_at _ 4 _ rfl) (by kernel_rfl) (by kernel_rfl) (by kernel_rfl) (by kernel_rfl) (fun _ _ _ h => h) (Or.inl ⟨by rfl, ?_⟩) (by assumption) ?_
                rotate_left 1
                focus (intro W hSw; obtain ⟨q0, q1⟩ := hSw; go_simp; first | done | with_reducible rfl)
                (try simp only [Act.put, List.setIfInBounds_toArray, List.set_cons_zero, List.set_cons_succ])
                refine wpAnyG_take (i := 6) (v := ?_) (op_at _ 6 _ rfl) (by kernel_rfl) (by kernel_rfl) (by kernel_rfl) (by kernel_rfl) (fun _ _ _ h => h) (Or.inl ⟨by rfl, ?_⟩) (by assumption) ?_
                rotate_left 1
                focus (intro W hSw; obtain ⟨q0, q1⟩ := hSw; go_simp; first | done | with_reducible rfl)
                (try simp only [Act.put, List.setIfInBounds_toArray, List.set_cons_zero, List.set_cons_succ])
                refine wpAnyG_take (i := 7) (v := ?_) (op_at _ 7 _ rfl) (by kernel_rfl) (by kernel_rfl) (by kernel_rfl) (by kernel_rfl) (fun _ _ _ h => h) (Or.inl ⟨by rfl, ?_⟩) (by assumption) ?_
                rotate_left 1
                focus (intro W hSw; obtain ⟨q0, q1⟩ := hSw; go_simp; first | done | with_reducible rfl)
                (try simp only [Act.put, List.setIfInBounds_toArray, List.set_cons_zero, List.set_cons_succ])
                refine wpAnyG_take (i := 8) (v := ?_) (op_at _ 8 _ rfl) (by kernel_rfl) (by kernel_rfl) (by kernel_rfl) (by kernel_rfl) (fun _ _ _ h => h) (Or.inl ⟨by rfl, ?_⟩) (by assumption) ?_
                rotate_left 1
                focus (intro W hSw; obtain ⟨q0, q1⟩ := hSw; go_simp; first | done | with_reducible rfl)
                (try simp only [Act.put, List.setIfInBounds_toArray, List.set_cons_zero, List.set_cons_succ])
                refine wpAnyG_take (i := 9) (v := ?_) (op_at _ 9 _ rfl) (by kernel_rfl) (by kernel_rfl) (by kernel_rfl) (by kernel_rfl) (fun _ _ _ h => h) (Or.inl ⟨by rfl, ?_⟩) (by assumption) ?_
                rotate_left 1
                focus (intro W hSw; obtain ⟨q0, q1⟩ := hSw; go_simp; first | done | with_reducible rfl)
                (try simp only [Act.put, List.setIfInBounds_toArray, List.set_cons_zero, List.set_cons_succ])
                refine wpAnyG_take (i := 10) (v := ?_) (op_at _ 10 _ rfl) (by kernel_rfl) (by kernel_rfl) (by kernel_rfl) (by kernel_rfl) (fun _ _ _ h => h) (Or.inl ⟨by rfl, ?_⟩) (by assumption) ?_
                rotate_left 1
                focus (intro W hSw; obtain ⟨q0, q1⟩ := hSw; go_simp; first | done | with_reducible rfl)
                (try simp only [Act.put, List.setIfInBounds_toArray, List.set_cons_zero, List.set_cons_succ])
                refine wpAnyG_take (i := 11) (v := ?_) (op_at _ 11 _ rfl) (by kernel_rfl) (by kernel_rfl) (by kernel_rfl) (by kernel_rfl) (fun _ _ _ h => h) (Or.inl ⟨by rfl, ?_⟩) (by assumption) ?_
                rotate_left 1
                focus (intro W hSw; obtain ⟨q0, q1⟩ := hSw; go_simp; first | done | with_reducible rfl)
                (try simp only [Act.put, List.setIfInBounds_toArray, List.set_cons_zero, List.set_cons_succ])
                refine wpAnyG_take (i := 12) (v := ?_) (op_at _ 12 _ rfl) (by kernel_rfl) (by kernel_rfl) (by kernel_rfl) (by kernel_rfl) (fun _ _ _ h => h) (Or.inl ⟨by rfl, ?_⟩) (by assumption) ?_
                rotate_left 1
                focus (intro W hSw; obtain ⟨q0, q1⟩ := hSw; go_simp; first | done | with_reducible rfl)
                (try simp only [Act.put, List.setIfInBounds_toArray, List.set_cons_zero, List.set_cons_succ])
                refine wpAnyG_take (i := 13) (v := ?_) (op_at _ 13 _ rfl) (by kernel_rfl) (by kernel_rfl) (by kernel_rfl) (by kernel_rfl) (fun _ _ _ h => h) (Or.inl ⟨by rfl, ?_⟩) (by assumption) ?_
                rotate_left 1
                focus (intro W hSw; obtain ⟨q0, q1⟩ := hSw; go_simp; first | done | with_reducible rfl)
                (try simp only [Act.put, List.setIfInBounds_toArray, List.set_cons_zero, List.set_cons_succ])
                refine wpAnyG_take (i := 14) (v := ?_) (op_at _ 14 _ rfl) (by kernel_rfl) (by kernel_rfl) (by kernel_rfl) (by kernel_rfl) (fun _ _ _ h => h) (Or.inl ⟨by rfl, ?_⟩) (by assumption) ?_
                rotate_left 1
                focus (intro W hSw; obtain ⟨q0, q1⟩ := hSw; go_simp; first | done | with_reducible rfl)
                (try simp only [Act.put, List.setIfInBounds_toArray, List.set_cons_zero, List.set_cons_succ])
                refine wpAnyG_take (i := 16) (v := ?_) (op_at _ 16 _ rfl) (by kernel_rfl) (by kernel_rfl) (by kernel_rfl) (by kernel_rfl) (fun _ _ _ h => h) (Or.inl ⟨by rfl, ?_⟩) (by assumption) ?_
                rotate_left 1
                focus (intro W hSw; obtain ⟨q0, q1⟩ := hSw; go_simp; first | done | with_reducible rfl)
                (try simp only [Act.put, List.setIfInBounds_toArray, List.set_cons_zero, List.set_cons_succ])
                refine wpAnyG_take (i := 17) (v := ?_) (op_at _ 17 _ rfl) (by kernel_rfl) (by kernel_rfl) (by kernel_rfl) (by kernel_rfl) (fun _ _ _ h => h) (Or.inl ⟨by rfl, ?_⟩) (by assumption) ?_
                rotate_left 1
                focus (intro W hSw; obtain ⟨q0, q1⟩ := hSw; go_simp; first | done | with_reducible rfl)
                (try simp only [Act.put, List.setIfInBounds_toArray, List.set_cons_zero, List.set_cons_succ])
                refine wpAnyG_take (i := 18) (v := ?_) (op_at _ 18 _ rfl) (by kernel_rfl) (by kernel_rfl) (by kernel_rfl) (by kernel_rfl) (fun _ _ _ h => h) (Or.inl ⟨by rfl, ?_⟩) (by assumption) ?_
                rotate_left 1
                focus (intro W hSw; obtain ⟨q0, q1⟩ := hSw; go_simp; first | done | with_reducible rfl)
                (try simp only [Act.put, List.setIfInBounds_toArray, List.set_cons_zero, List.set_cons_succ])
                refine wpAnyG_ready (rs := [5]) (by kernel_rfl) (by simp) ?_
                refine AllReadyG.cons (op_at _ 5 _ rfl) (fun K hK => ?_) AllReadyG.nil
                go_simp
                have hb5 : Below Wd.drew.heap.size Wd.drew (Wd.drew.alloc (.cells #[] 5)) := (Below.refl _ _).alloc (Nat.le_refl _) _; have hR := hR0.keep hb5
                refine hK.out _ _ hR (fun hHeld => ?_)
                clear hK K
                (try simp only [Act.put, List.setIfInBounds_toArray, List.set_cons_zero, List.set_cons_succ])
                refine wpAnyG_ready (rs := [15]) (by kernel_rfl) (by simp) ?_
                refine AllReadyG.cons (op_at _ 15 _ rfl) (fun K hK => ?_) AllReadyG.nil
                have ed : Wd.drew.heap.size = Wd.heap.size := rfl; refine step_app rfl (.tmp 93) (.tmp 102) el37 rfl (.slice (some ⟨Wd.heap.size, 0, none⟩) 0 0) 0 [] rfl (World.ownsRow_made Wd.drew #[] 0 (Nat.zero_le _) (by decide) rfl) (some ⟨gx, 0, none⟩) nn cx _ rfl (src_head (HXd.out.later hb5) HNN.out _) (by have := HNN.out; omega) ?_; simp only [Nat.zero_add, List.nil_append]; intro a6 c6 w6 ho6 hg6 hat6; have hb6 : Below Wd.drew.heap.size Wd.drew w6 := ((Below.refl _ Wd.drew).alloc (Nat.le_refl _) _).grown hg6 (by simp) (fun k hk => by simp [Value.ownBlock] at hk; omega); have hR := hR0.keep hb6; have ha6 : ∀ a, a6 = some a → Wd.drew.heap.size ≤ a.block := (fun a ha => by rcases hat6 a ha with h | h; simp [Value.ownBlock] at h; omega; simp at h; omega)
                refine hK.out _ _ hR (fun hHeld => ?_)
                clear hK K
                (try simp only [Act.put, List.setIfInBounds_toArray, List.set_cons_zero, List.set_cons_succ])
                refine wpAnyG_ready (rs := [19]) (by kernel_rfl) (by simp) ?_
                refine AllReadyG.cons (op_at _ 19 _ rfl) (fun K hK => ?_) AllReadyG.nil
                refine step_app rfl (.tmp 103) (.tmp 106) el37 rfl (.slice a6 nn c6) nn _ rfl ho6 (some ⟨gs, nn, none⟩) (128 - nn) (cs - nn) _ rfl (src_tail (HSECd.out.later hb6) HNN.out _) (by have := HNN.out; omega) ?_; rw [show nn + (128 - nn) = 128 by have := HNN.out; omega]; intro a7 c7 w7 ho7 hg7 hat7; have hb7 : Below Wd.drew.heap.size Wd.drew w7 := hb6.grown hg7 hb6.size (fun k hk => by obtain ⟨a, ha, rfl⟩ := slice_own hk; exact ha6 a ha); have hR := hR0.keep hb7; have ha7 : ∀ a, a7 = some a → Wd.drew.heap.size ≤ a.block := (fun a ha => by rcases hat7 a ha with h | h; obtain ⟨y, hy, e⟩ := slice_own h; rw [← e]; exact ha6 y hy; have := hb6.size; have e : Wd.drew.heap.size = Wd.heap.size := rfl; omega); rw [← bs_append] at ho7; have hv7 := sec_new (S := S) (w := Wa) ho7 (fun y hy => Nat.le_trans HZd.out (ha7 y hy)); have hrf7 := (HRFd.out.stay (w' := Wd.drew) (fun _ _ _ => rfl) (fun _ _ _ => rfl)).later hb7; have hset := hid (hrf7.setNow (g := gN) (i := i) HGN.out HIL.out hv7); have hst7 := own_set (by have := hrf7.rn; rw [HGN.out] at this; exact this) HIL.out (.slice a7 128 c7); obtain ⟨u7, hu7⟩ := hst7.2.1; have hfz7 := hst7.2.2; have HB7 := hid hb7; clear hst7 hg7 hat7 ho7 hrf7 hv7
                refine hK.out _ _ hR (fun hHeld => ?_)
                clear hK K
                (try simp only [Act.put, List.setIfInBounds_toArray, List.set_cons_zero, List.set_cons_succ])
                refine wpAnyG_take (i := 20) (v := ?_) (op_at _ 20 _ rfl) (by kernel_rfl) (by kernel_rfl) (by kernel_rfl) (by kernel_rfl) (fun _ _ _ h => h) (Or.inl ⟨by rfl, ?_⟩) (by assumption) ?_
                rotate_left 1
                focus (intro W hSw; obtain ⟨q0, q1⟩ := hSw; go_simp; first | done | with_reducible rfl)
                (try simp only [Act.put, List.setIfInBounds_toArray, List.set_cons_zero, List.set_cons_succ])
                refine wpAnyG_ready (rs := [21]) (by kernel_rfl) (by simp) ?_
                refine AllReadyG.late (op_at _ 21 _ rfl) (by rfl) (fun K hK => ?_) AllReadyG.nil
                go_simp
                refine hK.out _ _ ?_
                clear hK K
                (try simp only [Act.put, List.setIfInBounds_toArray, List.set_cons_zero, List.set_cons_succ])
                refine wpAnyG_done (by kernel_rfl) ?_ _
                obtain ⟨W8, hW8⟩ : ∃ W8, W8 = w7.setCell ⟨gN, i, none⟩ (.slice a7 128 c7) := ⟨_, rfl⟩
                rw [← hW8] at hset
                have hrf8 := hset.out.1; have hfr8 := hset.out.2
                have HST : Hid (∀ En', En' = (if 0 < nn then max En (i + 1) else En) → CrI Wa r 1 S B F s0 ct (i + 1) (kk + 1) En' f2 (now.set i ((now.getD i []).take nn ++ (was F.old i).drop nn)) st.next (vs.set i (.slice a7 128 c7)) W8) := hid (fun En' hE => by
                  have hb7' := HB7.out
                  rw [HWD.out] at hb7'
                  exact hI.out.step hdi (by rw [← HL.out]; exact hiL) HB1.out hb7' hrf8 hfr8 (by rw [← HNE.out]) HNXT.out (by rw [← HNE.out]; exact hE))
                have HW8 := hid hW8
                clear hset hrf8 hfr8 hW8
                have hNN := HNN.out
                by_cases hn0 : nn = 0
                · have hn0' : ¬ ((0 : Int) < (nn : Int)) := by omega
                  go_wp2
                  rw [← HW8.out]
                  exact ⟨⟨i + 1, kk + 1, En, f2, _, _, _, by omega, by simp, by simp, rfl, rfl, hEn, by omega, hid (HST.out En (by rw [if_neg (by omega)]))⟩, by simp [intOf]; omega⟩
                · have hn0' : (0 : Int) < (nn : Int) := by omega
                  by_cases hE : En < i + 1
                  · have hE' : (En : Int) < (i : Int) + 1 := by omega
                    go_wp2
                    rw [← HW8.out]
                    exact ⟨⟨i + 1, kk + 1, i + 1, f2, _, _, _, by omega, by simp, by simp, rfl, by simp, by omega, by omega, hid (HST.out (i + 1) (by rw [if_pos (by omega)]; omega))⟩, by simp [intOf]; omega⟩
                  · have hE' : ¬ ((En : Int) < (i : Int) + 1) := by omega
                    go_wp2
                    rw [← HW8.out]
                    exact ⟨⟨i + 1, kk + 1, En, f2, _, _, _, by omega, by simp, by simp, rfl, rfl, hEn, by omega, hid (HST.out En (by rw [if_pos (by omega)]; omega))⟩, by simp [intOf]; omega⟩
    · have hiE : i = L := by omega
      subst hiE
      have hlast : ¬ ((i : Int) < (i : Int)) := by omega
      have hfold := hI.out.fold
      rw [List.take_of_length_le (by rw [HLD.out]; exact Nat.le_refl _)] at hfold
      have HCF : Hid (sureF (now.take En) = crashF F s0 ∧ st = crashS F s0) := hid ⟨by unfold crashF crashN; rw [hfold], by unfold crashS crashN; rw [hfold]⟩
      have k0 := hI.out.rf.c0
      (try simp only at k0)
      rw [hI.out.nl, ← HL.out] at k0
      have hcap : i ≤ B.cN := by
        have := hI.out.rf.rn
        simp only at this
        rw [hI.out.nl, ← HL.out] at this
        rcases row_some this with ⟨_, h1, h2⟩ | ⟨g, _, h1, _⟩
        · omega
        · exact h1
      have hfz : wr.frozen? ⟨r, 1, none⟩ = false := (hI.out.fr.fz 1).trans (by rw [HWA.out]; exact HR0.out.fz 1)
      have hcapI : (En : Int) ≤ (B.cN : Int) := by omega
      clear hfold
      go_upto_if 126 with (fail)
      go_cut [] from 25 to 137 (fun W => Hid (∃ vs', RefF W r 1 (From S Wa) { B with vs := vs' } ⟨now.take En, F.old, F.dirt⟩ ∧ FFrame Wa W r 1 (Mut B)))
      case first =>
        by_cases hE : En < i
        · have hE' : (En : Int) < (i : Int) := by omega
          have hcut' := hid (hI.out.rf.cutNow (k := En) (by show En ≤ now.length; rw [hI.out.nl, ← HL.out]; omega))
          go_wp2
          go_meet
          case rel => exact hid ⟨_, hcut'.out.1, hI.out.fr.trans (hcut'.out.2.imp (fun k _ hk => Or.inl hk))⟩
        · have hE' : ¬ ((En : Int) < (i : Int)) := by omega
          go_wp2
          go_meet
          case rel => exact hid ⟨vs, by rw [List.take_of_length_le (by rw [hI.out.nl, ← HL.out]; omega)]; exact hI.out.rf, hI.out.fr⟩
      case rest =>
        obtain ⟨vs', hrf, hfr⟩ := hcut.out
        have HS56 := hid (rsure_any r 1 (From S Wa) { B with vs := vs' } ⟨now.take En, F.old, F.dirt⟩ wc hrf (by simp only [List.length_take]; omega) (fun j => (hfr.fz j).trans (by rw [HWA.out]; exact HR0.out.fz j)))
        have HFRc := hid hfr
        have HNR : Hid (¬ From S Wa r) := hid hrf.np
        clear hrf hfr hcut
        go_wp2_with (go_at_call 56; refine HS56.out.mono ?_; rintro e w6 ⟨rfl, B6, ht6⟩; clear HS56; replace ht6 := hid ht6)
        have ht' : FTurn w2 w6 r 1 R0.S0 R0.B0 (crashF D0.f0 s0) B6 := by
          have := FTurn.after (B1 := { B with vs := vs' }) HFRc.out.size HFRc.out (fun k hk => hk) ht6.out HNR.out
          rw [HCF.out.1, HS.out, HB.out, HFF.out, HWA.out] at this
          exact this
        have hst : st.t ≤ 128 := by rw [hI.out.t]; have := HCT.out; split <;> omega
        have hs128 : s0.t ≤ 128 := by rw [HSK0.out.2]; have := HCT.out; split <;> omega
        have hok := HR0.out.ok
        have hcl := crashF_len hok.ok0 hs128
        obtain ⟨hR1, hG1, hfr1⟩ := HR0.out.file0 ht' ⟨hok.r1, hok.r2, by show (crashF D0.f0 s0).now.length + D0.f1.now.length ≤ D0.room; have := hok.sum; omega, crashF_ok hok.ok0 hs128, hok.ok1, hok.kl, hok.tn, hok.lf, hok.op⟩
        obtain ⟨R1, hRR1⟩ : ∃ R1, R1 = ({ R0 with S0 := Between R0.S0 w2 w6, B0 := B6 } : RParts) := ⟨_, rfl⟩
        obtain ⟨D1, hDD1⟩ : ∃ D1, D1 = ({ D0 with f0 := crashF D0.f0 s0 } : DS) := ⟨_, rfl⟩
        rw [← hRR1, ← hDD1] at hR1
        rw [← hRR1] at hG1
        have hRE := HRE0.out
        have HCBM1 : Hid (¬ Mut R1.B1 cb) := hid (by rw [hRR1]; intro hm; exact HCBR.out.2 (H.out.mut (Or.inr (by rw [← hRE]; exact hm))))
        have HKO1 : Hid (0 < keep.length → ∀ a, ko = some a → a.block ≠ r ∧ ¬ Mut R1.B1 a.block) := hid (fun hp a ha => ⟨(HAP.out hp a ha).2, fun hm => (HAP.out hp a ha).1 (Or.inr (by rw [← hRE]; rw [hRR1] at hm; exact hm))⟩)
        have HC1 : Hid (w6.cell? ⟨cb, 0, none⟩ = some (.slice ko kn kc) ∧ w6.cell? ⟨cb, 1, none⟩ = some (.int .i64 t) ∧ RdB w6 ko keep) := hid (by
          have hnm : ¬ R0.mut cb := fun hm => HCBR.out.2 (H.out.mut (by rw [← hRE]; exact hm))
          refine ⟨hfr1.cellAt HC0.out.1 HCBR.out.1 hnm, hfr1.cellAt HC0.out.2.1 HCBR.out.1 hnm, rdB_stay HC0.out.2.2 (fun hp a ha hl => hfr1.block _ hl (HAP.out hp a ha).2 (fun hm => (HAP.out hp a ha).1 (by rw [← hRE]; exact hm)))⟩)
        have HS1E : Hid (st = crashS D0.f0 s0) := hid (by rw [← HFF.out]; exact HCF.out.2)
        have HSK1 : Hid (st.k = kk ∧ st.t = (if fl then ct else 0)) := hid ⟨hI.out.k, hI.out.t⟩
        have HSK1K : Hid (st.keep = keep) := hid (hI.out.keep.trans HSK0K.out)
        have hkb1 : kk ≤ 200000 := by omega
        have HR1 := hid hR1; have HG1 := hid hG1; have HFR1 := hid hfr1; have HRR1 := hid hRR1; have HDD1 := hid hDD1
        obtain ⟨k1, hk1⟩ : ∃ x, x = kk := ⟨_, rfl⟩
        subst hk1
        obtain ⟨fl1, hfl1⟩ : ∃ x, x = fl := ⟨_, rfl⟩
        subst hfl1
        obtain ⟨s1, hs1⟩ : ∃ x, x = st := ⟨_, rfl⟩
        subst hs1
        have HSTART1 : Hid ((Value.int .i64 (k1 : Int) : Value) = .int .i64 (k1 : Int) ∧ (Value.bool fl1 : Value) = .bool fl1) := hid ⟨rfl, rfl⟩
        clear hI HZ hiL hlast k0 hcap hfz hcapI HCF HFRc HNR ht6 ht' hst hs128 hok hcl hR1 hG1 hfr1 hRR1 hDD1 hRE HF HS HB HFF HOL HLD HWA HCB hrl j1 j2 HOK
        rw [rounds_succ]
        obtain ⟨Wb, hWb⟩ : ∃ W, W = w6 := ⟨_, rfl⟩
        rw [← hWb] at HR1 HC1 HFR1 ⊢
        clear hWb
        have HL1 := HR1.out.ok.ok1
        have hF := HR1.out.f1
        obtain ⟨S, hS⟩ : ∃ S, S = R1.S1 := ⟨_, rfl⟩
        obtain ⟨B, hB⟩ : ∃ B, B = R1.B1 := ⟨_, rfl⟩
        obtain ⟨F, hFF⟩ : ∃ F, F = D1.f1 := ⟨_, rfl⟩
        rw [← hS, ← hB, ← hFF] at hF
        obtain ⟨Wa, hWa⟩ : ∃ W, W = Wb := ⟨_, rfl⟩
        rw [← hWa] at hF ⊢
        have HOK : Hid F.Ok := hid (by rw [hFF]; exact HL1)
        have hsum := HR1.out.ok.sum; have hr2 := HR1.out.ok.r2
        obtain ⟨L, hL⟩ : ∃ L, L = F.now.length := ⟨_, rfl⟩
        have hLd : F.dirt.length = L := by rw [hL]; exact HOK.out.ld
        have hLb : L ≤ 32768 := by rw [hL, hFF]; omega
        obtain ⟨OL, hOL⟩ : ∃ OL, OL = F.old.length := ⟨_, rfl⟩
        have hOLb : OL ≤ L := by rw [hOL, hL]; exact HOK.out.lo
        have HF := hid hF; have HS := hid hS; have HB := hid hB; have HFF := hid hFF; have HL := hid hL; have HOL := hid hOL; have HLD := hid hLd; have HWA := hid hWa
        have j1 := hF.c1; have j2 := hF.c2
        rw [← hOL] at j1
        rw [hLd] at j2
        have HCB : Hid (∀ W, FFrame Wa W r 4 (Mut B) → W.cell? ⟨cb, 0, none⟩ = some (.slice ko kn kc) ∧ W.cell? ⟨cb, 1, none⟩ = some (.int .i64 t) ∧ RdB W ko keep) := hid (fun W hfr => by
          have hbl : W.heap[cb]? = Wa.heap[cb]? := hfr.block cb (by rw [hWa]; exact lt_cell HC1.out.1) HCBR.out.1 (by rw [hB]; exact HCBM1.out)
          rw [hWa] at hbl
          exact ⟨(World.cell?_of_block hbl).trans HC1.out.1, (World.cell?_of_block hbl).trans HC1.out.2.1, rdB_stay HC1.out.2.2 (fun hp a ha hl => by
            have := hfr.block a.block (by rw [hWa]; exact hl) (HKO1.out hp a ha).1 (by rw [hB]; exact (HKO1.out hp a ha).2)
            rwa [hWa] at this)⟩)
        have hrl := hF.plt
        clear HL1 hF hS hB hFF hL hLd hOL hWa hsum hr2
        go_wp2_with fail
        go_loopw [44, 5, 6, 9] (fun c n tb e W => CrRel L k1 Wa r 4 S B F s1 ct c n tb e W) (fun c _ _ _ _ => L - (intOf c).toNat)
        case atStart => exact ⟨0, k1, OL, fl1, F.now, s1, B.vs, Nat.zero_le _, rfl, rfl, rfl, rfl, hOLb, by omega, hid ⟨rfl, by rw [← HL.out]; exact hOLb, HSK1.out.1, rfl, HSK1.out.2, by rw [HOL.out]; simp [idx], HF.out.up, FFrame.refl _ _ _ _⟩⟩
        case round =>
          obtain ⟨i, kk, En, fl, now, st, vs, hi, rfl, rfl, rfl, rfl, hEn, hkk, hI⟩ := hrel
          have HZ : Hid (Wa.heap.size ≤ wr.heap.size) := hid hI.out.fr.size
          by_cases hiL : i < L
          · have hiL' : (i : Int) < (L : Int) := by omega
            have hrd := hI.out.rf.rd
            (try simp only at hrd)
            rw [HLD.out] at hrd
            obtain ⟨gD, hgD, hcd, hgl⟩ := bool_cell hrd hiL
            (try simp only at hgD)
            have HGD := hid hgD
            rw [HGD.out]
            clear hrd hgD
            cases hdi : F.dirt.getD i false <;> rw [hdi] at hcd
            · go_wp2
              exact ⟨⟨i + 1, kk, En, fl, now, st, vs, by omega, by simp, rfl, rfl, rfl, hEn, by omega, hid ⟨hI.out.nl, hI.out.en, hI.out.k, hI.out.keep, hI.out.t, by rw [idx_take_no _ _ hdi]; exact hI.out.fold, hI.out.rf, hI.out.fr⟩⟩, by simp [intOf]; omega⟩
            · have mk : ∀ W : World, (Instr.makeSlice 37 (.int .i64 128) (.int .i64 128)).run Try.prog W = .ok (.slice (some ⟨W.heap.size, 0, none⟩) 128 128) (W.alloc (.cells (Array.replicate 128 (.int .u8 0)) 5)) := fun W => make_any 128 128 (Nat.le_refl _) (by omega) W
              obtain ⟨W1, hW1⟩ : ∃ W1, W1 = wr.alloc (.cells (Array.replicate 128 (.int .u8 0)) 5) := ⟨_, rfl⟩
              have hb1 : Below wr.heap.size wr W1 := by rw [hW1]; exact (Below.refl _ _).alloc (Nat.le_refl _) _
              have hz1 : SecAt W1 (From S Wa) (.slice (some ⟨wr.heap.size, 0, none⟩) 128 128) noughts := by rw [hW1]; exact zero_sec HZ.out
              have HRF1 := hid (hI.out.rf.later hb1)
              have j1' := HRF1.out.c1
              (try simp only at j1')
              rw [← HOL.out] at j1'
              have j1w := hI.out.rf.c1
              (try simp only at j1w)
              rw [← HOL.out] at j1w
              have hrlw : r < wr.heap.size := hI.out.rf.plt
              have HW1 := hid hW1; have HZ1 := hid hz1; have HB1 := hid hb1
              have HRDC := HCB.out W1 ⟨hb1.os.trans hI.out.fr.os, hb1.tape.trans hI.out.fr.tape, hb1.output.trans hI.out.fr.output, Nat.le_trans HZ.out hb1.size, fun k hk hkr hm => (hb1.block k (by have := HZ.out; omega)).trans (hI.out.fr.block k hk hkr hm), fun j h0 h1 h2 => (World.cell?_of_block (hb1.block r (by have := HZ.out; omega))).trans (hI.out.fr.cell j h0 h1 h2), fun j => (World.frozen?_of_block (hb1.block r (by have := HZ.out; omega))).trans (hI.out.fr.fz j)⟩
              obtain ⟨x0, x1, hrdk⟩ := HRDC
              have HRDK := hid hrdk
              clear hW1 hz1 hb1 hrdk
              go_upto_if 58 with (fail)
              rw [← HW1.out]
              clear mk j1w
              go_cut [12] (fun s W => W = W1 ∧ ∃ gs cs, s = .slice (some ⟨gs, 0, none⟩) 128 cs ∧ 128 ≤ cs ∧ Hid (SecAt W1 (From S Wa) (.slice (some ⟨gs, 0, none⟩) 128 cs) (was F.old i)))
              case first =>
                by_cases hio : i < OL
                · have hio' : (i : Int) < (OL : Int) := by omega
                  obtain ⟨gS, hgS, hcS, _⟩ := row_cell HRF1.out.rs (i := i) (by show i < F.old.length; rw [← HOL.out]; exact hio)
                  obtain ⟨v, hvv, hsec⟩ := HRF1.out.ao.get (i := i) (by show i < F.old.length; rw [← HOL.out]; exact hio)
                  rw [hvv] at hcS
                  obtain ⟨gs, cs, rfl, hcs, _⟩ := hsec.form
                  (try simp only at hgS hcS hsec)
                  rw [hgS] at j1'
                  have hw : F.old.getD i [] = was F.old i := by rw [was, List.getD, List.getD, List.getElem?_eq_getElem (by rw [← HOL.out]; exact hio)]; rfl
                  rw [hw] at hsec
                  have HSEC := hid hsec
                  clear hsec hvv hgS hw
                  go_wp2
                  go_meet
                  case rel => exact ⟨rfl, gs, cs, rfl, hcs, HSEC⟩
                · have hio' : ¬ ((i : Int) < (OL : Int)) := by omega
                  have hw : was F.old i = noughts := by rw [was, List.getD, List.getElem?_eq_none (by rw [← HOL.out]; omega)]; rfl
                  have HZZ := HZ1.out
                  rw [← hw] at HZZ
                  replace HZZ := hid HZZ
                  clear hw
                  go_wp2
                  go_meet
                  case rel => exact ⟨rfl, wr.heap.size, 128, rfl, Nat.le_refl _, HZZ⟩
              case rest =>
                obtain ⟨rfl, gs, cs, rfl, hcs, HSEC⟩ := hcut
                obtain ⟨kp, hkp⟩ : ∃ kp, kp = st.kept := ⟨_, rfl⟩
                have HKP := hid hkp
                have HKE : Hid (st.keep = keep) := hid (hI.out.keep.trans HSK1K.out)
                have hkE := hI.out.k
                clear hkp
                go_upto_region 17 with (fail)
                go_cut [13] (fun s W => s = .bool kp ∧ ∃ n, W = wc.drewN n)
                case first =>
                  rcases Nat.eq_zero_or_pos keep.length with h0 | h0
                  · have hkpf : kp = false := by rw [HKP.out]; simp [Stay.kept, HKE.out, h0]
                    have hkn : kn = 0 := by rw [HKN.out, h0]
                    subst hkpf
                    rw [hkn] at x0
                    have hd : decide ((0 : Int) < ((0 : Nat) : Int)) = false := by simp
                    go_quiet (fail)
                    go_wp2
                    go_meet
                    case rel => exact ⟨rfl, nq, rfl⟩
                  · obtain ⟨kb, kof, hko, hc⟩ := HRDK.out h0
                    obtain ⟨M, hM⟩ : ∃ M, M = kk % keep.length := ⟨_, rfl⟩
                    have hMl : M < keep.length := by rw [hM]; exact Nat.mod_lt _ h0
                    have hcell := hc M hMl
                    have hkpt : keep.getD M false = kp := by rw [HKP.out, hM]; simp [Stay.kept, HKE.out, h0, hkE]
                    rw [hkpt] at hcell
                    rw [hko] at x0
                    have hm : (kk : Int).tmod (kn : Int) = (M : Int) := by rw [hM, Int.tmod_eq_emod_of_nonneg (by omega), HKN.out]; simp
                    rw [← HKN.out] at hMl h0
                    have h0' : (0 : Int) < (kn : Int) := by omega
                    have h0'' : ¬ (kn : Int) = 0 := by omega
                    have h0n : ((kn : Int) == 0) = false := by simp; omega
                    have hMi : (M : Int) < (kn : Int) := by omega
                    clear hc hM hko hkpt
                    cases kp
                    · go_quiet (fail)
                      go_wp2
                      go_meet
                      case rel => exact ⟨rfl, nq, rfl⟩
                    · go_quiet (fail)
                      go_wp2
                      go_meet
                      case rel => exact ⟨rfl, nq, rfl⟩
                case rest =>
                  obtain ⟨rfl, nq, rfl⟩ := hcut
                  obtain ⟨Wd, hWd⟩ : ∃ Wd, Wd = wc.drewN nq := ⟨_, rfl⟩
                  rw [← hWd]
                  obtain ⟨nn, hnn⟩ : ∃ nn, nn = st.n := ⟨_, rfl⟩
                  obtain ⟨f2, hf2⟩ : ∃ f2, f2 = (if kp then fl else false) := ⟨_, rfl⟩
                  have htt := hI.out.t
                  have HNXT : Hid (st.next.t = (if f2 then ct else 0)) := hid (by rw [hf2]; simp only [Stay.next, ← HKP.out]; cases kp <;> simp [htt])
                  have HNN : Hid (nn ≤ 128) := hid (by rw [hnn]; exact n_le (by rw [htt]; have := HCT.out; split <;> omega))
                  have HNE := hid hnn
                  have y1 : Wd.cell? ⟨cb, 1, none⟩ = some (.int .i64 t) := by rw [hWd]; exact x1
                  have HWD := hid hWd
                  clear hWd
                  go_upto_if 83 with (fail)
                  go_cut [14, 6] (fun s14 s6 W => s14 = .int .i64 (nn : Int) ∧ s6 = .bool f2 ∧ W = Wd)
                  case first =>
                    cases kp
                    · cases fl
                      · have hn0 : (nn : Int) = 0 := by rw [hnn]; simp [Stay.n, ← HKP.out, htt]
                        have hf0 : f2 = false := by rw [hf2]; rfl
                        clear hnn hf2
                        go_wp2
                        go_meet
                        case rel => exact ⟨by rw [hn0], by rw [hf0], rfl⟩
                      · have hn0 : nn = ct := by rw [hnn]; simp [Stay.n, ← HKP.out, htt]
                        have hf0 : f2 = false := by rw [hf2]; rfl
                        clear hnn hf2
                        go_wp2_with (go_at_call 57; refine (rclip_any t _).mono ?_; rintro e wx ⟨rfl, hwx⟩; obtain rfl := hwx.symm)
                        go_meet
                        case rel => exact ⟨by rw [hn0, HCTE.out], by rw [hf0], rfl⟩
                    · have hn0 : nn = 128 := by rw [hnn]; simp [Stay.n, ← HKP.out]
                      have hf0 : f2 = fl := by rw [hf2]; rfl
                      clear hnn hf2
                      go_wp2
                      go_meet
                      case rel => exact ⟨by rw [hn0]; rfl, by rw [hf0], rfl⟩
                  case rest =>
                    obtain ⟨rfl, rfl, hwc⟩ := hcut
                    obtain rfl := hwc.symm
                    clear hnn hf2 htt
                    have hrn := HRF1.out.rn
                    (try simp only at hrn)
                    rw [hI.out.nl, ← HL.out] at hrn
                    obtain ⟨gN, hgN, hcN, hgNl, hcap⟩ := row_cell hrn hiL
                    obtain ⟨v, hvv, hsx⟩ := HRF1.out.an.get (i := i) (by show i < now.length; rw [hI.out.nl, ← HL.out]; exact hiL)
                    (try simp only at hvv hsx)
                    rw [hvv] at hcN
                    obtain ⟨gx, cx, rfl, hcx, _⟩ := hsx.form
                    obtain ⟨cN, hcNN⟩ : ∃ cN, cN = B.cN := ⟨_, rfl⟩
                    have k0 : Wd.cell? ⟨r, 4, none⟩ = some (.slice (some ⟨gN, 0, none⟩) L cN) := by
                      rw [HWD.out]
                      have := HRF1.out.c0
                      simp only at this
                      rw [hI.out.nl, ← HL.out, hgN, ← hcNN] at this
                      exact this
                    have k1 : Wd.cell? ⟨gN, i, none⟩ = some (.slice (some ⟨gx, 0, none⟩) 128 cx) := by rw [HWD.out]; exact hcN
                    have HGN : Hid (({ B with vs := vs } : RP).aN = some ⟨gN, 0, none⟩) := hid hgN
                    have HRFd : Hid (RefF Wd r 4 (From S Wa) { B with vs := vs } ⟨now, F.old, F.dirt⟩) := hid (by rw [HWD.out]; exact HRF1.out.stay (fun _ _ _ => rfl) (fun _ _ _ => rfl))
                    have HXd : Hid (SecAt Wd.drew (From S Wa) (.slice (some ⟨gx, 0, none⟩) 128 cx) (now.getD i [])) := hid (by rw [HWD.out]; exact hsx)
                    have HSECd : Hid (SecAt Wd.drew (From S Wa) (.slice (some ⟨gs, 0, none⟩) 128 cs) (was F.old i)) := hid (by rw [HWD.out]; exact HSEC.out)
                    have HIL : Hid (i < ({ now := now, old := F.old, dirt := F.dirt } : FS).now.length) := hid (by show i < now.length; rw [hI.out.nl, ← HL.out]; exact hiL)
                    have HZd : Hid (Wa.heap.size ≤ Wd.heap.size) := hid (by rw [HWD.out]; exact Nat.le_trans HZ.out HB1.out.size)
                    have hnnI : (nn : Int) ≤ 128 := by have := HNN.out; omega
                    have hnnx : (nn : Int) ≤ (cx : Int) := by omega
                    have hiLw : (i : Int) < (L : Int) := hiL'
                    clear hrn hvv hsx hcN hgN hcNN
                    by_cases hcn : cs = nn
                    · have hn128 : nn = 128 := by have := HNN.out; omega
                      subst hn128
                      subst hcn
                      have hcx' : (128 : Int) ≤ (cx : Int) := by omega
                      have hR0 : Reads24 r 4 gN i L cN gx cx Wd.drew := ⟨k0, k1⟩
                      have hR := hR0
                      go_wp2_with fail
                      refine wp_region_G (S := Reads24 r 4 gN i L cN gx cx) (fun i => i == 21) (by kernel_rfl) hR (fun hHeld => ?_)
                      refine wpAnyG_take (i := 0) (v := ?_) (op_at _ 0 _ rfl) (by kernel_rfl) (by kernel_rfl) (by kernel_rfl) (by kernel_rfl) (fun _ _ _ h => h) (Or.inl ⟨by rfl, ?_⟩) (by assumption) ?_
                      rotate_left 1
                      focus (intro W hSw; obtain ⟨q0, q1⟩ := hSw; go_simp; first | done | with_reducible rfl)
                      (try simp only [Act.put, List.setIfInBounds_toArray, List.set_cons_zero, List.set_cons_succ])
                      refine wpAnyG_take (i := 1) (v := ?_) (op_at _ 1 _ rfl) (by kernel_rfl) (by kernel_rfl) (by kernel_rfl) (by kernel_rfl) (fun _ _ _ h => h) (Or.inl ⟨by rfl, ?_⟩) (by assumption) ?_
                      rotate_left 1
                      focus (intro W hSw; obtain ⟨q0, q1⟩ := hSw; go_simp; first | done | with_reducible rfl)
                      (try simp only [Act.put, List.setIfInBounds_toArray, List.set_cons_zero, List.set_cons_succ])
                      refine wpAnyG_take (i := 2) (v := ?_) (op_at _ 2 _ rfl) (by kernel_rfl) (by kernel_rfl) (by kernel_rfl) (by kernel_rfl) (fun _ _ _ h => h) (Or.inl ⟨by rfl, ?_⟩) (by assumption) ?_
                      rotate_left 1
                      focus (intro W hSw; obtain ⟨q0, q1⟩ := hSw; go_simp; first | done | with_reducible rfl)
                      (try simp only [Act.put, List.setIfInBounds_toArray, List.set_cons_zero, List.set_cons_succ])
                      refine wpAnyG_take (i := 3) (v := ?_) (op_at _ 3 _ rfl) (by kernel_rfl) (by kernel_rfl) (by kernel_rfl) (by kernel_rfl) (fun _ _ _ h => h) (Or.inl ⟨by rfl, ?_⟩) (by assumption) ?_
                      rotate_left 1
                      focus (intro W hSw; obtain ⟨q0, q1⟩ := hSw; go_simp; first | done | with_reducible rfl)
                      (try simp only [Act.put, List.setIfInBounds_toArray, List.set_cons_zero, List.set_cons_succ])
                      refine wpAnyG_take (i := 4) (v := ?_) (op_at _ 4 _ rfl) (by kernel_rfl) (by kernel_rfl) (by kernel_rfl) (by kernel_rfl) (fun _ _ _ h => h) (Or.inl ⟨by rfl, ?_⟩) (by assumption) ?_
                      rotate_left 1
                      focus (intro W hSw; obtain ⟨q0, q1⟩ := hSw; go_simp; first | done | with_reducible rfl)
                      (try simp only [Act.put, List.setIfInBounds_toArray, List.set_cons_zero, List.set_cons_succ])
                      refine wpAnyG_take (i := 6) (v := ?_) (op_at _ 6 _ rfl) (by kernel_rfl) (by kernel_rfl) (by kernel_rfl) (by kernel_rfl) (fun _ _ _ h => h) (Or.inl ⟨by rfl, ?_⟩) (by assumption) ?_
                      rotate_left 1
                      focus (intro W hSw; obtain ⟨q0, q1⟩ := hSw; go_simp; first | done | with_reducible rfl)
                      (try simp only [Act.put, List.setIfInBounds_toArray, List.set_cons_zero, List.set_cons_succ])
                      refine wpAnyG_take (i := 7) (v := ?_) (op_at _ 7 _ rfl) (by kernel_rfl) (by kernel_rfl) (by kernel_rfl) (by kernel_rfl) (fun _ _ _ h => h) (Or.inl ⟨by rfl, ?_⟩) (by assumption) ?_
                      rotate_left 1
                      focus (intro W hSw; obtain ⟨q0, q1⟩ := hSw; go_simp; first | done | with_reducible rfl)
                      (try simp only [Act.put, List.setIfInBounds_toArray, List.set_cons_zero, List.set_cons_succ])
                      refine wpAnyG_take (i := 8) (v := ?_) (op_at _ 8 _ rfl) (by kernel_rfl) (by kernel_rfl) (by kernel_rfl) (by kernel_rfl) (fun _ _ _ h => h) (Or.inl ⟨by rfl, ?_⟩) (by assumption) ?_
                      rotate_left 1
                      focus (intro W hSw; obtain ⟨q0, q1⟩ := hSw; go_simp; first | done | with_reducible rfl)
                      (try simp only [Act.put, List.setIfInBounds_toArray, List.set_cons_zero, List.set_cons_succ])
                      refine wpAnyG_take (i := 9) (v := ?_) (op_at _ 9 _ rfl) (by kernel_rfl) (by kernel_rfl) (by kernel_rfl) (by kernel_rfl) (fun _ _ _ h => h) (Or.inl ⟨by rfl, ?_⟩) (by assumption) ?_
                      rotate_left 1
                      focus (intro W hSw; obtain ⟨q0, q1⟩ := hSw; go_simp; first | done | with_reducible rfl)
                      (try simp only [Act.put, List.setIfInBounds_toArray, List.set_cons_zero, List.set_cons_succ])
                      refine wpAnyG_take (i := 10) (v := ?_) (op_at _ 10 _ rfl) (by kernel_rfl) (by kernel_rfl) (by kernel_rfl) (by kernel_rfl) (fun _ _ _ h => h) (Or.inl ⟨by rfl, ?_⟩) (by assumption) ?_
                      rotate_left 1
                      focus (intro W hSw; obtain ⟨q0, q1⟩ := hSw; go_simp; first | done | with_reducible rfl)
                      (try simp only [Act.put, List.setIfInBounds_toArray, List.set_cons_zero, List.set_cons_succ])
                      refine wpAnyG_take (i := 11) (v := ?_) (op_at _ 11 _ rfl) (by kernel_rfl) (by kernel_rfl) (by kernel_rfl) (by kernel_rfl) (fun _ _ _ h => h) (Or.inl ⟨by rfl, ?_⟩) (by assumption) ?_
                      rotate_left 1
                      focus (intro W hSw; obtain ⟨q0, q1⟩ := hSw; go_simp; first | done | with_reducible rfl)
                      (try simp only [Act.put, List.setIfInBounds_toArray, List.set_cons_zero, List.set_cons_succ])
                      refine wpAnyG_take (i := 12) (v := ?_) (op_at _ 12 _ rfl) (by kernel_rfl) (by kernel_rfl) (by kernel_rfl) (by kernel_rfl) (fun _ _ _ h => h) (Or.inl ⟨by rfl, ?_⟩) (by assumption) ?_
                      rotate_left 1
                      focus (intro W hSw; obtain ⟨q0, q1⟩ := hSw; go_simp; first | done | with_reducible rfl)
                      (try simp only [Act.put, List.setIfInBounds_toArray, List.set_cons_zero, List.set_cons_succ])
                      refine wpAnyG_take (i := 13) (v := ?_) (op_at _ 13 _ rfl) (by kernel_rfl) (by kernel_rfl) (by kernel_rfl) (by kernel_rfl) (fun _ _ _ h => h) (Or.inl ⟨by rfl, ?_⟩) (by assumption) ?_
                      rotate_left 1
                      focus (intro W hSw; obtain ⟨q0, q1⟩ := hSw; go_simp; first | done | with_reducible rfl)
                      (try simp only [Act.put, List.setIfInBounds_toArray, List.set_cons_zero, List.set_cons_succ])
                      refine wpAnyG_take (i := 14) (v := ?_) (op_at _ 14 _ rfl) (by kernel_rfl) (by kernel_rfl) (by kernel_rfl) (by kernel_rfl) (fun _ _ _ h => h) (Or.inl ⟨by rfl, ?_⟩) (by assumption) ?_
                      rotate_left 1
                      focus (intro W hSw; obtain ⟨q0, q1⟩ := hSw; go_simp; first | done | with_reducible rfl)
                      (try simp only [Act.put, List.setIfInBounds_toArray, List.set_cons_zero, List.set_cons_succ])
                      refine wpAnyG_take (i := 16) (v := ?_) (op_at _ 16 _ rfl) (by kernel_rfl) (by kernel_rfl) (by kernel_rfl) (by kernel_rfl) (fun _ _ _ h => h) (Or.inl ⟨by rfl, ?_⟩) (by assumption) ?_
                      rotate_left 1
                      focus (intro W hSw; obtain ⟨q0, q1⟩ := hSw; go_simp; first | done | with_reducible rfl)
                      (try simp only [Act.put, List.setIfInBounds_toArray, List.set_cons_zero, List.set_cons_succ])
                      refine wpAnyG_take (i := 17) (v := ?_) (op_at _ 17 _ rfl) (by kernel_rfl) (by kernel_rfl) (by kernel_rfl) (by kernel_rfl) (fun _ _ _ h => h) (Or.inl ⟨by rfl, ?_⟩) (by assumption) ?_
                      rotate_left 1
                      focus (intro W hSw; obtain ⟨q0, q1⟩ := hSw; go_simp; first | done | with_reducible rfl)
                      (try simp only [Act.put, List.setIfInBounds_toArray, List.set_cons_zero, List.set_cons_succ])
                      refine wpAnyG_take (i := 18) (v := ?_) (op_at _ 18 _ rfl) (by kernel_rfl) (by kernel_rfl) (by kernel_rfl) (by kernel_rfl) (fun _ _ _ h => h) (Or.inl ⟨by rfl, ?_⟩) (by assumption) ?_
                      rotate_left 1
                      focus (intro W hSw; obtain ⟨q0, q1⟩ := hSw; go_simp; first | done | with_reducible rfl)
                      (try simp only [Act.put, List.setIfInBounds_toArray, List.set_cons_zero, List.set_cons_succ])
                      refine wpAnyG_ready (rs := [5]) (by kernel_rfl) (by simp) ?_
                      refine AllReadyG.cons (op_at _ 5 _ rfl) (fun K hK => ?_) AllReadyG.nil
                      go_simp
                      have hb5 : Below Wd.drew.heap.size Wd.drew (Wd.drew.alloc (.cells #[] 5)) := (Below.refl _ _).alloc (Nat.le_refl _) _; have hR := hR0.keep hb5
                      refine hK.out _ _ hR (fun hHeld => ?_)
                      clear hK K
                      (try simp only [Act.put, List.setIfInBounds_toArray, List.set_cons_zero, List.set_cons_succ])
                      refine wpAnyG_ready (rs := [15]) (by kernel_rfl) (by simp) ?_
                      refine AllReadyG.cons (op_at _ 15 _ rfl) (fun K hK => ?_) AllReadyG.nil
                      have ed : Wd.drew.heap.size = Wd.heap.size := rfl; refine step_app rfl (.tmp 93) (.tmp 102) el37 rfl (.slice (some ⟨Wd.heap.size, 0, none⟩) 0 0) 0 [] rfl (World.ownsRow_made Wd.drew #[] 0 (Nat.zero_le _) (by decide) rfl) (some ⟨gx, 0, none⟩) 128 cx _ rfl (src_head (HXd.out.later hb5) HNN.out _) (by have := HNN.out; omega) ?_; simp only [Nat.zero_add, List.nil_append]; intro a6 c6 w6 ho6 hg6 hat6; have hb6 : Below Wd.drew.heap.size Wd.drew w6 := ((Below.refl _ Wd.drew).alloc (Nat.le_refl _) _).grown hg6 (by simp) (fun k hk => by simp [Value.ownBlock] at hk; omega); have hR := hR0.keep hb6; have ha6 : ∀ a, a6 = some a → Wd.drew.heap.size ≤ a.block := (fun a ha => by rcases hat6 a ha with h | h; simp [Value.ownBlock] at h; omega; simp at h; omega)
                      refine hK.out _ _ hR (fun hHeld => ?_)
                      clear hK K
                      (try simp only [Act.put, List.setIfInBounds_toArray, List.set_cons_zero, List.set_cons_succ])
                      refine wpAnyG_ready (rs := [19]) (by kernel_rfl) (by simp) ?_
                      refine AllReadyG.cons (op_at _ 19 _ rfl) (fun K hK => ?_) AllReadyG.nil
                      refine step_app rfl (.tmp 103) (.tmp 106) el37 rfl (.slice a6 128 c6) 128 _ rfl ho6 (some ⟨gs, 0, none⟩) 0 0 _ rfl (src_none _ _ (was F.old i) HSECd.out.len) (by have := HNN.out; omega) ?_; rw [show 128 + 0 = 128 by have := HNN.out; omega]; intro a7 c7 w7 ho7 hg7 hat7; have hb7 : Below Wd.drew.heap.size Wd.drew w7 := hb6.grown hg7 hb6.size (fun k hk => by obtain ⟨a, ha, rfl⟩ := slice_own hk; exact ha6 a ha); have hR := hR0.keep hb7; have ha7 : ∀ a, a7 = some a → Wd.drew.heap.size ≤ a.block := (fun a ha => by rcases hat7 a ha with h | h; obtain ⟨y, hy, e⟩ := slice_own h; rw [← e]; exact ha6 y hy; have := hb6.size; have e : Wd.drew.heap.size = Wd.heap.size := rfl; omega); rw [← bs_append] at ho7; have hv7 := sec_new (S := S) (w := Wa) ho7 (fun y hy => Nat.le_trans HZd.out (ha7 y hy)); have hrf7 := (HRFd.out.stay (w' := Wd.drew) (fun _ _ _ => rfl) (fun _ _ _ => rfl)).later hb7; have hset := hid (hrf7.setNow (g := gN) (i := i) HGN.out HIL.out hv7); have hst7 := own_set (by have := hrf7.rn; rw [HGN.out] at this; exact this) HIL.out (.slice a7 128 c7); obtain ⟨u7, hu7⟩ := hst7.2.1; have hfz7 := hst7.2.2; have HB7 := hid hb7; clear hst7 hg7 hat7 ho7 hrf7 hv7
                      refine hK.out _ _ hR (fun hHeld => ?_)
                      clear hK K
                      (try simp only [Act.put, List.setIfInBounds_toArray, List.set_cons_zero, List.set_cons_succ])
                      refine wpAnyG_take (i := 20) (v := ?_) (op_at _ 20 _ rfl) (by kernel_rfl) (by kernel_rfl) (by kernel_rfl) (by kernel_rfl) (fun _ _ _ h => h) (Or.inl ⟨by rfl, ?_⟩) (by assumption) ?_
                      rotate_left 1
                      focus (intro W hSw; obtain ⟨q0, q1⟩ := hSw; go_simp; first | done | with_reducible rfl)
                      (try simp only [Act.put, List.setIfInBounds_toArray, List.set_cons_zero, List.set_cons_succ])
                      refine wpAnyG_ready (rs := [21]) (by kernel_rfl) (by simp) ?_
                      refine AllReadyG.late (op_at _ 21 _ rfl) (by rfl) (fun K hK => ?_) AllReadyG.nil
                      go_simp
                      refine hK.out _ _ ?_
                      clear hK K
                      (try simp only [Act.put, List.setIfInBounds_toArray, List.set_cons_zero, List.set_cons_succ])
                      refine wpAnyG_done (by kernel_rfl) ?_ _
                      obtain ⟨W8, hW8⟩ : ∃ W8, W8 = w7.setCell ⟨gN, i, none⟩ (.slice a7 128 c7) := ⟨_, rfl⟩
                      rw [← hW8] at hset
                      have hrf8 := hset.out.1; have hfr8 := hset.out.2
                      have HST : Hid (∀ En', En' = (if 0 < 128 then max En (i + 1) else En) → CrI Wa r 4 S B F s1 ct (i + 1) (kk + 1) En' f2 (now.set i ((now.getD i []).take 128 ++ (was F.old i).drop 128)) st.next (vs.set i (.slice a7 128 c7)) W8) := hid (fun En' hE => by
                        have hb7' := HB7.out
                        rw [HWD.out] at hb7'
                        exact hI.out.step hdi (by rw [← HL.out]; exact hiL) HB1.out hb7' hrf8 hfr8 (by rw [← HNE.out]) HNXT.out (by rw [← HNE.out]; exact hE))
                      have HW8 := hid hW8
                      clear hset hrf8 hfr8 hW8
                      have hNN := HNN.out
                      by_cases hE : En < i + 1
                      · have hE' : (En : Int) < (i : Int) + 1 := by omega
                        go_wp2
                        rw [← HW8.out]
                        exact ⟨⟨i + 1, kk + 1, i + 1, f2, _, _, _, by omega, by simp, by simp, rfl, by simp, by omega, by omega, hid (HST.out (i + 1) (by rw [if_pos (by omega)]; omega))⟩, by simp [intOf]; omega⟩
                      · have hE' : ¬ ((En : Int) < (i : Int) + 1) := by omega
                        go_wp2
                        rw [← HW8.out]
                        exact ⟨⟨i + 1, kk + 1, En, f2, _, _, _, by omega, by simp, by simp, rfl, rfl, hEn, by omega, hid (HST.out En (by rw [if_pos (by omega)]; omega))⟩, by simp [intOf]; omega⟩
                    · have hR0 : Reads24 r 4 gN i L cN gx cx Wd.drew := ⟨k0, k1⟩
                      have hR := hR0
                      go_wp2_with fail
                      refine wp_region_G (S := Reads24 r 4 gN i L cN gx cx) (fun i => i == 21) (by kernel_rfl) hR (fun hHeld => ?_)
                      refine wpAnyG_take (i := 0) (v := ?_) (op_at _ 0 _ rfl) (by kernel_rfl) (by kernel_rfl) (by kernel_rfl) (by kernel_rfl) (fun _ _ _ h => h) (Or.inl ⟨by rfl, ?_⟩) (by assumption) ?_
                      rotate_left 1
                      focus (intro W hSw; obtain ⟨q0, q1⟩ := hSw; go_simp; first | done | with_reducible rfl)
                      (try simp only [Act.put, List.setIfInBounds_toArray, List.set_cons_zero, List.set_cons_succ])
                      refine wpAnyG_take (i := 1) (v := ?_) (op_at _ 1 _ rfl) (by kernel_rfl) (by kernel_rfl) (by kernel_rfl) (by kernel_rfl) (fun _ _ _ h => h) (Or.inl ⟨by rfl, ?_⟩) (by assumption) ?_
                      rotate_left 1
                      focus (intro W hSw; obtain ⟨q0, q1⟩ := hSw; go_simp; first | done | with_reducible rfl)
                      (try simp only [Act.put, List.setIfInBounds_toArray, List.set_cons_zero, List.set_cons_succ])
                      refine wpAnyG_take (i := 2) (v := ?_) (op_at _ 2 _ rfl) (by kernel_rfl) (by kernel_rfl) (by kernel_rfl) (by kernel_rfl) (fun _ _ _ h => h) (Or.inl ⟨by rfl, ?_⟩) (by assumption) ?_
                      rotate_left 1
                      focus (intro W hSw; obtain ⟨q0, q1⟩ := hSw; go_simp; first | done | with_reducible rfl)
                      (try simp only [Act.put, List.setIfInBounds_toArray, List.set_cons_zero, List.set_cons_succ])
                      refine wpAnyG_take (i := 3) (v := ?_) (op_at _ 3 _ rfl) (by kernel_rfl) (by kernel_rfl) (by kernel_rfl) (by kernel_rfl) (fun _ _ _ h => h) (Or.inl ⟨by rfl, ?_⟩) (by assumption) ?_
                      rotate_left 1
                      focus (intro W hSw; obtain ⟨q0, q1⟩ := hSw; go_simp; first | done | with_reducible rfl)
                      (try simp only [Act.put, List.setIfInBounds_toArray, List.set_cons_zero, List.set_cons_succ])
                      refine wpAnyG_take (i := 4) (v := ?_) (op_at _ 4 _ rfl) (by kernel_rfl) (by kernel_rfl) (by kernel_rfl) (by kernel_rfl) (fun _ _ _ h => h) (Or.inl ⟨by rfl, ?_⟩) (by assumption) ?_
                      rotate_left 1
                      focus (intro W hSw; obtain ⟨q0, q1⟩ := hSw; go_simp; first | done | with_reducible rfl)
                      (try simp only [Act.put, List.setIfInBounds_toArray, List.set_cons_zero, List.set_cons_succ])
                      refine wpAnyG_take (i := 6) (v := ?_) (op_at _ 6 _ rfl) (by kernel_rfl) (by kernel_rfl) (by kernel_rfl) (by kernel_rfl) (fun _ _ _ h => h) (Or.inl ⟨by rfl, ?_⟩) (by assumption) ?_
                      rotate_left 1
                      focus (intro W hSw; obtain ⟨q0, q1⟩ := hSw; go_simp; first | done | with_reducible rfl)
                      (try simp only [Act.put, List.setIfInBounds_toArray, List.set_cons_zero, List.set_cons_succ])
                      refine wpAnyG_take (i := 7) (v := ?_) (op_at _ 7 _ rfl) (by kernel_rfl) (by kernel_rfl) (by kernel_rfl) (by kernel_rfl) (fun _ _ _ h => h) (Or.inl ⟨by rfl, ?_⟩) (by assumption) ?_
                      rotate_left 1
                      focus (intro W hSw; obtain ⟨q0, q1⟩ := hSw; go_simp; first | done | with_reducible rfl)
                      (try simp only [Act.put, List.setIfInBounds_toArray, List.set_cons_zero, List.set_cons_succ])
                      refine wpAnyG_take (i := 8) (v := ?_) (op_at _ 8 _ rfl) (by kernel_rfl) (by kernel_rfl) (by kernel_rfl) (by kernel_rfl) (fun _ _ _ h => h) (Or.inl ⟨by rfl, ?_⟩) (by assumption) ?_
                      rotate_left 1
                      focus (intro W hSw; obtain ⟨q0, q1⟩ := hSw; go_simp; first | done | with_reducible rfl)
                      (try simp only [Act.put, List.setIfInBounds_toArray, List.set_cons_zero, List.set_cons_succ])
                      refine wpAnyG_take (i := 9) (v := ?_) (op_at _ 9 _ rfl) (by kernel_rfl) (by kernel_rfl) (by kernel_rfl) (by kernel_rfl) (fun _ _ _ h => h) (Or.inl ⟨by rfl, ?_⟩) (by assumption) ?_
                      rotate_left 1
                      focus (intro W hSw; obtain ⟨q0, q1⟩ := hSw; go_simp; first | done | with_reducible rfl)
                      (try simp only [Act.put, List.setIfInBounds_toArray, List.set_cons_zero, List.set_cons_succ])
                      refine wpAnyG_take (i := 10) (v := ?_) (op_at _ 10 _ rfl) (by kernel_rfl) (by kernel_rfl) (by kernel_rfl) (by kernel_rfl) (fun _ _ _ h => h) (Or.inl ⟨by rfl, ?_⟩) (by assumption) ?_
                      rotate_left 1
                      focus (intro W hSw; obtain ⟨q0, q1⟩ := hSw; go_simp; first | done | with_reducible rfl)
                      (try simp only [Act.put, List.setIfInBounds_toArray, List.set_cons_zero, List.set_cons_succ])
                      refine wpAnyG_take (i := 11) (v := ?_) (op_at _ 11 _ rfl) (by kernel_rfl) (by kernel_rfl) (by kernel_rfl) (by kernel_rfl) (fun _ _ _ h => h) (Or.inl ⟨by rfl, ?_⟩) (by assumption) ?_
                      rotate_left 1
                      focus (intro W hSw; obtain ⟨q0, q1⟩ := hSw; go_simp; first | done | with_reducible rfl)
                      (try simp only [Act.put, List.setIfInBounds_toArray, List.set_cons_zero, List.set_cons_succ])
                      refine wpAnyG_take (i := 12) (v := ?_) (op_at _ 12 _ rfl) (by kernel_rfl) (by kernel_rfl) (by kernel_rfl) (by kernel_rfl) (fun _ _ _ h => h) (Or.inl ⟨by rfl, ?_⟩) (by assumption) ?_
                      rotate_left 1
                      focus (intro W hSw; obtain ⟨q0, q1⟩ := hSw; go_simp; first | done | with_reducible rfl)
                      (try simp only [Act.put, List.setIfInBounds_toArray, List.set_cons_zero, List.set_cons_succ])
                      refine wpAnyG_take (i := 13) (v := ?_) (op_at _ 13 _ rfl) (by kernel_rfl) (by kernel_rfl) (by kernel_rfl) (by kernel_rfl) (fun _ _ _ h => h) (Or.inl ⟨by rfl, ?_⟩) (by assumption) ?_
                      rotate_left 1
                      focus (intro W hSw; obtain ⟨q0, q1⟩ := hSw; go_simp; first | done | with_reducible rfl)
                      (try simp only [Act.put, List.setIfInBounds_toArray, List.set_cons_zero, List.set_cons_succ])
                      refine wpAnyG_take (i := 14) (v := ?_) (op_at _ 14 _ rfl) (by kernel_rfl) (by kernel_rfl) (by kernel_rfl) (by kernel_rfl) (fun _ _ _ h => h) (Or.inl ⟨by rfl, ?_⟩) (by assumption) ?_
                      rotate_left 1
                      focus (intro W hSw; obtain ⟨q0, q1⟩ := hSw; go_simp; first | done | with_reducible rfl)
                      (try simp only [Act.put, List.setIfInBounds_toArray, List.set_cons_zero, List.set_cons_succ])
                      refine wpAnyG_take (i := 16) (v := ?_) (op_at _ 16 _ rfl) (by kernel_rfl) (by kernel_rfl) (by kernel_rfl) (by kernel_rfl) (fun _ _ _ h => h) (Or.inl ⟨by rfl, ?_⟩) (by assumption) ?_
                      rotate_left 1
                      focus (intro W hSw; obtain ⟨q0, q1⟩ := hSw; go_simp; first | done | with_reducible rfl)
                      (try simp only [Act.put, List.setIfInBounds_toArray, List.set_cons_zero, List.set_cons_succ])
                      refine wpAnyG_take (i := 17) (v := ?_) (op_at _ 17 _ rfl) (by kernel_rfl) (by kernel_rfl) (by kernel_rfl) (by kernel_rfl) (fun _ _ _ h => h) (Or.inl ⟨by rfl, ?_⟩) (by assumption) ?_
                      rotate_left 1
                      focus (intro W hSw; obtain ⟨q0, q1⟩ := hSw; go_simp; first | done | with_reducible rfl)
                      (try simp only [Act.put, List.setIfInBounds_toArray, List.set_cons_zero, List.set_cons_succ])
                      refine wpAnyG_take (i := 18) (v := ?_) (op_at _ 18 _ rfl) (by kernel_rfl) (by kernel_rfl) (by kernel_rfl) (by kernel_rfl) (fun _ _ _ h => h) (Or.inl ⟨by rfl, ?_⟩) (by assumption) ?_
                      rotate_left 1
                      focus (intro W hSw; obtain ⟨q0, q1⟩ := hSw; go_simp; first | done | with_reducible rfl)
                      (try simp only [Act.put, List.setIfInBounds_toArray, List.set_cons_zero, List.set_cons_succ])
                      refine wpAnyG_ready (rs := [5]) (by kernel_rfl) (by simp) ?_
                      refine AllReadyG.cons (op_at _ 5 _ rfl) (fun K hK => ?_) AllReadyG.nil
                      go_simp
                      have hb5 : Below Wd.drew.heap.size Wd.drew (Wd.drew.alloc (.cells #[] 5)) := (Below.refl _ _).alloc (Nat.le_refl _) _; have hR := hR0.keep hb5
                      refine hK.out _ _ hR (fun hHeld => ?_)
                      clear hK K
                      (try simp only [Act.put, List.setIfInBounds_toArray, List.set_cons_zero, List.set_cons_succ])
                      refine wpAnyG_ready (rs := [15]) (by kernel_rfl) (by simp) ?_
                      refine AllReadyG.cons (op_at _ 15 _ rfl) (fun K hK => ?_) AllReadyG.nil
                      have ed : Wd.drew.heap.size = Wd.heap.size := rfl; refine step_app rfl (.tmp 93) (.tmp 102) el37 rfl (.slice (some ⟨Wd.heap.size, 0, none⟩) 0 0) 0 [] rfl (World.ownsRow_made Wd.drew #[] 0 (Nat.zero_le _) (by decide) rfl) (some ⟨gx, 0, none⟩) nn cx _ rfl (src_head (HXd.out.later hb5) HNN.out _) (by have := HNN.out; omega) ?_; simp only [Nat.zero_add, List.nil_append]; intro a6 c6 w6 ho6 hg6 hat6; have hb6 : Below Wd.drew.heap.size Wd.drew w6 := ((Below.refl _ Wd.drew).alloc (Nat.le_refl _) _).grown hg6 (by simp) (fun k hk => by simp [Value.ownBlock] at hk; omega); have hR := hR0.keep hb6; have ha6 : ∀ a, a6 = some a → Wd.drew.heap.size ≤ a.block := (fun a ha => by rcases hat6 a ha with h | h; simp [Value.ownBlock] at h; omega; simp at h; omega)
                      refine hK.out _ _ hR (fun hHeld => ?_)
                      clear hK K
                      (try simp only [Act.put, List.setIfInBounds_toArray, List.set_cons_zero, List.set_cons_succ])
                      refine wpAnyG_ready (rs := [19]) (by kernel_rfl) (by simp) ?_
                      refine AllReadyG.cons (op_at _ 19 _ rfl) (fun K hK => ?_) AllReadyG.nil
                      refine step_app rfl (.tmp 103) (.tmp 106) el37 rfl (.slice a6 nn c6) nn _ rfl ho6 (some ⟨gs, nn, none⟩) (128 - nn) (cs - nn) _ rfl (src_tail (HSECd.out.later hb6) HNN.out _) (by have := HNN.out; omega) ?_; rw [show nn + (128 - nn) = 128 by have := HNN.out; omega]; intro a7 c7 w7 ho7 hg7 hat7; have hb7 : Below Wd.drew.heap.size Wd.drew w7 := hb6.grown hg7 hb6.size (fun k hk => by obtain ⟨a, ha, rfl⟩ := slice_own hk; exact ha6 a ha); have hR := hR0.keep hb7; have ha7 : ∀ a, a7 = some a → Wd.drew.heap.size ≤ a.block := (fun a ha => by rcases hat7 a ha with h | h; obtain ⟨y, hy, e⟩ := slice_own h; rw [← e]; exact ha6 y hy; have := hb6.size; have e : Wd.drew.heap.size = Wd.heap.size := rfl; omega); rw [← bs_append] at ho7; have hv7 := sec_new (S := S) (w := Wa) ho7 (fun y hy => Nat.le_trans HZd.out (ha7 y hy)); have hrf7 := (HRFd.out.stay (w' := Wd.drew) (fun _ _ _ => rfl) (fun _ _ _ => rfl)).later hb7; have hset := hid (hrf7.setNow (g := gN) (i := i) HGN.out HIL.out hv7); have hst7 := own_set (by have := hrf7.rn; rw [HGN.out] at this; exact this) HIL.out (.slice a7 128 c7); obtain ⟨u7, hu7⟩ := hst7.2.1; have hfz7 := hst7.2.2; have HB7 := hid hb7; clear hst7 hg7 hat7 ho7 hrf7 hv7
                      refine hK.out _ _ hR (fun hHeld => ?_)
                      clear hK K
                      (try simp only [Act.put, List.setIfInBounds_toArray, List.set_cons_zero, List.set_cons_succ])
                      refine wpAnyG_take (i := 20) (v := ?_) (op_at _ 20 _ rfl) (by kernel_rfl) (by kernel_rfl) (by kernel_rfl) (by kernel_rfl) (fun _ _ _ h => h) (Or.inl ⟨by rfl, ?_⟩) (by assumption) ?_
                      rotate_left 1
                      focus (intro W hSw; obtain ⟨q0, q1⟩ := hSw; go_simp; first | done | with_reducible rfl)
                      (try simp only [Act.put, List.setIfInBounds_toArray, List.set_cons_zero, List.set_cons_succ])
                      refine wpAnyG_ready (rs := [21]) (by kernel_rfl) (by simp) ?_
                      refine AllReadyG.late (op_at _ 21 _ rfl) (by rfl) (fun K hK => ?_) AllReadyG.nil
                      go_simp
                      refine hK.out _ _ ?_
                      clear hK K
                      (try simp only [Act.put, List.setIfInBounds_toArray, List.set_cons_zero, List.set_cons_succ])
                      refine wpAnyG_done (by kernel_rfl) ?_ _
                      obtain ⟨W8, hW8⟩ : ∃ W8, W8 = w7.setCell ⟨gN, i, none⟩ (.slice a7 128 c7) := ⟨_, rfl⟩
                      rw [← hW8] at hset
                      have hrf8 := hset.out.1; have hfr8 := hset.out.2
                      have HST : Hid (∀ En', En' = (if 0 < nn then max En (i + 1) else En) → CrI Wa r 4 S B F s1 ct (i + 1) (kk + 1) En' f2 (now.set i ((now.getD i []).take nn ++ (was F.old i).drop nn)) st.next (vs.set i (.slice a7 128 c7)) W8) := hid (fun En' hE => by
                        have hb7' := HB7.out
                        rw [HWD.out] at hb7'
                        exact hI.out.step hdi (by rw [← HL.out]; exact hiL) HB1.out hb7' hrf8 hfr8 (by rw [← HNE.out]) HNXT.out (by rw [← HNE.out]; exact hE))
                      have HW8 := hid hW8
                      clear hset hrf8 hfr8 hW8
                      have hNN := HNN.out
                      by_cases hn0 : nn = 0
                      · have hn0' : ¬ ((0 : Int) < (nn : Int)) := by omega
                        go_wp2
                        rw [← HW8.out]
                        exact ⟨⟨i + 1, kk + 1, En, f2, _, _, _, by omega, by simp, by simp, rfl, rfl, hEn, by omega, hid (HST.out En (by rw [if_neg (by omega)]))⟩, by simp [intOf]; omega⟩
                      · have hn0' : (0 : Int) < (nn : Int) := by omega
                        by_cases hE : En < i + 1
                        · have hE' : (En : Int) < (i : Int) + 1 := by omega
                          go_wp2
                          rw [← HW8.out]
                          exact ⟨⟨i + 1, kk + 1, i + 1, f2, _, _, _, by omega, by simp, by simp, rfl, by simp, by omega, by omega, hid (HST.out (i + 1) (by rw [if_pos (by omega)]; omega))⟩, by simp [intOf]; omega⟩
                        · have hE' : ¬ ((En : Int) < (i : Int) + 1) := by omega
                          go_wp2
                          rw [← HW8.out]
                          exact ⟨⟨i + 1, kk + 1, En, f2, _, _, _, by omega, by simp, by simp, rfl, rfl, hEn, by omega, hid (HST.out En (by rw [if_pos (by omega)]; omega))⟩, by simp [intOf]; omega⟩
          · have hiE : i = L := by omega
            subst hiE
            have hlast : ¬ ((i : Int) < (i : Int)) := by omega
            have hfold := hI.out.fold
            rw [List.take_of_length_le (by rw [HLD.out]; exact Nat.le_refl _)] at hfold
            have HCF : Hid (sureF (now.take En) = crashF F s1 ∧ st = crashS F s1) := hid ⟨by unfold crashF crashN; rw [hfold], by unfold crashS crashN; rw [hfold]⟩
            have k0 := hI.out.rf.c0
            (try simp only at k0)
            rw [hI.out.nl, ← HL.out] at k0
            have hcap : i ≤ B.cN := by
              have := hI.out.rf.rn
              simp only at this
              rw [hI.out.nl, ← HL.out] at this
              rcases row_some this with ⟨_, h1, h2⟩ | ⟨g, _, h1, _⟩
              · omega
              · exact h1
            have hfz : wr.frozen? ⟨r, 4, none⟩ = false := (hI.out.fr.fz 4).trans (by rw [HWA.out]; exact HR1.out.fz 4)
            have hcapI : (En : Int) ≤ (B.cN : Int) := by omega
            clear hfold
            go_upto_if 126 with (fail)
            go_cut [] from 25 to 137 (fun W => Hid (∃ vs', RefF W r 4 (From S Wa) { B with vs := vs' } ⟨now.take En, F.old, F.dirt⟩ ∧ FFrame Wa W r 4 (Mut B)))
            case first =>
              by_cases hE : En < i
              · have hE' : (En : Int) < (i : Int) := by omega
                have hcut' := hid (hI.out.rf.cutNow (k := En) (by show En ≤ now.length; rw [hI.out.nl, ← HL.out]; omega))
                go_wp2
                go_meet
                case rel => exact hid ⟨_, hcut'.out.1, hI.out.fr.trans (hcut'.out.2.imp (fun k _ hk => Or.inl hk))⟩
              · have hE' : ¬ ((En : Int) < (i : Int)) := by omega
                go_wp2
                go_meet
                case rel => exact hid ⟨vs, by rw [List.take_of_length_le (by rw [hI.out.nl, ← HL.out]; omega)]; exact hI.out.rf, hI.out.fr⟩
            case rest =>
              obtain ⟨vs', hrf, hfr⟩ := hcut.out
              have HS56 := hid (rsure_any r 4 (From S Wa) { B with vs := vs' } ⟨now.take En, F.old, F.dirt⟩ wc hrf (by simp only [List.length_take]; omega) (fun j => (hfr.fz j).trans (by rw [HWA.out]; exact HR1.out.fz j)))
              have HFRc := hid hfr
              have HNR : Hid (¬ From S Wa r) := hid hrf.np
              clear hrf hfr hcut
              go_wp2_with (go_at_call 56; refine HS56.out.mono ?_; rintro e w6 ⟨rfl, B6, ht6⟩; clear HS56; replace ht6 := hid ht6)
              have ht' : FTurn Wb w6 r 4 R1.S1 R1.B1 (crashF D1.f1 s1) B6 := by
                have := FTurn.after (B1 := { B with vs := vs' }) HFRc.out.size HFRc.out (fun k hk => hk) ht6.out HNR.out
                rw [HCF.out.1, HS.out, HB.out, HFF.out, HWA.out] at this
                exact this
              have hst : st.t ≤ 128 := by rw [hI.out.t]; have := HCT.out; split <;> omega
              have hs128 : s1.t ≤ 128 := by rw [HSK1.out.2]; have := HCT.out; split <;> omega
              have hok := HR1.out.ok
              have hcl := crashF_len hok.ok1 hs128
              obtain ⟨hR2, hG2, hfr2⟩ := HR1.out.file1 ht' ⟨hok.r1, hok.r2, by show D1.f0.now.length + (crashF D1.f1 s1).now.length ≤ D1.room; have := hok.sum; omega, hok.ok0, crashF_ok hok.ok1 hs128, hok.kl, hok.tn, hok.lf, hok.op⟩
              have HR2 := hid hR2; have HG2 := hid hG2; have HFR2 := hid hfr2
              clear hR2 hG2 hfr2 hcl hok hst hs128 ht' ht6 HFRc HNR HCF k0 hcap hfz hcapI hI
              rw [rounds_succ]
              go_wp2
              go_ret
              have hRE := HRE0.out
              have hz : w.heap.size ≤ w2.heap.size := HFR0.out.size
              have hz2 : w2.heap.size ≤ Wb.heap.size := HFR1.out.size
              have hG1' := HG1.out
              rw [hRE] at hG1'
              refine ⟨rfl, ⟨_, ?_, (hG1'.of hz).trans HG2.out (Nat.le_trans hz hz2)⟩, ?_⟩
              · have he : ({ D1 with f1 := crashF D1.f1 s1 } : DS) = crashD d keep t := by
                  rw [HDD1.out, HS1E.out, HS0.out, HD0.out, HCTE.out]; rfl
                have := HR2.out
                rw [he] at this
                exact this
              · have f1 := HFR1.out
                rw [hRE] at f1
                refine HFR0.out.trans ((f1.imp (fun _ _ h => Or.inl h)).trans (HFR2.out.imp (fun k _ hk => ?_)))
                rcases hG1'.2 k hk with h | h
                · exact Or.inl (Or.inl h)
                · exact Or.inr h

end Go.Proofs.Ytkgenmooepfhjaa
