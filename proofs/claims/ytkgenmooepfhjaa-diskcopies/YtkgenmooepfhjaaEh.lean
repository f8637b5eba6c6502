/- op and Sync of the document's disk; no statement of the seat is proved here. -/
import Derived.Test.YtkgenmooepfhjaaEg
namespace Go.Proofs.Ytkgenmooepfhjaa
open Go.RowKit Go.Maps

theorem tick_ok {d : DS} (h : d.Ok) (hop : d.ops < 1000000000) : (tickD d).Ok := ⟨h.r1, h.r2, h.sum, h.ok0, h.ok1, h.kl, h.tn, by show d.left - 1 ≤ _; have := h.lf; omega, by show d.ops + 1 ≤ _; omega⟩

set_option maxHeartbeats 1000000 in
/-- It is done. -/
theorem rop_go (r : Nat) (R : RParts) (d : DS) (w : World) (h : RefP w r R d) (hl : d.left ≠ 1) (hop : d.ops < 1000000000) :
    Calls Try.prog 55 #[.pointer (some ⟨r, 0, none⟩)] w fun e w' => e = .returned (.bool true) ∧ RefP w' r R (tickD d) ∧ DFrame w w' r R.mut := by
  have c8 := h.c8; have c9 := h.c9; have f8 := h.fz 8; have f9 := h.fz 9
  have hlf := h.ok.lf
  have H := hid h
  clear h
  by_cases h0 : d.left = 0
  · rw [h0] at c9
    go_enter Try.func55, Try.ntmps55
    go_wp2
    go_ret
    obtain ⟨W, hW⟩ : ∃ W, W = w.setCell ⟨r, 8, none⟩ (.int .i64 ((d.ops : Int) + 1)) := ⟨_, rfl⟩
    rw [← hW]
    have h := H.out
    refine ⟨rfl, h.plain (d' := tickD d) W (by rw [hW]; simp) (fun k hk => by rw [hW, set_heap _ _ _ _ _ hk]) (fun i hi => by rw [hW, set_off _ _ _ (by omega)]) (fun i => by rw [hW, World.frozen?_setCell]) (by rw [hW]; exact ⟨rfl, rfl, rfl⟩) ?_ ?_ ?_ rfl rfl rfl (fun hl' => by simp [tickD, h0] at hl') (tick_ok h.ok hop)⟩
    · rw [hW, set_off _ _ _ (by omega)]; exact h.c7
    · rw [hW]; exact set_same c8
    · rw [hW, set_off _ _ _ (by omega)]; simp only [tickD, h0]; exact c9
  · have h0' : ((d.left : Int) == 0) = false := by simp; omega
    have h1 : (0 : Int) < (d.left : Int) - 1 := by omega
    go_enter Try.func55, Try.ntmps55
    go_wp2
    go_ret
    obtain ⟨W, hW⟩ : ∃ W, W = (w.setCell ⟨r, 8, none⟩ (.int .i64 ((d.ops : Int) + 1))).setCell ⟨r, 9, none⟩ (.int .i64 ((d.left : Int) - 1)) := ⟨_, rfl⟩
    rw [← hW]
    have h := H.out
    refine ⟨rfl, h.plain (d' := tickD d) W (by rw [hW]; simp) (fun k hk => by rw [hW, set_heap _ _ _ _ _ hk, set_heap _ _ _ _ _ hk]) (fun i hi => by rw [hW, set_off _ _ _ (by omega), set_off _ _ _ (by omega)]) (fun i => by rw [hW, World.frozen?_setCell, World.frozen?_setCell]) (by rw [hW]; exact ⟨rfl, rfl, rfl⟩) ?_ ?_ ?_ rfl rfl rfl (fun hl' => ⟨by omega, rfl, rfl⟩) (tick_ok h.ok hop)⟩
    · rw [hW, set_off _ _ _ (by omega), set_off _ _ _ (by omega)]; exact h.c7
    · rw [hW, set_off _ _ _ (by omega)]; exact set_same c8
    · rw [hW]
      have e : ((tickD d).left : Int) = (d.left : Int) - 1 := by show ((d.left - 1 : Nat) : Int) = _; omega
      rw [e]
      exact set_same ((set_off _ _ _ (by omega)).trans c9)

set_option maxHeartbeats 1000000 in
/-- The power goes instead. -/
theorem rop_crash (r : Nat) (R : RParts) (d : DS) (w : World) (h : RefP w r R d) (ho : d.off = false) (hl : d.left = 1) (hop : d.ops < 1000000000) :
    Calls Try.prog 55 #[.pointer (some ⟨r, 0, none⟩)] w fun e w' => e = .returned (.bool false) ∧ (∃ R', RefP w' r R' (crashD (opsD d) d.keep d.torn) ∧ RGrew R w R') ∧ DFrame w w' r R.mut := by
  have c8 := h.c8; have c9 := h.c9; have f8 := h.fz 8; have f9 := h.fz 9; have c10 := h.c10; have c11 := h.c11
  rw [hl] at c9
  obtain ⟨W, hW⟩ : ∃ W, W = (w.setCell ⟨r, 8, none⟩ (.int .i64 ((d.ops : Int) + 1))).setCell ⟨r, 9, none⟩ (.int .i64 0) := ⟨_, rfl⟩
  obtain ⟨hR, hfr⟩ : RefP W r R (tickD d) ∧ DFrame w W r R.mut := by
    refine h.plain (d' := tickD d) W (by rw [hW]; simp) (fun k hk => by rw [hW, set_heap _ _ _ _ _ hk, set_heap _ _ _ _ _ hk]) (fun i hi => by rw [hW, set_off _ _ _ (by omega), set_off _ _ _ (by omega)]) (fun i => by rw [hW, World.frozen?_setCell, World.frozen?_setCell]) (by rw [hW]; exact ⟨rfl, rfl, rfl⟩) ?_ ?_ ?_ rfl rfl rfl (fun hl' => ⟨by omega, rfl, rfl⟩) (tick_ok h.ok hop)
    · rw [hW, set_off _ _ _ (by omega), set_off _ _ _ (by omega)]; exact h.c7
    · rw [hW, set_off _ _ _ (by omega)]; exact set_same c8
    · rw [hW]
      have e : ((tickD d).left : Int) = 0 := by show ((d.left - 1 : Nat) : Int) = _; omega
      rw [e]
      exact set_same ((set_off _ _ _ (by omega)).trans c9)
  obtain ⟨k1, k2, k3, k4⟩ := h.rk (by omega)
  have hrd : RdB W R.ko d.keep := rdB_stay k3 (fun hp a ha hk => by
    have := h.dk _ (k4 hp a ha)
    exact hfr.block _ hk this.2.2 (fun hm => by rcases hm with hm | hm; exact this.1 (h.f0.mut hm); exact this.2.1 (h.f1.mut hm)))
  have CC := hid (rcrash_on r R (tickD d) R.ko R.kc d.keep d.torn W hR ho hrd h.ok.kl (fun hp a ha => by
    have := h.dk _ (k4 hp a ha)
    exact ⟨fun hm => by rcases hm with hm | hm; exact this.1 (h.f0.mut hm); exact this.2.1 (h.f1.mut hm), this.2.2⟩))
  rw [k1] at c10
  rw [k2] at c11
  have HW := hid hW; have HFR := hid hfr
  have hop' : (d.ops : Int) < 1000000000 := by omega
  clear h hR hfr hrd k1 k2 k3 k4 hW
  generalize R.ko = ko at *
  generalize R.kc = kc at *
  go_enter Try.func55, Try.ntmps55
  go_wp2_with (go_at_call 34; rw [← HW.out]; refine CC.out.mono ?_; rintro e w2 ⟨rfl, hd, hfr⟩; replace hd := hid hd; replace hfr := hid hfr)
  go_ret
  obtain ⟨R', hd', hg⟩ := hd.out
  exact ⟨rfl, ⟨R', hd', hg.of HFR.out.size⟩, HFR.out.trans (hfr.out.imp (fun _ _ h => Or.inl h))⟩

theorem RefP.drew {w : World} {r : Nat} {R : RParts} {d : DS} (h : RefP w r R d) : RefP w.drew r R d := h.stay (Nat.le_refl _) (fun _ _ _ => rfl)

set_option maxHeartbeats 1000000 in
theorem rsync_off (r : Nat) (R : RParts) (d : DS) (f : Int) (w : World) (h : RefP w r R d) (hx : d.off = true ∨ known f = false) :
    Calls Try.prog 32 #[.pointer (some ⟨r, 0, none⟩), .int .i64 f] w fun e w' => e = .returned (.int .i64 (if d.off then 4 else 11)) ∧ w' = w := by
  have c7 := h.c7
  clear h
  cases ho : d.off <;> rw [ho] at c7 hx
  · have hk : known f = false := by rcases hx with h | h; cases h; exact h
    clear hx
    by_cases h0 : f < 0
    · go_enter Try.func32, Try.ntmps32
      go_wp2
      go_ret
      exact ⟨rfl, rfl⟩
    · have h1 : 1 < f := by rcases known_false hk with h | h; omega; exact h
      have h0' : decide (f < 0) = false := by simp; omega
      go_enter Try.func32, Try.ntmps32
      go_wp2
      go_ret
      exact ⟨rfl, rfl⟩
  · clear hx
    go_enter Try.func32, Try.ntmps32
    go_wp2
    go_ret
    exact ⟨rfl, rfl⟩

set_option maxHeartbeats 1000000 in
theorem rsync_0 (r : Nat) (R : RParts) (d : DS) (w : World) (h : RefP w r R d) (ho : d.off = false) (hop : d.ops < 1000000000) :
    Calls Try.prog 32 #[.pointer (some ⟨r, 0, none⟩), .int .i64 0] w fun e w' => e = .returned (.int .i64 (syncD d 0).1) ∧ (∃ R', RefP w' r R' (syncD d 0).2 ∧ RGrew R w R') ∧ DFrame w w' r R.mut := by
  have c7 := h.c7
  rw [ho] at c7
  by_cases hl : d.left = 1
  · have e : syncD d 0 = (4, crashD (opsD d) d.keep d.torn) := by simp [syncD, ho, hl, known]
    rw [e]
    have CO := hid (rop_crash r R d w h ho hl hop)
    clear h e
    go_enter Try.func32, Try.ntmps32
    go_wp2_with (go_at_call 55; refine CO.out.mono ?_; rintro e w2 ⟨rfl, hd, hfr⟩; replace hd := hid hd; replace hfr := hid hfr)
    go_ret
    exact ⟨rfl, hd.out, hfr.out⟩
  · have e : syncD d 0 = (0, (tickD d).put 0 (sureF d.f0.now)) := by simp [syncD, ho, hl, known, DS.file]
    rw [e]
    have CO := hid (rop_go r R d w h hl hop)
    have hln : d.f0.now.length ≤ 32768 := by have := h.ok.sum; have := h.ok.r2; omega
    clear h e
    go_enter Try.func32, Try.ntmps32
    go_wp2_with (first
      | (go_at_call 55; refine CO.out.mono ?_; rintro e w2 ⟨rfl, hd, hfr⟩; replace hd := hid hd; replace hfr := hid hfr; clear CO)
      | (go_at_call 56; refine (rsure_any r 1 R.S0 R.B0 (tickD d).f0 _ hd.out.f0 (by show d.f0.now.length ≤ _; omega) hd.out.fz).mono ?_; rintro e w3 ⟨rfl, B', ht⟩; replace ht := hid ht))
    go_ret
    have hok := hd.out.ok
    obtain ⟨h1, h2, h3⟩ := hd.out.file0 ht.out ⟨hok.r1, hok.r2, hok.sum, sureF_ok hok.ok0.sn, hok.ok1, hok.kl, hok.tn, hok.lf, hok.op⟩
    exact ⟨rfl, ⟨_, h1, h2.of hfr.out.size⟩, hfr.out.trans (h3.imp (fun _ _ h => Or.inl h))⟩

set_option maxHeartbeats 1000000 in
theorem rsync_1 (r : Nat) (R : RParts) (d : DS) (w : World) (h : RefP w r R d) (ho : d.off = false) (hop : d.ops < 1000000000) :
    Calls Try.prog 32 #[.pointer (some ⟨r, 0, none⟩), .int .i64 1] w fun e w' => e = .returned (.int .i64 (syncD d 1).1) ∧ (∃ R', RefP w' r R' (syncD d 1).2 ∧ RGrew R w R') ∧ DFrame w w' r R.mut := by
  have c7 := h.c7
  rw [ho] at c7
  by_cases hl : d.left = 1
  · have e : syncD d 1 = (4, crashD (opsD d) d.keep d.torn) := by simp [syncD, ho, hl, known]
    rw [e]
    have CO := hid (rop_crash r R d w h ho hl hop)
    clear h e
    go_enter Try.func32, Try.ntmps32
    go_wp2_with (go_at_call 55; refine CO.out.mono ?_; rintro e w2 ⟨rfl, hd, hfr⟩; replace hd := hid hd; replace hfr := hid hfr)
    go_ret
    exact ⟨rfl, hd.out, hfr.out⟩
  · have e : syncD d 1 = (0, (tickD d).put 1 (sureF d.f1.now)) := by simp [syncD, ho, hl, known, DS.file]
    rw [e]
    have CO := hid (rop_go r R d w h hl hop)
    have hln : d.f1.now.length ≤ 32768 := by have := h.ok.sum; have := h.ok.r2; omega
    clear h e
    go_enter Try.func32, Try.ntmps32
    go_wp2_with (first
      | (go_at_call 55; refine CO.out.mono ?_; rintro e w2 ⟨rfl, hd, hfr⟩; replace hd := hid hd; replace hfr := hid hfr; clear CO)
      | (go_at_call 56; refine (rsure_any r 4 R.S1 R.B1 (tickD d).f1 _ hd.out.f1 (by show d.f1.now.length ≤ _; omega) hd.out.fz).mono ?_; rintro e w3 ⟨rfl, B', ht⟩; replace ht := hid ht))
    go_ret
    have hok := hd.out.ok
    obtain ⟨h1, h2, h3⟩ := hd.out.file1 ht.out ⟨hok.r1, hok.r2, hok.sum, hok.ok0, sureF_ok hok.ok1.sn, hok.kl, hok.tn, hok.lf, hok.op⟩
    exact ⟨rfl, ⟨_, h1, h2.of hfr.out.size⟩, hfr.out.trans (h3.imp (fun _ _ h => Or.inl h))⟩


theorem rsync_call (r : Nat) (R : RParts) (d : DS) (f : Int) (w : World) (h : RefP w r R d) (hop : d.ops < 1000000000) :
    Calls Try.prog 32 #[.pointer (some ⟨r, 0, none⟩), .int .i64 f] w fun e w' => e = .returned (.int .i64 (syncD d f).1) ∧ (∃ R', RefP w' r R' (syncD d f).2 ∧ RGrew R w R') ∧ DFrame w w' r R.mut := by
  by_cases hx : d.off = true ∨ known f = false
  · have e : syncD d f = (if d.off then 4 else 11, d) := by
      unfold syncD
      rcases hx with h | h
      · simp [h]
      · cases d.off <;> simp [h]
    rw [e]
    refine (rsync_off r R d f w h hx).mono ?_
    rintro e w' ⟨rfl, rfl⟩
    exact ⟨rfl, ⟨R, h, RGrew.refl _ _⟩, DFrame.refl _ _ _⟩
  · have ho : d.off = false := by cases h' : d.off; rfl; exact absurd (Or.inl h') hx
    have hk : known f = true := by cases h' : known f; exact absurd (Or.inr h') hx; rfl
    rcases known_cases hk with rfl | rfl
    · exact rsync_0 r R d w h ho hop
    · exact rsync_1 r R d w h ho hop

end Go.Proofs.Ytkgenmooepfhjaa
