/- What Write does to a disk; no statement of the seat is proved here. -/
import Derived.Test.YtkgenmooepfhjaaBe
namespace Go.Proofs.Ytkgenmooepfhjaa
open Go.RowKit Go.Maps

theorem wrN_ok : ∀ (ss : List Sec) {F : FS} (_ : F.Ok) {i : Nat} (_ : i ≤ F.now.length) (_ : ∀ x ∈ ss, x.length = 128), (wrN F i ss).Ok ∧ (wrN F i ss).now.length = max F.now.length (i + ss.length)
  | [], F, ok, i, hi, _ => ⟨ok, by simp [wrN]; omega⟩
  | s :: r, F, ok, i, hi, hs => by
    have hl := wr1_len F i s hi
    have hl2 : (wr1 F i s).now.length = max F.now.length (i + 1) := by
      unfold wr1
      split
      · simp; omega
      · simp; omega
    have := wrN_ok r (wr1_ok ok hi (hs s List.mem_cons_self)) (i := i + 1) hl.2 (fun x hx => hs x (List.mem_cons_of_mem _ hx))
    refine ⟨this.1, ?_⟩
    rw [wrN, this.2, hl2, List.length_cons]
    omega

theorem DiskP.drawn {w : World} {p : Nat} {P : Parts} {d : DS} (h : DiskP w p P d) (n : Nat) : DiskP (w.drewN n) p P d := h.stay (Nat.le_refl _) (fun _ _ _ => rfl)
theorem FFrame.undrewN {w w' : World} {n p o : Nat} {S : Nat → Prop} (h : FFrame (w.drewN n) w' p o S) : FFrame w w' p o S := ⟨h.os, h.tape, h.output, h.size, h.block, h.cell, h.fz⟩

/-- There is no room. -/
def fullD (d : DS) (len n : Nat) : Bool := decide ((d.room : Int) - (d.f0.now.length : Int) - (d.f1.now.length : Int) < (n : Int) - (len : Int))


set_option maxHeartbeats 2000000 in
theorem write1_0 (p : Nat) (P : Parts) (d : DS) (xa xb xf xd : Nat) (at_ : Nat) (bo : Option Addr) (bn bc : Nat) (ss : List Sec) (w : World) (h : DiskP w p P d)
    (ca : w.cell? ⟨xa, 0, none⟩ = some (.int .i64 (at_ : Int))) (cb : w.cell? ⟨xb, 0, none⟩ = some (.slice bo bn bc)) (cf : w.cell? ⟨xf, 0, none⟩ = some (.pointer (some ⟨p, 3, none⟩))) (cd : w.cell? ⟨xd, 0, none⟩ = some (.pointer (some ⟨p, 0, none⟩)))
    (hat : at_ ≤ d.f0.now.length) (hss : ∀ x ∈ ss, x.length = 128) (hsl : ss.length ≤ 1000) (hn : bn = ss.length * 128) (hb : ∀ w', FFrame w w' p 3 P.S0 → Rd w' bo bn bc ss.flatten) :
    Calls Try.prog 42 #[.pointer (some ⟨xa, 0, none⟩), .pointer (some ⟨xb, 0, none⟩), .pointer (some ⟨xf, 0, none⟩), .pointer (some ⟨xd, 0, none⟩)] w fun e w' => ∃ x, e = .returned (.int .i64 x) ∧
      (x = (if fullD d d.f0.now.length (at_ + ss.length) then 3 else 0) ∧ (∃ P', DiskP w' p P' (if fullD d d.f0.now.length (at_ + ss.length) then d else { d with f0 := wrN d.f0 at_ ss }) ∧ Grew P w P') ∧ DFrame w w' p P.all) := by
  have hr2 := h.ok.r2; have hsum := h.ok.sum
  have hlen := wrN_ok ss h.ok.ok0 hat hss
  have SP := hid (fun n => spare_any p P d (w.drewN n) (h.drawn n))
  have cw := hid (fun n => write_any p 3 P.S0 _ _ _ d.f0 at_ bo bn bc ss (w.drewN n) (h.drawn n).f0 h.ok.ok0 hat hss (by omega) (by omega) hn (fun w' hf => hb w' hf.undrewN))
  have c3 := h.f0.c0
  have H := hid h
  have HLEN := hid hlen
  have e1 : (bn : Int) = (ss.length : Int) * 128 := by omega
  have e2 : (bn : Int).tdiv 128 = (ss.length : Int) := by rw [e1]; exact Int.mul_tdiv_cancel _ (by decide)
  have HBN : Hid ((bn : Int) ≤ 128000) := hid (by omega)
  cases hfl : fullD d d.f0.now.length (at_ + ss.length)
  · have hfl2 : ¬ ((d.room : Int) - (d.f0.now.length : Int) - (d.f1.now.length : Int) < (at_ : Int) + (ss.length : Int) - (d.f0.now.length : Int)) := by simpa [fullD] using hfl
    have HFL := hid hfl2
    have hok : { d with f0 := wrN d.f0 at_ ss }.Ok := by
      refine ⟨h.ok.r1, h.ok.r2, ?_, hlen.1, h.ok.ok1, h.ok.kl, h.ok.tn, h.ok.lf, h.ok.op⟩
      simp only
      rw [hlen.2]; omega
    have HOK := hid hok
    clear h hlen hok hb hss hfl hn e1
    have hbn : (bn : Int) ≤ 128000 := HBN.out
    generalize hRR : (d.room : Int) - (d.f0.now.length : Int) - (d.f1.now.length : Int) = R at *
    generalize hLL : d.f0.now.length = L at *
    have HLL := hid hLL; have HRR := hid hRR
    have hR1 : -100000 ≤ R ∧ R ≤ 100000 := by omega
    clear hLL hRR
    generalize ss.length = ns at *
    go_enter Try.func42, Try.ntmps42
    go_wp2_with fail
    go_quiet (first | (go_at_call 43; refine Calls.quiet_of (SP.out _)))
    go_wp2_with (go_at_call 44; refine (cw.out _).mono ?_; rintro e w2 ⟨rfl, ao, cap, m, hF, hfr⟩; replace hF := hid hF; replace hfr := hid hfr)
    go_ret
    exact ⟨0, rfl, rfl, ⟨_, H.out.file0 hF.out hfr.out.undrewN HOK.out, fun k hk => by rcases hk with (h | h) | h | h; exact Or.inl (Or.inl h); exact Or.inr h.1; exact Or.inl (Or.inr (Or.inl h)); exact Or.inl (Or.inr (Or.inr h))⟩, hfr.out.undrewN.df.imp (fun _ _ h => Or.inl h)⟩
  · have hfl2 : (d.room : Int) - (d.f0.now.length : Int) - (d.f1.now.length : Int) < (at_ : Int) + (ss.length : Int) - (d.f0.now.length : Int) := by simpa [fullD] using hfl
    clear h hlen hb hss hfl hn e1 cw HLEN
    have hbn : (bn : Int) ≤ 128000 := HBN.out
    generalize hRR : (d.room : Int) - (d.f0.now.length : Int) - (d.f1.now.length : Int) = R at *
    generalize hLL : d.f0.now.length = L at *
    have HLL := hid hLL; have HRR := hid hRR
    have hR1 : -100000 ≤ R ∧ R ≤ 100000 := by omega
    clear hLL hRR
    generalize ss.length = ns at *
    go_enter Try.func42, Try.ntmps42
    go_wp2_with fail
    go_quiet (first | (go_at_call 43; refine Calls.quiet_of (SP.out _)))
    go_wp2
    go_ret
    exact ⟨3, rfl, rfl, ⟨P, H.out.drawn nq, fun k hk => Or.inl hk⟩, ⟨rfl, rfl, rfl, Nat.le_refl _, fun _ _ _ _ => rfl⟩⟩

set_option maxHeartbeats 2000000 in
theorem write1_1 (p : Nat) (P : Parts) (d : DS) (xa xb xf xd : Nat) (at_ : Nat) (bo : Option Addr) (bn bc : Nat) (ss : List Sec) (w : World) (h : DiskP w p P d)
    (ca : w.cell? ⟨xa, 0, none⟩ = some (.int .i64 (at_ : Int))) (cb : w.cell? ⟨xb, 0, none⟩ = some (.slice bo bn bc)) (cf : w.cell? ⟨xf, 0, none⟩ = some (.pointer (some ⟨p, 6, none⟩))) (cd : w.cell? ⟨xd, 0, none⟩ = some (.pointer (some ⟨p, 0, none⟩)))
    (hat : at_ ≤ d.f1.now.length) (hss : ∀ x ∈ ss, x.length = 128) (hsl : ss.length ≤ 1000) (hn : bn = ss.length * 128) (hb : ∀ w', FFrame w w' p 6 P.S1 → Rd w' bo bn bc ss.flatten) :
    Calls Try.prog 42 #[.pointer (some ⟨xa, 0, none⟩), .pointer (some ⟨xb, 0, none⟩), .pointer (some ⟨xf, 0, none⟩), .pointer (some ⟨xd, 0, none⟩)] w fun e w' => ∃ x, e = .returned (.int .i64 x) ∧
      (x = (if fullD d d.f1.now.length (at_ + ss.length) then 3 else 0) ∧ (∃ P', DiskP w' p P' (if fullD d d.f1.now.length (at_ + ss.length) then d else { d with f1 := wrN d.f1 at_ ss }) ∧ Grew P w P') ∧ DFrame w w' p P.all) := by
  have hr2 := h.ok.r2; have hsum := h.ok.sum
  have hlen := wrN_ok ss h.ok.ok1 hat hss
  have SP := hid (fun n => spare_any p P d (w.drewN n) (h.drawn n))
  have cw := hid (fun n => write_any p 6 P.S1 _ _ _ d.f1 at_ bo bn bc ss (w.drewN n) (h.drawn n).f1 h.ok.ok1 hat hss (by omega) (by omega) hn (fun w' hf => hb w' hf.undrewN))
  have c3 := h.f1.c0
  have H := hid h
  have HLEN := hid hlen
  have e1 : (bn : Int) = (ss.length : Int) * 128 := by omega
  have e2 : (bn : Int).tdiv 128 = (ss.length : Int) := by rw [e1]; exact Int.mul_tdiv_cancel _ (by decide)
  have HBN : Hid ((bn : Int) ≤ 128000) := hid (by omega)
  cases hfl : fullD d d.f1.now.length (at_ + ss.length)
  · have hfl2 : ¬ ((d.room : Int) - (d.f0.now.length : Int) - (d.f1.now.length : Int) < (at_ : Int) + (ss.length : Int) - (d.f1.now.length : Int)) := by simpa [fullD] using hfl
    have HFL := hid hfl2
    have hok : { d with f1 := wrN d.f1 at_ ss }.Ok := by
      refine ⟨h.ok.r1, h.ok.r2, ?_, h.ok.ok0, hlen.1, h.ok.kl, h.ok.tn, h.ok.lf, h.ok.op⟩
      simp only
      rw [hlen.2]; omega
    have HOK := hid hok
    clear h hlen hok hb hss hfl hn e1
    have hbn : (bn : Int) ≤ 128000 := HBN.out
    generalize hRR : (d.room : Int) - (d.f0.now.length : Int) - (d.f1.now.length : Int) = R at *
    generalize hLL : d.f1.now.length = L at *
    have HLL := hid hLL; have HRR := hid hRR
    have hR1 : -100000 ≤ R ∧ R ≤ 100000 := by omega
    clear hLL hRR
    generalize ss.length = ns at *
    go_enter Try.func42, Try.ntmps42
    go_wp2_with fail
    go_quiet (first | (go_at_call 43; refine Calls.quiet_of (SP.out _)))
    go_wp2_with (go_at_call 44; refine (cw.out _).mono ?_; rintro e w2 ⟨rfl, ao, cap, m, hF, hfr⟩; replace hF := hid hF; replace hfr := hid hfr)
    go_ret
    exact ⟨0, rfl, rfl, ⟨_, H.out.file1 hF.out hfr.out.undrewN HOK.out, fun k hk => by rcases hk with h | (h | h) | h; exact Or.inl (Or.inl h); exact Or.inl (Or.inr (Or.inl h)); exact Or.inr h.1; exact Or.inl (Or.inr (Or.inr h))⟩, hfr.out.undrewN.df.imp (fun _ _ h => Or.inr (Or.inl h))⟩
  · have hfl2 : (d.room : Int) - (d.f0.now.length : Int) - (d.f1.now.length : Int) < (at_ : Int) + (ss.length : Int) - (d.f1.now.length : Int) := by simpa [fullD] using hfl
    clear h hlen hb hss hfl hn e1 cw HLEN
    have hbn : (bn : Int) ≤ 128000 := HBN.out
    generalize hRR : (d.room : Int) - (d.f0.now.length : Int) - (d.f1.now.length : Int) = R at *
    generalize hLL : d.f1.now.length = L at *
    have HLL := hid hLL; have HRR := hid hRR
    have hR1 : -100000 ≤ R ∧ R ≤ 100000 := by omega
    clear hLL hRR
    generalize ss.length = ns at *
    go_enter Try.func42, Try.ntmps42
    go_wp2_with fail
    go_quiet (first | (go_at_call 43; refine Calls.quiet_of (SP.out _)))
    go_wp2
    go_ret
    exact ⟨3, rfl, rfl, ⟨P, H.out.drawn nq, fun k hk => Or.inl hk⟩, ⟨rfl, rfl, rfl, Nat.le_refl _, fun _ _ _ _ => rfl⟩⟩

end Go.Proofs.Ytkgenmooepfhjaa
