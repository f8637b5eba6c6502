/- The document's cache: Pin, Free, Mark; no statement of the seat is proved here. -/
import Derived.Test.YtebjjibgkjgpgaaRc
namespace Go.Proofs.Ytebjjibgkjgpgaa
open Go.RowKit Go.Maps

theorem RStep.later {w w1 : World} {m : Nat} {R : RParts} {s : CS} (h : RP w m R s) (hb : Below w.heap.size w w1) : RStep w w1 m R R s := ⟨h.later hb, Fr.of_below hb, fun _ h => Or.inl h⟩

set_option maxRecDepth 20000 in
set_option maxHeartbeats 1000000 in
theorem rpin_call (m : Nat) (R : RParts) (s : CS) (k : Int) (w : World) (h : RP w m R s) (hn : R.ps.length ≤ 1000000) (hnd : (s.l.map Row.page).Nodup) (hb : ∀ r ∈ s.l, r.pins ≤ 1000000) :
    Calls Try.prog 35 #[.pointer (some ⟨m, 0, none⟩), .int .i64 k] w fun e w' => e = .returned (.int .i64 (s.pin k).2) ∧ ∃ R', RStep w w' m R R' (s.pin k).1 := by
  have k1 := hid (rfind_any m R s k w h hn)
  cases ho : idx s.l k with
  | none =>
    rw [ho] at k1
    have e1 : s.pin k = (s, 5) := by unfold CS.pin; rw [find_none_idx ho]
    rw [e1]
    have HH := hid h
    clear h e1
    go_enter Try.func35, Try.ntmps35
    go_wp2_with (go_at_call 57; refine k1.out.mono ?_; rintro e w1 ⟨rfl, h1⟩; have H1 := hid h1; clear h1; simp only [idV])
    go_ret
    exact ⟨rfl, _, RStep.later HH.out H1.out⟩
  | some i =>
    rw [ho] at k1
    have c1 := h.c1
    obtain ⟨g, cap, ps, rfl, hi, hi2, hrow, hcap, hgm, hgl, y0, y1, y2, y3, fz⟩ := h.at_ ho
    have f1 := fz (i * 4 + 2)
    obtain ⟨n, hnn⟩ : ∃ n, n = ps.length := ⟨_, rfl⟩
    simp only at c1 y2 y3
    rw [← hnn] at c1 hcap
    have hin : i < n := by omega
    have hi1 : (i : Int) < (n : Int) := by omega
    have hi0 : ¬ (i : Int) < 0 := by omega
    have e1 : s.pin k = (s.upd k (fun r => { r with pins := r.pins + 1 }), 0) := by unfold CS.pin; obtain ⟨_, q⟩ := find_some_idx ho; rw [q]
    rw [e1]
    have hbb := hb s.l[i] (List.getElem_mem hi2)
    rw [← hrow] at hbb
    have hw : IntKind.i64.wrap ((ps[i].1.pins : Int) + 1) = ((ps[i].1.pins + 1 : Nat) : Int) := by rw [IntWalk.i64_in _ ⟨by omega, by omega⟩]; omega
    have hend : Hid (∀ w1, Below w.heap.size w w1 → ∃ R', RStep w (w1.setCell ⟨g, i * 4 + 2, none⟩ (.int .i64 ((ps[i].1.pins + 1 : Nat) : Int))) m ⟨some ⟨g, 0, none⟩, cap, ps⟩ R' (s.upd k (fun r => { r with pins := r.pins + 1 }))) :=
      hid (fun w1 hb1 => rstep_turn (f := fun r => { r with pins := r.pins + 1 }) h hb1 hi hi2 (by omega) rfl rfl hgm hrow ho hnd)
    obtain ⟨pn, hpn⟩ : ∃ b, b = ps[i].1.pins := ⟨_, rfl⟩
    rw [← hpn] at y2 hw hend
    clear h e1 y0 y1 y3 hpn hrow hbb hb fz
    go_enter Try.func35, Try.ntmps35
    go_wp2_with (go_at_call 57; refine k1.out.mono ?_; rintro e w1 ⟨rfl, h1⟩; have z1 := keep_old h1 c1; have z2 := keep_old h1 y2; have f2 := (keep_frozen h1 (a := ⟨g, i * 4 + 2, none⟩) hgl).trans f1; have H1 := hid h1; clear h1; simp only [idV])
    go_ret
    exact ⟨rfl, hend.out w1 H1.out⟩

set_option maxRecDepth 20000 in
set_option maxHeartbeats 1000000 in
theorem rfree_call (m : Nat) (R : RParts) (s : CS) (k : Int) (w : World) (h : RP w m R s) (hn : R.ps.length ≤ 1000000) (hnd : (s.l.map Row.page).Nodup) (hb : ∀ r ∈ s.l, r.pins ≤ 1000000) :
    Calls Try.prog 36 #[.pointer (some ⟨m, 0, none⟩), .int .i64 k] w fun e w' => e = .returned (.int .i64 (s.free k).2) ∧ ∃ R', RStep w w' m R R' (s.free k).1 := by
  have k1 := hid (rfind_any m R s k w h hn)
  cases ho : idx s.l k with
  | none =>
    rw [ho] at k1
    have e1 : s.free k = (s, 5) := by unfold CS.free; rw [find_none_idx ho]
    rw [e1]
    have HH := hid h
    clear h e1
    go_enter Try.func36, Try.ntmps36
    go_wp2_with (go_at_call 57; refine k1.out.mono ?_; rintro e w1 ⟨rfl, h1⟩; have H1 := hid h1; clear h1; simp only [idV])
    go_ret
    exact ⟨rfl, _, RStep.later HH.out H1.out⟩
  | some i =>
    rw [ho] at k1
    have c1 := h.c1
    obtain ⟨g, cap, ps, rfl, hi, hi2, hrow, hcap, hgm, hgl, y0, y1, y2, y3, fz⟩ := h.at_ ho
    have f1 := fz (i * 4 + 2)
    obtain ⟨n, hnn⟩ : ∃ n, n = ps.length := ⟨_, rfl⟩
    simp only at c1 y2 y3
    rw [← hnn] at c1 hcap
    have hin : i < n := by omega
    have hi1 : (i : Int) < (n : Int) := by omega
    have hi0 : ¬ (i : Int) < 0 := by omega
    rcases Nat.eq_zero_or_pos ps[i].1.pins with hz | hz
    · have e1 : s.free k = (s, 6) := by unfold CS.free; obtain ⟨_, q⟩ := find_some_idx ho; rw [q, ← hrow]; simp [hz]
      rw [hz] at y2
      simp only [Int.ofNat_zero] at y2
      rw [e1]
      have HH := hid h
      clear h e1 y0 y1 y3 hrow fz
      go_enter Try.func36, Try.ntmps36
      go_wp2_with (go_at_call 57; refine k1.out.mono ?_; rintro e w1 ⟨rfl, h1⟩; have z1 := keep_old h1 c1; have z2 := keep_old h1 y2; have f2 := (keep_frozen h1 (a := ⟨g, i * 4 + 2, none⟩) hgl).trans f1; have H1 := hid h1; clear h1; simp only [idV])
      go_ret
      exact ⟨rfl, _, RStep.later HH.out H1.out⟩
    · have e1 : s.free k = (s.upd k (fun r => { r with pins := r.pins - 1 }), 0) := by unfold CS.free; obtain ⟨_, q⟩ := find_some_idx ho; rw [q, ← hrow]; simp only; rw [if_neg (by omega)]
      rw [e1]
      have hbb := hb s.l[i] (List.getElem_mem hi2)
      rw [← hrow] at hbb
      have hw : IntKind.i64.wrap ((ps[i].1.pins : Int) - 1) = ((ps[i].1.pins - 1 : Nat) : Int) := by rw [IntWalk.i64_in _ ⟨by omega, by omega⟩]; omega
      have hend : Hid (∀ w1, Below w.heap.size w w1 → ∃ R', RStep w (w1.setCell ⟨g, i * 4 + 2, none⟩ (.int .i64 ((ps[i].1.pins - 1 : Nat) : Int))) m ⟨some ⟨g, 0, none⟩, cap, ps⟩ R' (s.upd k (fun r => { r with pins := r.pins - 1 }))) :=
        hid (fun w1 hb1 => rstep_turn (f := fun r => { r with pins := r.pins - 1 }) h hb1 hi hi2 (by omega) rfl rfl hgm hrow ho hnd)
      obtain ⟨pn, hpn⟩ : ∃ b, b = ps[i].1.pins := ⟨_, rfl⟩
      rw [← hpn] at y2 hw hend hz
      have hz1 : ¬ pn = 0 := by omega
      have hz2 : ¬ (pn : Int) = 0 := by omega
      have hz3 : ((pn : Int) == 0) = false := by simpa using hz2
      clear h e1 y0 y1 y3 hpn hrow hbb hb fz
      go_enter Try.func36, Try.ntmps36
      go_wp2_with (go_at_call 57; refine k1.out.mono ?_; rintro e w1 ⟨rfl, h1⟩; have z1 := keep_old h1 c1; have z2 := keep_old h1 y2; have f2 := (keep_frozen h1 (a := ⟨g, i * 4 + 2, none⟩) hgl).trans f1; have H1 := hid h1; clear h1; simp only [idV])
      go_ret
      exact ⟨rfl, hend.out w1 H1.out⟩

set_option maxRecDepth 20000 in
set_option maxHeartbeats 1000000 in
theorem rmark_call (m : Nat) (R : RParts) (s : CS) (k : Int) (d : Bool) (w : World) (h : RP w m R s) (hn : R.ps.length ≤ 1000000) (hnd : (s.l.map Row.page).Nodup) :
    Calls Try.prog 37 #[.pointer (some ⟨m, 0, none⟩), .int .i64 k, .bool d] w fun e w' => e = .returned (.int .i64 (s.mark k d).2) ∧ ∃ R', RStep w w' m R R' (s.mark k d).1 := by
  have k1 := hid (rfind_any m R s k w h hn)
  cases ho : idx s.l k with
  | none =>
    rw [ho] at k1
    have e1 : s.mark k d = (s, 5) := by unfold CS.mark; rw [find_none_idx ho]
    rw [e1]
    have HH := hid h
    clear h e1
    go_enter Try.func37, Try.ntmps37
    go_wp2_with (go_at_call 57; refine k1.out.mono ?_; rintro e w1 ⟨rfl, h1⟩; have H1 := hid h1; clear h1; simp only [idV])
    go_ret
    exact ⟨rfl, _, RStep.later HH.out H1.out⟩
  | some i =>
    rw [ho] at k1
    have c1 := h.c1
    obtain ⟨g, cap, ps, rfl, hi, hi2, hrow, hcap, hgm, hgl, y0, y1, y2, y3, fz⟩ := h.at_ ho
    have f1 := fz (i * 4 + 3)
    obtain ⟨n, hnn⟩ : ∃ n, n = ps.length := ⟨_, rfl⟩
    simp only at c1 y2 y3
    rw [← hnn] at c1 hcap
    have hin : i < n := by omega
    have hi1 : (i : Int) < (n : Int) := by omega
    have hi0 : ¬ (i : Int) < 0 := by omega
    have e1 : s.mark k d = (s.upd k (fun r => { r with dirty := d }), 0) := by unfold CS.mark; obtain ⟨_, q⟩ := find_some_idx ho; rw [q]
    rw [e1]
    have hend : Hid (∀ w1, Below w.heap.size w w1 → ∃ R', RStep w (w1.setCell ⟨g, i * 4 + 3, none⟩ (.bool d)) m ⟨some ⟨g, 0, none⟩, cap, ps⟩ R' (s.upd k (fun r => { r with dirty := d }))) :=
      hid (fun w1 hb1 => rstep_turn (f := fun r => { r with dirty := d }) h hb1 hi hi2 (by omega) rfl rfl hgm hrow ho hnd)
    obtain ⟨di, hdi⟩ : ∃ b, b = ps[i].1.dirty := ⟨_, rfl⟩
    rw [← hdi] at y3
    clear h e1 y0 y1 y2 hdi hrow fz
    go_enter Try.func37, Try.ntmps37
    go_wp2_with (go_at_call 57; refine k1.out.mono ?_; rintro e w1 ⟨rfl, h1⟩; have z1 := keep_old h1 c1; have z2 := keep_old h1 y3; have f2 := (keep_frozen h1 (a := ⟨g, i * 4 + 3, none⟩) hgl).trans f1; have H1 := hid h1; clear h1; simp only [idV])
    go_ret
    exact ⟨rfl, hend.out w1 H1.out⟩

end Go.Proofs.Ytebjjibgkjgpgaa
