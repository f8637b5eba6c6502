/- The document's cache: a page is looked up; pins and marks; no statement of the seat is proved here. -/
import Derived.Test.YtebjjibgkjgpgaaRa
import Derived.Test.YtebjjibgkjgpgaaEb
namespace Go.Proofs.Ytebjjibgkjgpgaa
open Go.RowKit Go.Maps

def idV : Option Nat → Int
  | some i => (i : Int)
  | none => -1
def idx (l : List Row) (k : Int) : Option Nat := l.findIdx? (fun r => r.page == k)

theorem idx_some {l : List Row} {k : Int} {i : Nat} (hi : i < l.length) (he : l[i].page = k) (hb : ∀ j (hj : j < i), (l[j]'(by omega)).page ≠ k) : idx l k = some i := by
  unfold idx
  rw [List.findIdx?_eq_some_iff_getElem]
  exact ⟨hi, by simp [he], fun j hj => by simpa using hb j hj⟩
theorem idx_none {l : List Row} {k : Int} (hb : ∀ j (hj : j < l.length), l[j].page ≠ k) : idx l k = none := by
  unfold idx
  rw [List.findIdx?_eq_none_iff]
  intro x hx
  obtain ⟨j, hj, rfl⟩ := List.mem_iff_getElem.1 hx
  simpa using hb j hj
theorem idx_spec {l : List Row} {k : Int} {i : Nat} (h : idx l k = some i) : ∃ hi : i < l.length, l[i].page = k ∧ ∀ j (hj : j < i), (l[j]'(by omega)).page ≠ k := by
  unfold idx at h
  rw [List.findIdx?_eq_some_iff_getElem] at h
  obtain ⟨hi, h1, h2⟩ := h
  exact ⟨hi, by simpa using h1, fun j hj => by simpa using h2 j hj⟩
theorem find_idx (s : CS) (k : Int) : s.find k = (idx s.l k).bind (fun i => s.l[i]?) := by
  cases h : idx s.l k with
  | none =>
    unfold idx at h
    rw [List.findIdx?_eq_none_iff] at h
    show s.l.find? _ = none
    exact List.find?_eq_none.2 (fun x hx => by simpa using h x hx)
  | some i =>
    obtain ⟨hi, h1, h2⟩ := idx_spec h
    show s.l.find? _ = s.l[i]?
    rw [List.getElem?_eq_getElem hi]
    exact List.find?_eq_some_iff_getElem.2 ⟨by simp [h1], i, hi, rfl, fun j hj => by simpa using h2 j hj⟩

/-- Either there is no row, or the rows lie in a block. -/
theorem RP.form {w : World} {m : Nat} {R : RParts} {s : CS} (h : RP w m R s) : (R.ps = [] ∧ s.l = []) ∨ ∃ g, R.ao = some ⟨g, 0, none⟩ ∧ 0 < R.ps.length := by
  rcases Nat.eq_zero_or_pos R.ps.length with hz | hz
  · have : R.ps = [] := List.eq_nil_of_length_eq_zero hz
    exact Or.inl ⟨this, by rw [h.ls, this]; rfl⟩
  · obtain ⟨g, ha, _⟩ := h.cells (i := 0) hz
    exact Or.inr ⟨g, ha, hz⟩

set_option maxRecDepth 20000 in
set_option maxHeartbeats 1000000 in
theorem rfind_none (m : Nat) (ao : Option Addr) (cap : Nat) (k : Int) (w : World) (c1 : w.cell? ⟨m, 1, none⟩ = some (.slice ao 0 cap)) :
    Calls Try.prog 57 #[.pointer (some ⟨m, 0, none⟩), .int .i64 k] w fun e w' => e = .returned (.int .i64 (-1)) ∧ Below w.heap.size w w' := by
  go_enter Try.func57, Try.ntmps57
  go_wp2
  go_loopg [12] 0 (fun q c W => c = .int .i64 0 ∧ Hid (Below w.heap.size w W))
  case atStart => exact ⟨rfl, hid (Below.refl _ _)⟩
  case round =>
    obtain ⟨rfl, HB⟩ := hrel
    go_wp2
    go_ret
    exact ⟨rfl, HB.out⟩

set_option maxRecDepth 20000 in
set_option maxHeartbeats 1000000 in
theorem rfind_some (m g n cap : Nat) (ps : List (Row × RB)) (s : CS) (k : Int) (w : World) (h : RP w m ⟨some ⟨g, 0, none⟩, cap, ps⟩ s) (hn : ps.length ≤ 1000000) (hnn : n = ps.length) :
    Calls Try.prog 57 #[.pointer (some ⟨m, 0, none⟩), .int .i64 k] w fun e w' => e = .returned (.int .i64 (idV (idx s.l k))) ∧ Below w.heap.size w w' := by
  have c1 := h.c1
  have hsl : s.l.length = n := by rw [h.len, hnn]
  have HH := hid h
  simp only at c1
  rw [← hnn] at c1 hn
  have HN := hid hnn; have HSL := hid hsl
  clear h hnn hsl
  go_enter Try.func57, Try.ntmps57
  go_wp2
  go_loopg [12] n (fun q c W => ∃ i : Nat, i + q = n ∧ c = .int .i64 (i : Int) ∧ Hid (Below w.heap.size w W) ∧ Hid (∀ j (hj : j < s.l.length), j < i → s.l[j].page ≠ k))
  case atStart => exact ⟨0, by omega, rfl, hid (Below.refl _ _), hid (fun j _ hj => by omega)⟩
  case round =>
    obtain ⟨i, hik, rfl, HB, HE⟩ := hrel
    by_cases hi : i < n
    · have hi0 : i < ps.length := by rw [← HN.out]; exact hi
      have hi2 : i < s.l.length := by rw [HSL.out]; exact hi
      obtain ⟨g', ha, hcap, _, hgl, y0, y1, y2, y3, _⟩ := (HH.out.later HB.out).cells (i := i) hi0
      simp only [Option.some.injEq, Addr.mk.injEq, and_true] at ha
      obtain rfl := ha
      have hpg : ps[i].1.page = s.l[i].page := by simp only [HH.out.ls, List.getElem_map]
      simp only at y0 y1 y2 y3 hcap
      rw [hpg] at y0
      rw [← HN.out] at hcap
      obtain ⟨p, hp⟩ : ∃ p, p = s.l[i].page := ⟨_, rfl⟩
      obtain ⟨bo, hbo⟩ : ∃ b, b = ps[i].2.bo := ⟨_, rfl⟩
      obtain ⟨bc, hbc⟩ : ∃ b, b = ps[i].2.bc := ⟨_, rfl⟩
      obtain ⟨pn, hpn⟩ : ∃ b, b = ps[i].1.pins := ⟨_, rfl⟩
      obtain ⟨di, hdi⟩ : ∃ b, b = ps[i].1.dirty := ⟨_, rfl⟩
      rw [← hp] at y0; rw [← hbo, ← hbc] at y1; rw [← hpn] at y2; rw [← hdi] at y3
      have HP := hid hp; have HI2 := hid hi2
      have hi1 : (i : Int) < (n : Int) := by omega
      have hgn : ¬ g = wr.heap.size := by omega
      clear hp hpg hbo hbc hpn hdi hi0
      by_cases hpk : p = k
      · have hpk2 : (p == k) = true := by simpa using hpk
        go_wp2
        go_ret
        have e1 : idx s.l k = some i := idx_some hi2 (by rw [← HP.out]; exact hpk) (fun j hj => HE.out j (by omega) hj)
        exact ⟨by rw [e1]; rfl, gt HB.out (by repeat (first | with_reducible exact Below.refl _ _ | with_reducible assumption | with_reducible refine Below.drew ?_ | with_reducible refine below_drewN ?_ _ | with_reducible refine Below.alloc ?_ (by simp <;> omega) _ | with_reducible refine Below.setCell ?_ (by simp <;> omega) _))⟩
      · have hpk2 : (p == k) = false := by simpa using hpk
        go_wp2
        go_roundg (gk - 1)
        case measure => omega
        case rel =>
          refine ⟨i + 1, by omega, by simp, hid (gt HB.out (by repeat (first | with_reducible exact Below.refl _ _ | with_reducible assumption | with_reducible refine Below.drew ?_ | with_reducible refine below_drewN ?_ _ | with_reducible refine Below.alloc ?_ (by simp <;> omega) _ | with_reducible refine Below.setCell ?_ (by simp <;> omega) _))), hid (fun j hj hji => ?_)⟩
          rcases Nat.lt_or_ge j i with h1 | h1
          · exact HE.out j hj h1
          · obtain rfl : j = i := by omega
            rw [← HP.out]; exact hpk
    · obtain rfl : i = n := by omega
      have hi1 : ¬ (i : Int) < (i : Int) := by omega
      have e1 : idx s.l k = none := idx_none (fun j hj => HE.out j hj (by have := HSL.out; omega))
      have E1 := hid e1
      clear e1
      go_wp2
      go_ret
      exact ⟨by rw [E1.out]; rfl, HB.out⟩

theorem rfind_any (m : Nat) (R : RParts) (s : CS) (k : Int) (w : World) (h : RP w m R s) (hn : R.ps.length ≤ 1000000) :
    Calls Try.prog 57 #[.pointer (some ⟨m, 0, none⟩), .int .i64 k] w fun e w' => e = .returned (.int .i64 (idV (idx s.l k))) ∧ Below w.heap.size w w' := by
  rcases h.form with ⟨h1, h2⟩ | ⟨g, h1, h2⟩
  · have c1 := h.c1
    rw [h1] at c1
    rw [h2]
    exact rfind_none m R.ao R.cap k w c1
  · obtain ⟨ao, cap, ps⟩ := R
    simp only at h1 h2 hn
    subst h1
    exact rfind_some m g ps.length cap ps s k w h hn rfl

end Go.Proofs.Ytebjjibgkjgpgaa
