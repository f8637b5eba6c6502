/- How many acts are looked at; what a crash leaves of what was sure. No statement of the seat is proved here. -/
import Derived.Test.YtkgenmooepfhjaaBn
import Derived.Test.YtkgenmooepfhjaaOa
namespace Go.Proofs.Ytkgenmooepfhjaa
open Go.RowKit Go.Maps

/-- A slice of acts, nil or not. -/
def ActsV (w : World) (lo : Option Addr) (L : Nat) (X : Nat → Av) : Prop := 0 < L → ∃ b off, lo = some ⟨b, off, none⟩ ∧ Acts w b off L X
theorem ActsV.keep {w w' : World} {lo : Option Addr} {L : Nat} {X : Nat → Av} (h : ActsV w lo L X) (hb : Below w.heap.size w w') : ActsV w' lo L X := fun hL => by
  obtain ⟨b, off, e, ha⟩ := h hL
  exact ⟨b, off, e, ha.keep hb⟩

def LightRes (L : Nat) (X : Nat → Av) (w : World) (e : Ending) (w' : World) : Prop := ∃ r, e = .returned (.bool r) ∧ (r = true → L ≤ 100 ∧ ∀ i, i < L → (X i).keep.length ≤ 100) ∧ Below w.heap.size w w'
theorem LightRes.mk {L : Nat} {X : Nat → Av} {w w' : World} {e : Ending} (r : Bool) (he : e = .returned (.bool r)) (h : r = true → L ≤ 100 ∧ ∀ i, i < L → (X i).keep.length ≤ 100) (hb : Below w.heap.size w w') : LightRes L X w e w' := ⟨r, he, h, hb⟩

set_option maxHeartbeats 2000000 in
set_option maxRecDepth 20000 in
theorem light_any (lo : Option Addr) (L C : Nat) (X : Nat → Av) (w : World) (h : ActsV w lo L X) :
    Calls Try.prog 8 #[.slice lo L C] w (LightRes L X w) := by
  by_cases hL : 100 < L
  · have hL' : (100 : Int) < (L : Int) := by omega
    go_enter Try.func8, Try.ntmps8
    go_wp2
    go_ret
    exact LightRes.mk false rfl (fun h => by cases h) (Below.refl _ _)
  · have hL' : ¬ ((100 : Int) < (L : Int)) := by omega
    have HA := hid h
    clear h
    go_enter Try.func8, Try.ntmps8
    go_wp2
    go_loopw [10] (fun c W => ∃ i : Nat, i ≤ L ∧ c = .int .i64 (i : Int) ∧ Hid (∀ j, j < i → (X j).keep.length ≤ 100) ∧ Hid (Below w.heap.size w W)) (fun c _ => L - (intOf c).toNat)
    case atStart => exact ⟨0, Nat.zero_le _, rfl, hid (fun j hj => by omega), hid (Below.refl _ _)⟩
    case round =>
      obtain ⟨i, hi, rfl, hall, hbw⟩ := hrel
      by_cases hiL : i < L
      · obtain ⟨b, off, rfl, hacts⟩ := HA.out (by omega)
        have hiL' : (i : Int) < (L : Int) := by omega
        obtain ⟨c0, c1, c2, c3, c4, c5, c6, ok⟩ := (hacts.keep hbw.out) i hiL
        have hbl : b < wr.heap.size := lt_cell c0
        have hbl' : ¬ b = wr.heap.size := by omega
        have OK := hid ok
        clear ok hacts
        by_cases hk : 100 < (X i).keep.length
        · have hk' : (100 : Int) < ((X i).keep.length : Int) := by omega
          go_wp2
          go_ret
          exact LightRes.mk false rfl (fun h => by cases h) (hbw.out.trans ((Below.refl _ _).alloc (hbw.out.size) _))
        · have hk' : ¬ ((100 : Int) < ((X i).keep.length : Int)) := by omega
          go_wp2
          exact ⟨⟨i + 1, by omega, by simp, hid (fun j hj => by by_cases e : j = i; subst e; omega; exact hall.out j (by omega)), hid (hbw.out.trans ((Below.refl _ _).alloc (hbw.out.size) _))⟩, by simp [intOf]; omega⟩
      · have hiE : i = L := by omega
        subst hiE
        have hlast : ¬ ((i : Int) < (i : Int)) := by omega
        go_wp2
        go_ret
        exact LightRes.mk true rfl (fun _ => ⟨by omega, hall.out⟩) hbw.out

/-- A crash that keeps all changes no byte. -/
theorem crash_keeps {F : FS} (ok : F.Ok) : crashF F ⟨[true], 0, 0⟩ = sureF F.now := by
  have key : ∀ (l : List Nat) (r : List Sec × Nat × Stay), r.1 = F.now → r.2.2.keep = [true] → (∀ i ∈ l, i < F.now.length) →
      (l.foldl (crash1 F.old) r).1 = F.now ∧ r.2.1 ≤ (l.foldl (crash1 F.old) r).2.1 ∧ ∀ i ∈ l, i < (l.foldl (crash1 F.old) r).2.1 := by
    intro l
    induction l with
    | nil => intro r h1 _ _; exact ⟨h1, Nat.le_refl _, fun i hi => by simp at hi⟩
    | cons i l ih =>
      intro r h1 h2 h3
      have hi := h3 i List.mem_cons_self
      have hkept : r.2.2.kept = true := by simp [Stay.kept, h2, Nat.mod_one]
      have hn : r.2.2.n = 128 := by simp [Stay.n, hkept]
      have e1 : (crash1 F.old r i).1 = F.now := by
        simp only [crash1, hn, h1]
        exact set_all hi ok.sn _ (was_len ok i)
      have e2 : (crash1 F.old r i).2.2.keep = [true] := by simp [crash1, Stay.next, h2]
      have e3 : (crash1 F.old r i).2.1 = max r.2.1 (i + 1) := by simp [crash1, hn]
      have := ih (crash1 F.old r i) e1 e2 (fun j hj => h3 j (List.mem_cons_of_mem _ hj))
      rw [List.foldl_cons]
      refine ⟨this.1, by have := this.2.1; omega, fun j hj => ?_⟩
      rcases List.mem_cons.1 hj with rfl | hj
      · have := this.2.1; omega
      · exact this.2.2 j hj
  have h := key (idx F.dirt) (F.now, F.old.length, ⟨[true], 0, 0⟩) rfl rfl (fun i hi => by rw [← ok.ld]; exact idx_lt hi)
  unfold crashF crashN
  rw [h.1]
  congr 1
  apply List.take_of_length_le
  rcases Nat.lt_or_ge F.old.length F.now.length with hlt | hge
  · have hd : F.dirt.getD (F.now.length - 1) false = true := by
      cases hc : F.dirt.getD (F.now.length - 1) false
      · have := ok.cl (F.now.length - 1) (by omega) hc; omega
      · rfl
    have := h.2.2 _ (mem_idx.2 hd)
    omega
  · have := h.2.1
    simp only at this
    omega

/-- What was sure, and is not dirty, stays. -/
theorem crash_sure {F : FS} (ok : F.Ok) (n : Nat) (hn : n ≤ F.old.length) (hd : ∀ i, i < n → F.dirt.getD i false = false) (s : Stay) (hs : s.t ≤ 128) : (crashF F s).now.take n = F.now.take n ∧ n ≤ (crashF F s).now.length := by
  have key : ∀ (l : List Nat) (r : List Sec × Nat × Stay), (∀ i ∈ l, n ≤ i) → (l.foldl (crash1 F.old) r).1.take n = r.1.take n ∧ r.2.1 ≤ (l.foldl (crash1 F.old) r).2.1 := by
    intro l
    induction l with
    | nil => intro r _; exact ⟨rfl, Nat.le_refl _⟩
    | cons i l ih =>
      intro r h
      have := ih (crash1 F.old r i) (fun j hj => h j (List.mem_cons_of_mem _ hj))
      rw [List.foldl_cons]
      refine ⟨this.1.trans ?_, Nat.le_trans ?_ this.2⟩
      · simp only [crash1]
        rw [List.take_set_of_le (h i List.mem_cons_self)]
      · simp only [crash1]; split <;> omega
  have hidx : ∀ i ∈ idx F.dirt, n ≤ i := by
    intro i hi
    rcases Nat.lt_or_ge i n with h | h
    · rw [mem_idx, hd i h] at hi; cases hi
    · exact h
  have h := key (idx F.dirt) (F.now, F.old.length, s) hidx
  have hinv := crash_inv ok s hs (idx F.dirt) (F.now, F.old.length, s) (fun i hi => by rw [← ok.ld]; exact idx_lt hi) rfl ok.sn ok.lo hs
  have h2 := h.2
  simp only at h2
  have hlo := ok.lo
  unfold crashF crashN
  simp only [sureF]
  constructor
  · rw [List.take_take, Nat.min_eq_left (by omega)]; exact h.1
  · rw [List.length_take, hinv.1]; omega

end Go.Proofs.Ytkgenmooepfhjaa
