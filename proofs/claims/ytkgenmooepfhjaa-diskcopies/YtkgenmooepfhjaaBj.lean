/- A new disk; sectors that begin with a byte each. No statement of the seat is proved here. -/
import Derived.Test.YtkgenmooepfhjaaBi
namespace Go.Proofs.Ytkgenmooepfhjaa
open Go.RowKit Go.Maps

def newD (r : Nat) : DS := ⟨r, false, 0, ⟨[], [], []⟩, ⟨[], [], []⟩, 0, [], 0⟩

theorem newD_ok (r : Nat) (h1 : 1 ≤ r) (h2 : r ≤ 32768) : (newD r).Ok := by
  have e : (⟨[], [], []⟩ : FS).Ok := ⟨rfl, Nat.le_refl _, fun _ h => by simp at h, fun _ h => by simp at h, fun i h => by simp at h⟩
  exact ⟨h1, h2, by simp [newD], e, e, by simp [newD], by simp [newD], by simp [newD], by simp [newD]⟩

set_option maxHeartbeats 1000000 in
theorem new_no (r : Int) (w : World) (h : r < 1 ∨ 32768 < r) : Calls Try.prog 10 #[.int .i64 r] w fun e w' => e = .returned (.pointer none) ∧ w' = w := by
  by_cases h1 : r < 1
  · go_enter Try.func10, Try.ntmps10
    go_wp2
    go_ret
    exact ⟨rfl, rfl⟩
  · have h2 : 32768 < r := by omega
    clear h
    go_enter Try.func10, Try.ntmps10
    go_wp2
    go_ret
    exact ⟨rfl, rfl⟩

set_option maxHeartbeats 2000000 in
theorem new_yes (r : Nat) (w : World) (h1 : 1 ≤ r) (h2 : r ≤ 32768) : Calls Try.prog 10 #[.int .i64 (r : Int)] w fun e w' => e = .returned (.pointer (some ⟨w.heap.size, 0, none⟩)) ∧ (∃ P, DiskP w' w.heap.size P (newD r) ∧ ∀ k, P.all k → w.heap.size < k) ∧ Below w.heap.size w w' := by
  have h1' : ¬ ((r : Int) < 1) := by omega
  have h2' : ¬ ((32768 : Int) < (r : Int)) := by omega
  obtain ⟨w1, hw1⟩ : ∃ w1, w1 = w.alloc (.cells #[.int .i64 (r : Int), .bool false, .int .i64 0, .slice none 0 0, .int .i64 0, .map none, .slice none 0 0, .int .i64 0, .map none, .int .i64 0, .slice none 0 0, .int .i64 0] 63) := ⟨_, rfl⟩
  have hb1 : Below w.heap.size w w1 := by rw [hw1]; exact (Below.refl _ _).alloc (Nat.le_refl _) _
  have hc : ∀ i, w1.cell? ⟨w.heap.size, i, none⟩ = (#[.int .i64 (r : Int), .bool false, .int .i64 0, .slice none 0 0, .int .i64 0, .map none, .slice none 0 0, .int .i64 0, .map none, .int .i64 0, .slice none 0 0, .int .i64 0] : Array Value)[i]? := fun i => by rw [hw1, World.cell?_alloc_at _ _ _ _ rfl]
  have hf : ∀ i, w1.frozen? ⟨w.heap.size, i, none⟩ = false := fun i => by rw [hw1, World.frozen?_alloc_at _ _ _ _ rfl]
  have hz1 : w1.heap.size = w.heap.size + 1 := by rw [hw1]; simp
  have cs := settle_any w.heap.size 3 0 (fun _ => False) none 0 none [] w1 (hc 3) (hc 4) (hc 5) (hf 3) (hf 4) (hf 5) (World.ownsRow_nil _ _ _ _) (fun h => h) (fun _ h => by cases h)
  have CS := hid cs; have HW1 := hid hw1; have HB1 := hid hb1; have HC := hid hc; have HF := hid hf; have HZ1 := hid hz1
  clear cs hw1 hb1 hc hf hz1
  go_enter Try.func10, Try.ntmps10
  go_wp2
  refine wp_loop_rounds 3 ?_
  rw [rounds_succ]
  go_wp2_with (go_at_call 30; rw [← HW1.out]; refine CS.out.mono ?_; rintro e w2 ⟨rfl, hF2, hfr2⟩; clear CS; replace hF2 := hid hF2; replace hfr2 := hid hfr2)
  have hc2 : ∀ i, 5 < i → w2.cell? ⟨w.heap.size, i, none⟩ = w1.cell? ⟨w.heap.size, i, none⟩ := fun i hi => hfr2.out.cell i (by omega) (by omega) (by omega)
  have hf2 : ∀ i, w2.frozen? ⟨w.heap.size, i, none⟩ = false := fun i => (hfr2.out.fz i).trans (HF.out i)
  have cs := settle_any w.heap.size 6 0 (fun _ => False) none 0 none [] w2 ((hc2 6 (by omega)).trans (HC.out 6)) ((hc2 7 (by omega)).trans (HC.out 7)) ((hc2 8 (by omega)).trans (HC.out 8)) (hf2 6) (hf2 7) (hf2 8) (World.ownsRow_nil _ _ _ _) (fun h => h) (fun _ h => by cases h)
  have CS := hid cs; have HF2 := hid hf2
  clear cs hf2 hc2
  rw [rounds_succ]
  go_wp2_with (go_at_call 30; refine CS.out.mono ?_; rintro e w3 ⟨rfl, hF3, hfr3⟩; clear CS; replace hF3 := hid hF3; replace hfr3 := hid hfr3)
  rw [rounds_succ]
  go_wp2
  go_ret
  have z1 := HZ1.out; have z2 := hfr2.out.size; have z3 := hfr3.out.size
  have c1 : ∀ i, i < 3 ∨ 8 < i → w3.cell? ⟨w.heap.size, i, none⟩ = w1.cell? ⟨w.heap.size, i, none⟩ := fun i hi => (hfr3.out.cell i (by omega) (by omega) (by omega)).trans (hfr2.out.cell i (by omega) (by omega) (by omega))
  have f3 : FileAt w3 w.heap.size 3 (Between (fun _ => False) w1 w2) none 0 w1.heap.size ⟨[], [], []⟩ := hF2.out.bound.stay (fun k hk hS => hfr3.out.block k hk (fun e => by rcases hS with h | h; exact h; omega) (fun h => h)) (fun i h1 h2 => hfr3.out.cell i (by omega) (by omega) (by omega)) (fun i => hfr3.out.fz i)
  have f6 : FileAt w3 w.heap.size 6 (Between (fun _ => False) w2 w3) none 0 w2.heap.size ⟨[], [], []⟩ := hF3.out.bound
  refine ⟨rfl, ⟨⟨Between (fun _ => False) w1 w2, Between (fun _ => False) w2 w3, fun _ => False, none, none, none, 0, 0, 0, w1.heap.size, w2.heap.size⟩, ⟨(c1 0 (by omega)).trans (HC.out 0), (c1 1 (by omega)).trans (HC.out 1), (c1 2 (by omega)).trans (HC.out 2), (c1 9 (by omega)).trans (HC.out 9), (c1 10 (by omega)).trans (HC.out 10), (c1 11 (by omega)).trans (HC.out 11), fun i => (hfr3.out.fz i).trans (HF2.out i), f3, f6, fun h => by simp [newD] at h, fun h => by simp [newD] at h, ?_, fun k h => False.elim h, ?_, ?_, fun k h => False.elim h, newD_ok r h1 h2⟩, ?_⟩, ?_⟩
  · rintro k (h | h) (h' | h')
    · exact h
    · exact h
    · exact h'
    · omega
  · rintro k (h | h)
    · exact h.elim
    · omega
  · rintro k (h | h)
    · exact h.elim
    · exact h.2
  · rintro k ((h | h) | (h | h) | h)
    · exact h.elim
    · omega
    · exact h.elim
    · omega
    · exact False.elim h
  · refine HB1.out.trans ⟨hfr3.out.os.trans hfr2.out.os, hfr3.out.tape.trans hfr2.out.tape, hfr3.out.output.trans hfr2.out.output, Nat.le_trans z2 z3, fun k hk => ?_⟩
    exact (hfr3.out.block k (by omega) (by omega) (fun h => h)).trans (hfr2.out.block k (by omega) (by omega) (fun h => h))

/-- Sectors that begin with a byte each. -/
def secB (k seed : Nat) : List Sec := (List.range k).map fun i => List.replicate 128 ((seed + i) % 256)
theorem secB_len (k seed : Nat) : (secB k seed).length = k := by simp [secB]
theorem secB_sn (k seed : Nat) : ∀ x ∈ secB k seed, x.length = 128 := by
  intro x hx
  obtain ⟨i, _, rfl⟩ := List.mem_map.1 hx
  simp
theorem secB_flat (k seed : Nat) : (secB k seed).flatten.length = k * 128 := by
  have := secs_length (secB_sn k seed)
  rw [secs, bs_length, secB_len] at this; exact this
theorem secB_get (k seed i : Nat) (hi : i < k * 128) : (secB k seed).flatten.getD i 0 = (seed + i / 128) % 256 := by
  have hq : i / 128 < k := by omega
  have h := secs_get (secB_sn k seed) (i / 128) (i % 128) (by rw [secB_len]; exact hq) (Nat.mod_lt _ (by omega))
  rw [show i / 128 * 128 + i % 128 = i by omega] at h
  have hb : (secB k seed).getD (i / 128) [] = List.replicate 128 ((seed + i / 128) % 256) := by
    simp [secB, List.getD, List.getElem?_map, List.getElem?_range hq]
  rw [hb, secs, bs_get _ _ (by rw [secB_flat]; exact hi), bs_get _ _ (by simp; omega)] at h
  simp only [Option.some.injEq, Value.int.injEq, true_and, Int.ofNat_inj] at h
  rw [h, List.getD, List.getElem?_replicate, if_pos (Nat.mod_lt _ (by omega))]
  rfl

/-- How many there are. -/
def cntN (n : Int) : Nat := if n < 0 ∨ 40 < n then 0 else n.toNat

theorem bs_set (xs : List Nat) (i c : Nat) : (bs xs).set i (.int .u8 (c : Int)) = bs (xs.set i c) := by
  simp [bs, List.map_set]

theorem take_set (t : List Nat) (i n : Nat) (hi : i < n) (ht : t.length = n) : (t.take i ++ List.replicate (n - i) 0).set i (t.getD i 0) = t.take (i + 1) ++ List.replicate (n - (i + 1)) 0 := by
  apply List.ext_getElem?
  intro j
  rw [List.getElem?_set]
  by_cases hij : i = j
  · subst hij
    rw [if_pos rfl, if_pos (by simp; omega), List.getElem?_append_left (by simp; omega), List.getElem?_take, if_pos (by omega), List.getD, List.getElem?_eq_getElem (by omega)]
    rfl
  · rw [if_neg hij]
    rcases Nat.lt_or_ge j i with h | h
    · rw [List.getElem?_append_left (by simp; omega), List.getElem?_append_left (by simp; omega), List.getElem?_take, List.getElem?_take, if_pos h, if_pos (by omega)]
    · rw [List.getElem?_append_right (by simp; omega), List.getElem?_append_right (by simp; omega), List.getElem?_replicate, List.getElem?_replicate]
      simp only [List.length_take, ht]
      rw [Nat.min_eq_left (by omega), Nat.min_eq_left (by omega)]
      by_cases hj : j < n
      · rw [if_pos (by omega), if_pos (by omega)]
      · rw [if_neg (by omega), if_neg (by omega)]

set_option maxHeartbeats 2000000 in
theorem sectors_some (k seed : Nat) (w : World) (hk : k ≤ 40) :
    Calls Try.prog 17 #[.int .i64 (k : Int), .int .u8 (seed : Int)] w fun e w' => e = .returned (.slice (some ⟨w.heap.size, 0, none⟩) (k * 128) (k * 128)) ∧ w'.ownsRow w.heap.size 5 1 (.slice (some ⟨w.heap.size, 0, none⟩) (k * 128) (k * 128)) (k * 128) (bs (secB k seed).flatten) ∧ Below w.heap.size w w' := by
  have mk := make_any (k * 128) (k * 128) (Nat.le_refl _) (by omega)
  have e1 : ((k * 128 : Nat) : Int) = (k : Int) * 128 := by omega
  rw [e1] at mk
  have h1 : ¬ ((k : Int) < 0) := by omega
  have h2 : ¬ ((40 : Int) < (k : Int)) := by omega
  have hfl := secB_flat k seed
  have hget := secB_get k seed
  obtain ⟨total, htot⟩ : ∃ total, total = (secB k seed).flatten := ⟨_, rfl⟩
  rw [← htot] at hfl hget ⊢
  have HG := hid hget; have HFL := hid hfl
  clear htot hget hfl e1
  go_enter Try.func17, Try.ntmps17
  go_wp2
  go_loopw [18] (fun c W => ∃ i : Nat, i ≤ k * 128 ∧ c = .int .i64 (i : Int) ∧ Hid (W.ownsRow w.heap.size 5 1 (.slice (some ⟨w.heap.size, 0, none⟩) (k * 128) (k * 128)) (k * 128) (bs (total.take i ++ List.replicate (k * 128 - i) 0))) ∧ Hid (Below w.heap.size w W)) (fun c _ => k * 128 - (intOf c).toNat)
  case atStart =>
    refine ⟨0, Nat.zero_le _, rfl, hid ?_, hid ((Below.refl _ _).alloc (Nat.le_refl _) _)⟩
    have := World.ownsRow_lit (base := w.heap.size) (e := 5) (size := 1) w (Array.replicate (k * 128) (.int .u8 0)) (k * 128) (Nat.le_refl _) (by unfold maxLen; omega) (by simp)
    simpa [bs] using this
  case round =>
    obtain ⟨i, hi, rfl, hown, hbw⟩ := hrel
    by_cases hik : i < k * 128
    · have hik' : (i : Int) < (k : Int) * 128 := by omega
      have hst := fun u => hown.out.stored i u
      have hcell : wr.cell? ⟨w.heap.size, i, none⟩ = some (.int .u8 0) := by
        rw [hown.out.cellAt i (by omega), bs_get _ _ (by simp [HFL.out]; omega)]
        congr 2
        rw [List.getD, List.getElem?_append_right (by simp; omega), List.getElem?_replicate]
        split <;> rfl
      have hfz := hown.out.frozenAt i
      have hdiv : (i : Int).tdiv 128 = ((i / 128 : Nat) : Int) := by rw [Int.tdiv_eq_ediv_of_nonneg (by omega)]; simp
      obtain ⟨q, hq⟩ : ∃ q, q = i / 128 := ⟨_, rfl⟩
      have hq40 : q < 40 := by omega
      rw [← hq] at hdiv
      have hX := HG.out i hik
      rw [← hq] at hX
      have hw : IntKind.u8.wrap ((seed : Int) + (q : Int)) = ((total.getD i 0 : Nat) : Int) := by
        rw [hX]; simp [IntKind.wrap, IntKind.bits, IntKind.signed]
      have HST := hid hst; have HX := hid hX
      generalize hXX : total.getD i 0 = X at *
      have HXX := hid hXX
      clear hst hX hq hXX
      go_wp2
      refine ⟨⟨i + 1, by omega, by simp, hid ?_, hid (Below.setCell hbw.out (Nat.le_refl _) _)⟩, by simp [intOf]; omega⟩
      have := (HST.out (.int .u8 (X : Int))).1
      rw [bs_set, ← HXX.out, take_set total i (k * 128) hik HFL.out] at this
      rw [← HXX.out]; exact this
    · have hiE : i = k * 128 := by omega
      subst hiE
      clear hik
      have hfin : bs (total.take (k * 128) ++ List.replicate (k * 128 - k * 128) 0) = bs total := by rw [Nat.sub_self, List.replicate_zero, List.append_nil, List.take_of_length_le (by rw [HFL.out]; exact Nat.le_refl _)]
      rw [hfin] at hown
      clear hfin
      have hlast : ¬ ((k : Int) * 128 < (k : Int) * 128) := by omega
      go_wp2
      go_ret
      exact ⟨rfl, hown.out, hbw.out⟩

set_option maxHeartbeats 1000000 in
theorem sectors_any (n : Int) (seed : Nat) (w : World) (hn : -9223372036854775808 ≤ n ∧ n ≤ 9223372036854775807) :
    Calls Try.prog 17 #[.int .i64 n, .int .u8 (seed : Int)] w fun e w' => e = .returned (.slice (some ⟨w.heap.size, 0, none⟩) (cntN n * 128) (cntN n * 128)) ∧ w'.ownsRow w.heap.size 5 1 (.slice (some ⟨w.heap.size, 0, none⟩) (cntN n * 128) (cntN n * 128)) (cntN n * 128) (bs (secB (cntN n) seed).flatten) ∧ Below w.heap.size w w' := by
  by_cases h : n < 0 ∨ 40 < n
  · have e : cntN n = 0 := by simp [cntN, h]
    rw [e]
    have mk := make_any 0 0 (Nat.le_refl _) (by omega)
    have mk' := mk
    simp only [Int.natCast_zero] at mk
    have hrow : (w.alloc (.cells (Array.replicate 0 (.int .u8 0)) 5)).ownsRow w.heap.size 5 1 (.slice (some ⟨w.heap.size, 0, none⟩) 0 0) 0 (bs []) := by
      have := World.ownsRow_lit (base := w.heap.size) (e := 5) (size := 1) w (Array.replicate 0 (.int .u8 0)) 0 (Nat.le_refl _) (by unfold maxLen; omega) (by simp)
      simpa [bs] using this
    have HROW := hid hrow
    clear hrow mk'
    by_cases h1 : n < 0
    · clear h
      go_enter Try.func17, Try.ntmps17
      go_wp2
      refine wp_loop_rounds 1 ?_
      rw [rounds_succ]
      go_wp2
      go_ret
      exact ⟨rfl, HROW.out, (Below.refl _ _).alloc (Nat.le_refl _) _⟩
    · have h2 : 40 < n := by omega
      clear h
      go_enter Try.func17, Try.ntmps17
      go_wp2
      refine wp_loop_rounds 1 ?_
      rw [rounds_succ]
      go_wp2
      go_ret
      exact ⟨rfl, HROW.out, (Below.refl _ _).alloc (Nat.le_refl _) _⟩
  · obtain ⟨k, rfl⟩ := Int.eq_ofNat_of_zero_le (show 0 ≤ n by omega)
    have e : cntN (k : Int) = k := by simp [cntN, h]
    rw [e]
    exact sectors_some k seed w (by omega)

end Go.Proofs.Ytkgenmooepfhjaa
