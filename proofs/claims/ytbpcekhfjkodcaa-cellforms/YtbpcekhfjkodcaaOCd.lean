/- What (*Source).Bytes does with a source that is in order; no statement of the seat is proved here. -/
import Derived.Test.YtbpcekhfjkodcaaOCc
import Derived.Laws.CopyOwn
import Derived.Deep.DeepCutAuto
namespace Go.Proofs.Ytbpcekhfjkodcaa
open Go.RowKit

theorem op_at (l : List Oper) (i : Nat) (o : Oper) (h : l[i]? = some o) : l.toArray[i]? = some o := by simpa using h

/-- All but the first k bytes. -/
theorem Rd.from_ {W : World} {b off n cap : Nat} {xs : List Nat} (h : Rd W (some ⟨b, off, none⟩) n cap xs) (k : Nat) (hk : k ≤ n) :
    (cap = k → Rd W (some ⟨b, off, none⟩) (n - k) (cap - k) (xs.drop k)) ∧ (¬ cap = k → Rd W (some ⟨b, off + k, none⟩) (n - k) (cap - k) (xs.drop k)) := by
  obtain ⟨hl, hc, hno, hat⟩ := h
  constructor
  · intro h1
    refine ⟨by simp; omega, by omega, fun h => (by cases h), fun hp => ?_⟩
    omega
  · intro h1
    refine ⟨by simp; omega, by omega, fun h => (by cases h), fun hp => ⟨b, off + k, rfl, fun t ht => ?_⟩⟩
    obtain ⟨b', off', e, hcell⟩ := hat (by omega)
    simp only [Option.some.injEq, Addr.mk.injEq, and_true] at e
    obtain ⟨rfl, rfl⟩ := e
    have := hcell (k + t) (by omega)
    rw [show off + k + t = off + (k + t) by omega, this]
    simp [List.getD]

theorem bytes_hpos {W W1 : World} {b off n cap k g : Nat} {xs : List Nat} (h : Rd W (some ⟨b, off, none⟩) n cap xs) (hb : Below W.heap.size W W1) (hk : k ≤ n) : 0 < (bs (xs.take k)).length → some (⟨g, 0, none⟩ : Addr) = some ⟨g, 0, none⟩ ∧ ∃ ad, some (⟨b, off, none⟩ : Addr) = some ad ∧ ∀ j v, (bs (xs.take k))[j]? = some v → W1.cell? (ad.add j) = some v := by
  intro hp
  refine ⟨rfl, _, rfl, fun j v hv => ?_⟩
  obtain ⟨hj, rfl⟩ := bs_get' _ j v hv
  obtain ⟨hl, _, _, hat⟩ := h.keep hb
  simp at hj
  obtain ⟨b', off', e, hcell⟩ := hat (by omega)
  simp only [Option.some.injEq, Addr.mk.injEq, and_true] at e
  obtain ⟨rfl, rfl⟩ := e
  rw [Addr.add_lit, hcell j (by omega)]
  have hj2 : j < k := by omega
  simp [List.getD, hj2]

theorem bytes_hn {n k : Nat} {xs : List Nat} (hl : xs.length = n) (hk : k ≤ n) : (bs (xs.take k)).length = Nat.min n k := by
  rw [bs_length, List.length_take, hl]
  show min k n = min n k
  omega

theorem bytes_end {W w4 : World} {p b off n cap k : Nat} {xs : List Nat} {v : Value} {ao' : Addr} (hp : W.heap[p]? = some (.cells #[.bool true, .slice (some ⟨b, off, none⟩) n cap, .int .i64 0] 102 (0, 0)))
    (hr : Rd W (some ⟨b, off, none⟩) n cap xs) (hn : n ≤ 9223372036854775807) (h5 : T5 W b) (hk : k ≤ n) (hk2 : k ≤ 1000) (hb4 : Below W.heap.size (W.alloc (.cells (Array.replicate k (.int .u8 0)) 5)).drew w4)
    (hg4 : w4.heap[W.heap.size]? = some (.cells (splice (List.replicate k (.int .u8 0)) 0 (bs (xs.take k))).toArray 5 (0, 0)))
    (hv : v = .slice (some ao') (n - k) (cap - k)) (ha : (cap = k ∧ ao' = ⟨b, off, none⟩) ∨ (¬ cap = k ∧ ao' = ⟨b, off + k, none⟩)) :
    Rd (w4.setCell ⟨p, 1, none⟩ v) (some ⟨W.heap.size, 0, none⟩) k k (xs.take k) ∧ SrcAt (w4.setCell ⟨p, 1, none⟩ v) p (xs.drop k) ∧ W.grownBy (w4.setCell ⟨p, 1, none⟩ v) (some p) ∧ (∀ b' o', some (⟨W.heap.size, 0, none⟩ : Addr) = some ⟨b', o', none⟩ → T5 (w4.setCell ⟨p, 1, none⟩ v) b') := by
  have hne := t5_ne hp h5
  have hpl := lt_of_block hp
  have hl := hr.1
  have hb : Below W.heap.size W w4 := (Below.alloc (Below.refl _ _) (Nat.le_refl _) _).drew.trans hb4
  have hp4 : w4.heap[p]? = some (.cells #[.bool true, .slice (some ⟨b, off, none⟩) n cap, .int .i64 0] 102 (0, 0)) := by rw [hb.block p hpl]; exact hp
  have hlt : (xs.take k).length = k := by simp; omega
  have ho := own_of_row (B := W.heap.size) (n := k) (cap := k) (xs := xs.take k) (Nat.le_refl _) hg4 (by rw [length_splice _ _ _ (by simp [bs]; omega)]; simp) (by omega) (by simpa using splice_zero k 0 (xs.take k) hlt) hlt (Nat.le_refl _)
  refine ⟨rd_set (rd_own ho) (fun _ _ e => by simp only [Option.some.injEq, Addr.mk.injEq, and_true] at e; omega), ?_, grow_trans (grow_below hb) (grow_set _ _ _ _), fun b' o' e => by cases e; exact (show T5 w4 W.heap.size from ⟨_, _, hg4⟩).five (five_set hp4 (by decide))⟩
  have hf := (hr.keep hb).from_ k hk
  subst hv
  rcases ha with ⟨h1, rfl⟩ | ⟨h1, rfl⟩
  · exact ⟨_, _, _, _, src_set hp4, rd_set (hf.1 h1) (fun _ _ e => by simp only [Option.some.injEq, Addr.mk.injEq, and_true] at e; rw [← e.1]; exact hne), by omega, (h5.keep hb).five (five_set hp4 (by decide))⟩
  · exact ⟨_, _, _, _, src_set hp4, rd_set (hf.2 h1) (fun _ _ e => by simp only [Option.some.injEq, Addr.mk.injEq, and_true] at e; rw [← e.1]; exact hne), by omega, (h5.keep hb).five (five_set hp4 (by decide))⟩

set_option maxHeartbeats 2000000 in
set_option maxRecDepth 20000 in
theorem bytes_ok (p : Nat) (xs : List Nat) (k : Nat) (W : World) (h : SrcAt W p xs) (hk : k ≤ xs.length) (hk2 : k ≤ 1000) :
    Calls Try.prog 53 #[.pointer (some ⟨p, 0, none⟩), .int .i64 (k : Int)] W fun e w' => ∃ ao c, e = .returned (.slice ao k c) ∧ Rd w' ao k c (xs.take k) ∧ SrcAt w' p (xs.drop k) ∧ W.grownBy w' (some p) ∧ (∀ b o, ao = some ⟨b, o, none⟩ → T5 w' b) := by
  have c26 := hid (err_ok p xs W h)
  have hmk := make_any k k (Nat.le_refl _) (by omega)
  obtain ⟨b, off, n, cap, hp, hr, hn, h5⟩ := h
  replace h5 := hid h5
  have hne := t5_ne hp h5.out
  obtain ⟨s0, s1, s2, f1, f2⟩ := src_cells hp
  have hpl := lt_of_block hp
  have hl := hr.1
  have hcap := hr.2.1
  have hr' := hid hr
  have hp' := hid hp
  have hkn : k ≤ n := by omega
  have hkc : k ≤ cap := by omega
  have hk0 : ¬ (n : Int) < (k : Int) := by omega
  have hk1 : ¬ (k : Int) < 0 := by omega
  have hkc2 : (k : Int) ≤ (cap : Int) := by omega
  have hkn2 : (k : Int) ≤ (n : Int) := by omega
  clear hp hr hk hl
  have hl' := hid hr'.out.1
  have hcs : (bs (xs.take k)).length = k := by rw [bs_length]; have := hl'.out; simp; omega
  by_cases hck : cap = k
  · have hnk : n = k := by omega
    subst hck
    obtain rfl := hnk
    go_enter Try.func53, Try.ntmps53
    go_upto_region 10 with (go_at_call 58; refine c26.out.mono ?_; rintro e w1 ⟨rfl, rfl⟩)
    refine wp_region_held_drew (S := fun _ => True) (by kernel_rfl) (by trivial) (fun hHeld => ?_)
    refine wpAnyH_take (i := 0) (v := ?_) (op_at _ 0 _ rfl) (by kernel_rfl) (by kernel_rfl) (by kernel_rfl) (fun _ _ _ h => h) (Or.inl ⟨by rfl, ?_⟩) (by assumption) ?_
    rotate_left 1
    focus (intro w hSw; go_simp; first | done | with_reducible rfl)
    (try simp only [Act.put, List.setIfInBounds_toArray, List.set_cons_zero, List.set_cons_succ])
    refine wpAnyH_take (i := 1) (v := ?_) (op_at _ 1 _ rfl) (by kernel_rfl) (by kernel_rfl) (by kernel_rfl) (fun _ _ _ h => h) (Or.inl ⟨by rfl, ?_⟩) (by assumption) ?_
    rotate_left 1
    focus (intro w hSw; go_simp; first | done | with_reducible rfl)
    (try simp only [Act.put, List.setIfInBounds_toArray, List.set_cons_zero, List.set_cons_succ])
    refine wpAnyH_take (i := 2) (v := ?_) (op_at _ 2 _ rfl) (by kernel_rfl) (by kernel_rfl) (by kernel_rfl) (fun _ _ _ h => h) (Or.inl ⟨by rfl, ?_⟩) (by assumption) ?_
    rotate_left 1
    focus (intro w hSw; go_simp; first | done | with_reducible rfl)
    (try simp only [Act.put, List.setIfInBounds_toArray, List.set_cons_zero, List.set_cons_succ])
    refine wpAnyH_take (i := 3) (v := ?_) (op_at _ 3 _ rfl) (by kernel_rfl) (by kernel_rfl) (by kernel_rfl) (fun _ _ _ h => h) (Or.inl ⟨by rfl, ?_⟩) (by assumption) ?_
    rotate_left 1
    focus (intro w hSw; go_simp; first | done | with_reducible rfl)
    (try simp only [Act.put, List.setIfInBounds_toArray, List.set_cons_zero, List.set_cons_succ])
    refine wpAnyH_take (i := 5) (v := ?_) (op_at _ 5 _ rfl) (by kernel_rfl) (by kernel_rfl) (by kernel_rfl) (fun _ _ _ h => h) (Or.inl ⟨by rfl, ?_⟩) (by assumption) ?_
    rotate_left 1
    focus (intro w hSw; go_simp; first | done | with_reducible rfl)
    (try simp only [Act.put, List.setIfInBounds_toArray, List.set_cons_zero, List.set_cons_succ])
    refine wpAnyH_take (i := 6) (v := ?_) (op_at _ 6 _ rfl) (by kernel_rfl) (by kernel_rfl) (by kernel_rfl) (fun _ _ _ h => h) (Or.inl ⟨by rfl, ?_⟩) (by assumption) ?_
    rotate_left 1
    focus (intro w hSw; go_simp; first | done | with_reducible rfl)
    (try simp only [Act.put, List.setIfInBounds_toArray, List.set_cons_zero, List.set_cons_succ])
    refine wpAnyH_take (i := 7) (v := ?_) (op_at _ 7 _ rfl) (by kernel_rfl) (by kernel_rfl) (by kernel_rfl) (fun _ _ _ h => h) (Or.inl ⟨by rfl, ?_⟩) (by assumption) ?_
    rotate_left 1
    focus (intro w hSw; go_simp; first | done | with_reducible rfl)
    (try simp only [Act.put, List.setIfInBounds_toArray, List.set_cons_zero, List.set_cons_succ])
    refine wpAnyH_take (i := 8) (v := ?_) (op_at _ 8 _ rfl) (by kernel_rfl) (by kernel_rfl) (by kernel_rfl) (fun _ _ _ h => h) (Or.inl ⟨by rfl, ?_⟩) (by assumption) ?_
    rotate_left 1
    focus (intro w hSw; go_simp; first | done | with_reducible rfl)
    (try simp only [Act.put, List.setIfInBounds_toArray, List.set_cons_zero, List.set_cons_succ])
    refine wpAnyH_ready (rs := [4, 9]) (by kernel_rfl) (by simp) ?_
    refine AllReadyH.cons (op_at _ 4 _ rfl) (fun K hK => ?_) ?_
    · go_simp
      refine hK.out _ _ (by trivial) (fun hHeld => ?_)
      clear hK K
      (try simp only [Act.put, List.setIfInBounds_toArray, List.set_cons_zero, List.set_cons_succ])
      refine wpAnyH_ready (rs := [9]) (by kernel_rfl) (by simp) ?_
      refine AllReadyH.cons (op_at _ 9 _ rfl) (fun K hK => ?_) AllReadyH.nil
      go_simp
      refine hK.out _ _ (by trivial) (fun hHeld => ?_)
      clear hK K
      (try simp only [Act.put, List.setIfInBounds_toArray, List.set_cons_zero, List.set_cons_succ])
      refine wpAnyH_ready (rs := [10]) (by kernel_rfl) (by simp) ?_
      refine AllReadyH.cons (op_at _ 10 _ rfl) (fun K hK => ?_) AllReadyH.nil
      refine step_copy_splice rfl (.tmp 32) (.tmp 36) 25 25 rfl 5 Try.underlying25 (by kernel_rfl) _ _ _ _ _ _ rfl rfl W.heap.size 0 (List.replicate n (.int .u8 0)) 5 (copy_hg W n) (bs (xs.take n)) (bytes_hn hl'.out hkn) (bytes_hpos hr'.out (Below.alloc (Below.refl _ _) (Nat.le_refl _) _).drew hkn) (by simp [bs]; omega) (bs_one _) W.heap.size _ (Below.refl _ _) (Nat.le_refl _) ?_; intro w4 hg4 hb4; have t1 : w4.cell? ⟨p, 1, none⟩ = some (.slice (some ⟨b, off, none⟩) n n) := keep_cell hb4 (by simpa using keep_old (Below.alloc (Below.refl _ _) (Nat.le_refl _) _).drew s1) hpl; have tf : w4.frozen? ⟨p, 1, none⟩ = false := by rw [keep_frozen hb4 hpl, keep_frozen (Below.alloc (Below.refl W.heap.size W) (Nat.le_refl _) _).drew hpl]; exact f1
      refine hK.out _ _ (by trivial) (fun hHeld => ?_)
      clear hK K
      (try simp only [Act.put, List.setIfInBounds_toArray, List.set_cons_zero, List.set_cons_succ])
      refine wpAnyH_ready (rs := [11]) (by kernel_rfl) (by simp) ?_
      refine AllReadyH.cons (op_at _ 11 _ rfl) (fun K hK => ?_) AllReadyH.nil
      go_simp
      refine hK.out _ _ (by trivial) (fun hHeld => ?_)
      clear hK K
      (try simp only [Act.put, List.setIfInBounds_toArray, List.set_cons_zero, List.set_cons_succ])
      refine wpAnyH_take (i := 12) (v := ?_) (op_at _ 12 _ rfl) (by kernel_rfl) (by kernel_rfl) (by kernel_rfl) (fun _ _ _ h => h) (Or.inl ⟨by rfl, ?_⟩) (by assumption) ?_
      rotate_left 1
      focus (intro w hSw; go_simp; first | done | with_reducible rfl)
      (try simp only [Act.put, List.setIfInBounds_toArray, List.set_cons_zero, List.set_cons_succ])
      refine wpAnyH_take (i := 13) (v := ?_) (op_at _ 13 _ rfl) (by kernel_rfl) (by kernel_rfl) (by kernel_rfl) (fun _ _ _ h => h) (Or.inl ⟨by rfl, ?_⟩) (by assumption) ?_
      rotate_left 1
      focus (intro w hSw; go_simp; first | done | with_reducible rfl)
      (try simp only [Act.put, List.setIfInBounds_toArray, List.set_cons_zero, List.set_cons_succ])
      refine wpAnyH_ready (rs := [14]) (by kernel_rfl) (by simp) ?_
      refine AllReadyH.cons (op_at _ 14 _ rfl) (fun K hK => ?_) AllReadyH.nil
      go_simp
      refine hK.out _ _ (by trivial) (fun hHeld => ?_)
      clear hK K
      (try simp only [Act.put, List.setIfInBounds_toArray, List.set_cons_zero, List.set_cons_succ])
      refine wpAnyH_done (by kernel_rfl) ?_ _
      go_wp2
      go_ret
      exact ⟨_, _, rfl, bytes_end hp'.out hr'.out hn h5.out hkn hk2 hb4 hg4.out (by simp) (Or.inl ⟨rfl, rfl⟩)⟩
    refine AllReadyH.cons (op_at _ 9 _ rfl) (fun K hK => ?_) ?_
    · go_simp
      refine hK.out _ _ (by trivial) (fun hHeld => ?_)
      clear hK K
      (try simp only [Act.put, List.setIfInBounds_toArray, List.set_cons_zero, List.set_cons_succ])
      refine wpAnyH_ready (rs := [4, 10]) (by kernel_rfl) (by simp) ?_
      refine AllReadyH.cons (op_at _ 4 _ rfl) (fun K hK => ?_) ?_
      · go_simp
        refine hK.out _ _ (by trivial) (fun hHeld => ?_)
        clear hK K
        (try simp only [Act.put, List.setIfInBounds_toArray, List.set_cons_zero, List.set_cons_succ])
        refine wpAnyH_ready (rs := [10]) (by kernel_rfl) (by simp) ?_
        refine AllReadyH.cons (op_at _ 10 _ rfl) (fun K hK => ?_) AllReadyH.nil
        refine step_copy_splice rfl (.tmp 32) (.tmp 36) 25 25 rfl 5 Try.underlying25 (by kernel_rfl) _ _ _ _ _ _ rfl rfl W.heap.size 0 (List.replicate n (.int .u8 0)) 5 (copy_hg W n) (bs (xs.take n)) (bytes_hn hl'.out hkn) (bytes_hpos hr'.out (Below.alloc (Below.refl _ _) (Nat.le_refl _) _).drew hkn) (by simp [bs]; omega) (bs_one _) W.heap.size _ (Below.refl _ _) (Nat.le_refl _) ?_; intro w4 hg4 hb4; have t1 : w4.cell? ⟨p, 1, none⟩ = some (.slice (some ⟨b, off, none⟩) n n) := keep_cell hb4 (by simpa using keep_old (Below.alloc (Below.refl _ _) (Nat.le_refl _) _).drew s1) hpl; have tf : w4.frozen? ⟨p, 1, none⟩ = false := by rw [keep_frozen hb4 hpl, keep_frozen (Below.alloc (Below.refl W.heap.size W) (Nat.le_refl _) _).drew hpl]; exact f1
        refine hK.out _ _ (by trivial) (fun hHeld => ?_)
        clear hK K
        (try simp only [Act.put, List.setIfInBounds_toArray, List.set_cons_zero, List.set_cons_succ])
        refine wpAnyH_ready (rs := [11]) (by kernel_rfl) (by simp) ?_
        refine AllReadyH.cons (op_at _ 11 _ rfl) (fun K hK => ?_) AllReadyH.nil
        go_simp
        refine hK.out _ _ (by trivial) (fun hHeld => ?_)
        clear hK K
        (try simp only [Act.put, List.setIfInBounds_toArray, List.set_cons_zero, List.set_cons_succ])
        refine wpAnyH_take (i := 12) (v := ?_) (op_at _ 12 _ rfl) (by kernel_rfl) (by kernel_rfl) (by kernel_rfl) (fun _ _ _ h => h) (Or.inl ⟨by rfl, ?_⟩) (by assumption) ?_
        rotate_left 1
        focus (intro w hSw; go_simp; first | done | with_reducible rfl)
        (try simp only [Act.put, List.setIfInBounds_toArray, List.set_cons_zero, List.set_cons_succ])
        refine wpAnyH_take (i := 13) (v := ?_) (op_at _ 13 _ rfl) (by kernel_rfl) (by kernel_rfl) (by kernel_rfl) (fun _ _ _ h => h) (Or.inl ⟨by rfl, ?_⟩) (by assumption) ?_
        rotate_left 1
        focus (intro w hSw; go_simp; first | done | with_reducible rfl)
        (try simp only [Act.put, List.setIfInBounds_toArray, List.set_cons_zero, List.set_cons_succ])
        refine wpAnyH_ready (rs := [14]) (by kernel_rfl) (by simp) ?_
        refine AllReadyH.cons (op_at _ 14 _ rfl) (fun K hK => ?_) AllReadyH.nil
        go_simp
        refine hK.out _ _ (by trivial) (fun hHeld => ?_)
        clear hK K
        (try simp only [Act.put, List.setIfInBounds_toArray, List.set_cons_zero, List.set_cons_succ])
        refine wpAnyH_done (by kernel_rfl) ?_ _
        go_wp2
        go_ret
        exact ⟨_, _, rfl, bytes_end hp'.out hr'.out hn h5.out hkn hk2 hb4 hg4.out (by simp) (Or.inl ⟨rfl, rfl⟩)⟩
      refine AllReadyH.cons (op_at _ 10 _ rfl) (fun K hK => ?_) ?_
      · refine step_copy_splice rfl (.tmp 32) (.tmp 36) 25 25 rfl 5 Try.underlying25 (by kernel_rfl) _ _ _ _ _ _ rfl rfl W.heap.size 0 (List.replicate n (.int .u8 0)) 5 (copy_hg W n) (bs (xs.take n)) (bytes_hn hl'.out hkn) (bytes_hpos hr'.out (Below.alloc (Below.refl _ _) (Nat.le_refl _) _).drew hkn) (by simp [bs]; omega) (bs_one _) W.heap.size _ (Below.refl _ _) (Nat.le_refl _) ?_; intro w4 hg4 hb4; have t1 : w4.cell? ⟨p, 1, none⟩ = some (.slice (some ⟨b, off, none⟩) n n) := keep_cell hb4 (by simpa using keep_old (Below.alloc (Below.refl _ _) (Nat.le_refl _) _).drew s1) hpl; have tf : w4.frozen? ⟨p, 1, none⟩ = false := by rw [keep_frozen hb4 hpl, keep_frozen (Below.alloc (Below.refl W.heap.size W) (Nat.le_refl _) _).drew hpl]; exact f1
        refine hK.out _ _ (by trivial) (fun hHeld => ?_)
        clear hK K
        (try simp only [Act.put, List.setIfInBounds_toArray, List.set_cons_zero, List.set_cons_succ])
        refine wpAnyH_ready (rs := [4]) (by kernel_rfl) (by simp) ?_
        refine AllReadyH.cons (op_at _ 4 _ rfl) (fun K hK => ?_) AllReadyH.nil
        go_simp
        refine hK.out _ _ (by trivial) (fun hHeld => ?_)
        clear hK K
        (try simp only [Act.put, List.setIfInBounds_toArray, List.set_cons_zero, List.set_cons_succ])
        refine wpAnyH_ready (rs := [11]) (by kernel_rfl) (by simp) ?_
        refine AllReadyH.cons (op_at _ 11 _ rfl) (fun K hK => ?_) AllReadyH.nil
        go_simp
        refine hK.out _ _ (by trivial) (fun hHeld => ?_)
        clear hK K
        (try simp only [Act.put, List.setIfInBounds_toArray, List.set_cons_zero, List.set_cons_succ])
        refine wpAnyH_take (i := 12) (v := ?_) (op_at _ 12 _ rfl) (by kernel_rfl) (by kernel_rfl) (by kernel_rfl) (fun _ _ _ h => h) (Or.inl ⟨by rfl, ?_⟩) (by assumption) ?_
        rotate_left 1
        focus (intro w hSw; go_simp; first | done | with_reducible rfl)
        (try simp only [Act.put, List.setIfInBounds_toArray, List.set_cons_zero, List.set_cons_succ])
        refine wpAnyH_take (i := 13) (v := ?_) (op_at _ 13 _ rfl) (by kernel_rfl) (by kernel_rfl) (by kernel_rfl) (fun _ _ _ h => h) (Or.inl ⟨by rfl, ?_⟩) (by assumption) ?_
        rotate_left 1
        focus (intro w hSw; go_simp; first | done | with_reducible rfl)
        (try simp only [Act.put, List.setIfInBounds_toArray, List.set_cons_zero, List.set_cons_succ])
        refine wpAnyH_ready (rs := [14]) (by kernel_rfl) (by simp) ?_
        refine AllReadyH.cons (op_at _ 14 _ rfl) (fun K hK => ?_) AllReadyH.nil
        go_simp
        refine hK.out _ _ (by trivial) (fun hHeld => ?_)
        clear hK K
        (try simp only [Act.put, List.setIfInBounds_toArray, List.set_cons_zero, List.set_cons_succ])
        refine wpAnyH_done (by kernel_rfl) ?_ _
        go_wp2
        go_ret
        exact ⟨_, _, rfl, bytes_end hp'.out hr'.out hn h5.out hkn hk2 hb4 hg4.out (by simp) (Or.inl ⟨rfl, rfl⟩)⟩
      exact AllReadyH.nil
    exact AllReadyH.nil
  · have hck' : ¬ k = cap := fun e => hck e.symm
    go_enter Try.func53, Try.ntmps53
    go_upto_region 10 with (go_at_call 58; refine c26.out.mono ?_; rintro e w1 ⟨rfl, rfl⟩)
    refine wp_region_held_drew (S := fun _ => True) (by kernel_rfl) (by trivial) (fun hHeld => ?_)
    refine wpAnyH_take (i := 0) (v := ?_) (op_at _ 0 _ rfl) (by kernel_rfl) (by kernel_rfl) (by kernel_rfl) (fun _ _ _ h => h) (Or.inl ⟨by rfl, ?_⟩) (by assumption) ?_
    rotate_left 1
    focus (intro w hSw; go_simp; first | done | with_reducible rfl)
    (try simp only [Act.put, List.setIfInBounds_toArray, List.set_cons_zero, List.set_cons_succ])
    refine wpAnyH_take (i := 1) (v := ?_) (op_at _ 1 _ rfl) (by kernel_rfl) (by kernel_rfl) (by kernel_rfl) (fun _ _ _ h => h) (Or.inl ⟨by rfl, ?_⟩) (by assumption) ?_
    rotate_left 1
    focus (intro w hSw; go_simp; first | done | with_reducible rfl)
    (try simp only [Act.put, List.setIfInBounds_toArray, List.set_cons_zero, List.set_cons_succ])
    refine wpAnyH_take (i := 2) (v := ?_) (op_at _ 2 _ rfl) (by kernel_rfl) (by kernel_rfl) (by kernel_rfl) (fun _ _ _ h => h) (Or.inl ⟨by rfl, ?_⟩) (by assumption) ?_
    rotate_left 1
    focus (intro w hSw; go_simp; first | done | with_reducible rfl)
    (try simp only [Act.put, List.setIfInBounds_toArray, List.set_cons_zero, List.set_cons_succ])
    refine wpAnyH_take (i := 3) (v := ?_) (op_at _ 3 _ rfl) (by kernel_rfl) (by kernel_rfl) (by kernel_rfl) (fun _ _ _ h => h) (Or.inl ⟨by rfl, ?_⟩) (by assumption) ?_
    rotate_left 1
    focus (intro w hSw; go_simp; first | done | with_reducible rfl)
    (try simp only [Act.put, List.setIfInBounds_toArray, List.set_cons_zero, List.set_cons_succ])
    refine wpAnyH_take (i := 5) (v := ?_) (op_at _ 5 _ rfl) (by kernel_rfl) (by kernel_rfl) (by kernel_rfl) (fun _ _ _ h => h) (Or.inl ⟨by rfl, ?_⟩) (by assumption) ?_
    rotate_left 1
    focus (intro w hSw; go_simp; first | done | with_reducible rfl)
    (try simp only [Act.put, List.setIfInBounds_toArray, List.set_cons_zero, List.set_cons_succ])
    refine wpAnyH_take (i := 6) (v := ?_) (op_at _ 6 _ rfl) (by kernel_rfl) (by kernel_rfl) (by kernel_rfl) (fun _ _ _ h => h) (Or.inl ⟨by rfl, ?_⟩) (by assumption) ?_
    rotate_left 1
    focus (intro w hSw; go_simp; first | done | with_reducible rfl)
    (try simp only [Act.put, List.setIfInBounds_toArray, List.set_cons_zero, List.set_cons_succ])
    refine wpAnyH_take (i := 7) (v := ?_) (op_at _ 7 _ rfl) (by kernel_rfl) (by kernel_rfl) (by kernel_rfl) (fun _ _ _ h => h) (Or.inl ⟨by rfl, ?_⟩) (by assumption) ?_
    rotate_left 1
    focus (intro w hSw; go_simp; first | done | with_reducible rfl)
    (try simp only [Act.put, List.setIfInBounds_toArray, List.set_cons_zero, List.set_cons_succ])
    refine wpAnyH_take (i := 8) (v := ?_) (op_at _ 8 _ rfl) (by kernel_rfl) (by kernel_rfl) (by kernel_rfl) (fun _ _ _ h => h) (Or.inl ⟨by rfl, ?_⟩) (by assumption) ?_
    rotate_left 1
    focus (intro w hSw; go_simp; first | done | with_reducible rfl)
    (try simp only [Act.put, List.setIfInBounds_toArray, List.set_cons_zero, List.set_cons_succ])
    refine wpAnyH_ready (rs := [4, 9]) (by kernel_rfl) (by simp) ?_
    refine AllReadyH.cons (op_at _ 4 _ rfl) (fun K hK => ?_) ?_
    · go_simp
      refine hK.out _ _ (by trivial) (fun hHeld => ?_)
      clear hK K
      (try simp only [Act.put, List.setIfInBounds_toArray, List.set_cons_zero, List.set_cons_succ])
      refine wpAnyH_ready (rs := [9]) (by kernel_rfl) (by simp) ?_
      refine AllReadyH.cons (op_at _ 9 _ rfl) (fun K hK => ?_) AllReadyH.nil
      go_simp
      refine hK.out _ _ (by trivial) (fun hHeld => ?_)
      clear hK K
      (try simp only [Act.put, List.setIfInBounds_toArray, List.set_cons_zero, List.set_cons_succ])
      refine wpAnyH_ready (rs := [10]) (by kernel_rfl) (by simp) ?_
      refine AllReadyH.cons (op_at _ 10 _ rfl) (fun K hK => ?_) AllReadyH.nil
      refine step_copy_splice rfl (.tmp 32) (.tmp 36) 25 25 rfl 5 Try.underlying25 (by kernel_rfl) _ _ _ _ _ _ rfl rfl W.heap.size 0 (List.replicate k (.int .u8 0)) 5 (copy_hg W k) (bs (xs.take k)) (bytes_hn hl'.out hkn) (bytes_hpos hr'.out (Below.alloc (Below.refl _ _) (Nat.le_refl _) _).drew hkn) (by simp [bs]; omega) (bs_one _) W.heap.size _ (Below.refl _ _) (Nat.le_refl _) ?_; intro w4 hg4 hb4; have t1 : w4.cell? ⟨p, 1, none⟩ = some (.slice (some ⟨b, off, none⟩) n cap) := keep_cell hb4 (by simpa using keep_old (Below.alloc (Below.refl _ _) (Nat.le_refl _) _).drew s1) hpl; have tf : w4.frozen? ⟨p, 1, none⟩ = false := by rw [keep_frozen hb4 hpl, keep_frozen (Below.alloc (Below.refl W.heap.size W) (Nat.le_refl _) _).drew hpl]; exact f1
      refine hK.out _ _ (by trivial) (fun hHeld => ?_)
      clear hK K
      (try simp only [Act.put, List.setIfInBounds_toArray, List.set_cons_zero, List.set_cons_succ])
      refine wpAnyH_ready (rs := [11]) (by kernel_rfl) (by simp) ?_
      refine AllReadyH.cons (op_at _ 11 _ rfl) (fun K hK => ?_) AllReadyH.nil
      go_simp
      refine hK.out _ _ (by trivial) (fun hHeld => ?_)
      clear hK K
      (try simp only [Act.put, List.setIfInBounds_toArray, List.set_cons_zero, List.set_cons_succ])
      refine wpAnyH_take (i := 12) (v := ?_) (op_at _ 12 _ rfl) (by kernel_rfl) (by kernel_rfl) (by kernel_rfl) (fun _ _ _ h => h) (Or.inl ⟨by rfl, ?_⟩) (by assumption) ?_
      rotate_left 1
      focus (intro w hSw; go_simp; first | done | with_reducible rfl)
      (try simp only [Act.put, List.setIfInBounds_toArray, List.set_cons_zero, List.set_cons_succ])
      refine wpAnyH_take (i := 13) (v := ?_) (op_at _ 13 _ rfl) (by kernel_rfl) (by kernel_rfl) (by kernel_rfl) (fun _ _ _ h => h) (Or.inl ⟨by rfl, ?_⟩) (by assumption) ?_
      rotate_left 1
      focus (intro w hSw; go_simp; first | done | with_reducible rfl)
      (try simp only [Act.put, List.setIfInBounds_toArray, List.set_cons_zero, List.set_cons_succ])
      refine wpAnyH_ready (rs := [14]) (by kernel_rfl) (by simp) ?_
      refine AllReadyH.cons (op_at _ 14 _ rfl) (fun K hK => ?_) AllReadyH.nil
      go_simp
      refine hK.out _ _ (by trivial) (fun hHeld => ?_)
      clear hK K
      (try simp only [Act.put, List.setIfInBounds_toArray, List.set_cons_zero, List.set_cons_succ])
      refine wpAnyH_done (by kernel_rfl) ?_ _
      go_wp2
      go_ret
      exact ⟨_, _, rfl, bytes_end hp'.out hr'.out hn h5.out hkn hk2 hb4 hg4.out (by simp) (Or.inr ⟨hck, rfl⟩)⟩
    refine AllReadyH.cons (op_at _ 9 _ rfl) (fun K hK => ?_) ?_
    · go_simp
      refine hK.out _ _ (by trivial) (fun hHeld => ?_)
      clear hK K
      (try simp only [Act.put, List.setIfInBounds_toArray, List.set_cons_zero, List.set_cons_succ])
      refine wpAnyH_ready (rs := [4, 10]) (by kernel_rfl) (by simp) ?_
      refine AllReadyH.cons (op_at _ 4 _ rfl) (fun K hK => ?_) ?_
      · go_simp
        refine hK.out _ _ (by trivial) (fun hHeld => ?_)
        clear hK K
        (try simp only [Act.put, List.setIfInBounds_toArray, List.set_cons_zero, List.set_cons_succ])
        refine wpAnyH_ready (rs := [10]) (by kernel_rfl) (by simp) ?_
        refine AllReadyH.cons (op_at _ 10 _ rfl) (fun K hK => ?_) AllReadyH.nil
        refine step_copy_splice rfl (.tmp 32) (.tmp 36) 25 25 rfl 5 Try.underlying25 (by kernel_rfl) _ _ _ _ _ _ rfl rfl W.heap.size 0 (List.replicate k (.int .u8 0)) 5 (copy_hg W k) (bs (xs.take k)) (bytes_hn hl'.out hkn) (bytes_hpos hr'.out (Below.alloc (Below.refl _ _) (Nat.le_refl _) _).drew hkn) (by simp [bs]; omega) (bs_one _) W.heap.size _ (Below.refl _ _) (Nat.le_refl _) ?_; intro w4 hg4 hb4; have t1 : w4.cell? ⟨p, 1, none⟩ = some (.slice (some ⟨b, off, none⟩) n cap) := keep_cell hb4 (by simpa using keep_old (Below.alloc (Below.refl _ _) (Nat.le_refl _) _).drew s1) hpl; have tf : w4.frozen? ⟨p, 1, none⟩ = false := by rw [keep_frozen hb4 hpl, keep_frozen (Below.alloc (Below.refl W.heap.size W) (Nat.le_refl _) _).drew hpl]; exact f1
        refine hK.out _ _ (by trivial) (fun hHeld => ?_)
        clear hK K
        (try simp only [Act.put, List.setIfInBounds_toArray, List.set_cons_zero, List.set_cons_succ])
        refine wpAnyH_ready (rs := [11]) (by kernel_rfl) (by simp) ?_
        refine AllReadyH.cons (op_at _ 11 _ rfl) (fun K hK => ?_) AllReadyH.nil
        go_simp
        refine hK.out _ _ (by trivial) (fun hHeld => ?_)
        clear hK K
        (try simp only [Act.put, List.setIfInBounds_toArray, List.set_cons_zero, List.set_cons_succ])
        refine wpAnyH_take (i := 12) (v := ?_) (op_at _ 12 _ rfl) (by kernel_rfl) (by kernel_rfl) (by kernel_rfl) (fun _ _ _ h => h) (Or.inl ⟨by rfl, ?_⟩) (by assumption) ?_
        rotate_left 1
        focus (intro w hSw; go_simp; first | done | with_reducible rfl)
        (try simp only [Act.put, List.setIfInBounds_toArray, List.set_cons_zero, List.set_cons_succ])
        refine wpAnyH_take (i := 13) (v := ?_) (op_at _ 13 _ rfl) (by kernel_rfl) (by kernel_rfl) (by kernel_rfl) (fun _ _ _ h => h) (Or.inl ⟨by rfl, ?_⟩) (by assumption) ?_
        rotate_left 1
        focus (intro w hSw; go_simp; first | done | with_reducible rfl)
        (try simp only [Act.put, List.setIfInBounds_toArray, List.set_cons_zero, List.set_cons_succ])
        refine wpAnyH_ready (rs := [14]) (by kernel_rfl) (by simp) ?_
        refine AllReadyH.cons (op_at _ 14 _ rfl) (fun K hK => ?_) AllReadyH.nil
        go_simp
        refine hK.out _ _ (by trivial) (fun hHeld => ?_)
        clear hK K
        (try simp only [Act.put, List.setIfInBounds_toArray, List.set_cons_zero, List.set_cons_succ])
        refine wpAnyH_done (by kernel_rfl) ?_ _
        go_wp2
        go_ret
        exact ⟨_, _, rfl, bytes_end hp'.out hr'.out hn h5.out hkn hk2 hb4 hg4.out (by simp) (Or.inr ⟨hck, rfl⟩)⟩
      refine AllReadyH.cons (op_at _ 10 _ rfl) (fun K hK => ?_) ?_
      · refine step_copy_splice rfl (.tmp 32) (.tmp 36) 25 25 rfl 5 Try.underlying25 (by kernel_rfl) _ _ _ _ _ _ rfl rfl W.heap.size 0 (List.replicate k (.int .u8 0)) 5 (copy_hg W k) (bs (xs.take k)) (bytes_hn hl'.out hkn) (bytes_hpos hr'.out (Below.alloc (Below.refl _ _) (Nat.le_refl _) _).drew hkn) (by simp [bs]; omega) (bs_one _) W.heap.size _ (Below.refl _ _) (Nat.le_refl _) ?_; intro w4 hg4 hb4; have t1 : w4.cell? ⟨p, 1, none⟩ = some (.slice (some ⟨b, off, none⟩) n cap) := keep_cell hb4 (by simpa using keep_old (Below.alloc (Below.refl _ _) (Nat.le_refl _) _).drew s1) hpl; have tf : w4.frozen? ⟨p, 1, none⟩ = false := by rw [keep_frozen hb4 hpl, keep_frozen (Below.alloc (Below.refl W.heap.size W) (Nat.le_refl _) _).drew hpl]; exact f1
        refine hK.out _ _ (by trivial) (fun hHeld => ?_)
        clear hK K
        (try simp only [Act.put, List.setIfInBounds_toArray, List.set_cons_zero, List.set_cons_succ])
        refine wpAnyH_ready (rs := [4]) (by kernel_rfl) (by simp) ?_
        refine AllReadyH.cons (op_at _ 4 _ rfl) (fun K hK => ?_) AllReadyH.nil
        go_simp
        refine hK.out _ _ (by trivial) (fun hHeld => ?_)
        clear hK K
        (try simp only [Act.put, List.setIfInBounds_toArray, List.set_cons_zero, List.set_cons_succ])
        refine wpAnyH_ready (rs := [11]) (by kernel_rfl) (by simp) ?_
        refine AllReadyH.cons (op_at _ 11 _ rfl) (fun K hK => ?_) AllReadyH.nil
        go_simp
        refine hK.out _ _ (by trivial) (fun hHeld => ?_)
        clear hK K
        (try simp only [Act.put, List.setIfInBounds_toArray, List.set_cons_zero, List.set_cons_succ])
        refine wpAnyH_take (i := 12) (v := ?_) (op_at _ 12 _ rfl) (by kernel_rfl) (by kernel_rfl) (by kernel_rfl) (fun _ _ _ h => h) (Or.inl ⟨by rfl, ?_⟩) (by assumption) ?_
        rotate_left 1
        focus (intro w hSw; go_simp; first | done | with_reducible rfl)
        (try simp only [Act.put, List.setIfInBounds_toArray, List.set_cons_zero, List.set_cons_succ])
        refine wpAnyH_take (i := 13) (v := ?_) (op_at _ 13 _ rfl) (by kernel_rfl) (by kernel_rfl) (by kernel_rfl) (fun _ _ _ h => h) (Or.inl ⟨by rfl, ?_⟩) (by assumption) ?_
        rotate_left 1
        focus (intro w hSw; go_simp; first | done | with_reducible rfl)
        (try simp only [Act.put, List.setIfInBounds_toArray, List.set_cons_zero, List.set_cons_succ])
        refine wpAnyH_ready (rs := [14]) (by kernel_rfl) (by simp) ?_
        refine AllReadyH.cons (op_at _ 14 _ rfl) (fun K hK => ?_) AllReadyH.nil
        go_simp
        refine hK.out _ _ (by trivial) (fun hHeld => ?_)
        clear hK K
        (try simp only [Act.put, List.setIfInBounds_toArray, List.set_cons_zero, List.set_cons_succ])
        refine wpAnyH_done (by kernel_rfl) ?_ _
        go_wp2
        go_ret
        exact ⟨_, _, rfl, bytes_end hp'.out hr'.out hn h5.out hkn hk2 hb4 hg4.out (by simp) (Or.inr ⟨hck, rfl⟩)⟩
      exact AllReadyH.nil
    exact AllReadyH.nil

end Go.Proofs.Ytbpcekhfjkodcaa
