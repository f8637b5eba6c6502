/- What the document's own ReadHead and Hot return; no statement of the seat is proved here. -/
import Derived.Test.YtndlogjmnbgegaaDoorCd
import Derived.Test.YtndlogjmnbgegaaDoorJa
import Derived.Deep.DeepCutAuto
namespace Go.Proofs.YtndlogjmnbgegaaDoor
open Go.RowKit

def hdV (c p n : Nat) : List Nat := if c ≤ 4000 ∧ p ≤ 4000 then headN c p n true else []

theorem hdV_bytes (c p n : Nat) : ∀ x ∈ hdV c p n, x < 256 := by
  unfold hdV
  split
  · exact headN_bytes _ _ _ _
  · intro x h; cases h

theorem rhb_all (c p n : Nat) (w : World) :
    Calls Tryd.prog 14 #[.agg #[.int .i64 (c : Int), .int .i64 (p : Int), .int .u64 (n : Int)], .bool true] w fun e w' => ∃ ao k cap, e = .returned (.slice ao k cap) ∧ Rd w' ao k cap (hdV c p n) ∧ Below w.heap.size w w' := by
  unfold hdV
  by_cases h : c ≤ 4000 ∧ p ≤ 4000
  · rw [if_pos h]
    exact (rhb_yes c p n true w h.1 h.2).mono fun e w' ⟨⟨ao, cap, he, _, hr⟩, hb⟩ => ⟨ao, 128, cap, he, hr, hb⟩
  · rw [if_neg h]
    have hg : hgood (c : Int) (p : Int) = false := by
      rw [Bool.eq_false_iff]; intro hh; rw [hgood_iff] at hh; omega
    exact (rhb_no c p n true w hg).mono fun e w' ⟨he, hb⟩ => ⟨none, 0, 0, he, Rd.nil _, hb⟩

theorem str_eq {xs ys : List Nat} (hx : ∀ x ∈ xs, x < 256) (hy : ∀ x ∈ ys, x < 256) : str xs = str ys ↔ xs = ys := by
  constructor
  · intro h
    have h2 : xs.map UInt8.ofNat = ys.map UInt8.ofNat := by
      have := congrArg (fun b : ByteArray => b.data.toList) h
      simpa [str] using this
    have h3 := congrArg (List.map UInt8.toNat) h2
    rw [List.map_map, List.map_congr_left (g := id) (fun x hx' => by have := hx x hx'; simp; omega), List.map_map, List.map_congr_left (l := ys) (g := id) (fun x hx' => by have := hy x hx'; simp; omega)] at h3
    simpa using h3
  · rintro rfl; rfl

theorem str_beq {xs ys : List Nat} (hx : ∀ x ∈ xs, x < 256) (hy : ∀ x ∈ ys, x < 256) : ((str xs).toList == (str ys).toList) = decide (xs = ys) := by
  rw [Bool.eq_iff_iff, beq_iff_eq, decide_eq_true_eq, ← str_eq hx hy]
  constructor
  · intro h
    rw [ByteArray.toList_eq, ByteArray.toList_eq] at h
    simp only [str, List.toList_toArray] at h ⊢
    rw [h]
  · intro h; rw [h]

theorem isHead_V (xs : List Nat) (h : 128 ≤ xs.length) : decide (hdV (hC xs) (hP xs) (hN xs) = xs.take 128) = isHead xs := by
  unfold isHead hdV
  rw [Bool.eq_iff_iff]
  by_cases hh : hC xs ≤ 4000 ∧ hP xs ≤ 4000
  · rw [if_pos hh]
    simp only [hh.1, hh.2, decide_true, Bool.and_true, decide_eq_true_eq]
    exact eq_comm
  · rw [if_neg hh]
    simp only [Bool.and_eq_true, decide_eq_true_eq]
    constructor
    · intro h2
      have := congrArg List.length h2
      simp at this
      omega
    · rintro ⟨⟨_, h1⟩, h2⟩
      exact absurd ⟨h1, h2⟩ hh

theorem getV_k (xs : List Nat) (k : Nat) (h1 : 1 ≤ k) (h8 : k ≤ 8) (hs : k ≤ xs.length) : getV xs (k : Int) false = (psum xs k false k, true) := by
  unfold getV
  rw [if_pos (by omega)]
  rfl

theorem rget_k (ao : Option Addr) (n cap : Nat) (xs : List Nat) (s : Int) (k : Nat) (w : World) (h : Rd w ao n cap xs) (hx : ∀ x ∈ xs, x < 256) (hs : s = (k : Int)) (h1 : 1 ≤ k) (h8 : k ≤ 8) (hk : k ≤ n) (V : Nat) (hV : psum xs k false k = V) :
    Calls Tryd.prog 44 #[.slice ao n cap, .int .i64 s, .bool false] w fun e w' => e = .returned (.tuple #[.int .u64 (V : Int), .bool true]) ∧ w = w' := by
  subst hs
  have := rget_any ao n cap xs (k : Int) false w h hx
  rw [getV_k xs k h1 h8 (by have := h.1; omega), hV] at this
  exact this

set_option maxHeartbeats 4000000 in
theorem rrhead_any (b0 o0 : Nat) (n cap : Nat) (xs : List Nat) (w : World) (h : Rd w (some ⟨b0, o0, none⟩) n cap xs) (hx : ∀ x ∈ xs, x < 256) (hn : 128 ≤ n) (hn2 : n ≤ 140737488355328) :
    Calls Tryd.prog 22 #[.slice (some ⟨b0, o0, none⟩) n cap] w fun e w' => ∃ (c p m : Nat) (er : Int), e = .returned (.tuple #[.agg #[.int .i64 (c : Int), .int .i64 (p : Int), .int .u64 (m : Int)], .int .i64 er]) ∧
      Hid ((isHead xs = true ∧ c = hC xs ∧ p = hP xs ∧ m = hN xs ∧ er = 0) ∨ (isHead xs = false ∧ c = 0 ∧ p = 0 ∧ m = 0 ∧ er = 9)) ∧ Below w.heap.size w w' := by
  have hcap := h.2.1
  have hge : ¬ (n : Int) < 128 := by omega
  have hl := h.1
  have rt := hid (rd_take h 128 (by omega) (by omega))
  have c6 : ¬ cap = 6 := by omega
  have c10 : ¬ cap = 10 := by omega
  have c14 : ¬ cap = 14 := by omega
  have n6 : (6 : Int) ≤ (n : Int) := by omega
  have n10 : (10 : Int) ≤ (n : Int) := by omega
  have n14 : (14 : Int) ≤ (n : Int) := by omega
  have n128 : (128 : Int) ≤ (cap : Int) := by omega
  obtain ⟨C, hCv⟩ : ∃ C, hC xs = C := ⟨_, rfl⟩
  obtain ⟨P, hPv⟩ : ∃ P, hP xs = P := ⟨_, rfl⟩
  obtain ⟨M, hMv⟩ : ∃ M, hN xs = M := ⟨_, rfl⟩
  have hCl : C < 4294967296 := by rw [← hCv]; exact psum4_lt _ (drop_bytes hx 6) (by simp; omega)
  have hPl : P < 4294967296 := by rw [← hPv]; exact psum4_lt _ (drop_bytes hx 10) (by simp; omega)
  have r6 := hid ((h.from_ 6 (by omega)).2 c6)
  have r10 := hid ((h.from_ 10 (by omega)).2 c10)
  have r14 := hid ((h.from_ 14 (by omega)).2 c14)
  have hb := str_beq (hdV_bytes C P M) (take_bytes hx 128)
  have hv := isHead_V xs (by omega)
  rw [hCv, hPv, hMv, ← hb] at hv
  obtain ⟨b, hbv⟩ : ∃ b, isHead xs = b := ⟨_, rfl⟩
  rw [hbv] at hv
  have hv' : Hid (((str (hdV C P M)).toList == (str (List.take 128 xs)).toList) = b) := hid hv
  have hb' := hid hb
  have hC' := hid hCv
  have hP' := hid hPv
  have hM' := hid hMv
  have hx' := hid hx
  have t1 : Hid True := hid trivial
  have t2 : Hid True := hid trivial
  have hbv' := hid hbv
  have z0 := hid (HB.new 29 w 0 0 0)
  have A0 : Hid (Below w.heap.size w (w.alloc (.cells #[.int .i64 0, .int .i64 0, .int .u64 0] 29))) := hid (Below.alloc (Below.refl _ _) (Nat.le_refl _) _)
  clear hbv hb hv hCv hPv hMv hx h hl
  go_enter Tryd.func22, Tryd.ntmps22
  go_upto_region 7 with (first
    | (go_at_call 44; clear t1; refine (rget_k _ _ _ _ 4 4 _ (r6.out.keep A0.out) (drop_bytes hx'.out 6) (by decide) (by omega) (by omega) (by omega) C hC'.out).mono ?_; rintro e w1 ⟨rfl, hw1⟩; obtain rfl := hw1)
    | (go_at_call 44; clear t2; refine (rget_k _ _ _ _ 4 4 _ (r10.out.keep A0.out) (drop_bytes hx'.out 10) (by decide) (by omega) (by omega) (by omega) P hP'.out).mono ?_; rintro e w1 ⟨rfl, hw1⟩; obtain rfl := hw1)
    | (go_at_call 44; refine (rget_k _ _ _ _ 8 8 _ (r14.out.keep A0.out) (drop_bytes hx'.out 14) (by decide) (by omega) (by omega) (by omega) M hM'.out).mono ?_; rintro e w1 ⟨rfl, hw1⟩; obtain rfl := hw1))
  obtain ⟨q, hq⟩ : ∃ q, q = (w.alloc (.cells #[.int .i64 0, .int .i64 0, .int .u64 0] 29)).heap.size := ⟨_, rfl⟩
  have hq2 : q = w.heap.size + 1 := by rw [hq]; simp
  obtain ⟨W6, hW6⟩ : ∃ W6, W6 = ((w.alloc (.cells #[.int .i64 0, .int .i64 0, .int .u64 0] 29)).alloc (.cells #[.int .i64 (C : Int), .int .i64 (P : Int), .int .u64 (M : Int)] 29)) := ⟨_, rfl⟩
  have A6 : Below (w.alloc (.cells #[.int .i64 0, .int .i64 0, .int .u64 0] 29)).heap.size (w.alloc (.cells #[.int .i64 0, .int .i64 0, .int .u64 0] 29)) W6 := by rw [hW6]; exact Below.alloc (Below.refl _ _) (Nat.le_refl _) _
  have B6 := hid (gt A0.out A6)
  have z6 := hid (z0.out.keep A6)
  have y6 : Hid (HB 29 W6 q C P M) := hid (by rw [hW6, hq]; exact HB.new 29 _ C P M)
  have hqw : ¬ q = w.heap.size := by omega
  rw [← hW6, ← hq2]
  obtain ⟨u0, u1, u2, _, _, _⟩ := y6.out.cells
  have cv6 := conv_str (rt.out.keep B6.out.drew)
  clear A6 hW6 hq hq2 r6 r10 r14 A0 z0
  go_region_with (go_at_call 14; refine (rhb_all C P M _).mono ?_; rintro e w7 ⟨a7, k7, c7, rfl, r7, hb7⟩; have z7 := hid (z6.out.keep (undrew hb7)); have y7 := hid (y6.out.keep (undrew hb7)); have B7 := hid (gt B6.out (undrew hb7)); clear u0 u1 u2 cv6; have cvb := conv_str r7; have cv7 := conv_str (rt.out.keep B7.out); obtain ⟨u0, u1, u2, _, _, _⟩ := y7.out.cells; obtain ⟨v0, v1, v2, g0, g1, g2⟩ := z7.out.cells; replace r7 := hid r7; clear hb7)
  all_goals
    have hv2 := hv'.out
    clear cvb cv7
    rw [hv2]
    rcases b with _ | _
    · go_wp2
      (try simp only [Exit.inBlock, Exit.then])
      refine bodyPost_ret (ret_head rfl agg29 size29 rfl (HB.set z7.out _ _ _)) rfl ?_
      exact ⟨0, 0, 0, 9, rfl, hid (Or.inr ⟨hbv'.out, rfl, rfl, rfl, rfl⟩), box_set B7.out⟩
    · go_wp2
      (try simp only [Exit.inBlock, Exit.then])
      refine bodyPost_ret (ret_head rfl agg29 size29 rfl (HB.set z7.out _ _ _)) rfl ?_
      exact ⟨C, P, M, 0, rfl, hid (Or.inl ⟨hbv'.out, hC'.out.symm, hP'.out.symm, hM'.out.symm, rfl⟩), box_set B7.out⟩

set_option maxHeartbeats 400000 in
theorem rrhead_short (ao : Option Addr) (n cap : Nat) (w : World) (hn : n < 128) :
    Calls Tryd.prog 22 #[.slice ao n cap] w fun e w' => e = .returned (.tuple #[.agg #[.int .i64 0, .int .i64 0, .int .u64 0], .int .i64 8]) ∧ Below w.heap.size w w' := by
  have hge : (n : Int) < 128 := by omega
  go_enter Tryd.func22, Tryd.ntmps22
  go_wp2
  (try simp only [Exit.inBlock, Exit.then])
  refine bodyPost_ret (ret_head rfl agg29 size29 rfl (HB.new 29 w 0 0 0)) rfl ?_
  exact ⟨rfl, Below.alloc (Below.refl _ _) (Nat.le_refl _) _⟩

theorem rrhead_all (ao : Option Addr) (n cap : Nat) (xs : List Nat) (w : World) (h : Rd w ao n cap xs) (hx : ∀ x ∈ xs, x < 256) (hn2 : n ≤ 140737488355328) :
    Calls Tryd.prog 22 #[.slice ao n cap] w fun e w' => e = .returned (.tuple #[.agg #[.int .i64 ((rdH xs).1.1 : Int), .int .i64 ((rdH xs).1.2.1 : Int), .int .u64 ((rdH xs).1.2.2 : Int)], .int .i64 (rdH xs).2]) ∧ Below w.heap.size w w' := by
  have hl := h.1
  by_cases hn : n < 128
  · have e : rdH xs = ((0, 0, 0), 8) := by unfold rdH; rw [if_pos (by omega)]
    rw [e]
    exact rrhead_short ao n cap w hn
  · obtain ⟨b0, o0, rfl, _⟩ := h.2.2.2 (by omega)
    refine (rrhead_any b0 o0 n cap xs w h hx (by omega) hn2).mono fun e w' ⟨c, p, m, er, he, hh, hb⟩ => ⟨?_, hb⟩
    rw [he]
    rcases hh.out with ⟨h1, rfl, rfl, rfl, rfl⟩ | ⟨h1, rfl, rfl, rfl, rfl⟩
    · have e : rdH xs = ((hC xs, hP xs, hN xs), 0) := by unfold rdH; rw [if_neg (by omega), if_pos h1]
      rw [e]
    · have e : rdH xs = ((0, 0, 0), 9) := by unfold rdH; rw [if_neg (by omega), if_neg (by rw [h1]; simp)]
      rw [e]

set_option maxHeartbeats 400000 in
theorem rhot_any (ao : Option Addr) (n cap : Nat) (xs : List Nat) (w : World) (h : Rd w ao n cap xs) (hx : ∀ x ∈ xs, x < 256) (hn2 : n ≤ 140737488355328) :
    Calls Tryd.prog 29 #[.slice ao n cap] w fun e w' => e = .returned (.bool (hotN xs)) ∧ Below w.heap.size w w' := by
  have c := hid (rrhead_all ao n cap xs w h hx hn2)
  have he := rdH_err xs
  generalize rdH xs = r at *
  obtain ⟨⟨c1, p1, n1⟩, er⟩ := r
  simp only at c he
  have hb : (er == 0) = hotN xs := by rw [Bool.eq_iff_iff, beq_iff_eq]; exact he
  generalize hotN xs = b at *
  clear he h hx
  go_enter Tryd.func29, Tryd.ntmps29
  go_wp2_with (go_at_call 22; refine c.out.mono ?_; rintro e w1 ⟨rfl, hb1⟩)
  go_ret
  exact ⟨rfl, Below.alloc hb1 hb1.size _⟩

end Go.Proofs.YtndlogjmnbgegaaDoor
