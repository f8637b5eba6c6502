/- What the document's own ReadRecord returns; no statement of the seat is proved here. -/
import Derived.Test.YtndlogjmnbgegaaDoorJc
namespace Go.Proofs.YtndlogjmnbgegaaDoor
open Go.RowKit

def rcV (p n : Nat) (d : List Nat) : List Nat := if 1 ≤ p ∧ p ≤ 4000 then recN p n d else []

theorem rcV_bytes (p n : Nat) {d : List Nat} (hd : ∀ x ∈ d, x < 256) : ∀ x ∈ rcV p n d, x < 256 := by
  unfold rcV
  split
  · exact recN_bytes _ _ hd
  · intro x h; cases h

theorem rrecb_all (p n : Nat) (ao : Option Addr) (cap : Nat) (d : List Nat) (w : World) (h : Rd w ao 512 cap d) (hd : ∀ x ∈ d, x < 256) :
    Calls Tryd.prog 11 #[.agg #[.int .i64 (p : Int), .slice ao 512 cap], .int .u64 (n : Int)] w fun e w' => ∃ ao k cap, e = .returned (.slice ao k cap) ∧ Rd w' ao k cap (rcV p n d) ∧ Below w.heap.size w w' := by
  unfold rcV
  by_cases hh : 1 ≤ p ∧ p ≤ 4000
  · rw [if_pos hh]
    exact (rrecb_yes p n ao cap d w h hd hh.1 hh.2).mono fun e w' ⟨⟨ao, cap, he, _, hr⟩, hb⟩ => ⟨ao, 640, cap, he, hr, hb⟩
  · rw [if_neg hh]
    have hg : rgood (p : Int) 512 = false := by
      rw [Bool.eq_false_iff]; intro h2; rw [rgood_iff] at h2; omega
    exact (rrecb_no p n ao 512 cap w hg).mono fun e w' ⟨he, hb⟩ => ⟨none, 0, 0, he, Rd.nil _, hb⟩

theorem isRec_V (xs : List Nat) (n : Nat) (h : 640 ≤ xs.length) : decide (rcV (rP xs) n (rD xs) = xs.take 640) = isRec xs n := by
  unfold isRec rcV
  rw [Bool.eq_iff_iff]
  by_cases hh : 1 ≤ rP xs ∧ rP xs ≤ 4000
  · rw [if_pos hh]
    simp only [hh.1, hh.2, decide_true, Bool.and_true, decide_eq_true_eq]
    exact eq_comm
  · rw [if_neg hh]
    simp only [Bool.and_eq_true, decide_eq_true_eq]
    constructor
    · intro h2
      have := congrArg List.length h2
      simp at this
      omega
    · rintro ⟨⟨_, h1⟩, h2⟩
      exact absurd ⟨h1, h2⟩ hh

/-- The block that a slice lies in is one of bytes. -/
def T5 (W : World) (ao : Option Addr) : Prop := ∀ b off, ao = some ⟨b, off, none⟩ → ∃ C, W.heap[b]? = some (.cells C 5 (0, 0))
/-- Blocks of bytes stay as they are. -/
def Five (W W' : World) : Prop := ∀ (g : Nat) (C : Array Value), W.heap[g]? = some (Obj.cells C 5 (0, 0)) → W'.heap[g]? = some (Obj.cells C 5 (0, 0))
theorem Five.of {W W' : World} (hb : Below W.heap.size W W') : Five W W' := fun g C h => by rw [hb.block g (lt_of_block h)]; exact h
theorem Five.trans {a b c : World} (h : Five a b) (k : Five b c) : Five a c := fun g C e => k g C (h g C e)
theorem Five.refl (a : World) : Five a a := fun _ _ e => e
theorem Five.set {W : World} {t : TypeId} (ht : t ≠ 5) {q : Nat} {X : Array Value} {m : Nat × Nat} (h : W.heap[q]? = some (.cells X t m)) (i : Nat) (v : Value) : Five W (W.setCell ⟨q, i, none⟩ v) := fun g C e => by
  have hne : g ≠ q := by
    rintro rfl
    rw [h] at e
    simp only [Option.some.injEq, Obj.cells.injEq] at e
    exact ht e.2.1
  rw [(grow_set W q i v).block g (lt_of_block e) (by simpa using hne)]
  exact e
theorem T5.five {W W' : World} {ao : Option Addr} (h : T5 W ao) (k : Five W W') : T5 W' ao := fun b off e => by
  obtain ⟨C, hC⟩ := h b off e
  exact ⟨C, k b C hC⟩
theorem Rd.five {W W' : World} {ao : Option Addr} {n cap : Nat} {xs : List Nat} (h : Rd W ao n cap xs) (t : T5 W ao) (k : Five W W') : Rd W' ao n cap xs := by
  refine ⟨h.1, h.2.1, h.2.2.1, fun hp => ?_⟩
  obtain ⟨b, off, e, hc⟩ := h.2.2.2 hp
  obtain ⟨C, hC⟩ := t b off e
  refine ⟨b, off, e, fun j hj => ?_⟩
  rw [← hc j hj, World.cell?, World.cell?, k b C hC, hC]
theorem own_T5 {W : World} {B n cap : Nat} {ao : Option Addr} {l : List Value} (h : W.ownsRow B 5 1 (.slice ao n cap) n l) : T5 W ao := by
  intro b off e
  subst e
  rcases h.2 with ⟨h', _⟩ | ⟨g, cap', cur, h', _, hg, _⟩
  · cases h'
  · simp only [Value.slice.injEq, Option.some.injEq, Addr.mk.injEq, and_true, true_and] at h'
    obtain ⟨⟨rfl, rfl⟩, rfl⟩ := h'
    exact ⟨_, hg⟩
theorem T5.none (W : World) : T5 W none := fun _ _ e => by cases e
theorem rb_five {W : World} {q : Nat} {p : Int} {ao : Option Addr} {n cap : Nat} (h : RB 35 W q p ao n cap) (p' : Int) (v : Value) : Five W ((W.setCell ⟨q, 0, Option.none⟩ (.int .i64 p')).setCell ⟨q, 1, Option.none⟩ v) :=
  (Five.set (by decide) h 0 _).trans (Five.set (t := 35) (by decide) (heap_setCell_same W q 0 _ 35 (.int .i64 p') h) 1 _)

set_option maxHeartbeats 4000000 in
theorem rrrec_any (b0 o0 : Nat) (n cap : Nat) (xs : List Nat) (k : Nat) (w : World) (h : Rd w (some ⟨b0, o0, none⟩) n cap xs) (hx : ∀ x ∈ xs, x < 256) (hn : 640 ≤ n) (hn2 : n ≤ 140737488355328) :
    Calls Tryd.prog 24 #[.slice (some ⟨b0, o0, none⟩) n cap, .int .u64 (k : Int)] w fun e w' => ∃ (p : Nat) (a1 : Option Addr) (n1 c1 : Nat) (er : Int), e = .returned (.tuple #[.agg #[.int .i64 (p : Int), .slice a1 n1 c1], .int .i64 er]) ∧
      Hid ((isRec xs k = true ∧ p = rP xs ∧ er = 0 ∧ n1 = 512 ∧ Rd w' a1 n1 c1 (rD xs) ∧ T5 w' a1) ∨ (isRec xs k = false ∧ p = 0 ∧ er = 9 ∧ a1 = none ∧ n1 = 0 ∧ c1 = 0)) ∧ Below w.heap.size w w' := by
  have hcap := h.2.1
  have hge : ¬ (n : Int) < 640 := by omega
  have hl := h.1
  have rt := hid (rd_take h 640 (by omega) (by omega))
  have c128 : ¬ cap = 128 := by omega
  have n128 : (640 : Int) ≤ (cap : Int) := by omega
  obtain ⟨P, hPv⟩ : ∃ P, rP xs = P := ⟨_, rfl⟩
  obtain ⟨D, hDv⟩ : ∃ D, rD xs = D := ⟨_, rfl⟩
  have hPl : P < 4294967296 := by rw [← hPv]; exact psum4_lt _ hx (by omega)
  have hDb : ∀ x ∈ D, x < 256 := by rw [← hDv]; exact take_bytes (drop_bytes hx 128) 512
  have r0 := hid h
  have rd : Hid (Rd w (some ⟨b0, o0 + 128, none⟩) 512 (cap - 128) D) := hid (by rw [← hDv]; exact rd_take ((h.from_ 128 (by omega)).2 c128) 512 (by omega) (by omega))
  have hb := str_beq (rcV_bytes P k hDb) (take_bytes hx 640)
  have hv := isRec_V xs k (by omega)
  rw [hPv, hDv, ← hb] at hv
  obtain ⟨b, hbv⟩ : ∃ b, isRec xs k = b := ⟨_, rfl⟩
  rw [hbv] at hv
  have hv' : Hid (((str (rcV P k D)).toList == (str (List.take 640 xs)).toList) = b) := hid hv
  have hP' := hid hPv
  have hD' := hid hDv
  have hx' := hid hx
  have hDb' := hid hDb
  have hbv' := hid hbv
  have z0 := hid (RB.new 35 w 0 none 0 0)
  have A0 : Hid (Below w.heap.size w (w.alloc (.cells #[.int .i64 0, .slice none 0 0] 35))) := hid (Below.alloc (Below.refl _ _) (Nat.le_refl _) _)
  clear hbv hb hv hPv hDv hx h hl hDb
  go_enter Tryd.func24, Tryd.ntmps24
  obtain ⟨W0, hW0⟩ : ∃ W0, W0 = w.alloc (.cells #[.int .i64 0, .slice none 0 0] 35) := ⟨_, rfl⟩
  rw [← hW0] at A0 z0
  have hW0' := hid hW0
  clear hW0
  go_upto_region 5 with (first
    | (go_at_call 44; rw [← hW0'.out]; refine (rget_k _ _ _ _ 4 4 _ (r0.out.keep A0.out) hx'.out (by decide) (by omega) (by omega) (by omega) P hP'.out).mono ?_; rintro e w1 ⟨rfl, hw1⟩; obtain rfl := hw1)
    | ((with_reducible refine here_op 23 ?_); refine wpList_append_rd rfl (.tmp 20) (.tmp 22) rfl W0.heap.size _ 0 [] rfl (World.ownsRow_made W0 #[] 0 (Nat.le_refl _) (by decide) rfl) (some ⟨b0, o0 + 128, none⟩) 512 (cap - 128) D rfl ((rd.out.keep A0.out).keep (Below.alloc (Below.refl _ _) (Nat.le_refl _) _)) (by omega) (by simp) ?_; intro v4 w4 ho4 hb4; have H4 : Hid (Below W0.heap.size W0 w4) := hid ((Below.alloc (Below.refl _ _) (Nat.le_refl _) _).trans hb4); obtain ⟨a4, c4, rfl, r4⟩ := rd_owned ho4; have t4 := hid (own_T5 ho4); replace r4 : Hid (Rd w4 a4 512 c4 D) := hid r4; have z4 := hid (z0.out.keep H4.out); have B4 := hid (gt A0.out H4.out); clear ho4 hb4))
  obtain ⟨q, hq⟩ : ∃ q, q = w4.heap.size := ⟨_, rfl⟩
  obtain ⟨W6, hW6⟩ : ∃ W6, W6 = w4.alloc (.cells #[.int .i64 (P : Int), .slice a4 512 c4] 35) := ⟨_, rfl⟩
  have A6 : Below w4.heap.size w4 W6 := by rw [hW6]; exact Below.alloc (Below.refl _ _) (Nat.le_refl _) _
  have B6 := hid (gt B4.out A6)
  have z6 := hid (z4.out.keep A6)
  have r6 := hid (r4.out.keep A6)
  have t6 := hid (t4.out.five (Five.of A6))
  have y6 : Hid (RB 35 W6 q P a4 512 c4) := hid (by rw [hW6, hq]; exact RB.new 35 _ P a4 512 c4)
  have hqw : ¬ q = w.heap.size := by have := z4.out.lt; omega
  rw [← hW6, ← hq]
  obtain ⟨u0, u1, _, _⟩ := y6.out.cells
  have cv6 := conv_str (rt.out.keep B6.out.drew)
  clear A6 hW6 hq r0 rd r4 A0 z0 H4 z4 B4 hW0'
  go_region_with (go_at_call 11; refine (rrecb_all P k a4 c4 D _ (r6.out.keep (Below.refl _ _).drew) hDb'.out).mono ?_; rintro e w7 ⟨a7, k7, c7, rfl, r7, hb7⟩; have z7 := hid (z6.out.keep (undrew hb7)); have y7 := hid (y6.out.keep (undrew hb7)); have rr7 := hid (r6.out.keep (undrew hb7)); have tt7 := hid (t6.out.five (Five.of (undrew hb7))); have B7 := hid (gt B6.out (undrew hb7)); clear u0 u1 cv6; have cvb := conv_str r7; have cv7 := conv_str (rt.out.keep B7.out); obtain ⟨u0, u1, _, _⟩ := y7.out.cells; obtain ⟨v0, v1, g0, g1⟩ := z7.out.cells; replace r7 := hid r7; clear hb7)
  all_goals
    have hv2 := hv'.out
    clear cvb cv7
    rw [hv2]
    rcases b with _ | _
    · go_wp2
      (try simp only [Exit.inBlock, Exit.then])
      refine bodyPost_ret (ret_rec rfl agg35 size35 rfl (RB.set z7.out _ _ _ _)) rfl ?_
      exact ⟨0, none, 0, 0, 9, rfl, hid (Or.inr ⟨hbv'.out, rfl, rfl, rfl, rfl, rfl⟩), rbox_set B7.out⟩
    · go_wp2
      (try simp only [Exit.inBlock, Exit.then])
      refine bodyPost_ret (ret_rec rfl agg35 size35 rfl (RB.set z7.out _ _ _ _)) rfl ?_
      refine ⟨P, a4, 512, c4, 0, rfl, hid (Or.inl ⟨hbv'.out, hP'.out.symm, rfl, rfl, ?_, tt7.out.five (rb_five z7.out _ _)⟩), rbox_set B7.out⟩
      rw [hD'.out]
      exact rd_set (rd_set rr7.out (rd_ne rr7.out (by omega) z7.out)) (rd_ne rr7.out (by omega) z7.out)

set_option maxHeartbeats 400000 in
theorem rrrec_short (ao : Option Addr) (n cap : Nat) (k : Int) (w : World) (hn : n < 640) :
    Calls Tryd.prog 24 #[.slice ao n cap, .int .u64 k] w fun e w' => e = .returned (.tuple #[.agg #[.int .i64 0, .slice none 0 0], .int .i64 8]) ∧ Below w.heap.size w w' := by
  have hge : (n : Int) < 640 := by omega
  go_enter Tryd.func24, Tryd.ntmps24
  go_wp2
  (try simp only [Exit.inBlock, Exit.then])
  refine bodyPost_ret (ret_rec rfl agg35 size35 rfl (RB.new 35 w 0 none 0 0)) rfl ?_
  exact ⟨rfl, Below.alloc (Below.refl _ _) (Nat.le_refl _) _⟩

theorem rD_length (xs : List Nat) (h : 640 ≤ xs.length) : (rD xs).length = 512 := by
  unfold rD; simp; omega

theorem rrrec_all (ao : Option Addr) (n cap : Nat) (xs : List Nat) (k : Nat) (w : World) (h : Rd w ao n cap xs) (hx : ∀ x ∈ xs, x < 256) (hn2 : n ≤ 140737488355328) :
    Calls Tryd.prog 24 #[.slice ao n cap, .int .u64 (k : Int)] w fun e w' => ∃ (a1 : Option Addr) (c1 : Nat), e = .returned (.tuple #[.agg #[.int .i64 ((rdR xs k).1.1 : Int), .slice a1 (rdR xs k).1.2.length c1], .int .i64 (rdR xs k).2]) ∧
      Rd w' a1 (rdR xs k).1.2.length c1 (rdR xs k).1.2 ∧ T5 w' a1 ∧ Below w.heap.size w w' := by
  have hl := h.1
  by_cases hn : n < 640
  · have e : rdR xs k = ((0, []), 8) := by unfold rdR; rw [if_pos (by omega)]
    rw [e]
    exact (rrrec_short ao n cap k w hn).mono fun e w' ⟨he, hb⟩ => ⟨none, 0, he, Rd.nil _, T5.none _, hb⟩
  · obtain ⟨b0, o0, rfl, _⟩ := h.2.2.2 (by omega)
    refine (rrrec_any b0 o0 n cap xs k w h hx (by omega) hn2).mono fun e w' ⟨p, a1, n1, c1, er, he, hh, hb⟩ => ?_
    rw [he]
    rcases hh.out with ⟨h1, rfl, rfl, rfl, hr, ht⟩ | ⟨h1, rfl, rfl, rfl, rfl, rfl⟩
    · have e : rdR xs k = ((rP xs, rD xs), 0) := by unfold rdR; rw [if_neg (by omega), if_pos h1]
      rw [e]
      have hD := rD_length xs (by omega)
      simp only [hD]
      exact ⟨a1, c1, rfl, hr, ht, hb⟩
    · have e : rdR xs k = ((0, []), 9) := by unfold rdR; rw [if_neg (by omega), if_neg (by rw [h1]; simp)]
      rw [e]
      exact ⟨none, 0, rfl, Rd.nil _, T5.none _, hb⟩

end Go.Proofs.YtndlogjmnbgegaaDoor
