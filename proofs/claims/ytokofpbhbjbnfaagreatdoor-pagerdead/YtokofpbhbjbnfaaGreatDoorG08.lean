/- What ReadRecord returns; no statement of the seat is proved here. -/
import Derived.Test.YtokofpbhbjbnfaaGreatDoorG07
import Derived.Test.YtokofpbhbjbnfaaGreatDoorG06
namespace Go.Proofs.YtokofpbhbjbnfaaGreatDoor.Jrn
open Go.RowKit

def rP (xs : List Nat) : Nat := psum xs 4 false 4
def rD (xs : List Nat) : List Nat := (xs.drop 128).take 512
/-- Do these bytes begin with a record with that nonce? -/
def isRec (xs : List Nat) (n : Nat) : Bool := decide (xs.take 640 = recN (rP xs) n (rD xs)) && decide (1 ≤ rP xs) && decide (rP xs ≤ 4000)

theorem rP_take (xs : List Nat) : rP (xs.take 640) = rP xs := psum_take _ _ _ _ _ (by omega)
theorem rD_take (xs : List Nat) : rD (xs.take 640) = rD xs := by
  unfold rD
  rw [List.drop_take, List.take_take]
  rfl

theorem rec_whole (ys : List Nat) (n : Nat) (hl : ys.length = 640) (hx : ∀ x ∈ ys, x < 256) :
    ys = recN (rP ys) n (rD ys) ↔ (ys.drop 8).take 120 = List.replicate 120 0 ∧ psum (ys.drop 4) 4 false 4 = chkN (rP ys) n (rD ys) := by
  have hD : rD ys = ys.drop 128 := by
    unfold rD
    exact List.take_of_length_le (by simp; omega)
  have h4 : putN (rP ys) 4 false = ys.take 4 := put_psum4 _ hx (by omega)
  have e : ∀ a b, ys.take a ++ (ys.drop a).take b = ys.take (a + b) := fun a b => by rw [List.take_add]
  have hdb : ∀ x ∈ rD ys, x < 256 := by rw [hD]; exact drop_bytes hx 128
  constructor
  · intro h
    obtain ⟨P, hP⟩ : ∃ P, P = rP ys := ⟨_, rfl⟩
    obtain ⟨D, hDe⟩ : ∃ D, D = rD ys := ⟨_, rfl⟩
    rw [← hP, ← hDe] at h
    rw [← hP, ← hDe]
    rw [← hDe] at hdb
    have d4 : ys.drop 4 = putN (chkN P n D) 4 false ++ (List.replicate 120 0 ++ D) := by
      rw [h]
      unfold recN
      simp only [List.append_assoc]
      exact List.drop_left' (putN_length _ _ _)
    refine ⟨?_, ?_⟩
    · rw [show (8 : Nat) = 4 + 4 by rfl, ← cut3, d4, List.drop_left' (putN_length _ _ _)]
      exact List.take_left' (by simp)
    · rw [d4]
      exact psum_put4 _ (chkN_lt P n hdb) _
  · rintro ⟨h0, hs⟩
    unfold recN
    rw [h4, ← hs, put_psum4 _ (drop_bytes hx 4) (by simp; omega), ← h0, hD, e, e]
    exact (List.take_append_drop 128 ys).symm

theorem rec_bools (xs ys : List Nat) (n : Nat) (hys : ys = xs.take 640) (hl : 640 ≤ xs.length) (hx : ∀ x ∈ xs, x < 256) (P S R : Nat) (b1 b2 b3 : Bool) (hP : psum ys 4 false 4 = P) (hS : psum (ys.drop 4) 4 false 4 = S)
    (hR : chkN P n ((ys.drop 128).take 512) = R) (h1 : nil0 ((ys.drop 8).take 120) = b1) (h2 : rgood (P : Int) 512 = b2) (h3 : ((S : Int) == (R : Int)) = b3) : isRec xs n = (b1 && b2 && b3) := by
  have hyl : ys.length = 640 := by rw [hys]; simp; omega
  have hyx : ∀ x ∈ ys, x < 256 := by rw [hys]; exact take_bytes hx 640
  have hp : rP xs = P := by rw [← rP_take, ← hys]; exact hP
  have hd : rD xs = (ys.drop 128).take 512 := by rw [← rD_take, ← hys]; rfl
  have hw := rec_whole ys n hyl hyx
  have hp2 : rP ys = P := hP
  have hd2 : rD ys = (ys.drop 128).take 512 := rfl
  have l120 : ((ys.drop 8).take 120).length = 120 := by simp; omega
  unfold isRec
  rw [hp, hd, ← hys, Bool.eq_iff_iff]
  rw [hd2, hp2, hS, hR] at hw
  simp only [Bool.and_eq_true, decide_eq_true_eq, hw, ← h1, ← h2, ← h3, rgood_iff, nil0, l120, beq_iff_eq]
  have : zs 120 = List.replicate 120 0 := rfl
  rw [this]
  constructor
  · rintro ⟨⟨⟨a, b⟩, c⟩, d⟩
    exact ⟨⟨a, by omega, trivial⟩, by omega⟩
  · rintro ⟨⟨a, b⟩, c⟩
    exact ⟨⟨⟨a, by omega⟩, by omega⟩, by omega⟩

theorem agg32 (W : World) : (isAgg 153).run Tryz.prog W = .ok true W := by kernel_rfl
theorem size32 (W : World) : (Go.sizeOf 153).run Tryz.prog W = .ok 2 W := by kernel_rfl
theorem load_rec {t : TypeId} (ha : ∀ W, (isAgg t).run Tryz.prog W = .ok true W) (hs : ∀ W, (Go.sizeOf t).run Tryz.prog W = .ok 2 W) {W : World} {q : Nat} {p : Int} {ao : Option Addr} {n cap : Nat} (h : RB t W q p ao n cap) :
    (loadVar t ⟨q, 0, none⟩).run Tryz.prog W = .ok (.agg #[.int .i64 p, .slice ao n cap]) W := by
  obtain ⟨h0, h1, _⟩ := h.cells
  have hl := run_loadCells_list (P := Tryz.prog) W ⟨q, 0, none⟩ [.int .i64 p, .slice ao n cap] (by
    intro j v hj
    match j, hj with
    | 0, hj => simp at hj; subst hj; simpa [Addr.add] using h0
    | 1, hj => simp at hj; subst hj; simpa [Addr.add] using h1
    | j + 2, hj => simp at hj)
  simp at hl
  simp [loadVar, ha, hs, hl]

theorem ret_rec {fn : Func} {a u : Tmp} {t : TypeId} (h : fn.results = #[.cell a t, .tmp u]) (ha : ∀ W, (isAgg t).run Tryz.prog W = .ok true W) (hs : ∀ W, (Go.sizeOf t).run Tryz.prog W = .ok 2 W) {tmps : Array Value} {W : World} {q : Nat} {p : Int} {ao : Option Addr} {n cap : Nat}
    (hp : tmps.getD a undef = .pointer (some ⟨q, 0, none⟩)) (hb : RB t W q p ao n cap) : (results fn tmps).run Tryz.prog W = .ok (.tuple #[.agg #[.int .i64 p, .slice ao n cap], tmps.getD u undef]) W := by
  rw [results_cell_tmp h, hp]
  simp [asAddr, load_rec ha hs hb]

theorem RB.set {t : TypeId} {W : World} {q : Nat} {p : Int} {ao : Option Addr} {n cap : Nat} (h : RB t W q p ao n cap) (p' : Int) (ao' : Option Addr) (n' cap' : Nat) :
    RB t ((W.setCell ⟨q, 0, none⟩ (.int .i64 p')).setCell ⟨q, 1, none⟩ (.slice ao' n' cap')) q p' ao' n' cap' := by
  have h1 := heap_setCell_same W q 0 _ t (.int .i64 p') h
  have h2 := heap_setCell_same _ q 1 _ t (.slice ao' n' cap') h1
  unfold RB
  rw [h2]
  simp
theorem RB.set1 {t : TypeId} {W : World} {q : Nat} {p : Int} {ao : Option Addr} {n cap : Nat} (h : RB t W q p ao n cap) (ao' : Option Addr) (n' cap' : Nat) :
    RB t (W.setCell ⟨q, 1, none⟩ (.slice ao' n' cap')) q p ao' n' cap' := by
  have h2 := heap_setCell_same W q 1 _ t (.slice ao' n' cap') h
  unfold RB
  rw [h2]
  simp
theorem rbox_set {w W : World} {a b : Value} (h : Below w.heap.size w W) : Below w.heap.size w ((W.setCell ⟨w.heap.size, 0, none⟩ a).setCell ⟨w.heap.size, 1, none⟩ b) :=
  Below.setCell (Below.setCell h (Nat.le_refl _) _) (Nat.le_refl _) _

/-- Bytes that can be read lie in no box of a record. -/
theorem rd_ne {W : World} {ao : Option Addr} {n cap : Nat} {xs : List Nat} {t : TypeId} {q : Nat} {p : Int} {ao' : Option Addr} {n' cap' : Nat} (h : Rd W ao n cap xs) (hn : 0 < n) (hy : RB t W q p ao' n' cap') : ∀ b off, ao = some ⟨b, off, none⟩ → b ≠ q := by
  intro b off e
  subst e
  obtain ⟨b', off', e', hc⟩ := h.2.2.2 hn
  cases e'
  intro hbq
  subst hbq
  have h0 := hc 0 hn
  rw [World.cell?] at h0
  unfold RB at hy
  simp only [hy] at h0
  rcases Nat.lt_or_ge (off + 0) 2 with h2 | h2
  · rcases (show off + 0 = 0 ∨ off + 0 = 1 by omega) with h3 | h3 <;> rw [h3] at h0 <;> simp at h0
  · rw [Array.getElem?_eq_none (by simpa using h2)] at h0
    cases h0

set_option maxHeartbeats 400000 in
theorem rrec_short (ao : Option Addr) (n cap : Nat) (k : Int) (w : World) (hn : n < 640) :
    Calls Tryz.prog 107 #[.slice ao n cap, .int .u64 k] w fun e w' => e = .returned (.tuple #[.agg #[.int .i64 0, .slice none 0 0], .int .i64 8]) ∧ Below w.heap.size w w' := by
  have hge : (n : Int) < 640 := by omega
  go_enter Tryz.func107, Tryz.ntmps107
  go_wp2
  (try simp only [Exit.inBlock, Exit.then])
  refine bodyPost_ret (ret_rec rfl agg32 size32 rfl (RB.new 153 w 0 none 0 0)) rfl ?_
  exact ⟨rfl, Below.alloc (Below.refl _ _) (Nat.le_refl _) _⟩

set_option maxHeartbeats 4000000 in
theorem rrec_any (ao : Option Addr) (n cap : Nat) (xs : List Nat) (k : Nat) (w : World) (h : Rd w ao n cap xs) (hx : ∀ x ∈ xs, x < 256) (hn : 640 ≤ n) (hn2 : n ≤ 140737488355328) (hT : Tab w) :
    Calls Tryz.prog 107 #[.slice ao n cap, .int .u64 (k : Int)] w fun e w' => ∃ (p : Nat) (a1 : Option Addr) (n1 c1 : Nat) (er : Int), e = .returned (.tuple #[.agg #[.int .i64 (p : Int), .slice a1 n1 c1], .int .i64 er]) ∧
      Hid ((isRec xs k = true ∧ p = rP xs ∧ er = 0 ∧ n1 = 512 ∧ Rd w' a1 n1 c1 (rD xs)) ∨ (isRec xs k = false ∧ p = 0 ∧ er = 9 ∧ a1 = none ∧ n1 = 0 ∧ c1 = 0)) ∧ Below w.heap.size w w' := by
  have hT' := hid hT
  obtain ⟨b0, o0, rfl, _⟩ := h.2.2.2 (by omega)
  have hcap := h.2.1
  have hge : ¬ (n : Int) < 640 := by omega
  have hc1 : (640 : Int) ≤ (cap : Int) := by omega
  have rd := hid (rd_take h 640 (by omega) (by omega))
  obtain ⟨ys, hys⟩ : ∃ ys, ys = xs.take 640 := ⟨_, rfl⟩
  rw [← hys] at rd
  have hyl : ys.length = 640 := by rw [hys]; simp; have := h.1; omega
  have hyx := hid (by rw [hys]; exact take_bytes hx 640 : ∀ x ∈ ys, x < 256)
  have hyl' := hid hyl
  obtain ⟨P, hPv⟩ : ∃ P, psum ys 4 false 4 = P := ⟨_, rfl⟩
  obtain ⟨S, hSv⟩ : ∃ S, psum (ys.drop 4) 4 false 4 = S := ⟨_, rfl⟩
  obtain ⟨D, hDv⟩ : ∃ D, (ys.drop 128).take 512 = D := ⟨_, rfl⟩
  obtain ⟨R, hRv⟩ : ∃ R, chkN P k D = R := ⟨_, rfl⟩
  have hDb : ∀ x ∈ D, x < 256 := by rw [← hDv]; exact take_bytes (drop_bytes hyx.out 128) 512
  have hR : R < 4294967296 := by rw [← hRv]; exact chkN_lt P k hDb
  have hPl : P < 4294967296 := by rw [← hPv]; exact psum4_lt _ hyx.out (by omega)
  have hwr : IntKind.u64.wrap (R : Int) = (R : Int) := by rw [IntKind.wrap_u64]; omega
  obtain ⟨b1, hb1v⟩ : ∃ b1, nil0 ((ys.drop 8).take 120) = b1 := ⟨_, rfl⟩
  obtain ⟨b2, hb2v⟩ : ∃ b2, rgood (P : Int) 512 = b2 := ⟨_, rfl⟩
  obtain ⟨b3, hb3v⟩ : ∃ b3, ((S : Int) == (R : Int)) = b3 := ⟨_, rfl⟩
  have hb3n : ((S : Int) != (R : Int)) = !b3 := by rw [← hb3v]; rfl
  have hall := hid (rec_bools xs ys k hys (by have := h.1; omega) hx P S R b1 b2 b3 hPv hSv (by rw [hDv]; exact hRv) hb1v hb2v hb3v)
  have hnum : Hid (rP xs = P ∧ rD xs = D) := hid ⟨by rw [← rP_take, ← hys]; exact hPv, by rw [← rD_take, ← hys]; exact hDv⟩
  have cg := hid fun ao cap => rgood_any (P : Int) ao 512 cap
  rw [hb2v] at cg
  have hgood := hid (show b2 = true → P ≤ 4000 ∧ 1 ≤ P from fun e => by rw [e] at hb2v; have := (rgood_iff _ _).1 hb2v; omega)
  have cP := fun (p : Nat) W (hs : SrcAt W p ys) => num_k p ys 4 false W hs hyx.out (by omega) (by omega) (by omega)
  have cS := fun (p : Nat) W (hs : SrcAt W p (ys.drop 4)) => num_k p (ys.drop 4) 4 false W hs (drop_bytes hyx.out 4) (by omega) (by omega) (by simp; omega)
  simp only [cut3, Nat.reduceAdd, hPv, hSv] at cP cS
  have cP' := hid cP
  have cS' := hid cS
  have t1 : Hid True := hid trivial
  have t2 : Hid True := hid trivial
  have hb1v' := hid hb1v
  have hDv' := hid hDv
  have hRv' := hid hRv
  have hDb' := hid hDb
  clear h hT hx hys hyl cP cS hPv hSv hRv hDv hb1v hb2v hDb
  go_enter Tryz.func107, Tryz.ntmps107
  go_upto_region 8 with (first
    | (go_at_call 131; refine (read_ok _ 640 cap ys _ (rd.out.keep (Below.alloc (Below.refl _ _) (Nat.le_refl _) _)) (by omega)).mono ?_; rintro e w1 ⟨p, rfl, hp1, hs1, hb1⟩; have z1 := hid ((RB.new 153 w 0 none 0 0).keep hb1); have B1 := hid (gt (Below.alloc (Below.refl _ _) (Nat.le_refl _) _) hb1); replace hp1 : w.heap.size < p := (by simp at hp1; omega); replace hs1 := hid hs1; clear hb1 rd)
    | (go_at_call 132; clear t1; refine (cP'.out p _ hs1.out).mono ?_; rintro e w2 ⟨rfl, hs2, hg2⟩; have z2 := hid (z1.out.grown hg2 (by omega)); have B2 := hid (grow_keep B1.out hg2 (by omega)); replace hs2 := hid hs2; clear hg2)
    | (go_at_call 132; clear t2; refine (cS'.out p _ (hs2.out.keep (Below.alloc (Below.refl _ _) (Nat.le_refl _) _))).mono ?_; rintro e w3 ⟨rfl, hs3, hg3⟩; have A2 : Below w2.heap.size w2 (w2.alloc (.cells #[.int .i64 (P : Int), .slice none 0 0] 153)) := Below.alloc (Below.refl _ _) (Nat.le_refl _) _; have hqp : w2.heap.size ≠ p := (by obtain ⟨_, _, _, _, hp5, _⟩ := hs2.out; have := lt_of_block hp5; omega); have hqz : w2.heap.size ≠ w.heap.size := (by have := z2.out.lt; omega); have hqw : w.heap.size ≤ w2.heap.size := B2.out.size; have z3 := hid ((z2.out.keep A2).grown hg3 (by omega)); have y3 := hid ((RB.new 153 w2 (P : Int) none 0 0).grown hg3 hqp); have B3 := hid (grow_keep (gt B2.out A2) hg3 (by omega)); replace hs3 := hid hs3; clear hg3 A2 z2 hs2 B2 z1 hs1 B1; generalize w2.heap.size = q at *)
    | (go_at_call 133; refine (bytes_ok p (ys.drop 8) 120 _ hs3.out (by simp; have := hyl'.out; omega) (by omega)).mono ?_; rintro e w4 ⟨ao4, c4, rfl, r4, hs4, hg4⟩; have z4 := hid (z3.out.grown hg4 (by omega)); have y4 := hid (y3.out.grown hg4 hqp); have B4 := hid (grow_keep B3.out hg4 (by omega)); rw [cut3] at hs4; replace hs4 := hid hs4; replace r4 := hid r4; clear hg4 z3 y3 B3 hs3)
    | (go_at_call 135; refine (noughts_any ao4 120 c4 _ _ r4.out (by omega) (by omega)).mono ?_; rw [hb1v'.out]; rintro e w5 ⟨rfl, hb5⟩; have z5 := hid (z4.out.keep hb5); have y5 := hid (y4.out.keep hb5); have B5 := hid (gt B4.out hb5); have hs5 : Hid (SrcAt w5 p (ys.drop 128)) := hid (hs4.out.keep hb5); clear hb5 z4 y4 B4 hs4 r4))
  go_upto_region 9 with (go_at_call 133; refine (bytes_ok p (ys.drop 128) 512 _ hs5.out (by simp; have := hyl'.out; omega) (by omega)).mono ?_; rw [hDv'.out]; rintro e w6 ⟨ao6, c6, rfl, r6, hs6, hg6⟩; have z6 := hid (z5.out.grown hg6 (by omega)); have y6 := hid (y5.out.grown hg6 hqp); have B6 := hid (grow_keep B5.out hg6 (by omega)); replace r6 := hid r6; obtain ⟨a0, a1, f0, f1⟩ := y6.out.cells; clear hg6 hs6 z5 y5 B5 hs5)
  obtain ⟨W7, hW7⟩ : ∃ W7, W7 = w6.setCell ⟨q, 1, none⟩ (.slice ao6 512 c6) := ⟨_, rfl⟩
  rw [← hW7]
  have z7 : Hid (RB 153 W7 w.heap.size 0 none 0 0) := hid (by rw [hW7]; exact z6.out.grown (grow_set _ _ _ _) (by omega))
  have y7 : Hid (RB 153 W7 q (P : Int) ao6 512 c6) := hid (by rw [hW7]; exact y6.out.set1 _ _ _)
  have B7 : Hid (Below w.heap.size w W7) := hid (by rw [hW7]; exact Below.setCell B6.out hqw _)
  have r7 : Hid (Rd W7 ao6 512 c6 D) := hid (by
    rw [hW7]
    exact rd_set r6.out (rd_ne r6.out (by omega) y6.out))
  clear hW7 z6 y6 B6 r6 a0 a1 f0 f1
  obtain ⟨a0, a1, _, _⟩ := y7.out.cells
  obtain ⟨q0, q1, f0, f1⟩ := z7.out.cells
  cases b1 with
  | false =>
    go_wp2
    (try simp only [Exit.inBlock, Exit.then])
    refine bodyPost_ret (ret_rec rfl agg32 size32 rfl (RB.set z7.out _ _ _ _)) rfl ?_
    exact ⟨0, none, 0, 0, 9, rfl, hid (Or.inr ⟨by rw [hall.out]; simp, rfl, rfl, rfl, rfl, rfl⟩), rbox_set B7.out⟩
  | true =>
    cases b2 with
    | false =>
      go_wp2_with (go_at_call 138; refine (cg.out _ _ _).mono ?_; rintro e w8 ⟨rfl, hb8⟩; clear a0 a1 q0 q1 f0 f1; have z8 := hid (z7.out.keep hb8); have B8 := hid (gt B7.out hb8); obtain ⟨q0, q1, f0, f1⟩ := z8.out.cells)
      (try simp only [Exit.inBlock, Exit.then])
      refine bodyPost_ret (ret_rec rfl agg32 size32 rfl (RB.set z8.out _ _ _ _)) rfl ?_
      exact ⟨0, none, 0, 0, 9, rfl, hid (Or.inr ⟨by rw [hall.out]; simp, rfl, rfl, rfl, rfl, rfl⟩), rbox_set B8.out⟩
    | true =>
      have hPP := hgood.out rfl
      cases b3 with
      | false =>
        simp only [Bool.not_false] at hb3n
        go_wp2_with (first
          | (go_at_call 138; refine (cg.out _ _ _).mono ?_; rintro e w8 ⟨rfl, hb8⟩; clear a0 a1 q0 q1 f0 f1; have z8 := hid (z7.out.keep hb8); have y8 := hid (y7.out.keep hb8); have r8 := hid (r7.out.keep hb8); have B8 := hid (gt B7.out hb8); obtain ⟨a0, a1, _, _⟩ := y8.out.cells)
          | (go_at_call 139; refine (check_any P k ao6 512 c6 D _ (hT'.out.keep B8.out) r8.out hDb'.out (by omega) hPP.1).mono ?_; rw [hRv'.out]; rintro e w9 ⟨rfl, hb9⟩; clear a0 a1; have z9 := hid (z8.out.keep hb9); have B9 := hid (gt B8.out hb9); obtain ⟨q0, q1, f0, f1⟩ := z9.out.cells))
        (try simp only [Exit.inBlock, Exit.then])
        refine bodyPost_ret (ret_rec rfl agg32 size32 rfl (RB.set z9.out _ _ _ _)) rfl ?_
        exact ⟨0, none, 0, 0, 9, rfl, hid (Or.inr ⟨by rw [hall.out]; simp, rfl, rfl, rfl, rfl, rfl⟩), rbox_set B9.out⟩
      | true =>
        simp only [Bool.not_true] at hb3n
        go_wp2_with (first
          | (go_at_call 138; refine (cg.out _ _ _).mono ?_; rintro e w8 ⟨rfl, hb8⟩; clear a0 a1 q0 q1 f0 f1; have z8 := hid (z7.out.keep hb8); have y8 := hid (y7.out.keep hb8); have r8 := hid (r7.out.keep hb8); have B8 := hid (gt B7.out hb8); obtain ⟨a0, a1, _, _⟩ := y8.out.cells)
          | (go_at_call 139; refine (check_any P k ao6 512 c6 D _ (hT'.out.keep B8.out) r8.out hDb'.out (by omega) hPP.1).mono ?_; rw [hRv'.out]; rintro e w9 ⟨rfl, hb9⟩; clear a0 a1; have z9 := hid (z8.out.keep hb9); have y9 := hid (y8.out.keep hb9); have r9 := hid (r8.out.keep hb9); have B9 := hid (gt B8.out hb9); obtain ⟨q0, q1, f0, f1⟩ := z9.out.cells; obtain ⟨a0, a1, _, _⟩ := y9.out.cells))
        (try simp only [Exit.inBlock, Exit.then])
        refine bodyPost_ret (ret_rec rfl agg32 size32 rfl (RB.set z9.out _ _ _ _)) rfl ?_
        obtain ⟨e1, e2⟩ := hnum.out
        refine ⟨P, ao6, 512, c6, 0, rfl, hid (Or.inl ⟨by rw [hall.out]; simp, e1.symm, rfl, rfl, ?_⟩), rbox_set B9.out⟩
        rw [e2]
        exact rd_set (rd_set r9.out (rd_ne r9.out (by omega) z9.out)) (rd_ne r9.out (by omega) z9.out)

/-- What ReadRecord answers: the page, the data, the error. -/
def rdR (xs : List Nat) (n : Nat) : (Nat × List Nat) × Int := if xs.length < 640 then ((0, []), 8) else if isRec xs n then ((rP xs, rD xs), 0) else ((0, []), 9)

theorem rrec_all (ao : Option Addr) (n cap : Nat) (xs : List Nat) (k : Nat) (w : World) (h : Rd w ao n cap xs) (hx : ∀ x ∈ xs, x < 256) (hn2 : n ≤ 140737488355328) (hT : Tab w) :
    Calls Tryz.prog 107 #[.slice ao n cap, .int .u64 (k : Int)] w fun e w' => ∃ (a1 : Option Addr) (c1 : Nat), e = .returned (.tuple #[.agg #[.int .i64 ((rdR xs k).1.1 : Int), .slice a1 (rdR xs k).1.2.length c1], .int .i64 (rdR xs k).2]) ∧
      Rd w' a1 (rdR xs k).1.2.length c1 (rdR xs k).1.2 ∧ Below w.heap.size w w' := by
  have hl := h.1
  by_cases hn : n < 640
  · have e : rdR xs k = ((0, []), 8) := by unfold rdR; rw [if_pos (by omega)]
    rw [e]
    exact (rrec_short ao n cap k w hn).mono fun e w' ⟨he, hb⟩ => ⟨none, 0, he, Rd.nil _, hb⟩
  · refine (rrec_any ao n cap xs k w h hx (by omega) hn2 hT).mono fun e w' ⟨p, a1, n1, c1, er, he, hh, hb⟩ => ?_
    rcases hh.out with ⟨h1, rfl, rfl, rfl, r1⟩ | ⟨h1, rfl, rfl, rfl, rfl, rfl⟩
    · have e : rdR xs k = ((rP xs, rD xs), 0) := by unfold rdR; rw [if_neg (by omega), if_pos h1]
      have hd : (rD xs).length = 512 := r1.1
      rw [e]
      simp only [hd]
      exact ⟨a1, c1, he, r1, hb⟩
    · have e : rdR xs k = ((0, []), 9) := by unfold rdR; rw [if_neg (by omega), if_neg (by rw [h1]; simp)]
      rw [e]
      exact ⟨none, 0, he, Rd.nil _, hb⟩

end Go.Proofs.YtokofpbhbjbnfaaGreatDoor.Jrn
