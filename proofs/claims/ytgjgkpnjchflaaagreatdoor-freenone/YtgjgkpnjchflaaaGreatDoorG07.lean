/- What ReadHead returns of few bytes, Hot, and HeadBytes in one form; no statement of the seat is proved here. -/
import Derived.Test.YtgjgkpnjchflaaaGreatDoorG06
import Derived.Test.YtgjgkpnjchflaaaGreatDoorG04
import Derived.Deep.RegionLaw
import Derived.Deep.DeepCutAuto
namespace Go.Proofs.YtgjgkpnjchflaaaGreatDoor.Jrn
open Go.RowKit

set_option maxHeartbeats 400000 in
theorem rhead_short (ao : Option Addr) (n cap : Nat) (w : World) (hn : n < 128) :
    Calls Tryz.prog 105 #[.slice ao n cap] w fun e w' => e = .returned (.tuple #[.agg #[.int .i64 0, .int .i64 0, .int .u64 0], .int .i64 8]) ∧ Below w.heap.size w w' := by
  have hge : (n : Int) < 128 := by omega
  go_enter Tryz.func105, Tryz.ntmps105
  go_wp2
  (try simp only [Exit.inBlock, Exit.then])
  refine bodyPost_ret (ret_head rfl agg24 size24 rfl (HB.new 140 w 0 0 0)) rfl ?_
  exact ⟨rfl, Below.alloc (Below.refl _ _) (Nat.le_refl _) _⟩

def hotN (xs : List Nat) : Bool := decide (128 ≤ xs.length) && isHead xs

/-- The three numbers and the error that a head's bytes are read as. -/
def rdH (xs : List Nat) : (Nat × Nat × Nat) × Int := if xs.length < 128 then ((0, 0, 0), 8) else if isHead xs then ((hC xs, hP xs, hN xs), 0) else ((0, 0, 0), 9)

theorem rdH_err (xs : List Nat) : (rdH xs).2 = 0 ↔ hotN xs = true := by
  unfold rdH hotN
  split
  · simp; omega
  · split <;> simp [*] <;> omega

theorem rhead_all (ao : Option Addr) (n cap : Nat) (xs : List Nat) (w : World) (h : Rd w ao n cap xs) (hx : ∀ x ∈ xs, x < 256) (hn2 : n ≤ 140737488355328) (hT : Tab w) :
    Calls Tryz.prog 105 #[.slice ao n cap] w fun e w' => e = .returned (.tuple #[.agg #[.int .i64 ((rdH xs).1.1 : Int), .int .i64 ((rdH xs).1.2.1 : Int), .int .u64 ((rdH xs).1.2.2 : Int)], .int .i64 (rdH xs).2]) ∧ Below w.heap.size w w' := by
  have hl := h.1
  by_cases hn : n < 128
  · have e : rdH xs = ((0, 0, 0), 8) := by unfold rdH; rw [if_pos (by omega)]
    rw [e]
    exact rhead_short ao n cap w hn
  · refine (rhead_any ao n cap xs w h hx (by omega) hn2 hT).mono fun e w' ⟨c, p, m, er, he, hh, hb⟩ => ⟨?_, hb⟩
    rw [he]
    rcases hh.out with ⟨h1, rfl, rfl, rfl, rfl⟩ | ⟨h1, rfl, rfl, rfl, rfl⟩
    · have e : rdH xs = ((hC xs, hP xs, hN xs), 0) := by unfold rdH; rw [if_neg (by omega), if_pos h1]
      rw [e]
    · have e : rdH xs = ((0, 0, 0), 9) := by unfold rdH; rw [if_neg (by omega), if_neg (by rw [h1]; simp)]
      rw [e]

set_option maxHeartbeats 400000 in
theorem hot_any (ao : Option Addr) (n cap : Nat) (xs : List Nat) (w : World) (h : Rd w ao n cap xs) (hx : ∀ x ∈ xs, x < 256) (hn2 : n ≤ 140737488355328) (hT : Tab w) :
    Calls Tryz.prog 79 #[.slice ao n cap] w fun e w' => e = .returned (.bool (hotN xs)) ∧ Below w.heap.size w w' := by
  have c := hid (rhead_all ao n cap xs w h hx hn2 hT)
  have he := rdH_err xs
  generalize rdH xs = r at *
  obtain ⟨⟨c1, p1, n1⟩, er⟩ := r
  simp only at c he
  have hb : (er == 0) = hotN xs := by rw [Bool.eq_iff_iff, beq_iff_eq]; exact he
  generalize hotN xs = b at *
  clear he h hx hT
  go_enter Tryz.func79, Tryz.ntmps79
  go_wp2_with (go_at_call 105; refine c.out.mono ?_; rintro e w1 ⟨rfl, hb1⟩)
  go_ret
  exact ⟨rfl, Below.alloc hb1 hb1.size _⟩

theorem hC_head (c p n : Nat) (wh : Bool) (hc : c < 4294967296) : hC (headN c p n wh) = c := by
  unfold hC headN hd26 hd22
  simp only [List.append_assoc]
  rw [List.drop_left' (by rfl)]
  exact psum_put4 c hc _
theorem hP_head (c p n : Nat) (wh : Bool) (hp : p < 4294967296) : hP (headN c p n wh) = p := by
  unfold hP headN hd26 hd22
  simp only [List.append_assoc]
  rw [show (10 : Nat) = 6 + 4 by rfl, ← cut3, List.drop_left' (by rfl), List.drop_left' (putN_length _ _ _)]
  exact psum_put4 p hp _
theorem hN_head (c p n : Nat) (wh : Bool) (hn : n < 18446744073709551616) : hN (headN c p n wh) = n := by
  unfold hN headN hd26 hd22
  simp only [List.append_assoc]
  rw [show (14 : Nat) = 6 + 4 + 4 by rfl, ← cut3, ← cut3, List.drop_left' (by rfl), List.drop_left' (putN_length _ _ _), List.drop_left' (putN_length _ _ _)]
  exact psum_put8 n hn _

theorem isHead_app (c p n : Nat) (hc : c ≤ 4000) (hp : p ≤ 4000) (hn : n < 18446744073709551616) (r : List Nat) : isHead (headN c p n true ++ r) = true ∧ hC (headN c p n true ++ r) = c ∧ hP (headN c p n true ++ r) = p ∧ hN (headN c p n true ++ r) = n := by
  have e : (headN c p n true ++ r).take 128 = headN c p n true := List.take_left' (headN_length _ _ _ _)
  have h1 : hC (headN c p n true ++ r) = c := by rw [← hC_take, e]; exact hC_head _ _ _ _ (by omega)
  have h2 : hP (headN c p n true ++ r) = p := by rw [← hP_take, e]; exact hP_head _ _ _ _ (by omega)
  have h3 : hN (headN c p n true ++ r) = n := by rw [← hN_take, e]; exact hN_head _ _ _ _ hn
  refine ⟨?_, h1, h2, h3⟩
  unfold isHead
  rw [h1, h2, h3, e]
  simp [hc, hp]

theorem hot_head (c p n : Nat) (hc : c ≤ 4000) (hp : p ≤ 4000) (hn : n < 18446744073709551616) (r : List Nat) : hotN (headN c p n true ++ r) = true := by
  unfold hotN
  rw [(isHead_app c p n hc hp hn r).1]
  simp [headN_length]

theorem head_last (c p n : Nat) (wh : Bool) : (headN c p n wh).getD 127 0 = if wh then 165 else 0 := by
  unfold headN
  simp [List.getD, hd26_length]

theorem not_hot (xs : List Nat) (h : xs.getD 127 0 = 0) : hotN xs = false := by
  rw [Bool.eq_false_iff]
  intro hh
  unfold hotN isHead at hh
  simp only [Bool.and_eq_true, decide_eq_true_eq] at hh
  have h2 := congrArg (fun l : List Nat => l.getD 127 0) hh.2.1.1
  simp only [head_last, if_true] at h2
  simp [List.getD] at h2 h
  omega

end Go.Proofs.YtgjgkpnjchflaaaGreatDoor.Jrn

/- What check and RecordBytes return; no statement of the seat is proved here. -/
namespace Go.Proofs.YtgjgkpnjchflaaaGreatDoor.Jrn
open Go.RowKit

/-- A box with a record in it. -/
def RB (t : TypeId) (W : World) (q : Nat) (p : Int) (ao : Option Addr) (n cap : Nat) : Prop := W.heap[q]? = some (.cells #[.int .i64 p, .slice ao n cap] t (0, 0))
theorem RB.cells {t : TypeId} {W : World} {q : Nat} {p : Int} {ao : Option Addr} {n cap : Nat} (h : RB t W q p ao n cap) :
    W.cell? ⟨q, 0, none⟩ = some (.int .i64 p) ∧ W.cell? ⟨q, 1, none⟩ = some (.slice ao n cap) ∧ W.frozen? ⟨q, 0, none⟩ = false ∧ W.frozen? ⟨q, 1, none⟩ = false := by
  unfold RB at h
  simp [World.cell?, World.frozen?, h]
theorem RB.lt {t : TypeId} {W : World} {q : Nat} {p : Int} {ao : Option Addr} {n cap : Nat} (h : RB t W q p ao n cap) : q < W.heap.size := lt_of_block h
theorem RB.keep {t : TypeId} {W W' : World} {q : Nat} {p : Int} {ao : Option Addr} {n cap : Nat} (h : RB t W q p ao n cap) (hb : Below W.heap.size W W') : RB t W' q p ao n cap := by
  unfold RB; rw [hb.block q h.lt]; exact h
theorem RB.under {t : TypeId} {W W' : World} {q B : Nat} {p : Int} {ao : Option Addr} {n cap : Nat} (h : RB t W q p ao n cap) (hb : Below B W W') (hq : q < B) : RB t W' q p ao n cap := by
  unfold RB; rw [hb.block q hq]; exact h
theorem RB.new (t : TypeId) (w : World) (p : Int) (ao : Option Addr) (n cap : Nat) : RB t (w.alloc (.cells #[.int .i64 p, .slice ao n cap] t)) w.heap.size p ao n cap := heap_alloc_new w _
theorem RB.grown {t : TypeId} {W W' : World} {q r : Nat} {p : Int} {ao : Option Addr} {n cap : Nat} (h : RB t W q p ao n cap) (k : W.grownBy W' (some r)) (hne : q ≠ r) : RB t W' q p ao n cap := by
  unfold RB; rw [k.block q h.lt (by simpa using hne)]; exact h

theorem put4' (m : Nat) (v : Nat) (w : World) (hm : m = 4) :
    Calls Tryz.prog 114 #[.slice none 0 0, .int .u64 (v : Int), .int .i64 4, .bool false] w fun e w' => ∃ g, e = .returned (.slice (some ⟨g, 0, none⟩) m m) ∧ w.heap.size ≤ g ∧ Rd w' (some ⟨g, 0, none⟩) m m (putN v 4 false) ∧ Below w.heap.size w w' := by
  have := put4 none 0 0 m [] v w (Rd.nil w) (by omega) (by omega)
  simpa using this

set_option maxHeartbeats 1000000 in
theorem check_any (p n : Nat) (ao : Option Addr) (k cap : Nat) (d : List Nat) (w : World) (hT : Tab w) (h : Rd w ao k cap d) (hd : ∀ x ∈ d, x < 256) (hk : k ≤ 100000) (hp : p ≤ 4000) :
    Calls Tryz.prog 154 #[.agg #[.int .i64 (p : Int), .slice ao k cap], .int .u64 (n : Int)] w fun e w' => e = .returned (.int .u32 ((chkN p n d : Nat) : Int)) ∧ Below w.heap.size w w' := by
  have hT' := hid hT
  have h' := hid h
  have hd' := hid hd
  have q0 := hid (RB.new 168 w (p : Int) ao k cap)
  obtain ⟨S, hS⟩ : ∃ S, S = addN 0 (rec12 p n) := ⟨_, rfl⟩
  have hSl : S < 4294967296 := by rw [hS]; exact addN_lt (by decide) (rec12_bytes _ _)
  obtain ⟨R, hR⟩ : ∃ R, R = chkN p n d := ⟨_, rfl⟩
  have hRS : Hid (addN S d = R) := hid (by rw [hR, hS]; unfold chkN; rw [addN_append])
  rw [← hR]
  have hS' := hid hS
  have t1 : Hid True := hid trivial
  clear hT h hd hS hR
  go_enter Tryz.func154, Tryz.ntmps154
  go_upto_region 3 with (first
    | (go_at_call 114; clear t1; refine (put4' 4 p _ rfl).mono ?_; rintro e w1 ⟨g1, rfl, hg1, r1, hb1⟩; have Q1 := hid (q0.out.keep hb1); have B1 := hid (gt (Below.alloc (Below.refl _ _) (Nat.le_refl _) _) hb1); have R1 := hid r1; clear hb1 r1)
    | (go_at_call 114; refine (put8 _ 4 4 12 _ n _ R1.out (by omega) (by omega)).mono ?_; rintro e w2 ⟨g2, rfl, hg2, r2, hb2⟩; have Q2 := hid (Q1.out.keep hb2); have B2 := hid (gt B1.out hb2); have R2 : Hid (Rd w2 (some ⟨g2, 0, none⟩) 12 12 (rec12 p n)) := hid r2; clear hb2 r2; obtain ⟨a0, a1, _, _⟩ := Q2.out.cells))
  go_region_with (first
    | (go_at_call 149; refine (of_any _ 12 12 _ _ (R2.out.keep (Below.refl _ _).drew) (rec12_bytes _ _) (by omega) (hT'.out.keep B2.out.drew)).mono ?_; rw [← hS'.out]; rintro e w3 ⟨rfl, hw3⟩; obtain rfl := hw3.symm)
    | (go_at_call 182; refine (add_any S ao k cap d _ hSl (h'.out.keep B2.out.drew) hd'.out (by omega) (hT'.out.keep B2.out.drew)).mono ?_; rw [hRS.out]; rintro e w4 ⟨rfl, hw4⟩; obtain rfl := hw4.symm))
  all_goals
    go_wp2
    go_ret
    exact ⟨rfl, B2.out.drew⟩

/-- 'copy' into a slice of the call's own, as a step of a region that draws its order. -/
theorem step_copy_in {ops : Array Oper} {o : Oper} {a : Act} {w : World} {K : Act → World → Prop} {Q : Exit → Act → World → Prop} {E : Prop} (hgd : o.guard = none) (d s : Operand)
    (ho : o.op = .call { callee := .builtin .copy, args := #[d, s], argTypes := #[79, 79] }) (B g N off : Nat) (ys : List Nat) (hown : w.ownsRow B 5 1 (.slice (some ⟨g, 0, none⟩) N N) N (bs ys))
    (dLen dCap : Nat) (hd : a.eval d = .slice (some ⟨g, off, none⟩) dLen dCap) (hdl : off + dLen = N) (so : Option Addr) (n c : Nat) (xs : List Nat) (hs : a.eval s = .slice so n c) (hr : Rd w so n c xs) (hn : n ≤ dLen) (h0 : 0 < n)
    (h : ∀ w', w'.ownsRow B 5 1 (.slice (some ⟨g, 0, none⟩) N N) N (bs (ys.take off ++ xs ++ ys.drop (off + n))) → Below B w w' → K (a.put o.dst (goInt n)) w') : if Region.wanted o (yielded ops a.tmps) = true then Oper.wp Tryz.prog o a w K Q else E := by
  have hw : Region.wanted o (yielded ops a.tmps) = true := by simp [Region.wanted, hgd]
  rw [if_pos hw]
  have hly : ys.length = N := by simpa [bs] using hown.1
  have hlx := hr.1
  rcases hown.2 with ⟨h', _⟩ | ⟨g', cap', cur, h', hb, hg, hnc, hm, hsz, ht⟩
  · cases h'
  simp only [Value.slice.injEq, Option.some.injEq, Addr.mk.injEq, and_true, true_and] at h'
  obtain ⟨rfl, rfl⟩ := h'
  have hcur : cur.toList = bs ys := by
    rw [← ht]
    exact (List.take_of_length_le (by simp [hsz])).symm
  have hbl : (bs xs).length = n := by simp [bs, hlx]
  obtain ⟨b, o2, rfl, hc⟩ := hr.2.2.2 h0
  have hrun := run_copy_row (P := Tryz.prog) w 79 79 o.type 5 g off dLen dCap ⟨b, o2, none⟩ n c cur 5 (bs xs) Tryz.underlying79 (by kernel_rfl) hg (by rw [hbl]; exact (Nat.min_eq_left hn).symm)
    (fun j v hv => by obtain ⟨hj, rfl⟩ := bs_get' xs j v hv; rw [Addr.add_lit]; exact hc j (by omega)) (by rw [hbl, hsz]; omega) (bs_one xs)
  have hsp : cur.toList.take off ++ bs xs ++ cur.toList.drop (off + (bs xs).length) = bs (ys.take off ++ xs ++ ys.drop (off + n)) := by
    rw [hcur, hbl, bs_append, bs_append]
    simp [bs]
  rw [hsp, hbl] at hrun
  have hZl : (ys.take off ++ xs ++ ys.drop (off + n)).length = N := by simp; omega
  generalize ys.take off ++ xs ++ ys.drop (off + n) = Z at *
  have h1 := h (w.setRow g (bs Z).toArray) ?_ ⟨rfl, rfl, rfl, by simp, fun k hk => setRow_other w g k _ (by omega)⟩
  · unfold Oper.wp
    simp [execOp, ho, resolve, invoke, builtin, hd, hs, hrun, Result.andThen]
    exact h1
  · refine own_of_row hb (setRow_heap w g cur _ 5 _ hg) ?_ (by unfold maxLen at hm; omega) ?_ ?_ (Nat.le_refl _)
    · simp [bs, hZl]
    · exact List.take_of_length_le (by simp [bs, hZl])
    · exact hZl

theorem rec_rows (p n : Nat) (d : List Nat) (K : Nat) (hK : K = 640) :
    ((List.replicate K 0).take 0 ++ (putN p 4 false ++ putN (chkN p n d) 4 false) ++ (List.replicate K 0).drop (0 + 8)).take 128 ++ d ++ ((List.replicate K 0).take 0 ++ (putN p 4 false ++ putN (chkN p n d) 4 false) ++ (List.replicate K 0).drop (0 + 8)).drop (128 + 512) = recN p n d := by
  obtain ⟨A, hA⟩ : ∃ A, A = putN p 4 false ++ putN (chkN p n d) 4 false := ⟨_, rfl⟩
  have h8 : A.length = 8 := by rw [hA]; simp [putN_length]
  unfold recN
  rw [← hA, List.take_zero, List.nil_append, List.drop_replicate]
  have e : (A ++ List.replicate (K - (0 + 8)) 0).drop (128 + 512) = [] := List.drop_eq_nil_of_le (by simp [h8]; omega)
  rw [e, List.append_nil, List.take_append, h8, List.take_of_length_le (by omega), List.take_replicate, hK]
  rfl

set_option maxHeartbeats 400000 in
theorem rec_no (p : Int) (n : Int) (ao : Option Addr) (k cap : Nat) (w : World) (h : rgood p k = false) :
    Calls Tryz.prog 163 #[.agg #[.int .i64 p, .slice ao k cap], .int .u64 n] w fun e w' => e = .returned (.slice none 0 0) ∧ Below w.heap.size w w' := by
  have cg := hid (rgood_any p ao k cap)
  rw [h] at cg
  clear h
  go_enter Tryz.func163, Tryz.ntmps163
  go_wp2_with (go_at_call 153; refine (cg.out _).mono ?_; rintro e w1 ⟨rfl, hb1⟩)
  go_ret
  exact ⟨rfl, gt (Below.alloc (Below.refl _ _) (Nat.le_refl _) _) hb1⟩

set_option maxHeartbeats 2000000 in
theorem rec_yes (p n : Nat) (ao : Option Addr) (cap : Nat) (d : List Nat) (w : World) (hT : Tab w) (h : Rd w ao 512 cap d) (hd : ∀ x ∈ d, x < 256) (hp : 1 ≤ p) (hp2 : p ≤ 4000) :
    Calls Tryz.prog 163 #[.agg #[.int .i64 (p : Int), .slice ao 512 cap], .int .u64 (n : Int)] w fun e w' => ∃ g, e = .returned (.slice (some ⟨g, 0, none⟩) 640 640) ∧ w'.ownsRow w.heap.size 5 1 (.slice (some ⟨g, 0, none⟩) 640 640) 640 (bs (recN p n d)) ∧ Below w.heap.size w w' := by
  have cg := hid (rgood_any (p : Int) ao 512 cap)
  rw [(rgood_iff (p : Int) 512).2 (by omega)] at cg
  have hT' := hid hT
  have h' := hid h
  have hd' := hid hd
  have q0 := hid (RB.new 168 w (p : Int) ao 512 cap)
  obtain ⟨K, hK⟩ : ∃ K : Nat, K = 640 := ⟨_, rfl⟩
  have hmk := make_lit 640 K (by omega) (by omega)
  have hK' := hid hK
  obtain ⟨S, hS⟩ : ∃ S, S = chkN p n d := ⟨_, rfl⟩
  have hSl : S < 4294967296 := by rw [hS]; exact chkN_lt p n hd
  have hS' := hid hS
  have t1 : Hid True := hid trivial
  clear hT h hd hK hS
  go_enter Tryz.func163, Tryz.ntmps163
  go_upto_region 7 with (first
    | (go_at_call 153; refine (cg.out _).mono ?_; rintro e w1 ⟨rfl, hb1⟩; have Q1 := hid (q0.out.keep hb1); have B1 := hid (gt (Below.alloc (Below.refl _ _) (Nat.le_refl _) _) hb1); clear hb1; obtain ⟨a0, a1, _, _⟩ := Q1.out.cells)
    | (go_at_call 114; clear t1; refine (put4' 4 p _ rfl).mono ?_; rintro e w2 ⟨g2, rfl, hg2, r2, hb2⟩; have Q2 := hid (Q1.out.keep hb2); have B2 := hid (gt B1.out hb2); have R2 := hid r2; clear hb2 r2 a0 a1; obtain ⟨a0, a1, _, _⟩ := Q2.out.cells)
    | (go_at_call 154; refine (check_any p n ao 512 cap d _ (hT'.out.keep B2.out) (h'.out.keep B2.out) hd'.out (by omega) hp2).mono ?_; rw [← hS'.out]; rintro e w3 ⟨rfl, hb3⟩; have Q3 := hid (Q2.out.keep hb3); have B3 := hid (gt B2.out hb3); have R3 := hid (R2.out.keep hb3); clear hb3 a0 a1)
    | (go_at_call 114; refine (put4 _ 4 4 8 _ S _ R3.out (by omega) (by omega)).mono ?_; rintro e w4 ⟨g4, rfl, hg4, r4, hb4⟩; have Q4 := hid (Q3.out.keep hb4); have B4 := hid (gt B3.out hb4); have R4 := hid r4; clear hb4 r4)
    | ((with_reducible refine here_op 23 ?_); refine wpList_copy_in rfl (.tmp 21) (.tmp 22) rfl w4.heap.size w4.heap.size K 0 (List.replicate K 0) (own_zeros w4 K (by have := hK'.out; omega)) K K rfl (by omega) (some ⟨g4, 0, none⟩) 8 8 _ rfl (R4.out.keep (Below.alloc (Below.refl _ _) (Nat.le_refl _) _)) (by have := hK'.out; omega) ?_; intro w5 ho5 hb5; have H5 := hid ((Below.alloc (Below.refl _ _) (Nat.le_refl _) _).trans hb5); have Q5 := hid (Q4.out.keep H5.out); have B5 := hid (gt B4.out H5.out); have O5 := hid ho5; have hg5 := B4.out.size; clear ho5 hb5 hmk))
  obtain ⟨a0, a1, _, _⟩ := Q5.out.cells
  have hK1 : (128 : Int) ≤ (K : Int) := by have := hK'.out; omega
  have hK2 : ¬ K = 128 := by have := hK'.out; omega
  have hlt5 : w4.heap.size < w5.heap.size := by
    have := (O5.out.lt w4.heap.size rfl).2
    exact this
  go_region_law (refine step_copy_in rfl (.tmp 25) (.tmp 27) rfl w4.heap.size w4.heap.size K 128 _ O5.out.drew (K - 128) (K - 128) (by simp [Act.eval]) (by have := hK'.out; omega) ao 512 cap d (by simp [Act.eval]) (h'.out.keep B5.out.drew) (by have := hK'.out; omega) (by omega) ?_; intro w6 ho6 hb6)
  rw [hS'.out, rec_rows p n d K hK'.out] at ho6
  have hK3 := hK'.out
  subst hK3
  have O6 := hid (own_base ho6 hg5)
  have B6 := hid (B5.out.drew.trans (hb6.mono hg5))
  clear ho6 hb6
  go_wp2
  go_ret
  exact ⟨_, rfl, O6.out, B6.out⟩

end Go.Proofs.YtgjgkpnjchflaaaGreatDoor.Jrn

/- What ReadRecord returns; no statement of the seat is proved here. -/
namespace Go.Proofs.YtgjgkpnjchflaaaGreatDoor.Jrn
open Go.RowKit

def rP (xs : List Nat) : Nat := psum xs 4 false 4
def rD (xs : List Nat) : List Nat := (xs.drop 128).take 512
/-- Do these bytes begin with a record with that nonce? -/
def isRec (xs : List Nat) (n : Nat) : Bool := decide (xs.take 640 = recN (rP xs) n (rD xs)) && decide (1 ≤ rP xs) && decide (rP xs ≤ 4000)

theorem rP_take (xs : List Nat) : rP (xs.take 640) = rP xs := psum_take _ _ _ _ _ (by omega)
theorem rD_take (xs : List Nat) : rD (xs.take 640) = rD xs := by
  unfold rD
  rw [List.drop_take, List.take_take]
  rfl

theorem rec_whole (ys : List Nat) (n : Nat) (hl : ys.length = 640) (hx : ∀ x ∈ ys, x < 256) :
    ys = recN (rP ys) n (rD ys) ↔ (ys.drop 8).take 120 = List.replicate 120 0 ∧ psum (ys.drop 4) 4 false 4 = chkN (rP ys) n (rD ys) := by
  have hD : rD ys = ys.drop 128 := by
    unfold rD
    exact List.take_of_length_le (by simp; omega)
  have h4 : putN (rP ys) 4 false = ys.take 4 := put_psum4 _ hx (by omega)
  have e : ∀ a b, ys.take a ++ (ys.drop a).take b = ys.take (a + b) := fun a b => by rw [List.take_add]
  have hdb : ∀ x ∈ rD ys, x < 256 := by rw [hD]; exact drop_bytes hx 128
  constructor
  · intro h
    obtain ⟨P, hP⟩ : ∃ P, P = rP ys := ⟨_, rfl⟩
    obtain ⟨D, hDe⟩ : ∃ D, D = rD ys := ⟨_, rfl⟩
    rw [← hP, ← hDe] at h
    rw [← hP, ← hDe]
    rw [← hDe] at hdb
    have d4 : ys.drop 4 = putN (chkN P n D) 4 false ++ (List.replicate 120 0 ++ D) := by
      rw [h]
      unfold recN
      simp only [List.append_assoc]
      exact List.drop_left' (putN_length _ _ _)
    refine ⟨?_, ?_⟩
    · rw [show (8 : Nat) = 4 + 4 by rfl, ← cut3, d4, List.drop_left' (putN_length _ _ _)]
      exact List.take_left' (by simp)
    · rw [d4]
      exact psum_put4 _ (chkN_lt P n hdb) _
  · rintro ⟨h0, hs⟩
    unfold recN
    rw [h4, ← hs, put_psum4 _ (drop_bytes hx 4) (by simp; omega), ← h0, hD, e, e]
    exact (List.take_append_drop 128 ys).symm

theorem rec_bools (xs ys : List Nat) (n : Nat) (hys : ys = xs.take 640) (hl : 640 ≤ xs.length) (hx : ∀ x ∈ xs, x < 256) (P S R : Nat) (b1 b2 b3 : Bool) (hP : psum ys 4 false 4 = P) (hS : psum (ys.drop 4) 4 false 4 = S)
    (hR : chkN P n ((ys.drop 128).take 512) = R) (h1 : nil0 ((ys.drop 8).take 120) = b1) (h2 : rgood (P : Int) 512 = b2) (h3 : ((S : Int) == (R : Int)) = b3) : isRec xs n = (b1 && b2 && b3) := by
  have hyl : ys.length = 640 := by rw [hys]; simp; omega
  have hyx : ∀ x ∈ ys, x < 256 := by rw [hys]; exact take_bytes hx 640
  have hp : rP xs = P := by rw [← rP_take, ← hys]; exact hP
  have hd : rD xs = (ys.drop 128).take 512 := by rw [← rD_take, ← hys]; rfl
  have hw := rec_whole ys n hyl hyx
  have hp2 : rP ys = P := hP
  have hd2 : rD ys = (ys.drop 128).take 512 := rfl
  have l120 : ((ys.drop 8).take 120).length = 120 := by simp; omega
  unfold isRec
  rw [hp, hd, ← hys, Bool.eq_iff_iff]
  rw [hd2, hp2, hS, hR] at hw
  simp only [Bool.and_eq_true, decide_eq_true_eq, hw, ← h1, ← h2, ← h3, rgood_iff, nil0, l120, beq_iff_eq]
  have : zs 120 = List.replicate 120 0 := rfl
  rw [this]
  constructor
  · rintro ⟨⟨⟨a, b⟩, c⟩, d⟩
    exact ⟨⟨a, by omega, trivial⟩, by omega⟩
  · rintro ⟨⟨a, b⟩, c⟩
    exact ⟨⟨⟨a, by omega⟩, by omega⟩, by omega⟩

theorem agg32 (W : World) : (isAgg 168).run Tryz.prog W = .ok true W := by kernel_rfl
theorem size32 (W : World) : (Go.sizeOf 168).run Tryz.prog W = .ok 2 W := by kernel_rfl
theorem load_rec {t : TypeId} (ha : ∀ W, (isAgg t).run Tryz.prog W = .ok true W) (hs : ∀ W, (Go.sizeOf t).run Tryz.prog W = .ok 2 W) {W : World} {q : Nat} {p : Int} {ao : Option Addr} {n cap : Nat} (h : RB t W q p ao n cap) :
    (loadVar t ⟨q, 0, none⟩).run Tryz.prog W = .ok (.agg #[.int .i64 p, .slice ao n cap]) W := by
  obtain ⟨h0, h1, _⟩ := h.cells
  have hl := run_loadCells_list (P := Tryz.prog) W ⟨q, 0, none⟩ [.int .i64 p, .slice ao n cap] (by
    intro j v hj
    match j, hj with
    | 0, hj => simp at hj; subst hj; simpa [Addr.add] using h0
    | 1, hj => simp at hj; subst hj; simpa [Addr.add] using h1
    | j + 2, hj => simp at hj)
  simp at hl
  simp [loadVar, ha, hs, hl]

theorem ret_rec {fn : Func} {a u : Tmp} {t : TypeId} (h : fn.results = #[.cell a t, .tmp u]) (ha : ∀ W, (isAgg t).run Tryz.prog W = .ok true W) (hs : ∀ W, (Go.sizeOf t).run Tryz.prog W = .ok 2 W) {tmps : Array Value} {W : World} {q : Nat} {p : Int} {ao : Option Addr} {n cap : Nat}
    (hp : tmps.getD a undef = .pointer (some ⟨q, 0, none⟩)) (hb : RB t W q p ao n cap) : (results fn tmps).run Tryz.prog W = .ok (.tuple #[.agg #[.int .i64 p, .slice ao n cap], tmps.getD u undef]) W := by
  rw [results_cell_tmp h, hp]
  simp [asAddr, load_rec ha hs hb]

theorem RB.set {t : TypeId} {W : World} {q : Nat} {p : Int} {ao : Option Addr} {n cap : Nat} (h : RB t W q p ao n cap) (p' : Int) (ao' : Option Addr) (n' cap' : Nat) :
    RB t ((W.setCell ⟨q, 0, none⟩ (.int .i64 p')).setCell ⟨q, 1, none⟩ (.slice ao' n' cap')) q p' ao' n' cap' := by
  have h1 := heap_setCell_same W q 0 _ t (.int .i64 p') h
  have h2 := heap_setCell_same _ q 1 _ t (.slice ao' n' cap') h1
  unfold RB
  rw [h2]
  simp
theorem RB.set1 {t : TypeId} {W : World} {q : Nat} {p : Int} {ao : Option Addr} {n cap : Nat} (h : RB t W q p ao n cap) (ao' : Option Addr) (n' cap' : Nat) :
    RB t (W.setCell ⟨q, 1, none⟩ (.slice ao' n' cap')) q p ao' n' cap' := by
  have h2 := heap_setCell_same W q 1 _ t (.slice ao' n' cap') h
  unfold RB
  rw [h2]
  simp
theorem rbox_set {w W : World} {a b : Value} (h : Below w.heap.size w W) : Below w.heap.size w ((W.setCell ⟨w.heap.size, 0, none⟩ a).setCell ⟨w.heap.size, 1, none⟩ b) :=
  Below.setCell (Below.setCell h (Nat.le_refl _) _) (Nat.le_refl _) _

/-- Bytes that can be read lie in no box of a record. -/
theorem rd_ne {W : World} {ao : Option Addr} {n cap : Nat} {xs : List Nat} {t : TypeId} {q : Nat} {p : Int} {ao' : Option Addr} {n' cap' : Nat} (h : Rd W ao n cap xs) (hn : 0 < n) (hy : RB t W q p ao' n' cap') : ∀ b off, ao = some ⟨b, off, none⟩ → b ≠ q := by
  intro b off e
  subst e
  obtain ⟨b', off', e', hc⟩ := h.2.2.2 hn
  cases e'
  intro hbq
  subst hbq
  have h0 := hc 0 hn
  rw [World.cell?] at h0
  unfold RB at hy
  simp only [hy] at h0
  rcases Nat.lt_or_ge (off + 0) 2 with h2 | h2
  · rcases (show off + 0 = 0 ∨ off + 0 = 1 by omega) with h3 | h3 <;> rw [h3] at h0 <;> simp at h0
  · rw [Array.getElem?_eq_none (by simpa using h2)] at h0
    cases h0

set_option maxHeartbeats 400000 in
theorem rrec_short (ao : Option Addr) (n cap : Nat) (k : Int) (w : World) (hn : n < 640) :
    Calls Tryz.prog 107 #[.slice ao n cap, .int .u64 k] w fun e w' => e = .returned (.tuple #[.agg #[.int .i64 0, .slice none 0 0], .int .i64 8]) ∧ Below w.heap.size w w' := by
  have hge : (n : Int) < 640 := by omega
  go_enter Tryz.func107, Tryz.ntmps107
  go_wp2
  (try simp only [Exit.inBlock, Exit.then])
  refine bodyPost_ret (ret_rec rfl agg32 size32 rfl (RB.new 168 w 0 none 0 0)) rfl ?_
  exact ⟨rfl, Below.alloc (Below.refl _ _) (Nat.le_refl _) _⟩

set_option maxHeartbeats 4000000 in
theorem rrec_any (ao : Option Addr) (n cap : Nat) (xs : List Nat) (k : Nat) (w : World) (h : Rd w ao n cap xs) (hx : ∀ x ∈ xs, x < 256) (hn : 640 ≤ n) (hn2 : n ≤ 140737488355328) (hT : Tab w) :
    Calls Tryz.prog 107 #[.slice ao n cap, .int .u64 (k : Int)] w fun e w' => ∃ (p : Nat) (a1 : Option Addr) (n1 c1 : Nat) (er : Int), e = .returned (.tuple #[.agg #[.int .i64 (p : Int), .slice a1 n1 c1], .int .i64 er]) ∧
      Hid ((isRec xs k = true ∧ p = rP xs ∧ er = 0 ∧ n1 = 512 ∧ Rd w' a1 n1 c1 (rD xs)) ∨ (isRec xs k = false ∧ p = 0 ∧ er = 9 ∧ a1 = none ∧ n1 = 0 ∧ c1 = 0)) ∧ Below w.heap.size w w' := by
  have hT' := hid hT
  obtain ⟨b0, o0, rfl, _⟩ := h.2.2.2 (by omega)
  have hcap := h.2.1
  have hge : ¬ (n : Int) < 640 := by omega
  have hc1 : (640 : Int) ≤ (cap : Int) := by omega
  have rd := hid (rd_take h 640 (by omega) (by omega))
  obtain ⟨ys, hys⟩ : ∃ ys, ys = xs.take 640 := ⟨_, rfl⟩
  rw [← hys] at rd
  have hyl : ys.length = 640 := by rw [hys]; simp; have := h.1; omega
  have hyx := hid (by rw [hys]; exact take_bytes hx 640 : ∀ x ∈ ys, x < 256)
  have hyl' := hid hyl
  obtain ⟨P, hPv⟩ : ∃ P, psum ys 4 false 4 = P := ⟨_, rfl⟩
  obtain ⟨S, hSv⟩ : ∃ S, psum (ys.drop 4) 4 false 4 = S := ⟨_, rfl⟩
  obtain ⟨D, hDv⟩ : ∃ D, (ys.drop 128).take 512 = D := ⟨_, rfl⟩
  obtain ⟨R, hRv⟩ : ∃ R, chkN P k D = R := ⟨_, rfl⟩
  have hDb : ∀ x ∈ D, x < 256 := by rw [← hDv]; exact take_bytes (drop_bytes hyx.out 128) 512
  have hR : R < 4294967296 := by rw [← hRv]; exact chkN_lt P k hDb
  have hPl : P < 4294967296 := by rw [← hPv]; exact psum4_lt _ hyx.out (by omega)
  have hwr : IntKind.u64.wrap (R : Int) = (R : Int) := by rw [IntKind.wrap_u64]; omega
  obtain ⟨b1, hb1v⟩ : ∃ b1, nil0 ((ys.drop 8).take 120) = b1 := ⟨_, rfl⟩
  obtain ⟨b2, hb2v⟩ : ∃ b2, rgood (P : Int) 512 = b2 := ⟨_, rfl⟩
  obtain ⟨b3, hb3v⟩ : ∃ b3, ((S : Int) == (R : Int)) = b3 := ⟨_, rfl⟩
  have hb3n : ((S : Int) != (R : Int)) = !b3 := by rw [← hb3v]; rfl
  have hall := hid (rec_bools xs ys k hys (by have := h.1; omega) hx P S R b1 b2 b3 hPv hSv (by rw [hDv]; exact hRv) hb1v hb2v hb3v)
  have hnum : Hid (rP xs = P ∧ rD xs = D) := hid ⟨by rw [← rP_take, ← hys]; exact hPv, by rw [← rD_take, ← hys]; exact hDv⟩
  have cg := hid fun ao cap => rgood_any (P : Int) ao 512 cap
  rw [hb2v] at cg
  have hgood := hid (show b2 = true → P ≤ 4000 ∧ 1 ≤ P from fun e => by rw [e] at hb2v; have := (rgood_iff _ _).1 hb2v; omega)
  have cP := fun (p : Nat) W (hs : SrcAt W p ys) => num_k p ys 4 false W hs hyx.out (by omega) (by omega) (by omega)
  have cS := fun (p : Nat) W (hs : SrcAt W p (ys.drop 4)) => num_k p (ys.drop 4) 4 false W hs (drop_bytes hyx.out 4) (by omega) (by omega) (by simp; omega)
  simp only [cut3, Nat.reduceAdd, hPv, hSv] at cP cS
  have cP' := hid cP
  have cS' := hid cS
  have t1 : Hid True := hid trivial
  have t2 : Hid True := hid trivial
  have hb1v' := hid hb1v
  have hDv' := hid hDv
  have hRv' := hid hRv
  have hDb' := hid hDb
  clear h hT hx hys hyl cP cS hPv hSv hRv hDv hb1v hb2v hDb
  go_enter Tryz.func107, Tryz.ntmps107
  go_upto_region 8 with (first
    | (go_at_call 146; refine (read_ok _ 640 cap ys _ (rd.out.keep (Below.alloc (Below.refl _ _) (Nat.le_refl _) _)) (by omega)).mono ?_; rintro e w1 ⟨p, rfl, hp1, hs1, hb1⟩; have z1 := hid ((RB.new 168 w 0 none 0 0).keep hb1); have B1 := hid (gt (Below.alloc (Below.refl _ _) (Nat.le_refl _) _) hb1); replace hp1 : w.heap.size < p := (by simp at hp1; omega); replace hs1 := hid hs1; clear hb1 rd)
    | (go_at_call 147; clear t1; refine (cP'.out p _ hs1.out).mono ?_; rintro e w2 ⟨rfl, hs2, hg2⟩; have z2 := hid (z1.out.grown hg2 (by omega)); have B2 := hid (grow_keep B1.out hg2 (by omega)); replace hs2 := hid hs2; clear hg2)
    | (go_at_call 147; clear t2; refine (cS'.out p _ (hs2.out.keep (Below.alloc (Below.refl _ _) (Nat.le_refl _) _))).mono ?_; rintro e w3 ⟨rfl, hs3, hg3⟩; have A2 : Below w2.heap.size w2 (w2.alloc (.cells #[.int .i64 (P : Int), .slice none 0 0] 168)) := Below.alloc (Below.refl _ _) (Nat.le_refl _) _; have hqp : w2.heap.size ≠ p := (by obtain ⟨_, _, _, _, hp5, _⟩ := hs2.out; have := lt_of_block hp5; omega); have hqz : w2.heap.size ≠ w.heap.size := (by have := z2.out.lt; omega); have hqw : w.heap.size ≤ w2.heap.size := B2.out.size; have z3 := hid ((z2.out.keep A2).grown hg3 (by omega)); have y3 := hid ((RB.new 168 w2 (P : Int) none 0 0).grown hg3 hqp); have B3 := hid (grow_keep (gt B2.out A2) hg3 (by omega)); replace hs3 := hid hs3; clear hg3 A2 z2 hs2 B2 z1 hs1 B1; generalize w2.heap.size = q at *)
    | (go_at_call 148; refine (bytes_ok p (ys.drop 8) 120 _ hs3.out (by simp; have := hyl'.out; omega) (by omega)).mono ?_; rintro e w4 ⟨ao4, c4, rfl, r4, hs4, hg4⟩; have z4 := hid (z3.out.grown hg4 (by omega)); have y4 := hid (y3.out.grown hg4 hqp); have B4 := hid (grow_keep B3.out hg4 (by omega)); rw [cut3] at hs4; replace hs4 := hid hs4; replace r4 := hid r4; clear hg4 z3 y3 B3 hs3)
    | (go_at_call 150; refine (noughts_any ao4 120 c4 _ _ r4.out (by omega) (by omega)).mono ?_; rw [hb1v'.out]; rintro e w5 ⟨rfl, hb5⟩; have z5 := hid (z4.out.keep hb5); have y5 := hid (y4.out.keep hb5); have B5 := hid (gt B4.out hb5); have hs5 : Hid (SrcAt w5 p (ys.drop 128)) := hid (hs4.out.keep hb5); clear hb5 z4 y4 B4 hs4 r4))
  go_upto_region 9 with (go_at_call 148; refine (bytes_ok p (ys.drop 128) 512 _ hs5.out (by simp; have := hyl'.out; omega) (by omega)).mono ?_; rw [hDv'.out]; rintro e w6 ⟨ao6, c6, rfl, r6, hs6, hg6⟩; have z6 := hid (z5.out.grown hg6 (by omega)); have y6 := hid (y5.out.grown hg6 hqp); have B6 := hid (grow_keep B5.out hg6 (by omega)); replace r6 := hid r6; obtain ⟨a0, a1, f0, f1⟩ := y6.out.cells; clear hg6 hs6 z5 y5 B5 hs5)
  obtain ⟨W7, hW7⟩ : ∃ W7, W7 = w6.setCell ⟨q, 1, none⟩ (.slice ao6 512 c6) := ⟨_, rfl⟩
  rw [← hW7]
  have z7 : Hid (RB 168 W7 w.heap.size 0 none 0 0) := hid (by rw [hW7]; exact z6.out.grown (grow_set _ _ _ _) (by omega))
  have y7 : Hid (RB 168 W7 q (P : Int) ao6 512 c6) := hid (by rw [hW7]; exact y6.out.set1 _ _ _)
  have B7 : Hid (Below w.heap.size w W7) := hid (by rw [hW7]; exact Below.setCell B6.out hqw _)
  have r7 : Hid (Rd W7 ao6 512 c6 D) := hid (by
    rw [hW7]
    exact rd_set r6.out (rd_ne r6.out (by omega) y6.out))
  clear hW7 z6 y6 B6 r6 a0 a1 f0 f1
  obtain ⟨a0, a1, _, _⟩ := y7.out.cells
  obtain ⟨q0, q1, f0, f1⟩ := z7.out.cells
  cases b1 with
  | false =>
    go_wp2
    (try simp only [Exit.inBlock, Exit.then])
    refine bodyPost_ret (ret_rec rfl agg32 size32 rfl (RB.set z7.out _ _ _ _)) rfl ?_
    exact ⟨0, none, 0, 0, 9, rfl, hid (Or.inr ⟨by rw [hall.out]; simp, rfl, rfl, rfl, rfl, rfl⟩), rbox_set B7.out⟩
  | true =>
    cases b2 with
    | false =>
      go_wp2_with (go_at_call 153; refine (cg.out _ _ _).mono ?_; rintro e w8 ⟨rfl, hb8⟩; clear a0 a1 q0 q1 f0 f1; have z8 := hid (z7.out.keep hb8); have B8 := hid (gt B7.out hb8); obtain ⟨q0, q1, f0, f1⟩ := z8.out.cells)
      (try simp only [Exit.inBlock, Exit.then])
      refine bodyPost_ret (ret_rec rfl agg32 size32 rfl (RB.set z8.out _ _ _ _)) rfl ?_
      exact ⟨0, none, 0, 0, 9, rfl, hid (Or.inr ⟨by rw [hall.out]; simp, rfl, rfl, rfl, rfl, rfl⟩), rbox_set B8.out⟩
    | true =>
      have hPP := hgood.out rfl
      cases b3 with
      | false =>
        simp only [Bool.not_false] at hb3n
        go_wp2_with (first
          | (go_at_call 153; refine (cg.out _ _ _).mono ?_; rintro e w8 ⟨rfl, hb8⟩; clear a0 a1 q0 q1 f0 f1; have z8 := hid (z7.out.keep hb8); have y8 := hid (y7.out.keep hb8); have r8 := hid (r7.out.keep hb8); have B8 := hid (gt B7.out hb8); obtain ⟨a0, a1, _, _⟩ := y8.out.cells)
          | (go_at_call 154; refine (check_any P k ao6 512 c6 D _ (hT'.out.keep B8.out) r8.out hDb'.out (by omega) hPP.1).mono ?_; rw [hRv'.out]; rintro e w9 ⟨rfl, hb9⟩; clear a0 a1; have z9 := hid (z8.out.keep hb9); have B9 := hid (gt B8.out hb9); obtain ⟨q0, q1, f0, f1⟩ := z9.out.cells))
        (try simp only [Exit.inBlock, Exit.then])
        refine bodyPost_ret (ret_rec rfl agg32 size32 rfl (RB.set z9.out _ _ _ _)) rfl ?_
        exact ⟨0, none, 0, 0, 9, rfl, hid (Or.inr ⟨by rw [hall.out]; simp, rfl, rfl, rfl, rfl, rfl⟩), rbox_set B9.out⟩
      | true =>
        simp only [Bool.not_true] at hb3n
        go_wp2_with (first
          | (go_at_call 153; refine (cg.out _ _ _).mono ?_; rintro e w8 ⟨rfl, hb8⟩; clear a0 a1 q0 q1 f0 f1; have z8 := hid (z7.out.keep hb8); have y8 := hid (y7.out.keep hb8); have r8 := hid (r7.out.keep hb8); have B8 := hid (gt B7.out hb8); obtain ⟨a0, a1, _, _⟩ := y8.out.cells)
          | (go_at_call 154; refine (check_any P k ao6 512 c6 D _ (hT'.out.keep B8.out) r8.out hDb'.out (by omega) hPP.1).mono ?_; rw [hRv'.out]; rintro e w9 ⟨rfl, hb9⟩; clear a0 a1; have z9 := hid (z8.out.keep hb9); have y9 := hid (y8.out.keep hb9); have r9 := hid (r8.out.keep hb9); have B9 := hid (gt B8.out hb9); obtain ⟨q0, q1, f0, f1⟩ := z9.out.cells; obtain ⟨a0, a1, _, _⟩ := y9.out.cells))
        (try simp only [Exit.inBlock, Exit.then])
        refine bodyPost_ret (ret_rec rfl agg32 size32 rfl (RB.set z9.out _ _ _ _)) rfl ?_
        obtain ⟨e1, e2⟩ := hnum.out
        refine ⟨P, ao6, 512, c6, 0, rfl, hid (Or.inl ⟨by rw [hall.out]; simp, e1.symm, rfl, rfl, ?_⟩), rbox_set B9.out⟩
        rw [e2]
        exact rd_set (rd_set r9.out (rd_ne r9.out (by omega) z9.out)) (rd_ne r9.out (by omega) z9.out)

/-- What ReadRecord answers: the page, the data, the error. -/
def rdR (xs : List Nat) (n : Nat) : (Nat × List Nat) × Int := if xs.length < 640 then ((0, []), 8) else if isRec xs n then ((rP xs, rD xs), 0) else ((0, []), 9)

theorem rrec_all (ao : Option Addr) (n cap : Nat) (xs : List Nat) (k : Nat) (w : World) (h : Rd w ao n cap xs) (hx : ∀ x ∈ xs, x < 256) (hn2 : n ≤ 140737488355328) (hT : Tab w) :
    Calls Tryz.prog 107 #[.slice ao n cap, .int .u64 (k : Int)] w fun e w' => ∃ (a1 : Option Addr) (c1 : Nat), e = .returned (.tuple #[.agg #[.int .i64 ((rdR xs k).1.1 : Int), .slice a1 (rdR xs k).1.2.length c1], .int .i64 (rdR xs k).2]) ∧
      Rd w' a1 (rdR xs k).1.2.length c1 (rdR xs k).1.2 ∧ Below w.heap.size w w' := by
  have hl := h.1
  by_cases hn : n < 640
  · have e : rdR xs k = ((0, []), 8) := by unfold rdR; rw [if_pos (by omega)]
    rw [e]
    exact (rrec_short ao n cap k w hn).mono fun e w' ⟨he, hb⟩ => ⟨none, 0, he, Rd.nil _, hb⟩
  · refine (rrec_any ao n cap xs k w h hx (by omega) hn2 hT).mono fun e w' ⟨p, a1, n1, c1, er, he, hh, hb⟩ => ?_
    rcases hh.out with ⟨h1, rfl, rfl, rfl, r1⟩ | ⟨h1, rfl, rfl, rfl, rfl, rfl⟩
    · have e : rdR xs k = ((rP xs, rD xs), 0) := by unfold rdR; rw [if_neg (by omega), if_pos h1]
      have hd : (rD xs).length = 512 := r1.1
      rw [e]
      simp only [hd]
      exact ⟨a1, c1, he, r1, hb⟩
    · have e : rdR xs k = ((0, []), 9) := by unfold rdR; rw [if_neg (by omega), if_neg (by rw [h1]; simp)]
      rw [e]
      exact ⟨none, 0, he, Rd.nil _, hb⟩

end Go.Proofs.YtgjgkpnjchflaaaGreatDoor.Jrn

/- Lists of records in memory, and what records makes of seeds; no statement of the seat is proved here. -/
namespace Go.Proofs.YtgjgkpnjchflaaaGreatDoor.Jrn
open Go.RowKit

/-- Records that can be read. -/
def Recs (W : World) (ao : Option Addr) (L : Nat) (P : Nat → Int) (D : Nat → List Nat) : Prop :=
  0 < L → ∃ b off, ao = some ⟨b, off, none⟩ ∧ ∀ i, i < L → ∃ a n c, W.cell? ⟨b, off + i * 2, none⟩ = some (.int .i64 (P i)) ∧ W.cell? ⟨b, off + i * 2 + 1, none⟩ = some (.slice a n c) ∧ Rd W a n c (D i)

theorem Recs.keep {W W' : World} {ao : Option Addr} {L : Nat} {P : Nat → Int} {D : Nat → List Nat} (h : Recs W ao L P D) (hb : Below W.heap.size W W') : Recs W' ao L P D := by
  intro hL
  obtain ⟨b, off, e, hc⟩ := h hL
  refine ⟨b, off, e, fun i hi => ?_⟩
  obtain ⟨a, n, c, h0, h1, h2⟩ := hc i hi
  exact ⟨a, n, c, keep_old hb h0, keep_old hb h1, h2.keep hb⟩

/-- The cells of records whose data are blocks of their own. -/
def recCells (P : Nat → Int) (D : Nat → List Nat) : Nat → List Nat → List Value
  | _, [] => []
  | i, g :: gs => .int .i64 (P i) :: .slice (some ⟨g, 0, none⟩) (D i).length (D i).length :: recCells P D (i + 1) gs

theorem recCells_length (P : Nat → Int) (D : Nat → List Nat) (gs : List Nat) : ∀ i, (recCells P D i gs).length = gs.length * 2 := by
  induction gs with
  | nil => intro i; rfl
  | cons g gs ih => intro i; simp [recCells, ih]; omega

theorem recCells_snoc (P : Nat → Int) (D : Nat → List Nat) (g : Nat) (gs : List Nat) : ∀ i, recCells P D i (gs ++ [g]) = recCells P D i gs ++ [.int .i64 (P (i + gs.length)), .slice (some ⟨g, 0, none⟩) (D (i + gs.length)).length (D (i + gs.length)).length] := by
  induction gs with
  | nil => intro i; rfl
  | cons h gs ih =>
    intro i
    simp only [List.cons_append, recCells, ih, List.length_cons]
    rw [show i + 1 + gs.length = i + (gs.length + 1) by omega]

theorem recCells_get (P : Nat → Int) (D : Nat → List Nat) (gs : List Nat) : ∀ i j, j < gs.length → (recCells P D i gs)[j * 2]? = some (.int .i64 (P (i + j))) ∧ (recCells P D i gs)[j * 2 + 1]? = some (.slice (some ⟨gs.getD j 0, 0, none⟩) (D (i + j)).length (D (i + j)).length) := by
  induction gs with
  | nil => intro i j h; simp at h
  | cons g gs ih =>
    intro i j h
    cases j with
    | zero => simp [recCells]
    | succ j =>
      have := ih (i + 1) j (by simpa using h)
      rw [show (j + 1) * 2 = j * 2 + 1 + 1 by omega]
      simp only [recCells, List.getElem?_cons_succ]
      rw [show i + 1 + j = i + (j + 1) by omega] at this
      simpa using this

/-- Each of these blocks holds its record's data. -/
def DataAt (W : World) (D : Nat → List Nat) : Nat → List Nat → Prop
  | _, [] => True
  | i, g :: gs => W.heap[g]? = some (.cells (bs (D i)).toArray 5 (0, 0)) ∧ DataAt W D (i + 1) gs

theorem DataAt.snoc {W : World} {D : Nat → List Nat} {g : Nat} {gs : List Nat} : ∀ {i}, DataAt W D i gs → W.heap[g]? = some (.cells (bs (D (i + gs.length))).toArray 5 (0, 0)) → DataAt W D i (gs ++ [g]) := by
  induction gs with
  | nil => intro i _ h; exact ⟨h, trivial⟩
  | cons a gs ih =>
    intro i h hg
    refine ⟨h.1, ih h.2 ?_⟩
    rw [show i + 1 + gs.length = i + (a :: gs).length by simp; omega]
    exact hg

theorem DataAt.move {W W' : World} {D : Nat → List Nat} {gs : List Nat} (hm : ∀ (g : Nat) (C : Array Value), W.heap[g]? = some (Obj.cells C 5 (0, 0)) → W'.heap[g]? = some (Obj.cells C 5 (0, 0))) : ∀ {i}, DataAt W D i gs → DataAt W' D i gs := by
  induction gs with
  | nil => intro i _; trivial
  | cons a gs ih =>
    intro i h
    exact ⟨hm _ _ h.1, ih h.2⟩

theorem DataAt.get {W : World} {D : Nat → List Nat} {gs : List Nat} : ∀ {i}, DataAt W D i gs → ∀ j, j < gs.length → W.heap[gs.getD j 0]? = some (.cells (bs (D (i + j))).toArray 5 (0, 0)) := by
  induction gs with
  | nil => intro i _ j h; simp at h
  | cons a gs ih =>
    intro i h j hj
    cases j with
    | zero => simpa using h.1
    | succ j =>
      have := ih h.2 j (by simpa using hj)
      rw [show i + 1 + j = i + (j + 1) by omega] at this
      simpa using this

theorem rd_block {W : World} {g n : Nat} {xs : List Nat} (h : W.heap[g]? = some (.cells (bs xs).toArray 5 (0, 0))) (hn : xs.length = n) : Rd W (some ⟨g, 0, none⟩) n n xs := by
  refine ⟨hn, Nat.le_refl _, fun h => (by cases h), fun _ => ⟨g, 0, rfl, fun t ht => ?_⟩⟩
  rw [Nat.zero_add]
  have := bs_get xs t (by omega)
  simpa [World.cell?, h] using this

theorem recs_own {W : World} {B : Nat} {ao : Option Addr} {cap L : Nat} {P : Nat → Int} {D : Nat → List Nat} {t : TypeId} {gs : List Nat} (hl : gs.length = L) (h : W.ownsRow B t 2 (.slice ao L cap) L (recCells P D 0 gs)) (hd : DataAt W D 0 gs) : Recs W ao L P D := by
  intro hL
  rcases h.2 with ⟨h', h0⟩ | ⟨g, cap', cur, h', hb, hg, hnc, hm, hs, ht⟩
  · omega
  · simp only [Value.slice.injEq, true_and] at h'
    obtain ⟨rfl, rfl⟩ := h'
    refine ⟨g, 0, rfl, fun i hi => ⟨some ⟨gs.getD i 0, 0, none⟩, (D i).length, (D i).length, ?_, ?_, ?_⟩⟩
    · have := (recCells_get P D gs 0 i (by omega)).1
      rw [Nat.zero_add, h.cellAt (i * 2) (by omega), this, Nat.zero_add]
    · have := (recCells_get P D gs 0 i (by omega)).2
      rw [Nat.zero_add, h.cellAt (i * 2 + 1) (by omega), this, Nat.zero_add]
    · have := hd.get i (by omega)
      rw [Nat.zero_add] at this
      exact rd_block this rfl

theorem Tryz.info168 : (Tryz.prog.info? 168).map (fun i => (i.zero, i.size, i.bytes)) = some (some (.agg #[.int .i64 0, .slice none 0 0]), 2, 32) := by kernel_rfl
/-- A box with a seed in it. -/
def SB (W : World) (q : Nat) (p : Int) (s : Nat) (l : Bool) : Prop := W.heap[q]? = some (.cells #[.int .i64 p, .int .u8 (s : Int), .bool l] 66 (0, 0))
theorem SB.cells {W : World} {q : Nat} {p : Int} {s : Nat} {l : Bool} (h : SB W q p s l) : W.cell? ⟨q, 0, none⟩ = some (.int .i64 p) ∧ W.cell? ⟨q, 1, none⟩ = some (.int .u8 (s : Int)) ∧ W.cell? ⟨q, 2, none⟩ = some (.bool l) := by
  unfold SB at h
  simp [World.cell?, h]
theorem SB.lt {W : World} {q : Nat} {p : Int} {s : Nat} {l : Bool} (h : SB W q p s l) : q < W.heap.size := lt_of_block h

/-- A seed's data. -/
def seedN (x : Int × Nat × Bool) : Nat := if x.2.2 then 3 else 512
def seedD (x : Int × Nat × Bool) : List Nat := List.replicate (seedN x) x.2.1
theorem seedD_length (x : Int × Nat × Bool) : (seedD x).length = seedN x := by simp [seedD]

theorem fill_step (i n s : Nat) (hi : i < n) : (List.replicate i s ++ List.replicate (n - i) 0).set i s = List.replicate (i + 1) s ++ List.replicate (n - (i + 1)) 0 := by
  rw [List.set_append_right _ _ (by simp)]
  simp only [List.length_replicate, Nat.sub_self]
  rw [show n - i = (n - (i + 1)) + 1 by omega, List.replicate_succ, List.set_cons_zero, List.replicate_succ', List.append_assoc]
  rfl

theorem row_later {w w' : World} {base : Nat} {e : TypeId} {size : Nat} {v : Value} {n : Nat} {xs : List Value} (h : w.ownsRow base e size v n xs) (hb : Below w.heap.size w w') : w'.ownsRow base e size v n xs := by
  obtain ⟨hl, h | ⟨g, cap, cur, rfl, hb', hg, rest⟩⟩ := h
  · exact ⟨hl, .inl h⟩
  · exact ⟨hl, .inr ⟨g, cap, cur, rfl, hb', by rw [hb.block g (lt_of_block hg)]; exact hg, rest⟩⟩

theorem row_form {w : World} {base : Nat} {e : TypeId} {size : Nat} {v : Value} {n : Nat} {xs : List Value} (h : w.ownsRow base e size v n xs) : ∃ ao cap, v = .slice ao n cap := by
  obtain ⟨hl, ⟨rfl, rfl⟩ | ⟨g, cap, cur, rfl, _⟩⟩ := h
  · exact ⟨_, _, rfl⟩
  · exact ⟨_, _, rfl⟩

theorem own_block {w : World} {B g n : Nat} {xs : List Nat} (h : w.ownsRow B 5 1 (.slice (some ⟨g, 0, none⟩) n n) n (bs xs)) : w.heap[g]? = some (.cells (bs xs).toArray 5 (0, 0)) := by
  obtain ⟨hl, ⟨h', _⟩ | ⟨g', cap, cur, h', hb', hg, hnc, hm, hs, ht⟩⟩ := h
  · cases h'
  · simp only [Value.slice.injEq, Option.some.injEq, Addr.mk.injEq, and_true, true_and] at h'
    obtain ⟨rfl, rfl⟩ := h'
    have : cur.toList = bs xs := by
      rw [← ht]
      exact (List.take_of_length_le (by simp [hs])).symm
    rw [hg, ← this]

/-- Where a row of records grows, blocks of bytes stay. -/
theorem data_grown {w w' : World} {base : Nat} {e : TypeId} (he : e ≠ 5) {size : Nat} {v : Value} {n : Nat} {xs : List Value} (h : w.ownsRow base e size v n xs) (hg : w.grownBy w' v.ownBlock) : ∀ (g : Nat) (C : Array Value), w.heap[g]? = some (Obj.cells C 5 (0, 0)) → w'.heap[g]? = some (Obj.cells C 5 (0, 0)) := by
  intro g C hc
  rw [hg.block g (lt_of_block hc) ?_]
  · exact hc
  · intro hv
    obtain ⟨hl, ⟨rfl, rfl⟩ | ⟨g', cap, cur, rfl, hb', hg', rest⟩⟩ := h
    · cases hv
    · simp only [Value.ownBlock, Option.some.injEq] at hv
      subst hv
      rw [hc] at hg'
      simp only [Option.some.injEq, Obj.cells.injEq] at hg'
      exact he hg'.2.1.symm

theorem below_grown {w w' : World} {B base : Nat} {e : TypeId} {size : Nat} {v : Value} {n : Nat} {xs : List Value} (h : w.ownsRow base e size v n xs) (hg : w.grownBy w' v.ownBlock) (hB : B ≤ base) (hB2 : B ≤ w.heap.size) : Below B w w' :=
  (Below.refl B w).grown hg hB2 fun k hk => Nat.le_trans hB (h.lt k hk).1

theorem two_cells (w : World) (a b : Value) (t : TypeId) : ∀ j u, [a, b][j]? = some u → (w.alloc (.cells #[a, b] t)).cell? ((⟨w.heap.size, 0, none⟩ : Addr).add j) = some u := by
  intro j u hu
  rw [Addr.add_lit]
  match j, hu with
  | 0, hu => simp at hu; subst hu; simp
  | 1, hu => simp at hu; subst hu; simp
  | j + 2, hu => simp at hu

end Go.Proofs.YtgjgkpnjchflaaaGreatDoor.Jrn

/- What Good returns; no statement of the seat is proved here. -/
namespace Go.Proofs.YtgjgkpnjchflaaaGreatDoor.Jrn
open Go.RowKit

/-- Do the records from i on, L in all, stand in order behind the page last? -/
def goodFrom (P : Nat → Int) (D : Nat → List Nat) (pg : Int) (last : Int) : Nat → Nat → Bool
  | _, 0 => true
  | i, k + 1 => rgood (P i) (D i).length && decide (last < P i) && decide (P i ≤ pg) && goodFrom P D pg (P i) (i + 1) k

def goodL (c pg : Int) (L : Nat) (P : Nat → Int) (D : Nat → List Nat) : Bool := hgood c pg && decide ((L : Int) = c) && goodFrom P D pg 0 0 L

theorem RB.keep2 {t : TypeId} {W W' : World} {q : Nat} {p : Int} {ao : Option Addr} {n cap : Nat} {o : Obj} (h : RB t W q p ao n cap) (hb : Below (W.alloc o).heap.size (W.alloc o) W') : RB t W' q p ao n cap := (h.keep (Below.alloc (Below.refl _ _) (Nat.le_refl _) o)).keep hb

set_option maxHeartbeats 4000000 in
theorem good_any (c pg : Int) (m : Nat) (ao : Option Addr) (L cap : Nat) (P : Nat → Int) (D : Nat → List Nat) (w : World) (h : Recs w ao L P D) (hL : L ≤ 100000) :
    Calls Tryz.prog 108 #[.agg #[.int .i64 c, .int .i64 pg, .int .u64 (m : Int)], .slice ao L cap] w fun e w' => e = .returned (.bool (goodL c pg L P D)) ∧ Below w.heap.size w w' := by
  have h' := hid h
  have cg := hid (hgood_any c pg m)
  have q0 := hid (HB.new 140 w c pg m)
  have cr := hid fun p ao n cap W => rgood_any p ao n cap W
  obtain ⟨b, hb⟩ : ∃ b, b = goodL c pg L P D := ⟨_, rfl⟩
  have hb' := hid hb
  rw [← hb]
  clear h hb
  cases hg : hgood c pg with
  | false =>
    rw [hg] at cg
    obtain rfl : b = false := by rw [hb'.out]; unfold goodL; rw [hg]; rfl
    clear hg
    go_enter Tryz.func108, Tryz.ntmps108
    go_wp2_with (go_at_call 152; refine (cg.out _).mono ?_; rintro e w1 ⟨rfl, hb1⟩)
    go_ret
    exact ⟨rfl, gt (Below.alloc (Below.refl _ _) (Nat.le_refl _) _) hb1⟩
  | true =>
    rw [hg] at cg
    by_cases hLc : (L : Int) = c
    · have e1 : b = goodFrom P D pg 0 0 L := by rw [hb'.out]; unfold goodL; rw [hg]; simp [hLc]
      have e1' := hid e1
      have hne : ((L : Int) != c) = false := by simp [hLc]
      clear hg e1 hb'
      subst hLc
      go_enter Tryz.func108, Tryz.ntmps108
      go_wp2_with (go_at_call 152; refine (cg.out _).mono ?_; rintro e w1 ⟨rfl, hb1⟩; have Q1 := hid (q0.out.keep hb1); have B1 := hid (gt (Below.alloc (Below.refl _ _) (Nat.le_refl _) _) hb1); clear hb1; obtain ⟨a0, a1, a2, _, _, _⟩ := Q1.out.cells)
      clear a0 a1 a2
      go_loopw [5, 20] (fun s5 cc W => ∃ (i : Nat) (last : Int), i ≤ L ∧ cc = .int .i64 (i : Int) ∧ s5 = .int .i64 last ∧ Hid (goodFrom P D pg last i (L - i) = b) ∧ Hid (HB 140 W w.heap.size (L : Int) pg m) ∧ Hid (Below w.heap.size w W)) (fun _ cc _ => L - (intOf cc).toNat)
      case atStart => exact ⟨0, 0, by omega, rfl, rfl, hid e1'.out.symm, Q1, B1⟩
      case round =>
        obtain ⟨i, last, hi, rfl, rfl, G, Q, B⟩ := hrel
        clear Q1 B1
        by_cases hiL : i < L
        · obtain ⟨b0, off, rfl, hc⟩ := h'.out (by omega)
          obtain ⟨a, n, c1, k0, k1, rd⟩ := hc i hiL
          have k0' := keep_old B.out k0
          have k1' := keep_old B.out k1
          have hn : (D i).length = n := rd.1
          obtain ⟨p, hp⟩ : ∃ p, p = P i := ⟨_, rfl⟩
          rw [← hp] at k0'
          have hG := G.out
          rw [show L - i = (L - (i + 1)) + 1 by omega] at hG
          simp only [goodFrom] at hG
          rw [← hp, hn] at hG
          have G' := hid hG
          have hBs := B.out.size
          clear hG G k0 k1 rd hc hn hp e1'
          cases hg1 : rgood p n with
          | false =>
            have hbf : b = false := by rw [← G'.out, hg1]; simp only [Bool.false_and]
            clear G'
            subst hbf
            go_wp2_with (go_at_call 153; refine (cr.out p a n c1 _).mono ?_; rw [hg1]; rintro e w2 ⟨rfl, hb2⟩; have Q2 := hid (Q.out.keep2 hb2); have B2 := hid (gt2 B.out hb2); have Y2 := hid ((RB.new 168 wr p a n c1).keep hb2); obtain ⟨y0, y1, _, _⟩ := Y2.out.cells; obtain ⟨q0, q1, q2, _, _, _⟩ := Q2.out.cells; clear hb2)
            go_ret
            exact ⟨rfl, B2.out⟩
          | true =>
            by_cases hl1 : last < p
            · by_cases hl2 : p ≤ pg
              · have G2 : Hid (goodFrom P D pg p (i + 1) (L - (i + 1)) = b) := hid (by rw [← G'.out, hg1, decide_eq_true hl1, decide_eq_true hl2]; simp only [Bool.true_and])
                clear G'
                go_wp2_with (go_at_call 153; refine (cr.out p a n c1 _).mono ?_; rw [hg1]; rintro e w2 ⟨rfl, hb2⟩; have Q2 := hid (Q.out.keep2 hb2); have B2 := hid (gt2 B.out hb2); have Y2 := hid ((RB.new 168 wr p a n c1).keep hb2); obtain ⟨y0, y1, _, _⟩ := Y2.out.cells; obtain ⟨q0, q1, q2, _, _, _⟩ := Q2.out.cells; clear hb2)
                exact ⟨⟨i + 1, p, by omega, by go_num, rfl, G2, Q2, B2⟩, by simp [intOf]; omega⟩
              · have hbf : b = false := by rw [← G'.out, hg1, decide_eq_false hl2]; simp only [Bool.false_and, Bool.and_false]
                clear G'
                subst hbf
                go_wp2_with (go_at_call 153; refine (cr.out p a n c1 _).mono ?_; rw [hg1]; rintro e w2 ⟨rfl, hb2⟩; have Q2 := hid (Q.out.keep2 hb2); have B2 := hid (gt2 B.out hb2); have Y2 := hid ((RB.new 168 wr p a n c1).keep hb2); obtain ⟨y0, y1, _, _⟩ := Y2.out.cells; obtain ⟨q0, q1, q2, _, _, _⟩ := Q2.out.cells; clear hb2)
                go_ret
                exact ⟨rfl, B2.out⟩
            · have hbf : b = false := by rw [← G'.out, hg1, decide_eq_false hl1]; simp only [Bool.false_and, Bool.and_false]
              clear G'
              subst hbf
              go_wp2_with (go_at_call 153; refine (cr.out p a n c1 _).mono ?_; rw [hg1]; rintro e w2 ⟨rfl, hb2⟩; have Q2 := hid (Q.out.keep2 hb2); have B2 := hid (gt2 B.out hb2); have Y2 := hid ((RB.new 168 wr p a n c1).keep hb2); obtain ⟨y0, y1, _, _⟩ := Y2.out.cells; obtain ⟨q0, q1, q2, _, _, _⟩ := Q2.out.cells; clear hb2)
              go_ret
              exact ⟨rfl, B2.out⟩
        · obtain rfl : i = L := by omega
          have : b = true := by rw [← G.out, Nat.sub_self]; rfl
          subst this
          go_wp2
          go_ret
          exact ⟨rfl, B.out⟩
    · obtain rfl : b = false := by rw [hb'.out]; unfold goodL; rw [hg]; simp [hLc]
      have hne : ((L : Int) != c) = true := by simp [hLc]
      have hne2 : ((L : Int) == c) = false := by simp [hLc]
      clear hg
      go_enter Tryz.func108, Tryz.ntmps108
      go_wp2_with (go_at_call 152; refine (cg.out _).mono ?_; rintro e w1 ⟨rfl, hb1⟩; have Q1 := hid (q0.out.keep hb1); have B1 := hid (gt (Below.alloc (Below.refl _ _) (Nat.le_refl _) _) hb1); clear hb1; obtain ⟨a0, a1, a2, _, _, _⟩ := Q1.out.cells)
      go_ret
      exact ⟨rfl, B1.out⟩

end Go.Proofs.YtgjgkpnjchflaaaGreatDoor.Jrn
