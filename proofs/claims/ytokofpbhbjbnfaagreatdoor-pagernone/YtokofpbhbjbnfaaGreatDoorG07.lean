/- What ReadHead returns of few bytes, Hot, and HeadBytes in one form; no statement of the seat is proved here. -/
import Derived.Test.YtokofpbhbjbnfaaGreatDoorG06
import Derived.Test.YtokofpbhbjbnfaaGreatDoorG04
import Derived.Deep.RegionLaw
import Derived.Deep.DeepCutAuto
namespace Go.Proofs.YtokofpbhbjbnfaaGreatDoor.Jrn
open Go.RowKit

set_option maxHeartbeats 400000 in
theorem rhead_short (ao : Option Addr) (n cap : Nat) (w : World) (hn : n < 128) :
    Calls Tryz.prog 105 #[.slice ao n cap] w fun e w' => e = .returned (.tuple #[.agg #[.int .i64 0, .int .i64 0, .int .u64 0], .int .i64 8]) ∧ Below w.heap.size w w' := by
  have hge : (n : Int) < 128 := by omega
  go_enter Tryz.func105, Tryz.ntmps105
  go_wp2
  (try simp only [Exit.inBlock, Exit.then])
  refine bodyPost_ret (ret_head rfl agg24 size24 rfl (HB.new 122 w 0 0 0)) rfl ?_
  exact ⟨rfl, Below.alloc (Below.refl _ _) (Nat.le_refl _) _⟩

def hotN (xs : List Nat) : Bool := decide (128 ≤ xs.length) && isHead xs

/-- The three numbers and the error that a head's bytes are read as. -/
def rdH (xs : List Nat) : (Nat × Nat × Nat) × Int := if xs.length < 128 then ((0, 0, 0), 8) else if isHead xs then ((hC xs, hP xs, hN xs), 0) else ((0, 0, 0), 9)

theorem rdH_err (xs : List Nat) : (rdH xs).2 = 0 ↔ hotN xs = true := by
  unfold rdH hotN
  split
  · simp; omega
  · split <;> simp [*] <;> omega

theorem rhead_all (ao : Option Addr) (n cap : Nat) (xs : List Nat) (w : World) (h : Rd w ao n cap xs) (hx : ∀ x ∈ xs, x < 256) (hn2 : n ≤ 140737488355328) (hT : Tab w) :
    Calls Tryz.prog 105 #[.slice ao n cap] w fun e w' => e = .returned (.tuple #[.agg #[.int .i64 ((rdH xs).1.1 : Int), .int .i64 ((rdH xs).1.2.1 : Int), .int .u64 ((rdH xs).1.2.2 : Int)], .int .i64 (rdH xs).2]) ∧ Below w.heap.size w w' := by
  have hl := h.1
  by_cases hn : n < 128
  · have e : rdH xs = ((0, 0, 0), 8) := by unfold rdH; rw [if_pos (by omega)]
    rw [e]
    exact rhead_short ao n cap w hn
  · refine (rhead_any ao n cap xs w h hx (by omega) hn2 hT).mono fun e w' ⟨c, p, m, er, he, hh, hb⟩ => ⟨?_, hb⟩
    rw [he]
    rcases hh.out with ⟨h1, rfl, rfl, rfl, rfl⟩ | ⟨h1, rfl, rfl, rfl, rfl⟩
    · have e : rdH xs = ((hC xs, hP xs, hN xs), 0) := by unfold rdH; rw [if_neg (by omega), if_pos h1]
      rw [e]
    · have e : rdH xs = ((0, 0, 0), 9) := by unfold rdH; rw [if_neg (by omega), if_neg (by rw [h1]; simp)]
      rw [e]

set_option maxHeartbeats 400000 in
theorem hot_any (ao : Option Addr) (n cap : Nat) (xs : List Nat) (w : World) (h : Rd w ao n cap xs) (hx : ∀ x ∈ xs, x < 256) (hn2 : n ≤ 140737488355328) (hT : Tab w) :
    Calls Tryz.prog 79 #[.slice ao n cap] w fun e w' => e = .returned (.bool (hotN xs)) ∧ Below w.heap.size w w' := by
  have c := hid (rhead_all ao n cap xs w h hx hn2 hT)
  have he := rdH_err xs
  generalize rdH xs = r at *
  obtain ⟨⟨c1, p1, n1⟩, er⟩ := r
  simp only at c he
  have hb : (er == 0) = hotN xs := by rw [Bool.eq_iff_iff, beq_iff_eq]; exact he
  generalize hotN xs = b at *
  clear he h hx hT
  go_enter Tryz.func79, Tryz.ntmps79
  go_wp2_with (go_at_call 105; refine c.out.mono ?_; rintro e w1 ⟨rfl, hb1⟩)
  go_ret
  exact ⟨rfl, Below.alloc hb1 hb1.size _⟩

theorem hC_head (c p n : Nat) (wh : Bool) (hc : c < 4294967296) : hC (headN c p n wh) = c := by
  unfold hC headN hd26 hd22
  simp only [List.append_assoc]
  rw [List.drop_left' (by rfl)]
  exact psum_put4 c hc _
theorem hP_head (c p n : Nat) (wh : Bool) (hp : p < 4294967296) : hP (headN c p n wh) = p := by
  unfold hP headN hd26 hd22
  simp only [List.append_assoc]
  rw [show (10 : Nat) = 6 + 4 by rfl, ← cut3, List.drop_left' (by rfl), List.drop_left' (putN_length _ _ _)]
  exact psum_put4 p hp _
theorem hN_head (c p n : Nat) (wh : Bool) (hn : n < 18446744073709551616) : hN (headN c p n wh) = n := by
  unfold hN headN hd26 hd22
  simp only [List.append_assoc]
  rw [show (14 : Nat) = 6 + 4 + 4 by rfl, ← cut3, ← cut3, List.drop_left' (by rfl), List.drop_left' (putN_length _ _ _), List.drop_left' (putN_length _ _ _)]
  exact psum_put8 n hn _

theorem isHead_app (c p n : Nat) (hc : c ≤ 4000) (hp : p ≤ 4000) (hn : n < 18446744073709551616) (r : List Nat) : isHead (headN c p n true ++ r) = true ∧ hC (headN c p n true ++ r) = c ∧ hP (headN c p n true ++ r) = p ∧ hN (headN c p n true ++ r) = n := by
  have e : (headN c p n true ++ r).take 128 = headN c p n true := List.take_left' (headN_length _ _ _ _)
  have h1 : hC (headN c p n true ++ r) = c := by rw [← hC_take, e]; exact hC_head _ _ _ _ (by omega)
  have h2 : hP (headN c p n true ++ r) = p := by rw [← hP_take, e]; exact hP_head _ _ _ _ (by omega)
  have h3 : hN (headN c p n true ++ r) = n := by rw [← hN_take, e]; exact hN_head _ _ _ _ hn
  refine ⟨?_, h1, h2, h3⟩
  unfold isHead
  rw [h1, h2, h3, e]
  simp [hc, hp]

theorem hot_head (c p n : Nat) (hc : c ≤ 4000) (hp : p ≤ 4000) (hn : n < 18446744073709551616) (r : List Nat) : hotN (headN c p n true ++ r) = true := by
  unfold hotN
  rw [(isHead_app c p n hc hp hn r).1]
  simp [headN_length]

theorem head_last (c p n : Nat) (wh : Bool) : (headN c p n wh).getD 127 0 = if wh then 165 else 0 := by
  unfold headN
  simp [List.getD, hd26_length]

theorem not_hot (xs : List Nat) (h : xs.getD 127 0 = 0) : hotN xs = false := by
  rw [Bool.eq_false_iff]
  intro hh
  unfold hotN isHead at hh
  simp only [Bool.and_eq_true, decide_eq_true_eq] at hh
  have h2 := congrArg (fun l : List Nat => l.getD 127 0) hh.2.1.1
  simp only [head_last, if_true] at h2
  simp [List.getD] at h2 h
  omega

end Go.Proofs.YtokofpbhbjbnfaaGreatDoor.Jrn

/- What check and RecordBytes return; no statement of the seat is proved here. -/
namespace Go.Proofs.YtokofpbhbjbnfaaGreatDoor.Jrn
open Go.RowKit

/-- A box with a record in it. -/
def RB (t : TypeId) (W : World) (q : Nat) (p : Int) (ao : Option Addr) (n cap : Nat) : Prop := W.heap[q]? = some (.cells #[.int .i64 p, .slice ao n cap] t (0, 0))
theorem RB.cells {t : TypeId} {W : World} {q : Nat} {p : Int} {ao : Option Addr} {n cap : Nat} (h : RB t W q p ao n cap) :
    W.cell? ⟨q, 0, none⟩ = some (.int .i64 p) ∧ W.cell? ⟨q, 1, none⟩ = some (.slice ao n cap) ∧ W.frozen? ⟨q, 0, none⟩ = false ∧ W.frozen? ⟨q, 1, none⟩ = false := by
  unfold RB at h
  simp [World.cell?, World.frozen?, h]
theorem RB.lt {t : TypeId} {W : World} {q : Nat} {p : Int} {ao : Option Addr} {n cap : Nat} (h : RB t W q p ao n cap) : q < W.heap.size := lt_of_block h
theorem RB.keep {t : TypeId} {W W' : World} {q : Nat} {p : Int} {ao : Option Addr} {n cap : Nat} (h : RB t W q p ao n cap) (hb : Below W.heap.size W W') : RB t W' q p ao n cap := by
  unfold RB; rw [hb.block q h.lt]; exact h
theorem RB.under {t : TypeId} {W W' : World} {q B : Nat} {p : Int} {ao : Option Addr} {n cap : Nat} (h : RB t W q p ao n cap) (hb : Below B W W') (hq : q < B) : RB t W' q p ao n cap := by
  unfold RB; rw [hb.block q hq]; exact h
theorem RB.new (t : TypeId) (w : World) (p : Int) (ao : Option Addr) (n cap : Nat) : RB t (w.alloc (.cells #[.int .i64 p, .slice ao n cap] t)) w.heap.size p ao n cap := heap_alloc_new w _
theorem RB.grown {t : TypeId} {W W' : World} {q r : Nat} {p : Int} {ao : Option Addr} {n cap : Nat} (h : RB t W q p ao n cap) (k : W.grownBy W' (some r)) (hne : q ≠ r) : RB t W' q p ao n cap := by
  unfold RB; rw [k.block q h.lt (by simpa using hne)]; exact h

theorem put4' (m : Nat) (v : Nat) (w : World) (hm : m = 4) :
    Calls Tryz.prog 150 #[.slice none 0 0, .int .u64 (v : Int), .int .i64 4, .bool false] w fun e w' => ∃ g, e = .returned (.slice (some ⟨g, 0, none⟩) m m) ∧ w.heap.size ≤ g ∧ Rd w' (some ⟨g, 0, none⟩) m m (putN v 4 false) ∧ Below w.heap.size w w' := by
  have := put4 none 0 0 m [] v w (Rd.nil w) (by omega) (by omega)
  simpa using this

set_option maxHeartbeats 1000000 in
theorem check_any (p n : Nat) (ao : Option Addr) (k cap : Nat) (d : List Nat) (w : World) (hT : Tab w) (h : Rd w ao k cap d) (hd : ∀ x ∈ d, x < 256) (hk : k ≤ 100000) (hp : p ≤ 4000) :
    Calls Tryz.prog 139 #[.agg #[.int .i64 (p : Int), .slice ao k cap], .int .u64 (n : Int)] w fun e w' => e = .returned (.int .u32 ((chkN p n d : Nat) : Int)) ∧ Below w.heap.size w w' := by
  have hT' := hid hT
  have h' := hid h
  have hd' := hid hd
  have q0 := hid (RB.new 153 w (p : Int) ao k cap)
  obtain ⟨S, hS⟩ : ∃ S, S = addN 0 (rec12 p n) := ⟨_, rfl⟩
  have hSl : S < 4294967296 := by rw [hS]; exact addN_lt (by decide) (rec12_bytes _ _)
  obtain ⟨R, hR⟩ : ∃ R, R = chkN p n d := ⟨_, rfl⟩
  have hRS : Hid (addN S d = R) := hid (by rw [hR, hS]; unfold chkN; rw [addN_append])
  rw [← hR]
  have hS' := hid hS
  have t1 : Hid True := hid trivial
  clear hT h hd hS hR
  go_enter Tryz.func139, Tryz.ntmps139
  go_upto_region 3 with (first
    | (go_at_call 150; clear t1; refine (put4' 4 p _ rfl).mono ?_; rintro e w1 ⟨g1, rfl, hg1, r1, hb1⟩; have Q1 := hid (q0.out.keep hb1); have B1 := hid (gt (Below.alloc (Below.refl _ _) (Nat.le_refl _) _) hb1); have R1 := hid r1; clear hb1 r1)
    | (go_at_call 150; refine (put8 _ 4 4 12 _ n _ R1.out (by omega) (by omega)).mono ?_; rintro e w2 ⟨g2, rfl, hg2, r2, hb2⟩; have Q2 := hid (Q1.out.keep hb2); have B2 := hid (gt B1.out hb2); have R2 : Hid (Rd w2 (some ⟨g2, 0, none⟩) 12 12 (rec12 p n)) := hid r2; clear hb2 r2; obtain ⟨a0, a1, _, _⟩ := Q2.out.cells))
  go_region_with (first
    | (go_at_call 134; refine (of_any _ 12 12 _ _ (R2.out.keep (Below.refl _ _).drew) (rec12_bytes _ _) (by omega) (hT'.out.keep B2.out.drew)).mono ?_; rw [← hS'.out]; rintro e w3 ⟨rfl, hw3⟩; obtain rfl := hw3.symm)
    | (go_at_call 162; refine (add_any S ao k cap d _ hSl (h'.out.keep B2.out.drew) hd'.out (by omega) (hT'.out.keep B2.out.drew)).mono ?_; rw [hRS.out]; rintro e w4 ⟨rfl, hw4⟩; obtain rfl := hw4.symm))
  all_goals
    go_wp2
    go_ret
    exact ⟨rfl, B2.out.drew⟩

/-- 'copy' into a slice of the call's own, as a step of a region that draws its order. -/
theorem step_copy_in {ops : Array Oper} {o : Oper} {a : Act} {w : World} {K : Act → World → Prop} {Q : Exit → Act → World → Prop} {E : Prop} (hgd : o.guard = none) (d s : Operand)
    (ho : o.op = .call { callee := .builtin .copy, args := #[d, s], argTypes := #[60, 60] }) (B g N off : Nat) (ys : List Nat) (hown : w.ownsRow B 5 1 (.slice (some ⟨g, 0, none⟩) N N) N (bs ys))
    (dLen dCap : Nat) (hd : a.eval d = .slice (some ⟨g, off, none⟩) dLen dCap) (hdl : off + dLen = N) (so : Option Addr) (n c : Nat) (xs : List Nat) (hs : a.eval s = .slice so n c) (hr : Rd w so n c xs) (hn : n ≤ dLen) (h0 : 0 < n)
    (h : ∀ w', w'.ownsRow B 5 1 (.slice (some ⟨g, 0, none⟩) N N) N (bs (ys.take off ++ xs ++ ys.drop (off + n))) → Below B w w' → K (a.put o.dst (goInt n)) w') : if Region.wanted o (yielded ops a.tmps) = true then Oper.wp Tryz.prog o a w K Q else E := by
  have hw : Region.wanted o (yielded ops a.tmps) = true := by simp [Region.wanted, hgd]
  rw [if_pos hw]
  have hly : ys.length = N := by simpa [bs] using hown.1
  have hlx := hr.1
  rcases hown.2 with ⟨h', _⟩ | ⟨g', cap', cur, h', hb, hg, hnc, hm, hsz, ht⟩
  · cases h'
  simp only [Value.slice.injEq, Option.some.injEq, Addr.mk.injEq, and_true, true_and] at h'
  obtain ⟨rfl, rfl⟩ := h'
  have hcur : cur.toList = bs ys := by
    rw [← ht]
    exact (List.take_of_length_le (by simp [hsz])).symm
  have hbl : (bs xs).length = n := by simp [bs, hlx]
  obtain ⟨b, o2, rfl, hc⟩ := hr.2.2.2 h0
  have hrun := run_copy_row (P := Tryz.prog) w 60 60 o.type 5 g off dLen dCap ⟨b, o2, none⟩ n c cur 5 (bs xs) Tryz.underlying60 (by kernel_rfl) hg (by rw [hbl]; exact (Nat.min_eq_left hn).symm)
    (fun j v hv => by obtain ⟨hj, rfl⟩ := bs_get' xs j v hv; rw [Addr.add_lit]; exact hc j (by omega)) (by rw [hbl, hsz]; omega) (bs_one xs)
  have hsp : cur.toList.take off ++ bs xs ++ cur.toList.drop (off + (bs xs).length) = bs (ys.take off ++ xs ++ ys.drop (off + n)) := by
    rw [hcur, hbl, bs_append, bs_append]
    simp [bs]
  rw [hsp, hbl] at hrun
  have hZl : (ys.take off ++ xs ++ ys.drop (off + n)).length = N := by simp; omega
  generalize ys.take off ++ xs ++ ys.drop (off + n) = Z at *
  have h1 := h (w.setRow g (bs Z).toArray) ?_ ⟨rfl, rfl, rfl, by simp, fun k hk => setRow_other w g k _ (by omega)⟩
  · unfold Oper.wp
    simp [execOp, ho, resolve, invoke, builtin, hd, hs, hrun, Result.andThen]
    exact h1
  · refine own_of_row hb (setRow_heap w g cur _ 5 _ hg) ?_ (by unfold maxLen at hm; omega) ?_ ?_ (Nat.le_refl _)
    · simp [bs, hZl]
    · exact List.take_of_length_le (by simp [bs, hZl])
    · exact hZl

theorem rec_rows (p n : Nat) (d : List Nat) (K : Nat) (hK : K = 640) :
    ((List.replicate K 0).take 0 ++ (putN p 4 false ++ putN (chkN p n d) 4 false) ++ (List.replicate K 0).drop (0 + 8)).take 128 ++ d ++ ((List.replicate K 0).take 0 ++ (putN p 4 false ++ putN (chkN p n d) 4 false) ++ (List.replicate K 0).drop (0 + 8)).drop (128 + 512) = recN p n d := by
  obtain ⟨A, hA⟩ : ∃ A, A = putN p 4 false ++ putN (chkN p n d) 4 false := ⟨_, rfl⟩
  have h8 : A.length = 8 := by rw [hA]; simp [putN_length]
  unfold recN
  rw [← hA, List.take_zero, List.nil_append, List.drop_replicate]
  have e : (A ++ List.replicate (K - (0 + 8)) 0).drop (128 + 512) = [] := List.drop_eq_nil_of_le (by simp [h8]; omega)
  rw [e, List.append_nil, List.take_append, h8, List.take_of_length_le (by omega), List.take_replicate, hK]
  rfl

set_option maxHeartbeats 400000 in
theorem rec_no (p : Int) (n : Int) (ao : Option Addr) (k cap : Nat) (w : World) (h : rgood p k = false) :
    Calls Tryz.prog 149 #[.agg #[.int .i64 p, .slice ao k cap], .int .u64 n] w fun e w' => e = .returned (.slice none 0 0) ∧ Below w.heap.size w w' := by
  have cg := hid (rgood_any p ao k cap)
  rw [h] at cg
  clear h
  go_enter Tryz.func149, Tryz.ntmps149
  go_wp2_with (go_at_call 138; refine (cg.out _).mono ?_; rintro e w1 ⟨rfl, hb1⟩)
  go_ret
  exact ⟨rfl, gt (Below.alloc (Below.refl _ _) (Nat.le_refl _) _) hb1⟩

set_option maxHeartbeats 2000000 in
theorem rec_yes (p n : Nat) (ao : Option Addr) (cap : Nat) (d : List Nat) (w : World) (hT : Tab w) (h : Rd w ao 512 cap d) (hd : ∀ x ∈ d, x < 256) (hp : 1 ≤ p) (hp2 : p ≤ 4000) :
    Calls Tryz.prog 149 #[.agg #[.int .i64 (p : Int), .slice ao 512 cap], .int .u64 (n : Int)] w fun e w' => ∃ g, e = .returned (.slice (some ⟨g, 0, none⟩) 640 640) ∧ w'.ownsRow w.heap.size 5 1 (.slice (some ⟨g, 0, none⟩) 640 640) 640 (bs (recN p n d)) ∧ Below w.heap.size w w' := by
  have cg := hid (rgood_any (p : Int) ao 512 cap)
  rw [(rgood_iff (p : Int) 512).2 (by omega)] at cg
  have hT' := hid hT
  have h' := hid h
  have hd' := hid hd
  have q0 := hid (RB.new 153 w (p : Int) ao 512 cap)
  obtain ⟨K, hK⟩ : ∃ K : Nat, K = 640 := ⟨_, rfl⟩
  have hmk := make_lit 640 K (by omega) (by omega)
  have hK' := hid hK
  obtain ⟨S, hS⟩ : ∃ S, S = chkN p n d := ⟨_, rfl⟩
  have hSl : S < 4294967296 := by rw [hS]; exact chkN_lt p n hd
  have hS' := hid hS
  have t1 : Hid True := hid trivial
  clear hT h hd hK hS
  go_enter Tryz.func149, Tryz.ntmps149
  go_upto_region 7 with (first
    | (go_at_call 138; refine (cg.out _).mono ?_; rintro e w1 ⟨rfl, hb1⟩; have Q1 := hid (q0.out.keep hb1); have B1 := hid (gt (Below.alloc (Below.refl _ _) (Nat.le_refl _) _) hb1); clear hb1; obtain ⟨a0, a1, _, _⟩ := Q1.out.cells)
    | (go_at_call 150; clear t1; refine (put4' 4 p _ rfl).mono ?_; rintro e w2 ⟨g2, rfl, hg2, r2, hb2⟩; have Q2 := hid (Q1.out.keep hb2); have B2 := hid (gt B1.out hb2); have R2 := hid r2; clear hb2 r2 a0 a1; obtain ⟨a0, a1, _, _⟩ := Q2.out.cells)
    | (go_at_call 139; refine (check_any p n ao 512 cap d _ (hT'.out.keep B2.out) (h'.out.keep B2.out) hd'.out (by omega) hp2).mono ?_; rw [← hS'.out]; rintro e w3 ⟨rfl, hb3⟩; have Q3 := hid (Q2.out.keep hb3); have B3 := hid (gt B2.out hb3); have R3 := hid (R2.out.keep hb3); clear hb3 a0 a1)
    | (go_at_call 150; refine (put4 _ 4 4 8 _ S _ R3.out (by omega) (by omega)).mono ?_; rintro e w4 ⟨g4, rfl, hg4, r4, hb4⟩; have Q4 := hid (Q3.out.keep hb4); have B4 := hid (gt B3.out hb4); have R4 := hid r4; clear hb4 r4)
    | ((with_reducible refine here_op 23 ?_); refine wpList_copy_in rfl (.tmp 21) (.tmp 22) rfl w4.heap.size w4.heap.size K 0 (List.replicate K 0) (own_zeros w4 K (by have := hK'.out; omega)) K K rfl (by omega) (some ⟨g4, 0, none⟩) 8 8 _ rfl (R4.out.keep (Below.alloc (Below.refl _ _) (Nat.le_refl _) _)) (by have := hK'.out; omega) ?_; intro w5 ho5 hb5; have H5 := hid ((Below.alloc (Below.refl _ _) (Nat.le_refl _) _).trans hb5); have Q5 := hid (Q4.out.keep H5.out); have B5 := hid (gt B4.out H5.out); have O5 := hid ho5; have hg5 := B4.out.size; clear ho5 hb5 hmk))
  obtain ⟨a0, a1, _, _⟩ := Q5.out.cells
  have hK1 : (128 : Int) ≤ (K : Int) := by have := hK'.out; omega
  have hK2 : ¬ K = 128 := by have := hK'.out; omega
  have hlt5 : w4.heap.size < w5.heap.size := by
    have := (O5.out.lt w4.heap.size rfl).2
    exact this
  go_region_law (refine step_copy_in rfl (.tmp 25) (.tmp 27) rfl w4.heap.size w4.heap.size K 128 _ O5.out.drew (K - 128) (K - 128) (by simp [Act.eval]) (by have := hK'.out; omega) ao 512 cap d (by simp [Act.eval]) (h'.out.keep B5.out.drew) (by have := hK'.out; omega) (by omega) ?_; intro w6 ho6 hb6)
  rw [hS'.out, rec_rows p n d K hK'.out] at ho6
  have hK3 := hK'.out
  subst hK3
  have O6 := hid (own_base ho6 hg5)
  have B6 := hid (B5.out.drew.trans (hb6.mono hg5))
  clear ho6 hb6
  go_wp2
  go_ret
  exact ⟨_, rfl, O6.out, B6.out⟩

end Go.Proofs.YtokofpbhbjbnfaaGreatDoor.Jrn
