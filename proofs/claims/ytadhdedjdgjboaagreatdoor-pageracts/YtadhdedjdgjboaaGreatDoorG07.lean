/- What ReadHead returns of few bytes, Hot, and HeadBytes in one form; no statement of the seat is proved here. -/
import Derived.Test.YtadhdedjdgjboaaGreatDoorG06
import Derived.Test.YtadhdedjdgjboaaGreatDoorG04
import Derived.Deep.RegionLaw
import Derived.Deep.DeepCutAuto
set_option maxHeartbeats 16000000
set_option maxRecDepth 20000
namespace Go.Proofs.YtadhdedjdgjboaaGreatDoor
namespace Jrn
open Go.RowKit
theorem rhead_short (ao : Option Addr) (n cap : Nat) (w : World) (hn : n < 128) :
   Calls Tryz.prog 105 #[.slice ao n cap] w fun e w' => e = .returned (.tuple #[.agg #[.int .i64 0, .int .i64 0, .int .u64 0], .int .i64 8]) ∧ Below w.heap.size w w' := by
 have hge : (n : Int) < 128 := by omega
 go_enter Tryz.func105, Tryz.ntmps105
 go_wp2
 (try simp only [Exit.inBlock, Exit.then])
 refine bodyPost_ret (ret_head rfl agg24 size24 rfl (HB.new 122 w 0 0 0)) rfl ?_
 exact ⟨rfl, Below.alloc (Below.refl _ _) (Nat.le_refl _) _⟩
def hotN (xs : List Nat) : Bool := decide (128 ≤ xs.length) && isHead xs
def rdH (xs : List Nat) : (Nat × Nat × Nat) × Int := if xs.length < 128 then ((0, 0, 0), 8) else if isHead xs then ((hC xs, hP xs, hN xs), 0) else ((0, 0, 0), 9)
theorem rdH_err (xs : List Nat) : (rdH xs).2 = 0 ↔ hotN xs = true := by
 unfold rdH hotN
 split
 · simp; omega
 · split <;> simp [*] <;> omega
theorem rhead_all (ao : Option Addr) (n cap : Nat) (xs : List Nat) (w : World) (h : Rd w ao n cap xs) (hx : ∀ x ∈ xs, x < 256) (hn2 : n ≤ 140737488355328) (hT : Tab w) :
   Calls Tryz.prog 105 #[.slice ao n cap] w fun e w' => e = .returned (.tuple #[.agg #[.int .i64 ((rdH xs).1.1 : Int), .int .i64 ((rdH xs).1.2.1 : Int), .int .u64 ((rdH xs).1.2.2 : Int)], .int .i64 (rdH xs).2]) ∧ Below w.heap.size w w' := by
 have hl := h.1
 by_cases hn : n < 128
 · have e : rdH xs = ((0, 0, 0), 8) := by unfold rdH; rw [if_pos (by omega)]
   rw [e]
   exact rhead_short ao n cap w hn
 · refine (rhead_any ao n cap xs w h hx (by omega) hn2 hT).mono fun e w' ⟨c, p, m, er, he, hh, hb⟩ => ⟨?_, hb⟩
   rw [he]
   rcases hh.out with ⟨h1, rfl, rfl, rfl, rfl⟩ | ⟨h1, rfl, rfl, rfl, rfl⟩
   · have e : rdH xs = ((hC xs, hP xs, hN xs), 0) := by unfold rdH; rw [if_neg (by omega), if_pos h1]
     rw [e]
   · have e : rdH xs = ((0, 0, 0), 9) := by unfold rdH; rw [if_neg (by omega), if_neg (by rw [h1]; simp)]
     rw [e]
theorem hot_any (ao : Option Addr) (n cap : Nat) (xs : List Nat) (w : World) (h : Rd w ao n cap xs) (hx : ∀ x ∈ xs, x < 256) (hn2 : n ≤ 140737488355328) (hT : Tab w) :
   Calls Tryz.prog 79 #[.slice ao n cap] w fun e w' => e = .returned (.bool (hotN xs)) ∧ Below w.heap.size w w' := by
 have c := hid (rhead_all ao n cap xs w h hx hn2 hT)
 have he := rdH_err xs
 generalize rdH xs = r at *
 obtain ⟨⟨c1, p1, n1⟩, er⟩ := r
 simp only at c he
 have hb : (er == 0) = hotN xs := by rw [Bool.eq_iff_iff, beq_iff_eq]; exact he
 generalize hotN xs = b at *
 clear he h hx hT
 go_enter Tryz.func79, Tryz.ntmps79
 go_wp2_with (go_at_call 105; refine c.out.mono ?_; rintro e w1 ⟨rfl, hb1⟩)
 go_ret
 exact ⟨rfl, Below.alloc hb1 hb1.size _⟩
theorem head_last (c p n : Nat) (wh : Bool) : (headN c p n wh).getD 127 0 = if wh then 165 else 0 := by
 unfold headN
 simp [List.getD, hd26_length]
theorem not_hot (xs : List Nat) (h : xs.getD 127 0 = 0) : hotN xs = false := by
 rw [Bool.eq_false_iff]
 intro hh
 unfold hotN isHead at hh
 simp only [Bool.and_eq_true, decide_eq_true_eq] at hh
 have h2 := congrArg (fun l : List Nat => l.getD 127 0) hh.2.1.1
 simp only [head_last, if_true] at h2
 simp [List.getD] at h2 h
 omega
end Jrn
namespace Jrn
open Go.RowKit
def RB (t : TypeId) (W : World) (q : Nat) (p : Int) (ao : Option Addr) (n cap : Nat) : Prop := W.heap[q]? = some (.cells #[.int .i64 p, .slice ao n cap] t (0, 0))
variable {n cap q : Nat} {ao : Option Addr} {p : Int} {W : World} {t : TypeId}
theorem RB.cells (h : RB t W q p ao n cap) :
   W.cell? ⟨q, 0, none⟩ = some (.int .i64 p) ∧ W.cell? ⟨q, 1, none⟩ = some (.slice ao n cap) ∧ W.frozen? ⟨q, 0, none⟩ = false ∧ W.frozen? ⟨q, 1, none⟩ = false := by
 unfold RB at h
 simp [World.cell?, World.frozen?, h]
theorem RB.lt (h : RB t W q p ao n cap) : q < W.heap.size := lt_of_block h
theorem RB.keep {W' : World} (h : RB t W q p ao n cap) (hb : Below W.heap.size W W') : RB t W' q p ao n cap := by
 unfold RB; rw [hb.block q h.lt]; exact h
theorem RB.new (t : TypeId) (w : World) (p : Int) (ao : Option Addr) (n cap : Nat) : RB t (w.alloc (.cells #[.int .i64 p, .slice ao n cap] t)) w.heap.size p ao n cap := heap_alloc_new w _
theorem put4' (m : Nat) (v : Nat) (w : World) (hm : m = 4) :
   Calls Tryz.prog 150 #[.slice none 0 0, .int .u64 (v : Int), .int .i64 4, .bool false] w fun e w' => ∃ g, e = .returned (.slice (some ⟨g, 0, none⟩) m m) ∧ w.heap.size ≤ g ∧ Rd w' (some ⟨g, 0, none⟩) m m (putN v 4 false) ∧ Below w.heap.size w w' := by
 have := put4 none 0 0 m [] v w (Rd.nil w) (by omega) (by omega)
 simpa using this
theorem check_any (p n : Nat) (ao : Option Addr) (k cap : Nat) (d : List Nat) (w : World) (hT : Tab w) (h : Rd w ao k cap d) (hd : ∀ x ∈ d, x < 256) (hk : k ≤ 100000) (hp : p ≤ 4000) :
   Calls Tryz.prog 139 #[.agg #[.int .i64 (p : Int), .slice ao k cap], .int .u64 (n : Int)] w fun e w' => e = .returned (.int .u32 ((chkN p n d : Nat) : Int)) ∧ Below w.heap.size w w' := by
 have hT' := hid hT
 have h' := hid h
 have hd' := hid hd
 have q0 := hid (RB.new 153 w (p : Int) ao k cap)
 obtain ⟨S, hS⟩ : ∃ S, S = addN 0 (rec12 p n) := ⟨_, rfl⟩
 have hSl : S < 4294967296 := by rw [hS]; exact addN_lt (by decide) (rec12_bytes _ _)
 obtain ⟨R, hR⟩ : ∃ R, R = chkN p n d := ⟨_, rfl⟩
 have hRS : Hid (addN S d = R) := hid (by rw [hR, hS]; unfold chkN; rw [addN_append])
 rw [← hR]
 have hS' := hid hS
 have t1 : Hid True := hid trivial
 clear hT h hd hS hR
 go_enter Tryz.func139, Tryz.ntmps139
 go_upto_region 3 with (first
   | (go_at_call 150; clear t1; refine (put4' 4 p _ rfl).mono ?_; rintro e w1 ⟨g1, rfl, hg1, r1, hb1⟩; have Q1 := hid (q0.out.keep hb1); have B1 := hid (gt (Below.alloc (Below.refl _ _) (Nat.le_refl _) _) hb1); have R1 := hid r1; clear hb1 r1)
   | (go_at_call 150; refine (put8 _ 4 4 12 _ n _ R1.out (by omega) (by omega)).mono ?_; rintro e w2 ⟨g2, rfl, hg2, r2, hb2⟩; have Q2 := hid (Q1.out.keep hb2); have B2 := hid (gt B1.out hb2); have R2 : Hid (Rd w2 (some ⟨g2, 0, none⟩) 12 12 (rec12 p n)) := hid r2; clear hb2 r2; obtain ⟨a0, a1, _, _⟩ := Q2.out.cells))
 go_region_with (first
   | (go_at_call 134; refine (of_any _ 12 12 _ _ (R2.out.keep (Below.refl _ _).drew) (rec12_bytes _ _) (by omega) (hT'.out.keep B2.out.drew)).mono ?_; rw [← hS'.out]; rintro e w3 ⟨rfl, hw3⟩; obtain rfl := hw3.symm)
   | (go_at_call 162; refine (add_any S ao k cap d _ hSl (h'.out.keep B2.out.drew) hd'.out (by omega) (hT'.out.keep B2.out.drew)).mono ?_; rw [hRS.out]; rintro e w4 ⟨rfl, hw4⟩; obtain rfl := hw4.symm))
 all_goals
   go_wp2
   go_ret
   exact ⟨rfl, B2.out.drew⟩
theorem step_copy_in {ops : Array Oper} {o : Oper} {a : Act} {w : World} {K : Act → World → Prop} {Q : Exit → Act → World → Prop} {E : Prop} (hgd : o.guard = none) (d s : Operand)
   (ho : o.op = .call { callee := .builtin .copy, args := #[d, s], argTypes := #[60, 60] }) (B g N off : Nat) (ys : List Nat) (hown : w.ownsRow B 5 1 (.slice (some ⟨g, 0, none⟩) N N) N (bs ys))
   (dLen dCap : Nat) (hd : a.eval d = .slice (some ⟨g, off, none⟩) dLen dCap) (hdl : off + dLen = N) (so : Option Addr) (n c : Nat) (xs : List Nat) (hs : a.eval s = .slice so n c) (hr : Rd w so n c xs) (hn : n ≤ dLen) (h0 : 0 < n)
   (h : ∀ w', w'.ownsRow B 5 1 (.slice (some ⟨g, 0, none⟩) N N) N (bs (ys.take off ++ xs ++ ys.drop (off + n))) → Below B w w' → K (a.put o.dst (goInt n)) w') : if Region.wanted o (yielded ops a.tmps) = true then Oper.wp Tryz.prog o a w K Q else E := by
 have hw : Region.wanted o (yielded ops a.tmps) = true := by simp [Region.wanted, hgd]
 rw [if_pos hw]
 have hly : ys.length = N := by simpa [bs] using hown.1
 have hlx := hr.1
 rcases hown.2 with ⟨h', _⟩ | ⟨g', cap', cur, h', hb, hg, hnc, hm, hsz, ht⟩
 · cases h'
 simp only [Value.slice.injEq, Option.some.injEq, Addr.mk.injEq, and_true, true_and] at h'
 obtain ⟨rfl, rfl⟩ := h'
 have hcur : cur.toList = bs ys := by
   rw [← ht]
   exact (List.take_of_length_le (by simp [hsz])).symm
 have hbl : (bs xs).length = n := by simp [bs, hlx]
 obtain ⟨b, o2, rfl, hc⟩ := hr.2.2.2 h0
 have hrun := run_copy_row (P := Tryz.prog) w 60 60 o.type 5 g off dLen dCap ⟨b, o2, none⟩ n c cur 5 (bs xs) Tryz.underlying60 (by kernel_rfl) hg (by rw [hbl]; exact (Nat.min_eq_left hn).symm)
   (fun j v hv => by obtain ⟨hj, rfl⟩ := bs_get' xs j v hv; rw [Addr.add_lit]; exact hc j (by omega)) (by rw [hbl, hsz]; omega) (bs_one xs)
 have hsp : cur.toList.take off ++ bs xs ++ cur.toList.drop (off + (bs xs).length) = bs (ys.take off ++ xs ++ ys.drop (off + n)) := by
   rw [hcur, hbl, bs_append, bs_append]
   simp [bs]
 rw [hsp, hbl] at hrun
 have hZl : (ys.take off ++ xs ++ ys.drop (off + n)).length = N := by simp; omega
 generalize ys.take off ++ xs ++ ys.drop (off + n) = Z at *
 have h1 := h (w.setRow g (bs Z).toArray) ?_ ⟨rfl, rfl, rfl, by simp, fun k hk => setRow_other w g k _ (by omega)⟩
 · unfold Oper.wp
   simp [execOp, ho, resolve, invoke, builtin, hd, hs, hrun, Result.andThen]
   exact h1
 · refine own_of_row hb (setRow_heap w g cur _ 5 _ hg) ?_ (by unfold maxLen at hm; omega) ?_ ?_ (Nat.le_refl _)
   · simp [bs, hZl]
   · exact List.take_of_length_le (by simp [bs, hZl])
   · exact hZl
theorem rec_rows (p n : Nat) (d : List Nat) (K : Nat) (hK : K = 640) :
   ((List.replicate K 0).take 0 ++ (putN p 4 false ++ putN (chkN p n d) 4 false) ++ (List.replicate K 0).drop (0 + 8)).take 128 ++ d ++ ((List.replicate K 0).take 0 ++ (putN p 4 false ++ putN (chkN p n d) 4 false) ++ (List.replicate K 0).drop (0 + 8)).drop (128 + 512) = recN p n d := by
 obtain ⟨A, hA⟩ : ∃ A, A = putN p 4 false ++ putN (chkN p n d) 4 false := ⟨_, rfl⟩
 have h8 : A.length = 8 := by rw [hA]; simp [putN_length]
 unfold recN
 rw [← hA, List.take_zero, List.nil_append, List.drop_replicate]
 have e : (A ++ List.replicate (K - (0 + 8)) 0).drop (128 + 512) = [] := List.drop_eq_nil_of_le (by simp [h8]; omega)
 rw [e, List.append_nil, List.take_append, h8, List.take_of_length_le (by omega), List.take_replicate, hK]
 rfl
theorem rec_yes (p n : Nat) (ao : Option Addr) (cap : Nat) (d : List Nat) (w : World) (hT : Tab w) (h : Rd w ao 512 cap d) (hd : ∀ x ∈ d, x < 256) (hp : 1 ≤ p) (hp2 : p ≤ 4000) :
   Calls Tryz.prog 149 #[.agg #[.int .i64 (p : Int), .slice ao 512 cap], .int .u64 (n : Int)] w fun e w' => ∃ g, e = .returned (.slice (some ⟨g, 0, none⟩) 640 640) ∧ w'.ownsRow w.heap.size 5 1 (.slice (some ⟨g, 0, none⟩) 640 640) 640 (bs (recN p n d)) ∧ Below w.heap.size w w' := by
 have cg := hid (rgood_any (p : Int) ao 512 cap)
 rw [(rgood_iff (p : Int) 512).2 (by omega)] at cg
 have hT' := hid hT
 have h' := hid h
 have hd' := hid hd
 have q0 := hid (RB.new 153 w (p : Int) ao 512 cap)
 obtain ⟨K, hK⟩ : ∃ K : Nat, K = 640 := ⟨_, rfl⟩
 have hmk := make_lit 640 K (by omega) (by omega)
 have hK' := hid hK
 obtain ⟨S, hS⟩ : ∃ S, S = chkN p n d := ⟨_, rfl⟩
 have hSl : S < 4294967296 := by rw [hS]; exact chkN_lt p n hd
 have hS' := hid hS
 have t1 : Hid True := hid trivial
 clear hT h hd hK hS
 go_enter Tryz.func149, Tryz.ntmps149
 go_upto_region 7 with (first
   | (go_at_call 138; refine (cg.out _).mono ?_; rintro e w1 ⟨rfl, hb1⟩; have Q1 := hid (q0.out.keep hb1); have B1 := hid (gt (Below.alloc (Below.refl _ _) (Nat.le_refl _) _) hb1); clear hb1; obtain ⟨a0, a1, _, _⟩ := Q1.out.cells)
   | (go_at_call 150; clear t1; refine (put4' 4 p _ rfl).mono ?_; rintro e w2 ⟨g2, rfl, hg2, r2, hb2⟩; have Q2 := hid (Q1.out.keep hb2); have B2 := hid (gt B1.out hb2); have R2 := hid r2; clear hb2 r2 a0 a1; obtain ⟨a0, a1, _, _⟩ := Q2.out.cells)
   | (go_at_call 139; refine (check_any p n ao 512 cap d _ (hT'.out.keep B2.out) (h'.out.keep B2.out) hd'.out (by omega) hp2).mono ?_; rw [← hS'.out]; rintro e w3 ⟨rfl, hb3⟩; have Q3 := hid (Q2.out.keep hb3); have B3 := hid (gt B2.out hb3); have R3 := hid (R2.out.keep hb3); clear hb3 a0 a1)
   | (go_at_call 150; refine (put4 _ 4 4 8 _ S _ R3.out (by omega) (by omega)).mono ?_; rintro e w4 ⟨g4, rfl, hg4, r4, hb4⟩; have Q4 := hid (Q3.out.keep hb4); have B4 := hid (gt B3.out hb4); have R4 := hid r4; clear hb4 r4)
   | ((with_reducible refine here_op 23 ?_); refine wpList_copy_in rfl (.tmp 21) (.tmp 22) rfl w4.heap.size w4.heap.size K 0 (List.replicate K 0) (own_zeros w4 K (by have := hK'.out; omega)) K K rfl (by omega) (some ⟨g4, 0, none⟩) 8 8 _ rfl (R4.out.keep (Below.alloc (Below.refl _ _) (Nat.le_refl _) _)) (by have := hK'.out; omega) ?_; intro w5 ho5 hb5; have H5 := hid ((Below.alloc (Below.refl _ _) (Nat.le_refl _) _).trans hb5); have Q5 := hid (Q4.out.keep H5.out); have B5 := hid (gt B4.out H5.out); have O5 := hid ho5; have hg5 := B4.out.size; clear ho5 hb5 hmk))
 obtain ⟨a0, a1, _, _⟩ := Q5.out.cells
 have hK1 : (128 : Int) ≤ (K : Int) := by have := hK'.out; omega
 have hK2 : ¬ K = 128 := by have := hK'.out; omega
 have hlt5 : w4.heap.size < w5.heap.size := by
   have := (O5.out.lt w4.heap.size rfl).2
   exact this
 go_region_law (refine step_copy_in rfl (.tmp 25) (.tmp 27) rfl w4.heap.size w4.heap.size K 128 _ O5.out.drew (K - 128) (K - 128) (by simp [Act.eval]) (by have := hK'.out; omega) ao 512 cap d (by simp [Act.eval]) (h'.out.keep B5.out.drew) (by have := hK'.out; omega) (by omega) ?_; intro w6 ho6 hb6)
 rw [hS'.out, rec_rows p n d K hK'.out] at ho6
 have hK3 := hK'.out
 subst hK3
 have O6 := hid (own_base ho6 hg5)
 have B6 := hid (B5.out.drew.trans (hb6.mono hg5))
 clear ho6 hb6
 go_wp2
 go_ret
 exact ⟨_, rfl, O6.out, B6.out⟩
end Jrn
namespace Jrn
open Go.RowKit
end Jrn
namespace Jrn
open Go.RowKit
def Recs (W : World) (ao : Option Addr) (L : Nat) (P : Nat → Int) (D : Nat → List Nat) : Prop :=
 0 < L → ∃ b off, ao = some ⟨b, off, none⟩ ∧ ∀ i, i < L → ∃ a n c, W.cell? ⟨b, off + i * 2, none⟩ = some (.int .i64 (P i)) ∧ W.cell? ⟨b, off + i * 2 + 1, none⟩ = some (.slice a n c) ∧ Rd W a n c (D i)
theorem Recs.keep {W W' : World} {ao : Option Addr} {L : Nat} {P : Nat → Int} {D : Nat → List Nat} (h : Recs W ao L P D) (hb : Below W.heap.size W W') : Recs W' ao L P D := by
 intro hL
 obtain ⟨b, off, e, hc⟩ := h hL
 refine ⟨b, off, e, fun i hi => ?_⟩
 obtain ⟨a, n, c, h0, h1, h2⟩ := hc i hi
 exact ⟨a, n, c, keep_old hb h0, keep_old hb h1, h2.keep hb⟩
theorem Tryz.info153 : (Tryz.prog.info? 153).map (fun i => (i.zero, i.size, i.bytes)) = some (some (.agg #[.int .i64 0, .slice none 0 0]), 2, 32) := by kernel_rfl
theorem row_later {w w' : World} {base : Nat} {e : TypeId} {size : Nat} {v : Value} {n : Nat} {xs : List Value} (h : w.ownsRow base e size v n xs) (hb : Below w.heap.size w w') : w'.ownsRow base e size v n xs := by
 obtain ⟨hl, h | ⟨g, cap, cur, rfl, hb', hg, rest⟩⟩ := h
 · exact ⟨hl, .inl h⟩
 · exact ⟨hl, .inr ⟨g, cap, cur, rfl, hb', by rw [hb.block g (lt_of_block hg)]; exact hg, rest⟩⟩
end Jrn
namespace Jrn
open Go.RowKit
def goodFrom (P : Nat → Int) (D : Nat → List Nat) (pg : Int) (last : Int) : Nat → Nat → Bool
 | _, 0 => true
 | i, k + 1 => rgood (P i) (D i).length && decide (last < P i) && decide (P i ≤ pg) && goodFrom P D pg (P i) (i + 1) k
def goodL (c pg : Int) (L : Nat) (P : Nat → Int) (D : Nat → List Nat) : Bool := hgood c pg && decide ((L : Int) = c) && goodFrom P D pg 0 0 L
theorem good_any (c pg : Int) (m : Nat) (ao : Option Addr) (L cap : Nat) (P : Nat → Int) (D : Nat → List Nat) (w : World) (h : Recs w ao L P D) (hL : L ≤ 100000) :
   Calls Tryz.prog 108 #[.agg #[.int .i64 c, .int .i64 pg, .int .u64 (m : Int)], .slice ao L cap] w fun e w' => e = .returned (.bool (goodL c pg L P D)) ∧ Below w.heap.size w w' := by
 have h' := hid h
 have cg := hid (hgood_any c pg m)
 have q0 := hid (HB.new 122 w c pg m)
 have cr := hid fun p ao n cap W => rgood_any p ao n cap W
 obtain ⟨b, hb⟩ : ∃ b, b = goodL c pg L P D := ⟨_, rfl⟩
 have hb' := hid hb
 rw [← hb]
 clear h hb
 cases hg : hgood c pg with
 | false =>
   rw [hg] at cg
   obtain rfl : b = false := by rw [hb'.out]; unfold goodL; rw [hg]; rfl
   clear hg
   go_enter Tryz.func108, Tryz.ntmps108
   go_wp2_with (go_at_call 137; refine (cg.out _).mono ?_; rintro e w1 ⟨rfl, hb1⟩)
   go_ret
   exact ⟨rfl, gt (Below.alloc (Below.refl _ _) (Nat.le_refl _) _) hb1⟩
 | true =>
   rw [hg] at cg
   by_cases hLc : (L : Int) = c
   · have e1 : b = goodFrom P D pg 0 0 L := by rw [hb'.out]; unfold goodL; rw [hg]; simp [hLc]
     have e1' := hid e1
     have hne : ((L : Int) != c) = false := by simp [hLc]
     clear hg e1 hb'
     subst hLc
     go_enter Tryz.func108, Tryz.ntmps108
     go_wp2_with (go_at_call 137; refine (cg.out _).mono ?_; rintro e w1 ⟨rfl, hb1⟩; have Q1 := hid (q0.out.keep hb1); have B1 := hid (gt (Below.alloc (Below.refl _ _) (Nat.le_refl _) _) hb1); clear hb1; obtain ⟨a0, a1, a2, _, _, _⟩ := Q1.out.cells)
     clear a0 a1 a2
     go_loopw [5, 20] (fun s5 cc W => ∃ (i : Nat) (last : Int), i ≤ L ∧ cc = .int .i64 (i : Int) ∧ s5 = .int .i64 last ∧ Hid (goodFrom P D pg last i (L - i) = b) ∧ Hid (HB 122 W w.heap.size (L : Int) pg m) ∧ Hid (Below w.heap.size w W)) (fun _ cc _ => L - (intOf cc).toNat)
     case atStart => exact ⟨0, 0, by omega, rfl, rfl, hid e1'.out.symm, Q1, B1⟩
     case round =>
       obtain ⟨i, last, hi, rfl, rfl, G, Q, B⟩ := hrel
       clear Q1 B1
       by_cases hiL : i < L
       · obtain ⟨b0, off, rfl, hc⟩ := h'.out (by omega)
         obtain ⟨a, n, c1, k0, k1, rd⟩ := hc i hiL
         have k0' := keep_old B.out k0
         have k1' := keep_old B.out k1
         have hn : (D i).length = n := rd.1
         obtain ⟨p, hp⟩ : ∃ p, p = P i := ⟨_, rfl⟩
         rw [← hp] at k0'
         have hG := G.out
         rw [show L - i = (L - (i + 1)) + 1 by omega] at hG
         simp only [goodFrom] at hG
         rw [← hp, hn] at hG
         have G' := hid hG
         have hBs := B.out.size
         clear hG G k0 k1 rd hc hn hp e1'
         cases hg1 : rgood p n with
         | false =>
           have hbf : b = false := by rw [← G'.out, hg1]; simp only [Bool.false_and]
           clear G'
           subst hbf
           go_wp2_with (go_at_call 138; refine (cr.out p a n c1 _).mono ?_; rw [hg1]; rintro e w2 ⟨rfl, hb2⟩; have Q2 := hid (Q.out.keep2 hb2); have B2 := hid (gt2 B.out hb2); have Y2 := hid ((RB.new 153 wr p a n c1).keep hb2); obtain ⟨y0, y1, _, _⟩ := Y2.out.cells; obtain ⟨q0, q1, q2, _, _, _⟩ := Q2.out.cells; clear hb2)
           go_ret
           exact ⟨rfl, B2.out⟩
         | true =>
           by_cases hl1 : last < p
           · by_cases hl2 : p ≤ pg
             · have G2 : Hid (goodFrom P D pg p (i + 1) (L - (i + 1)) = b) := hid (by rw [← G'.out, hg1, decide_eq_true hl1, decide_eq_true hl2]; simp only [Bool.true_and])
               clear G'
               go_wp2_with (go_at_call 138; refine (cr.out p a n c1 _).mono ?_; rw [hg1]; rintro e w2 ⟨rfl, hb2⟩; have Q2 := hid (Q.out.keep2 hb2); have B2 := hid (gt2 B.out hb2); have Y2 := hid ((RB.new 153 wr p a n c1).keep hb2); obtain ⟨y0, y1, _, _⟩ := Y2.out.cells; obtain ⟨q0, q1, q2, _, _, _⟩ := Q2.out.cells; clear hb2)
               exact ⟨⟨i + 1, p, by omega, by go_num, rfl, G2, Q2, B2⟩, by simp [intOf]; omega⟩
             · have hbf : b = false := by rw [← G'.out, hg1, decide_eq_false hl2]; simp only [Bool.false_and, Bool.and_false]
               clear G'
               subst hbf
               go_wp2_with (go_at_call 138; refine (cr.out p a n c1 _).mono ?_; rw [hg1]; rintro e w2 ⟨rfl, hb2⟩; have Q2 := hid (Q.out.keep2 hb2); have B2 := hid (gt2 B.out hb2); have Y2 := hid ((RB.new 153 wr p a n c1).keep hb2); obtain ⟨y0, y1, _, _⟩ := Y2.out.cells; obtain ⟨q0, q1, q2, _, _, _⟩ := Q2.out.cells; clear hb2)
               go_ret
               exact ⟨rfl, B2.out⟩
           · have hbf : b = false := by rw [← G'.out, hg1, decide_eq_false hl1]; simp only [Bool.false_and, Bool.and_false]
             clear G'
             subst hbf
             go_wp2_with (go_at_call 138; refine (cr.out p a n c1 _).mono ?_; rw [hg1]; rintro e w2 ⟨rfl, hb2⟩; have Q2 := hid (Q.out.keep2 hb2); have B2 := hid (gt2 B.out hb2); have Y2 := hid ((RB.new 153 wr p a n c1).keep hb2); obtain ⟨y0, y1, _, _⟩ := Y2.out.cells; obtain ⟨q0, q1, q2, _, _, _⟩ := Q2.out.cells; clear hb2)
             go_ret
             exact ⟨rfl, B2.out⟩
       · obtain rfl : i = L := by omega
         have : b = true := by rw [← G.out, Nat.sub_self]; rfl
         subst this
         go_wp2
         go_ret
         exact ⟨rfl, B.out⟩
   · obtain rfl : b = false := by rw [hb'.out]; unfold goodL; rw [hg]; simp [hLc]
     have hne : ((L : Int) != c) = true := by simp [hLc]
     have hne2 : ((L : Int) == c) = false := by simp [hLc]
     clear hg
     go_enter Tryz.func108, Tryz.ntmps108
     go_wp2_with (go_at_call 137; refine (cg.out _).mono ?_; rintro e w1 ⟨rfl, hb1⟩; have Q1 := hid (q0.out.keep hb1); have B1 := hid (gt (Below.alloc (Below.refl _ _) (Nat.le_refl _) _) hb1); clear hb1; obtain ⟨a0, a1, a2, _, _, _⟩ := Q1.out.cells)
     go_ret
     exact ⟨rfl, B1.out⟩
end Jrn
namespace Jrn
open Go.RowKit
def recsN (P : Nat → Int) (D : Nat → List Nat) (n : Nat) : Nat → Nat → List Nat
 | _, 0 => []
 | i, k + 1 => recN (P i).toNat n (D i) ++ recsN P D n (i + 1) k
def bytesN (c pg : Int) (n : Nat) (wh : Bool) (L : Nat) (P : Nat → Int) (D : Nat → List Nat) : List Nat := headN c.toNat pg.toNat n wh ++ recsN P D n 0 L
theorem recsN_bytes (P : Nat → Int) (D : Nat → List Nat) (n : Nat) (k : Nat) : ∀ i, (∀ j, j < i + k → ∀ x ∈ D j, x < 256) → ∀ x ∈ recsN P D n i k, x < 256 := by
 induction k with
 | zero => intro i _ x h; cases h
 | succ k ih =>
   intro i hd
   exact app_bytes (recN_bytes _ _ (hd i (by omega))) (ih (i + 1) (fun j hj => hd j (by omega)))
variable {pg : Int}
theorem goodFrom_all {P : Nat → Int} {D : Nat → List Nat} (k : Nat) : ∀ {last i}, goodFrom P D pg last i k = true → ∀ j, i ≤ j → j < i + k → (1 ≤ P j ∧ P j ≤ 4000) ∧ (D j).length = 512 := by
 induction k with
 | zero => intro last i _ j h1 h2; omega
 | succ k ih =>
   intro last i h j h1 h2
   simp only [goodFrom, Bool.and_eq_true] at h
   rcases Nat.eq_or_lt_of_le h1 with rfl | h3
   · exact (rgood_iff _ _).1 h.1.1.1
   · exact ih h.2 j (by omega) (by omega)
variable {L : Nat}
theorem goodL_all {c : Int} {P : Nat → Int} {D : Nat → List Nat} (h : goodL c pg L P D = true) : ((0 ≤ c ∧ c ≤ 4000) ∧ 0 ≤ pg ∧ pg ≤ 4000) ∧ (L : Int) = c ∧ ∀ j, j < L → (1 ≤ P j ∧ P j ≤ 4000) ∧ (D j).length = 512 := by
 simp only [goodL, Bool.and_eq_true, decide_eq_true_eq] at h
 exact ⟨(hgood_iff _ _).1 h.1.1, h.1.2, fun j hj => goodFrom_all L h.2 j (by omega) (by omega)⟩
variable {n : Nat}
theorem recsN_length {P : Nat → Int} {D : Nat → List Nat} (k : Nat) : ∀ i, (∀ j, i ≤ j → j < i + k → (D j).length = 512) → (recsN P D n i k).length = k * 640 := by
 induction k with
 | zero => intro i _; rfl
 | succ k ih =>
   intro i h
   simp only [recsN, List.length_append, recN_length, h i (by omega) (by omega)]
   rw [ih (i + 1) (fun j h1 h2 => h j (by omega) (by omega))]
   omega
theorem recsN_step {P : Nat → Int} {D : Nat → List Nat} {i : Nat} (hi : i < L) {ys T : List Nat} (e : ys ++ recsN P D n i (L - i) = T) : (ys ++ recN (P i).toNat n (D i)) ++ recsN P D n (i + 1) (L - (i + 1)) = T := by
 rw [← e, show L - i = (L - (i + 1)) + 1 by omega]
 simp [recsN]
theorem bytes_yes (c pg : Int) (m : Nat) (ao : Option Addr) (L cap : Nat) (P : Nat → Int) (D : Nat → List Nat) (wh : Bool) (w : World) (h : Recs w ao L P D) (hd : ∀ j, j < L → ∀ x ∈ D j, x < 256) (hg : goodL c pg L P D = true) (hT : Tab w) :
   Calls Tryz.prog 118 #[.agg #[.int .i64 c, .int .i64 pg, .int .u64 (m : Int)], .slice ao L cap, .bool wh] w fun e w' => ∃ v, e = .returned v ∧ w'.ownsRow w.heap.size 5 1 v (128 + L * 640) (bs (bytesN c pg m wh L P D)) ∧ Below w.heap.size w w' := by
 obtain ⟨hcp, hLc, hall⟩ := goodL_all hg
 have hL : L ≤ 4000 := by omega
 have A0 : Below w.heap.size w (w.alloc (.cells #[.int .i64 c, .int .i64 pg, .int .u64 (m : Int)] 122)) := Below.alloc (Below.refl _ _) (Nat.le_refl _) _
 have cg := hid (good_any c pg m ao L cap P D _ (h.keep A0) (by omega))
 rw [hg] at cg
 have q0 := hid (HB.new 122 w c pg m)
 obtain ⟨c', rfl⟩ : ∃ k : Nat, c = (k : Int) := ⟨c.toNat, by omega⟩
 obtain ⟨p', rfl⟩ : ∃ k : Nat, pg = (k : Int) := ⟨pg.toNat, by omega⟩
 obtain ⟨T, hTv⟩ : ∃ T, T = bytesN c' p' m wh L P D := ⟨_, rfl⟩
 have hT0 : Hid (headN c' p' m wh ++ recsN P D m 0 L = T) := hid (by rw [hTv]; rfl)
 rw [← hTv]
 have hc4 : c' ≤ 4000 := by omega
 have hp4 : p' ≤ 4000 := by omega
 have hall' := hid hall
 have h' := hid h
 have hd' := hid hd
 have hT' := hid hT
 have hA0 := hid A0
 obtain ⟨K, hw640, hK⟩ : ∃ K : Nat, (L : Int) * 640 = (K : Int) ∧ K = L * 640 := ⟨L * 640, by omega, rfl⟩
 have hK' := hid hK
 have hKb : K ≤ 2560000 := by omega
 clear hK
 clear h hd hT hall hTv A0 hg hcp hLc
 obtain ⟨B, hB⟩ : ∃ B, B = w.heap.size + 1 := ⟨_, rfl⟩
 have hB' := hid hB
 clear hB
 go_enter Tryz.func118, Tryz.ntmps118
 go_wp2_with (first
   | (go_at_call 108; refine cg.out.mono ?_; rintro e w1 ⟨rfl, hb1⟩; have Q1 := hid (q0.out.keep hb1); have B1 := hid (gt hA0.out hb1); clear hb1; obtain ⟨a0, a1, a2, _, _, _⟩ := Q1.out.cells)
   | (go_at_call 119; refine (head_yes c' p' m wh _ hc4 hp4 (hT'.out.keep B1.out)).mono ?_; rintro e w2 ⟨g2, rfl, ho2, hb2⟩; have hBs : B ≤ w1.heap.size := (by have := Q1.out.lt; have := hB'.out; omega); have hBs2 : B ≤ w2.heap.size := Nat.le_trans hBs hb2.size; have Q2 := hid (Q1.out.keep hb2); have B2 := hid (gt B1.out hb2); have O2 := hid (own_base ho2 hBs); clear hb2 ho2 a0 a1 a2)
   | (go_at_call 148; refine (grow_any B g2 128 K _ _ O2.out (by omega) hBs2).mono ?_; rintro e w3 ⟨v3, rfl, ho3, hb3⟩; have Q3 := hid (Q2.out.under hb3 (by have := hB'.out; omega)); have B3 := hid (B2.out.trans (hb3.mono (by have := hB'.out; omega))); have O3 := hid ho3; have hBs3 : B ≤ w3.heap.size := Nat.le_trans hBs2 hb3.size; clear hb3 ho3))
 go_loopw [7, 23] (fun o cc W => ∃ (i : Nat) (ys : List Nat), i ≤ L ∧ cc = .int .i64 (i : Int) ∧ Hid (ys ++ recsN P D m i (L - i) = T) ∧ Hid (W.ownsRow B 5 1 o (128 + i * 640) (bs ys)) ∧ Hid (HB 122 W w.heap.size c' p' m) ∧ Hid (Below w.heap.size w W)) (fun _ cc _ => L - (intOf cc).toNat)
 case atStart => exact ⟨0, _, by omega, rfl, hT0, O3, Q3, B3⟩
 case round =>
   obtain ⟨i, ys, hi, rfl, E, O, Q, BW⟩ := hrel
   clear Q1 Q2 Q3 O2 O3 B1 B2 B3
   by_cases hiL : i < L
   · obtain ⟨b0, off, rfl, hc⟩ := h'.out (by omega)
     obtain ⟨a, n, c1, k0, k1, rd⟩ := hc i hiL
     obtain ⟨hp, hdl⟩ := hall'.out i hiL
     obtain ⟨p, hpv⟩ : ∃ p : Nat, P i = (p : Int) := ⟨(P i).toNat, by omega⟩
     have hn : n = 512 := by rw [← rd.1]; exact hdl
     subst hn
     have k0' := keep_old BW.out k0
     have k1' := keep_old BW.out k1
     rw [hpv] at k0' hp
     have rd' := hid (rd.keep BW.out)
     have hp1 : 1 ≤ p := by omega
     have hp2 : p ≤ 4000 := by omega
     have E2 := hid (recsN_step hiL E.out)
     have hpv' := hid hpv
     obtain ⟨a0, a1, a2, _, _, _⟩ := Q.out.cells
     have hlt := Q.out.lt
     have hne : ¬ w.heap.size = wr.heap.size := by omega
     have hBr : B ≤ wr.heap.size := by have := hB'.out; omega
     have hBr2 : w.heap.size ≤ B := by have := hB'.out; omega
     clear k0 k1 rd hc hpv hp hdl E
     go_wp2_with (first
       | (go_at_call 149; refine (rec_yes p m a c1 _ _ (hT'.out.keep (Below.alloc BW.out BW.out.size _)) (rd'.out.keep (Below.alloc (Below.refl _ _) (Nat.le_refl _) _)) (hd'.out i hiL) hp1 hp2).mono ?_; rintro e w5 ⟨g5, rfl, ho5, hb5⟩; have Q5 := hid (Q.out.keep2 hb5); have B5 := hid (gt2 BW.out hb5); have R5 := hid (rd_own ho5); have O5 := hid (row_later (O.out.alloc _) hb5); have hBr5 : B ≤ w5.heap.size := (by have := hb5.size; simp at this; omega); clear hb5 ho5 a0 a1 a2)
       | ((with_reducible refine here_op 32 ?_); refine wpList_append_rd rfl (.tmp 27) (.tmp 31) rfl B _ (128 + i * 640) ys rfl O5.out (some ⟨g5, 0, none⟩) 640 640 _ rfl R5.out (by omega) hBr5 ?_; intro v6 w6 ho6 hb6; have Q6 := hid (Q5.out.under hb6 (by have := hB'.out; omega)); have B6 := hid (B5.out.trans (hb6.mono hBr2)); have O6 := hid ho6; clear ho6 hb6))
     refine ⟨⟨i + 1, ys ++ recN p m (D i), by omega, by go_num, hid ?_, hid ?_, Q6, B6⟩, by simp [intOf]; omega⟩
     · have := E2.out
       rw [hpv'.out, Int.toNat_natCast] at this
       exact this
     · rw [show 128 + (i + 1) * 640 = 128 + i * 640 + 640 by omega]
       exact O6.out
   · obtain rfl : i = L := by omega
     have hy : ys = T := by rw [← E.out, Nat.sub_self]; simp [recsN]
     subst hy
     go_wp2
     go_ret
     exact ⟨_, rfl, own_base O.out (by have := hB'.out; omega), BW.out⟩
end Jrn
namespace Jrn
open Go.RowKit
def rv : List (Int × Option Addr × Nat × Nat) → List Value
 | [] => []
 | r :: l => .int .i64 r.1 :: .slice r.2.1 r.2.2.1 r.2.2.2 :: rv l
theorem rv_length (l : List (Int × Option Addr × Nat × Nat)) : (rv l).length = l.length * 2 := by
 induction l with
 | nil => rfl
 | cons r l ih => simp [rv, ih]; omega
theorem rv_append (l m : List (Int × Option Addr × Nat × Nat)) : rv (l ++ m) = rv l ++ rv m := by
 induction l with
 | nil => rfl
 | cons r l ih => simp [rv, ih]
end Jrn
namespace Jrn
open Go.RowKit
def RowIs (W : World) (g : Nat) (l : List (Int × Option Addr × Nat × Nat)) : Prop := W.heap[g]? = some (.cells (rv l).toArray 153 (0, 0))
variable {g : Nat} {W : World}
theorem RowIs.cellAt {l : List (Int × Option Addr × Nat × Nat)} (h : RowIs W g l) (j : Nat) : W.cell? ⟨g, j, none⟩ = (rv l)[j]? := by
 unfold RowIs at h
 simp [World.cell?, h]
theorem RowIs.frozenAt {l : List (Int × Option Addr × Nat × Nat)} (h : RowIs W g l) (j : Nat) : W.frozen? ⟨g, j, none⟩ = false := by
 unfold RowIs at h
 simp [World.frozen?, h]
def zr : Int × Option Addr × Nat × Nat := (0, none, 0, 0)
theorem rv_get (l : List (Int × Option Addr × Nat × Nat)) (r : Int × Option Addr × Nat × Nat) (m : List (Int × Option Addr × Nat × Nat)) : (rv (l ++ r :: m))[l.length * 2]? = some (.int .i64 r.1) ∧ (rv (l ++ r :: m))[l.length * 2 + 1]? = some (.slice r.2.1 r.2.2.1 r.2.2.2) := by
 rw [rv_append]
 constructor
 · rw [List.getElem?_append_right (by rw [rv_length]; omega), rv_length, Nat.sub_self]; rfl
 · rw [List.getElem?_append_right (by rw [rv_length]; omega), rv_length, show l.length * 2 + 1 - l.length * 2 = 1 by omega]; rfl
theorem rv_set (l : List (Int × Option Addr × Nat × Nat)) (r : Int × Option Addr × Nat × Nat) (m : List (Int × Option Addr × Nat × Nat)) (p : Int) (a : Option Addr) (n c : Nat) : ((rv (l ++ r :: m)).set (l.length * 2) (.int .i64 p)).set (l.length * 2 + 1) (.slice a n c) = rv (l ++ (p, a, n, c) :: m) := by
 rw [rv_append, rv_append, List.set_append_right _ _ (by rw [rv_length]; omega), rv_length, Nat.sub_self, List.set_append_right _ _ (by rw [rv_length]; omega), rv_length, show l.length * 2 + 1 - l.length * 2 = 1 by omega]
 rfl
theorem RowIs.set {l : List (Int × Option Addr × Nat × Nat)} {r : Int × Option Addr × Nat × Nat} {m : List (Int × Option Addr × Nat × Nat)} (h : RowIs W g (l ++ r :: m)) (p : Int) (a : Option Addr) (n c : Nat) :
   RowIs ((W.setCell ⟨g, l.length * 2, none⟩ (.int .i64 p)).setCell ⟨g, l.length * 2 + 1, none⟩ (.slice a n c)) g (l ++ (p, a, n, c) :: m) := by
 have h1 := heap_setCell_same W g (l.length * 2) _ 153 (.int .i64 p) h
 have h2 := heap_setCell_same _ g (l.length * 2 + 1) _ 153 (.slice a n c) h1
 unfold RowIs
 rw [h2, ← rv_set l r m p a n c]
 simp
theorem rv_zero (n : Nat) : ∀ i, i < n * 2 → (rv (List.replicate n zr))[i]? = some (if i % 2 = 0 then .int .i64 0 else .slice none 0 0) := by
 induction n with
 | zero => intro i h; omega
 | succ n ih =>
   intro i h
   match i, h with
   | 0, _ => rfl
   | 1, _ => rfl
   | i + 2, h =>
     have := ih i (by omega)
     rw [show (i + 2) % 2 = i % 2 by omega]
     simpa [List.replicate_succ, rv] using this
theorem made_rv (n : Nat) : madeCells (Value.agg #[.int .i64 0, .slice none 0 0]).cells (n * 2) = (rv (List.replicate n zr)).toArray := by
 apply Array.ext'
 apply List.ext_getElem?
 intro i
 by_cases h : i < n * 2
 · rw [show ((rv (List.replicate n zr)).toArray.toList)[i]? = (rv (List.replicate n zr))[i]? from rfl, rv_zero n i h]
   simp only [madeCells, Array.toList_map, Array.toList_range, List.getElem?_map, List.getElem?_range h, Option.map_some, Value.cells]
   rcases Nat.mod_two_eq_zero_or_one i with h2 | h2 <;> simp [h2]
 · rw [List.getElem?_eq_none (by simp [size_madeCells]; omega), List.getElem?_eq_none (by simp [rv_length]; omega)]
theorem make27 (n : Nat) (hn : n ≤ 100000) (w : World) : (Instr.makeSlice 118 (.int .i64 (n : Int)) (.int .i64 (n : Int))).run Tryz.prog w = .ok (.slice (some ⟨w.heap.size, 0, none⟩) n n) (w.alloc (.cells (rv (List.replicate n zr)).toArray 153)) := by
 obtain ⟨i, hi, hz0, hz1, hz2⟩ := info_parts Tryz.info153
 have hr := run_make (P := Tryz.prog) w 118 153 i _ Tryz.underlying118 hi hz0 .i64 .i64 n n (by omega) (by omega) (by rw [hz2]; omega) (by omega)
 rw [hr, hz1, Int.toNat_natCast, made_rv]
variable {u v : Tmp} {fn : Func}
theorem results_cell_tmp2 {p : Tmp} {ty : TypeId} (h : fn.results = #[.cell p ty, .tmp u, .tmp v]) (tmps : Array Value) (P : Program) (w : World) :
   (results fn tmps).run P w = ((asAddr (tmps.getD p undef)).run P w).andThen fun a w₁ => ((loadVar ty a).run P w₁).andThen fun x w₂ => .ok (.tuple #[x, tmps.getD u undef, tmps.getD v undef]) w₂ := by
 simp only [results, h]
 simp [Sem.run_bind, Result.andThen]
variable {t : TypeId}
theorem ret_head3 {a : Tmp} (h : fn.results = #[.cell a t, .tmp u, .tmp v]) (ha : ∀ W, (isAgg t).run Tryz.prog W = .ok true W) (hs : ∀ W, (Go.sizeOf t).run Tryz.prog W = .ok 3 W) {tmps : Array Value} {W : World} {q : Nat} {c p : Int} {n : Nat}
   (hp : tmps.getD a undef = .pointer (some ⟨q, 0, none⟩)) (hb : HB t W q c p n) : (results fn tmps).run Tryz.prog W = .ok (.tuple #[.agg #[.int .i64 c, .int .i64 p, .int .u64 (n : Int)], tmps.getD u undef, tmps.getD v undef]) W := by
 rw [results_cell_tmp2 h, hp]
 simp [asAddr, load_head ha hs hb]
variable {i : Nat}
theorem rep_step {C : Nat} (h : i < C) : List.replicate (C - i) zr = zr :: List.replicate (C - (i + 1)) zr := by
 rw [show C - i = (C - (i + 1)) + 1 by omega, List.replicate_succ]
theorem row_get0 {l m : List (Int × Option Addr × Nat × Nat)} (h : i = l.length) : (rv (l ++ zr :: m))[i * 2]? = some (.int .i64 0) := by rw [h]; exact (rv_get l zr m).1
theorem row_get1 {l m : List (Int × Option Addr × Nat × Nat)} (h : i = l.length) : (rv (l ++ zr :: m))[i * 2 + 1]? = some (.slice none 0 0) := by rw [h]; exact (rv_get l zr m).2
theorem HB.kind {q : Nat} {c p : Int} {n : Nat} (h : HB t W q c p n) (j : Nat) (v : Value) (hv : W.cell? ⟨q, j, none⟩ = some v) : (∃ z, v = .int .i64 z) ∨ ∃ z, v = .int .u64 z := by
 rw [World.cell?] at hv
 unfold HB at h
 simp only [h] at hv
 match j, hv with
 | 0, hv => simp at hv; exact Or.inl ⟨_, hv.symm⟩
 | 1, hv => simp at hv; exact Or.inl ⟨_, hv.symm⟩
 | 2, hv => simp at hv; exact Or.inr ⟨_, hv.symm⟩
 | j + 3, hv => simp at hv
end Jrn
end Go.Proofs.YtadhdedjdgjboaaGreatDoor
