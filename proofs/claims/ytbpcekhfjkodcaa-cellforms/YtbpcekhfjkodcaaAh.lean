/- What a writer is in memory; what its bytes, number and variable do; no statement of the seat is proved here. -/
import Derived.Test.YtbpcekhfjkodcaaAg
import Derived.Test.YtbpcekhfjkodcaaKk
namespace Go.Proofs.Ytbpcekhfjkodcaa
open Go.RowKit

def zs (n : Nat) : List Nat := List.replicate n 0
theorem zs_length (n : Nat) : (zs n).length = n := by simp [zs]
/-- The page of a writer that has put these bytes. -/
def padN (ys : List Nat) : List Nat := ys ++ zs (512 - ys.length)
theorem padN_length (ys : List Nat) (h : ys.length ≤ 512) : (padN ys).length = 512 := by simp [padN, zs_length]; omega
def wrow (ys : List Nat) (at_ : Nat) : List Value := bs (padN ys) ++ [.int .i64 (at_ : Int)]
theorem wrow_length (ys : List Nat) (k : Nat) (h : ys.length ≤ 512) : (wrow ys k).length = 513 := by simp [wrow, bs_length, padN_length ys h]

/-- A writer that has put these bytes. -/
def WB (W : World) (q : Nat) (ys : List Nat) : Prop := ys.length ≤ 512 ∧ W.heap[q]? = some (.cells (wrow ys ys.length).toArray 89 (0, 0))
theorem WB.keep {W W' : World} {q : Nat} {ys : List Nat} (h : WB W q ys) (hb : Below W.heap.size W W') : WB W' q ys := ⟨h.1, by rw [hb.block q (lt_of_block h.2)]; exact h.2⟩
theorem wb_at {W : World} {q : Nat} {ys : List Nat} {k : Nat} (hl : ys.length ≤ 512) (h : W.heap[q]? = some (.cells (wrow ys k).toArray 89 (0, 0))) : W.cell? ⟨q, 512, none⟩ = some (.int .i64 (k : Int)) ∧ W.frozen? ⟨q, 512, none⟩ = false := by
  constructor
  · unfold World.cell?
    rw [h]
    simp only
    rw [List.getElem?_toArray, wrow, List.getElem?_append_right (by rw [bs_length, padN_length ys hl]; exact Nat.le_refl _), bs_length, padN_length ys hl]
    rfl
  · simp [World.frozen?, h]

theorem splice_pad (ys xs : List Nat) (h : ys.length + xs.length ≤ 512) (k : Nat) : splice (wrow ys k) ys.length (bs xs) = wrow (ys ++ xs) k := by
  unfold splice wrow padN
  rw [bs_length]
  have h1 : (bs (ys ++ zs (512 - ys.length)) ++ [Value.int .i64 (k : Int)]).take ys.length = bs ys := by
    rw [bs_append, List.append_assoc, List.take_append_of_le_length (by rw [bs_length]; exact Nat.le_refl _), List.take_of_length_le (by rw [bs_length]; exact Nat.le_refl _)]
  have h2 : (bs (ys ++ zs (512 - ys.length)) ++ [Value.int .i64 (k : Int)]).drop (ys.length + xs.length) = bs (zs (512 - (ys.length + xs.length))) ++ [Value.int .i64 (k : Int)] := by
    rw [List.drop_append_of_le_length (by rw [bs_length]; simp [zs_length]; omega)]
    congr 1
    unfold bs
    rw [← List.map_drop, List.drop_append, List.drop_of_length_le (by omega), List.nil_append]
    unfold zs
    rw [List.drop_replicate]
    congr 2
    omega
  rw [h1, h2]
  simp [bs_append, List.append_assoc]

theorem set_at (ys : List Nat) (k m : Nat) (hl : ys.length ≤ 512) : (wrow ys k).set 512 (.int .i64 (m : Int)) = wrow ys m := by
  unfold wrow
  rw [List.set_append_right _ _ (by rw [bs_length, padN_length ys hl]; exact Nat.le_refl _), bs_length, padN_length ys hl]
  rfl

theorem wb_set {W : World} {q : Nat} {ys : List Nat} {k : Nat} {z : Int} (hl : ys.length ≤ 512) (h : W.heap[q]? = some (.cells (wrow ys k).toArray 89 (0, 0))) (hz : z = (ys.length : Int)) : WB (W.setCell ⟨q, 512, none⟩ (.int .i64 z)) q ys := by
  subst hz
  refine ⟨hl, ?_⟩
  rw [heap_setCell_same W q 512 _ 89 _ h, List.setIfInBounds_toArray, set_at ys k ys.length hl]

/-- 'copy' into a row that lies in memory, as a step of a region that draws its order: only that row turns. -/
theorem step_copy_page {P : Program} {ops : Array Oper} {o : Oper} {a : Act} {w : World} {K : Act → World → Prop} {Q : Exit → Act → World → Prop} {E : Prop} (hgd : o.guard = none) (d s : Operand) (dT sT : TypeId)
    (ho : o.op = .call { callee := .builtin .copy, args := #[d, s], argTypes := #[dT, sT] }) (elem : TypeId) (hu : P.underlying dT = some (.slice elem)) (hsz : (P.info? elem).map (·.size) = some 1)
    (dp sp : Option Addr) (dLen dCap sLen sCap : Nat) (hd : a.eval d = .slice dp dLen dCap) (hs : a.eval s = .slice sp sLen sCap)
    (g off : Nat) (cur : List Value) (t : TypeId) (hg : w.heap[g]? = some (.cells cur.toArray t (0, 0))) (cs : List Value) (hn : cs.length = Nat.min sLen dLen)
    (hpos : 0 < cs.length → dp = some ⟨g, off, none⟩ ∧ ∃ ad, sp = some ad ∧ ∀ j v, cs[j]? = some v → w.cell? (ad.add j) = some v)
    (hfit : off + cs.length ≤ cur.length) (h1 : ∀ v ∈ cs, v.oneCell' = true)
    (h : ∀ w', Hid (w'.heap[g]? = some (.cells (splice cur off cs).toArray t (0, 0))) → w.grownBy w' (some g) → w'.heap.size = w.heap.size → K (a.put o.dst (goInt cs.length)) w') :
    if Region.wanted o (yielded ops a.tmps) = true then Oper.wp P o a w K Q else E := by
  have hw : Region.wanted o (yielded ops a.tmps) = true := by simp [Region.wanted, hgd]
  rw [if_pos hw]
  by_cases h0 : cs.length = 0
  · obtain rfl : cs = [] := List.eq_nil_of_length_eq_zero h0
    have hrun := run_copy_none (P := P) w dT sT o.type elem dp sp dLen dCap sLen sCap hu hsz (by simpa using hn.symm)
    unfold Oper.wp
    simp [execOp, ho, resolve, invoke, builtin, hd, hs, hrun, Result.andThen]
    exact h w (show _ = _ by simpa [splice] using hg) (World.grownBy.refl _ _) rfl
  · obtain ⟨rfl, ad, rfl, hsrc⟩ := hpos (by omega)
    have hrun := run_copy_row (P := P) w dT sT o.type elem g off dLen dCap ad sLen sCap cur.toArray t cs hu hsz hg hn hsrc (by simpa using hfit) h1
    unfold Oper.wp
    simp [execOp, ho, resolve, invoke, builtin, hd, hs, hrun, Result.andThen]
    exact h _ (show _ = _ by simpa [splice] using setRow_heap w g _ _ t _ hg) ⟨rfl, rfl, rfl, by simp [World.setRow], fun k _ hk => setRow_other w g k _ (fun e => hk (by rw [e]))⟩ (by simp [World.setRow])

/-- What a walk over a writer asks of the memory. -/
abbrev SW (q k : Nat) (W : World) : Prop := W.cell? ⟨q, 512, none⟩ = some (.int .i64 (k : Int))

theorem Try.u60 : Try.prog.underlying 60 = some (.array 512 5) := by kernel_rfl
theorem grown_drew {p : Nat} {a b : World} (h : a.drew.grownBy b (some p)) : a.grownBy b (some p) := ⟨h.os, h.tape, h.output, h.size, h.block⟩
theorem len60 : Try.prog.arrayLen 60 = 512 := by kernel_rfl
theorem elem60 : Try.prog.elem 60 = 5 := by kernel_rfl
theorem cut60 (q k : Nat) (h : k ≤ 512) (W : World) : (Instr.sliceAt 60 (.pointer (some ⟨q, 0, none⟩)) (some (.int .i64 (k : Int))) none none).run Try.prog W =
    .ok (.slice (some (if k = 512 then ⟨q, 0, none⟩ else ⟨q, k, none⟩)) (512 - k) (512 - k)) W := by
  have h1 : (sizeOf 5).run Try.prog W = .ok 1 W := by kernel_rfl
  rw [run_sliceAt_array_l W 60 _ (by kernel_rfl) .i64 (k : Int) (by omega) (by rw [len60]; omega), len60, elem60, h1]
  simp only [Result.andThen, slicedAt, Int.toNat_natCast, Nat.mul_one]
  by_cases hk : k = 512
  · rw [if_pos hk, if_pos hk.symm]
  · rw [if_neg hk, if_neg (fun e => hk e.symm), Addr.add_lit, Nat.zero_add]

set_option maxHeartbeats 2000000 in
set_option maxRecDepth 20000 in
theorem wbytes_any (q : Nat) (ys : List Nat) (so : Option Addr) (n c : Nat) (xs : List Nat) (W : World) (h : WB W q ys) (hr : Rd W so n c xs) (hn : ys.length + n ≤ 512) :
    Calls Try.prog 78 #[.pointer (some ⟨q, 0, none⟩), .slice so n c] W fun e w' => e = .returned (.tuple #[]) ∧ WB w' q (ys ++ xs) ∧ W.grownBy w' (some q) := by
  obtain ⟨k, hk⟩ : ∃ k, k = ys.length := ⟨_, rfl⟩
  have hlx := hid hr.1
  have hl0 := h.1
  have hg := h.2
  rw [← hk] at hg
  have g1 : SW q k W.drew := (wb_at h.1 hg).1
  have hg' : Hid (W.drew.heap[q]? = some (.cells (wrow ys k).toArray 89 (0, 0))) := hid hg
  have h' : Hid (Rd W.drew so n c xs) := hid (hr.keep (Below.refl _ _).drew)
  have hwl := hid (wrow_length ys k h.1)
  have hxy : Hid ((ys ++ xs).length ≤ 512) := hid (by have := hr.1; simp; omega)
  have hsp : Hid (splice (wrow ys k) k (bs xs) = wrow (ys ++ xs) k) := hid (by have := splice_pad ys xs (by have := hr.1; omega) k; rw [← hk] at this; exact this)
  have hbl : Hid ((bs xs).length = n) := hid (by rw [bs_length, hr.1])
  have hkn : k + n ≤ 512 := by omega
  have hk' := hid hk
  clear h hr hg hk hn
  by_cases hkf : k = 512
  · subst hkf
    obtain rfl : n = 0 := by omega
    have hcut := fun W => cut60 q 512 (Nat.le_refl _) W
    rw [if_pos rfl] at hcut
    go_enter Try.func78, Try.ntmps78
    go_upto_region 0 with fail
    refine wp_region_K (S := SW q 512) (fun i => i == 17) (by kernel_rfl) (g1) (fun hHeld => ?_)
    refine gkp 0 ?_
    refine gkp 1 ?_
    refine gkp 2 ?_
    refine gkt 3 ?_ (h := by intro W hSw; go_simp; first | done | with_reducible rfl)
    refine gkp 4 ?_
    refine gkp 5 ?_
    refine gkp 6 ?_
    refine gkp 7 ?_
    refine gkp 8 ?_
    refine gkp 9 ?_
    refine gkt 10 ?_ (h := by intro W hSw; go_simp; first | done | with_reducible rfl)
    refine gkp 11 ?_
    refine gkp 12 ?_
    refine gk1 13 (fun K hK => ?_)
    refine step_copy_page rfl (.tmp 15) (.tmp 16) 25 25 rfl 5 Try.underlying25 (by kernel_rfl) (some ⟨q, 0, none⟩) so 0 0 0 c rfl rfl q 512 (wrow ys 512) 89 (by exact hg'.out) (bs xs) (by have := hlx.out; rw [bs_length]; show _ = min _ _; omega) (fun hp => by exfalso; rw [bs_length, hlx.out] at hp; omega) (by rw [bs_length, hwl.out]; have := hlx.out; omega) (bs_one xs) ?_; intro w2 hg2 hgr2 hsz2; have hR : SW q 512 w2 := (wb_at hxy.out (hsp.out ▸ hg2.out)).1; have G2 := hid (grown_drew hgr2); have Z2 := hid hsz2; obtain ⟨hat, hfz⟩ := wb_at hxy.out (hsp.out ▸ hg2.out); clear hgr2 hsz2; rw [hbl.out]
    refine hK.out _ _ hR (fun hHeld => ?_)
    clear hK K
    (try simp only [Act.put, sA, sZ, sS])
    refine gkp 14 ?_
    refine gkp 15 ?_
    refine gkp 16 ?_
    refine gkl 17 (fun K hK => ?_)
    go_simp
    refine hK.out _ _ ?_
    clear hK K
    (try simp only [Act.put, sA, sZ, sS])
    refine wpAnyK_done (by kernel_rfl) ?_ _
    go_wp2
    go_end0
    refine ⟨rfl, wb_set hxy.out (hsp.out ▸ hg2.out) ?_, grow_trans G2.out (grow_set _ _ _ _)⟩
    have h1 := hk'.out
    have h2 := hlx.out
    simp
    rw [IntKind.wrap_i64]
    omega
  · have hk5 : k < 512 := by omega
    have hcut := fun W => cut60 q k (by omega) W
    rw [if_neg hkf] at hcut
    replace hkf := hid hkf
    go_enter Try.func78, Try.ntmps78
    go_upto_region 0 with fail
    refine wp_region_K (S := SW q k) (fun i => i == 17) (by kernel_rfl) (g1) (fun hHeld => ?_)
    refine gkp 0 ?_
    refine gkp 1 ?_
    refine gkp 2 ?_
    refine gkt 3 ?_ (h := by intro W hSw; go_simp; first | done | with_reducible rfl)
    refine gkp 4 ?_
    refine gkp 5 ?_
    refine gkp 6 ?_
    refine gkp 7 ?_
    refine gkp 8 ?_
    refine gkp 9 ?_
    refine gkt 10 ?_ (h := by intro W hSw; go_simp; first | done | with_reducible rfl)
    refine gkp 11 ?_
    refine gkp 12 ?_
    refine gk1 13 (fun K hK => ?_)
    refine step_copy_page rfl (.tmp 15) (.tmp 16) 25 25 rfl 5 Try.underlying25 (by kernel_rfl) (some ⟨q, k, none⟩) so (512 - k) (512 - k) n c rfl rfl q k (wrow ys k) 89 (by exact hg'.out) (bs xs) (by have := hlx.out; rw [bs_length]; show _ = min _ _; omega) (fun hp => ⟨rfl, (by obtain ⟨b2, o2, e2, hc2⟩ := h'.out.2.2.2 (by have := hlx.out; rw [bs_length] at hp; omega); exact ⟨_, e2, fun j v hv => by obtain ⟨hj, rfl⟩ := bs_get' xs j v hv; rw [Addr.add_lit]; exact hc2 j (by have := hlx.out; omega)⟩)⟩) (by rw [bs_length, hwl.out]; have := hlx.out; omega) (bs_one xs) ?_; intro w2 hg2 hgr2 hsz2; have hR : SW q k w2 := (wb_at hxy.out (hsp.out ▸ hg2.out)).1; have G2 := hid (grown_drew hgr2); have Z2 := hid hsz2; obtain ⟨hat, hfz⟩ := wb_at hxy.out (hsp.out ▸ hg2.out); clear hgr2 hsz2; rw [hbl.out]
    refine hK.out _ _ hR (fun hHeld => ?_)
    clear hK K
    (try simp only [Act.put, sA, sZ, sS])
    refine gkp 14 ?_
    refine gkp 15 ?_
    refine gkp 16 ?_
    refine gkl 17 (fun K hK => ?_)
    go_simp
    refine hK.out _ _ ?_
    clear hK K
    (try simp only [Act.put, sA, sZ, sS])
    refine wpAnyK_done (by kernel_rfl) ?_ _
    go_wp2
    go_end0
    refine ⟨rfl, wb_set hxy.out (hsp.out ▸ hg2.out) ?_, grow_trans G2.out (grow_set _ _ _ _)⟩
    have h1 := hk'.out
    have h2 := hlx.out
    simp
    rw [IntKind.wrap_i64]
    omega

theorem Rd.grown {p : Nat} {a b : World} {ao : Option Addr} {n cap : Nat} {xs : List Nat} (h : Rd a ao n cap xs) (hg : a.grownBy b (some p)) (hne : 0 < n → ∀ g o, ao = some ⟨g, o, none⟩ → g ≠ p) : Rd b ao n cap xs := by
  refine ⟨h.1, h.2.1, h.2.2.1, fun hp => ?_⟩
  obtain ⟨g, off, e, hc⟩ := h.2.2.2 hp
  exact ⟨g, off, e, fun t ht => grow_cell hg (hc t ht) (hne hp g off e)⟩

set_option maxHeartbeats 1000000 in
theorem wnum_any (q : Nat) (ys : List Nat) (v : Int) (s : Nat) (W : World) (h : WB W q ys) (hs : s ≤ 8) (hn : ys.length + s ≤ 512) :
    Calls Try.prog 61 #[.pointer (some ⟨q, 0, none⟩), .int .i64 v, .int .i64 (s : Int)] W fun e w' => e = .returned (.tuple #[]) ∧ WB w' q (ys ++ putN (uN v) s false) ∧ W.grownBy w' (some q) := by
  have cp := hid (put_any none 0 0 [] (uN v) (s : Int) s false W (Rd.nil W) (by omega) hs (by omega))
  simp only [Nat.zero_add, List.nil_append] at cp
  have hu := uN_wrap v
  have h' := hid h
  have hl := putN_length (uN v) s false
  generalize uN v = u at *
  clear h
  go_enter Try.func61, Try.ntmps61
  go_wp2_with (first
    | (go_at_call 79; refine cp.out.mono ?_; rintro e w1 ⟨rfl, ho, hb⟩; have O1 := hid ho; have B1 := hid hb; clear ho hb)
    | (go_at_call 78; refine (wbytes_any q ys _ s s _ _ (h'.out.keep B1.out) (rd_own O1.out) hn).mono ?_; rintro e w2 ⟨rfl, hw, hg⟩; have W2 := hid hw; have G2 := hid hg; clear hw hg))
  go_end0
  exact ⟨rfl, W2.out, grow_trans (grow_below B1.out) G2.out⟩

set_option maxHeartbeats 1000000 in
theorem wvar_any (q : Nat) (ys : List Nat) (u : Nat) (W : World) (h : WB W q ys) (hu : u < 18446744073709551616) (hn : ys.length + szN u ≤ 512) :
    Calls Try.prog 77 #[.pointer (some ⟨q, 0, none⟩), .int .u64 (u : Int)] W fun e w' => e = .returned (.tuple #[]) ∧ WB w' q (ys ++ varN u) ∧ W.grownBy w' (some q) := by
  have cp := hid (var_any none 0 0 [] u W (Rd.nil W) hu (by omega))
  simp only [Nat.zero_add, List.nil_append] at cp
  have h' := hid h
  have hl := varN_length u
  generalize szN u = s at *
  clear h
  go_enter Try.func77, Try.ntmps77
  go_wp2_with (first
    | (go_at_call 83; refine cp.out.mono ?_; rintro e w1 ⟨rfl, ho, hb⟩; have O1 := hid ho; have B1 := hid hb; clear ho hb)
    | (go_at_call 78; refine (wbytes_any q ys _ s s _ _ (h'.out.keep B1.out) (rd_own O1.out) hn).mono ?_; rintro e w2 ⟨rfl, hw, hg⟩; have W2 := hid hw; have G2 := hid hg; clear hw hg))
  go_end0
  exact ⟨rfl, W2.out, grow_trans (grow_below B1.out) G2.out⟩

end Go.Proofs.Ytbpcekhfjkodcaa
