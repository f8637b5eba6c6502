/- What noughts and (*Source).Byte return; no statement of the seat is proved here. -/
import Derived.Test.YtgjgkpnjchflaaaGreatDoorG04
import Derived.Test.YtgjgkpnjchflaaaGreatDoorG03
import Derived.ChangeKeysEq
namespace Go.Proofs.YtgjgkpnjchflaaaGreatDoor.Jrn
open Go.RowKit

section
variable {P : Program} {ops : Array Oper} {Q : Exit → Act → World → Prop} {a : Act} {w : World} {rest : List Oper} {o : Oper}
theorem wpList_load_run (hgd : o.guard = none) (ty : TypeId) (x : Operand) (ho : o.op = .load ty x) (ad : Addr) (hx : a.eval x = .pointer (some ad)) (v : Value)
    (hrun : (loadVar ty ad).run P w = .ok v w) (h : wpList P ops Q rest (a.put o.dst v) w) : wpList P ops Q (o :: rest) a w := by
  refine wpList_plain hgd fun K hK => ?_
  unfold Oper.wp
  simp [execOp, ho, hx, Instr.loadAt, Instr.sureAddr, hrun, Result.andThen]
  exact hK _ _ h

theorem wpList_alloc_run (hgd : o.guard = none) (ty : TypeId) (ho : o.op = .alloc ty) (v : Value) (w' : World)
    (hrun : (Instr.alloc ty true (.tuple #[])).run P w = .ok v w') (h : wpList P ops Q rest (a.put o.dst v) w') : wpList P ops Q (o :: rest) a w := by
  refine wpList_plain hgd fun K hK => ?_
  unfold Oper.wp
  simp [execOp, ho, hrun, Result.andThen]
  exact hK _ _ h
end

def zs (n : Nat) : List Nat := List.replicate n 0
theorem zs_length (n : Nat) : (zs n).length = n := by simp [zs]

theorem alloc90 (W : World) : (Instr.alloc 163 true (.tuple #[])).run Tryz.prog W = .ok (.pointer (some ⟨W.heap.size, 0, none⟩)) (W.alloc (.cells (bs (zs 128)).toArray 163)) := by kernel_rfl
theorem cells5 : Tryz.prog.cellsOf 5 = 1 := by kernel_rfl
theorem u90 : Tryz.prog.underlying 163 = some (.array 128 5) := by kernel_rfl

theorem load90 {W : World} {ad : Addr} {x : List Nat} (hx : x.length = 128) (h : ∀ j v, (bs x)[j]? = some v → W.cell? (ad.add j) = some v) : (loadVar 163 ad).run Tryz.prog W = .ok (.agg (bs x).toArray) W := by
  have hl := run_loadCells_list (P := Tryz.prog) W ad (bs x) h
  rw [bs_length, hx] at hl
  simp [loadVar, hl]

theorem part5 (xs : List Nat) (i : Nat) (h : i < xs.length) (w : World) : (part 5 (bs xs).toArray i).run Tryz.prog w = .ok (.int .u8 ((xs.getD i 0 : Nat) : Int)) w := by
  have hb := bs_get xs i h
  simp [part, hb]

theorem items5 (xs ys : List Nat) (w : World) : ∀ is : List Nat, (∀ i ∈ is, i < xs.length ∧ i < ys.length) →
    (Op.eqItems 9999 5 1 (bs xs).toArray (bs ys).toArray is).run Tryz.prog w = .ok (is.all fun i => xs.getD i 0 == ys.getD i 0) w
  | [], _ => by simp [Op.eqItems]
  | i :: is, h => by
    have h1 := h i (by simp)
    have ih := items5 xs ys w is (fun j hj => h j (by simp [hj]))
    have pe : (Op.equalIn 9999 5 (.int .u8 ((xs.getD i 0 : Nat) : Int)) (.int .u8 ((ys.getD i 0 : Nat) : Int))).run Tryz.prog w = .ok (((xs.getD i 0 : Nat) : Int) == ((ys.getD i 0 : Nat) : Int)) w := run_equalIn_int w 9998 5 .u8 .u8 _ _ Tryz.underlying5
    have e : (((xs.getD i 0 : Nat) : Int) == ((ys.getD i 0 : Nat) : Int)) = (xs.getD i 0 == ys.getD i 0) := by
      rw [Bool.eq_iff_iff, beq_iff_eq, beq_iff_eq]; omega
    rw [e] at pe
    simp only [Op.eqItems, Sem.run_bind, Nat.mul_one, part5 xs i h1.1, part5 ys i h1.2, Result.andThen_ok, pe, List.all_cons]
    cases hb : (xs.getD i 0 == ys.getD i 0)
    · simp
    · simpa using ih

theorem all_eq (xs ys : List Nat) (n : Nat) (hx : xs.length = n) (hy : ys.length = n) : ((List.range n).all fun i => xs.getD i 0 == ys.getD i 0) = decide (xs = ys) := by
  rw [Bool.eq_iff_iff]
  simp only [List.all_eq_true, List.mem_range, beq_iff_eq, decide_eq_true_eq]
  constructor
  · intro h
    apply List.ext_getElem (by omega)
    intro i h1 h2
    have := h i (by omega)
    simpa [List.getD, List.getElem?_eq_getElem h1, List.getElem?_eq_getElem h2] using this
  · rintro rfl i _
    rfl

theorem eq90 (xs ys : List Nat) (hx : xs.length = 128) (hy : ys.length = 128) (w : World) : (Op.equalIn 10000 163 (.agg (bs xs).toArray) (.agg (bs ys).toArray)).run Tryz.prog w = .ok (decide (xs = ys)) w := by
  obtain ⟨i5, hi5, _⟩ := info_parts Tryz.info5
  rw [run_equalIn_array w 9999 _ _ u90 hi5, cells5, items5 xs ys w (List.range 128) (fun i hi => by simp at hi; omega), all_eq xs ys 128 hx hy]

/-- Are these all noughts? -/
def nil0 (ys : List Nat) : Bool := decide (ys = zs ys.length)

theorem nil0_pad (ys : List Nat) (h : ys.length ≤ 128) : decide (ys ++ zs (128 - ys.length) = zs 128) = nil0 ys := by
  rw [Bool.eq_iff_iff]
  simp only [nil0, decide_eq_true_eq]
  have e : zs 128 = zs ys.length ++ zs (128 - ys.length) := by rw [zs, zs, zs, List.replicate_append_replicate]; congr 1; omega
  rw [e]
  exact ⟨fun h => List.append_cancel_right h, fun h => by rw [← h]⟩

theorem pad_splice (ys : List Nat) : (bs (zs 128)).take 0 ++ (bs ys ++ (bs (zs 128)).drop (0 + (bs ys).length)) = bs (ys ++ zs (128 - ys.length)) := by
  have h1 : (bs ys).length = ys.length := bs_length ys
  rw [bs_append, h1]
  simp only [List.take_zero, List.nil_append, Nat.zero_add]
  congr 1
  simp only [bs, zs]
  rw [← List.map_drop, List.drop_replicate]

set_option maxHeartbeats 1000000 in
theorem noughts_any (ao : Option Addr) (n cap : Nat) (ys : List Nat) (w : World) (h : Rd w ao n cap ys) (h0 : 0 < n) (hn : n ≤ 128) :
    Calls Tryz.prog 150 #[.slice ao n cap] w fun e w' => e = .returned (.bool (nil0 ys)) ∧ Below w.heap.size w w' := by
  obtain ⟨N, hN⟩ : ∃ N, N = bs (zs 128) := ⟨_, rfl⟩
  have AL := alloc90
  rw [← hN] at AL
  obtain ⟨M, hM⟩ : ∃ M, M = bs (ys ++ zs (128 - ys.length)) := ⟨_, rfl⟩
  have hl := h.1
  have hlz : (ys ++ zs (128 - ys.length)).length = 128 := by simp [zs_length]; omega
  have EQ := fun w => eq90 (ys ++ zs (128 - ys.length)) (zs 128) hlz (zs_length _) w
  rw [← hM, ← hN, nil0_pad ys (by omega)] at EQ
  have AL' := hid AL
  have h' := hid h
  have hN' := hid hN
  have hM' := hid hM
  generalize nil0 ys = b at *
  clear AL h hN hM
  obtain ⟨b0, o0, rfl, hc⟩ := h'.out.2.2.2 h0
  obtain ⟨W0, hW0⟩ : ∃ W0, W0 = (w.alloc (.cells N.toArray 163)).alloc (.cells N.toArray 163) := ⟨_, rfl⟩
  have hB0 : Below w.heap.size w W0 := by rw [hW0]; exact Below.alloc (Below.alloc (Below.refl _ _) (Nat.le_refl _) _) (by simp) _
  have hg0 : W0.heap[w.heap.size]? = some (.cells N.toArray 163 (0, 0)) := by rw [hW0, Below.heap_alloc _ _ _ (by simp)]; exact heap_alloc_new w _
  have hg1 : W0.heap[w.heap.size + 1]? = some (.cells N.toArray 163 (0, 0)) := by
    rw [hW0]
    have := heap_alloc_new (w.alloc (.cells N.toArray 163)) (.cells N.toArray 163)
    simpa using this
  obtain ⟨W1, hW1⟩ : ∃ W1, W1 = W0.setRow w.heap.size M.toArray := ⟨_, rfl⟩
  have hb1 : Below w.heap.size w W1 := by rw [hW1]; exact below_setRow hB0 (Nat.le_refl _) _
  have l0 : (loadVar 163 ⟨w.heap.size, 0, none⟩).run Tryz.prog W1 = .ok (.agg M.toArray) W1 := by
    rw [hM'.out]
    refine load90 hlz fun j v hj => ?_
    rw [Addr.add_lit, ← hM'.out] at *
    rw [hW1]
    simpa [World.cell?, setRow_heap W0 w.heap.size _ M.toArray 163 (0, 0) hg0] using hj
  have l1 : (loadVar 163 ⟨w.heap.size + 1, 0, none⟩).run Tryz.prog W1 = .ok (.agg N.toArray) W1 := by
    rw [hN'.out]
    refine load90 (zs_length _) fun j v hj => ?_
    rw [Addr.add_lit, ← hN'.out] at *
    rw [hW1]
    simpa [World.cell?, setRow_other W0 w.heap.size (w.heap.size + 1) M.toArray (by omega), hg1] using hj
  have hbl : (bs ys).length = n := by rw [bs_length, hl]
  have hrow : (N.take 0 ++ (bs ys ++ N.drop (0 + (bs ys).length))) = M := by rw [hN'.out, hM'.out]; exact pad_splice ys
  have l0' := hid l0
  have l1' := hid l1
  have hg0' := hid hg0
  have hc' := hid hc
  have hrow' := hid hrow
  have hW1' := hid hW1
  have hW0' := hid hW0
  have hB0' := hid hB0
  clear l0 l1 hg0 hg1 hc hrow hW0 hW1 hB0
  go_enter Tryz.func150, Tryz.ntmps150
  go_wp2_with (first
    | ((with_reducible refine here_op 3 ?_); refine wpList_alloc_run rfl 163 rfl _ _ (AL'.out _) ?_)
    | ((with_reducible refine here_op 4 ?_); refine wpList_alloc_run rfl 163 rfl _ _ (AL'.out _) ?_)
    | ((with_reducible refine here_op 7 ?_); rw [← hW0'.out]; refine wpList_copy_own rfl (.tmp 5) (.tmp 6) 79 79 rfl 5 Tryz.underlying79 (by kernel_rfl) w.heap.size 0 128 128 ⟨b0, o0, none⟩ n cap rfl rfl N.toArray 163 hg0'.out (bs ys) (by rw [hbl]; exact (Nat.min_eq_left hn).symm) (fun j v hv => by obtain ⟨hj, rfl⟩ := bs_get' ys j v hv; rw [Addr.add_lit]; exact keep_old hB0'.out (hc'.out j (by omega))) (by rw [hbl, hN'.out]; simp [bs, zs]; omega) (bs_one ys) ?_; simp only; rw [hrow'.out, ← hW1'.out])
    | ((with_reducible refine here_op 8 ?_); refine wpList_load_run rfl 163 (.tmp 3) rfl ⟨w.heap.size, 0, none⟩ rfl _ l0'.out ?_)
    | ((with_reducible refine here_op 9 ?_); refine wpList_load_run rfl 163 (.tmp 4) rfl ⟨w.heap.size + 1, 0, none⟩ rfl _ l1'.out ?_))
  go_ret
  exact ⟨rfl, hb1⟩

set_option maxHeartbeats 400000 in
theorem byte_ok (p x : Nat) (r : List Nat) (W : World) (h : SrcAt W p (x :: r)) (hx : ∀ y ∈ x :: r, y < 256) :
    Calls Tryz.prog 151 #[.pointer (some ⟨p, 0, none⟩)] W fun e w' => e = .returned (.int .u8 (x : Int)) ∧ SrcAt w' p r ∧ W.grownBy w' (some p) := by
  have c := hid (num_k p (x :: r) 1 false W h hx (by omega) (by omega) (by simp))
  have e : psum (x :: r) 1 false 1 = x := by simp [psum, place]
  have hx1 := hx x (by simp)
  rw [e] at c
  clear h hx e
  go_enter Tryz.func151, Tryz.ntmps151
  go_wp2_with (go_at_call 147; refine c.out.mono ?_; rintro e w1 ⟨rfl, hs1, hg1⟩; replace hs1 := hid hs1; replace hg1 := hid hg1)
  go_ret
  exact ⟨rfl, hs1.out, hg1.out⟩

end Go.Proofs.YtgjgkpnjchflaaaGreatDoor.Jrn

/- The arithmetic of heads and records read: which bytes are one; no statement of the seat is proved here. -/
namespace Go.Proofs.YtgjgkpnjchflaaaGreatDoor.Jrn
open Go.RowKit

theorem psum_take (xs : List Nat) (s k : Nat) (l : Bool) : ∀ i, i ≤ k → psum (xs.take k) s l i = psum xs s l i := by
  intro i
  induction i with
  | zero => intro _; rfl
  | succ i ih =>
    intro hi
    simp only [psum]
    rw [ih (by omega)]
    congr 2
    simp [List.getD, show i < k by omega]

theorem list4 (xs : List Nat) (h : 4 ≤ xs.length) : xs.take 4 = [xs.getD 0 0, xs.getD 1 0, xs.getD 2 0, xs.getD 3 0] := by
  match xs, h with
  | a :: b :: c :: d :: r, _ => simp [List.getD]

theorem list8 (xs : List Nat) (h : 8 ≤ xs.length) : xs.take 8 = [xs.getD 0 0, xs.getD 1 0, xs.getD 2 0, xs.getD 3 0, xs.getD 4 0, xs.getD 5 0, xs.getD 6 0, xs.getD 7 0] := by
  match xs, h with
  | a :: b :: c :: d :: e :: f :: g :: i :: r, _ => simp [List.getD]

theorem put_psum4 (xs : List Nat) (hx : ∀ x ∈ xs, x < 256) (h : 4 ≤ xs.length) : putN (psum xs 4 false 4) 4 false = xs.take 4 := by
  rw [list4 xs h]
  have h0 := getD_lt hx 0 (by omega)
  have h1 := getD_lt hx 1 (by omega)
  have h2 := getD_lt hx 2 (by omega)
  have h3 := getD_lt hx 3 (by omega)
  simp only [putN, up, psum, place, Bool.false_eq_true, if_false]
  generalize xs.getD 0 0 = a at *
  generalize xs.getD 1 0 = b at *
  generalize xs.getD 2 0 = c at *
  generalize xs.getD 3 0 = d at *
  simp only [Nat.reduceSub, Nat.reduceMul, Nat.reducePow, Nat.reduceAdd, List.cons.injEq, and_true]
  omega

theorem put_psum8 (xs : List Nat) (hx : ∀ x ∈ xs, x < 256) (h : 8 ≤ xs.length) : putN (psum xs 8 false 8) 8 false = xs.take 8 := by
  rw [list8 xs h]
  have h0 := getD_lt hx 0 (by omega)
  have h1 := getD_lt hx 1 (by omega)
  have h2 := getD_lt hx 2 (by omega)
  have h3 := getD_lt hx 3 (by omega)
  have h4 := getD_lt hx 4 (by omega)
  have h5 := getD_lt hx 5 (by omega)
  have h6 := getD_lt hx 6 (by omega)
  have h7 := getD_lt hx 7 (by omega)
  simp only [putN, up, psum, place, Bool.false_eq_true, if_false]
  generalize xs.getD 0 0 = a at *
  generalize xs.getD 1 0 = b at *
  generalize xs.getD 2 0 = c at *
  generalize xs.getD 3 0 = d at *
  generalize xs.getD 4 0 = e at *
  generalize xs.getD 5 0 = f at *
  generalize xs.getD 6 0 = g at *
  generalize xs.getD 7 0 = i at *
  simp only [Nat.reduceSub, Nat.reduceMul, Nat.reducePow, Nat.reduceAdd, List.cons.injEq, and_true]
  omega

theorem psum_put4 (v : Nat) (hv : v < 4294967296) (r : List Nat) : psum (putN v 4 false ++ r) 4 false 4 = v := by
  simp only [putN, up, psum, place, Bool.false_eq_true, if_false, List.cons_append, List.nil_append, List.getD_cons_zero, List.getD_cons_succ, Nat.reduceSub, Nat.reduceMul, Nat.reducePow, Nat.reduceAdd]
  omega

theorem psum_put8 (v : Nat) (hv : v < 18446744073709551616) (r : List Nat) : psum (putN v 8 false ++ r) 8 false 8 = v := by
  simp only [putN, up, psum, place, Bool.false_eq_true, if_false, List.cons_append, List.nil_append, List.getD_cons_zero, List.getD_cons_succ, Nat.reduceSub, Nat.reduceMul, Nat.reducePow, Nat.reduceAdd]
  omega

theorem psum4_lt (xs : List Nat) (hx : ∀ x ∈ xs, x < 256) (h : 4 ≤ xs.length) : psum xs 4 false 4 < 4294967296 := by
  have h0 := getD_lt hx 0 (by omega)
  have h1 := getD_lt hx 1 (by omega)
  have h2 := getD_lt hx 2 (by omega)
  have h3 := getD_lt hx 3 (by omega)
  simp only [psum, place, Bool.false_eq_true, if_false, Nat.reduceSub, Nat.reduceMul, Nat.reducePow]
  omega

theorem take_bytes {xs : List Nat} (hx : ∀ x ∈ xs, x < 256) (k : Nat) : ∀ x ∈ xs.take k, x < 256 := fun x h => hx x (List.mem_of_mem_take h)
theorem drop_bytes {xs : List Nat} (hx : ∀ x ∈ xs, x < 256) (k : Nat) : ∀ x ∈ xs.drop k, x < 256 := fun x h => hx x (List.mem_of_mem_drop h)

/-- The three numbers of a head's bytes. -/
def hC (xs : List Nat) : Nat := psum (xs.drop 6) 4 false 4
def hP (xs : List Nat) : Nat := psum (xs.drop 10) 4 false 4
def hN (xs : List Nat) : Nat := psum (xs.drop 14) 8 false 8
/-- Do these bytes begin with a whole head? -/
def isHead (xs : List Nat) : Bool := decide (xs.take 128 = headN (hC xs) (hP xs) (hN xs) true) && decide (hC xs ≤ 4000) && decide (hP xs ≤ 4000)

theorem hC_take (xs : List Nat) : hC (xs.take 128) = hC xs := by
  unfold hC; rw [List.drop_take]; exact psum_take _ _ _ _ _ (by omega)
theorem hP_take (xs : List Nat) : hP (xs.take 128) = hP xs := by
  unfold hP; rw [List.drop_take]; exact psum_take _ _ _ _ _ (by omega)
theorem hN_take (xs : List Nat) : hN (xs.take 128) = hN xs := by
  unfold hN; rw [List.drop_take]; exact psum_take _ _ _ _ _ (by omega)

theorem cut3 (ys : List Nat) (a b : Nat) : (ys.drop a).drop b = ys.drop (a + b) := List.drop_drop

/-- A list of 128 in its parts. -/
theorem parts128 (ys : List Nat) : ys = ys.take 6 ++ ((ys.drop 6).take 4 ++ ((ys.drop 10).take 4 ++ ((ys.drop 14).take 8 ++ ((ys.drop 22).take 4 ++ ((ys.drop 26).take 101 ++ ys.drop 127))))) := by
  have e : ∀ a b, (ys.drop a).take b ++ ys.drop (a + b) = ys.drop a := fun a b => by
    rw [← cut3]; exact List.take_append_drop b (ys.drop a)
  rw [e 26 101, e 22 4, e 14 8, e 10 4, e 6 4]
  exact (List.take_append_drop 6 ys).symm

theorem head_whole (ys : List Nat) (hl : ys.length = 128) (hx : ∀ x ∈ ys, x < 256) :
    ys = headN (hC ys) (hP ys) (hN ys) true ↔ ys.take 6 = mag ∧ psum (ys.drop 22) 4 false 4 = addN 0 (ys.take 22) ∧ (ys.drop 26).take 101 = List.replicate 101 0 ∧ ys.drop 127 = [165] := by
  have e22 : ∀ (h : ys.take 6 = mag), hd22 (hC ys) (hP ys) (hN ys) = ys.take 22 := by
    intro h
    unfold hd22 hC hP hN
    rw [put_psum4 _ (drop_bytes hx 6) (by simp; omega), put_psum4 _ (drop_bytes hx 10) (by simp; omega), put_psum8 _ (drop_bytes hx 14) (by simp; omega), ← h]
    have e : ∀ a b, ys.take a ++ (ys.drop a).take b = ys.take (a + b) := fun a b => by rw [List.take_add]
    rw [e, e, e]
  constructor
  · intro h
    obtain ⟨c, hc⟩ : ∃ c, c = hC ys := ⟨_, rfl⟩
    obtain ⟨p, hp⟩ : ∃ p, p = hP ys := ⟨_, rfl⟩
    obtain ⟨n, hn⟩ : ∃ n, n = hN ys := ⟨_, rfl⟩
    rw [← hc, ← hp, ← hn] at h e22
    have h6 : ys.take 6 = mag := by
      rw [h]
      unfold headN hd26 hd22
      simp [mag]
    have h22 := e22 h6
    have hw : ys = hd22 c p n ++ (putN (addN 0 (hd22 c p n)) 4 false ++ (List.replicate 101 0 ++ [165])) := by
      rw [h]
      unfold headN hd26
      simp only [List.append_assoc, if_true]
    have d22 : ys.drop 22 = putN (addN 0 (hd22 c p n)) 4 false ++ (List.replicate 101 0 ++ [165]) := by
      rw [hw]
      exact List.drop_left' (hd22_length c p n)
    refine ⟨h6, ?_, ?_, ?_⟩
    · rw [d22, ← h22]
      exact psum_put4 _ (addN_lt (by decide) (hd22_bytes _ _ _)) _
    · rw [show (26 : Nat) = 22 + 4 by rfl, ← cut3, d22, List.drop_left' (putN_length _ _ _)]
      exact List.take_left' (by simp)
    · rw [show (127 : Nat) = 22 + 4 + 101 by rfl, ← cut3, ← cut3, d22, List.drop_left' (putN_length _ _ _)]
      exact List.drop_left' (by simp)
  · rintro ⟨h6, hs, h0, h1⟩
    unfold headN hd26
    rw [e22 h6, ← hs, put_psum4 _ (drop_bytes hx 22) (by simp; omega), ← h0, if_pos rfl, ← h1]
    have e : ∀ a b, ys.take a ++ (ys.drop a).take b = ys.take (a + b) := fun a b => by rw [List.take_add]
    rw [e, e]
    exact (List.take_append_drop 127 ys).symm

end Go.Proofs.YtgjgkpnjchflaaaGreatDoor.Jrn
