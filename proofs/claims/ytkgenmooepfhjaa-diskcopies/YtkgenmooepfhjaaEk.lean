/- Arm of the document's disk; no statement of the seat is proved here. -/
import Derived.Test.YtkgenmooepfhjaaEj
namespace Go.Proofs.Ytkgenmooepfhjaa
open Go.RowKit Go.Maps

theorem run_append_nil {t ty e : TypeId} {i : TypeInfo} (ht : Try.prog.underlying t = some (.slice e)) (hi : Try.prog.info? e = some i) {w : World} {v : Value} {n c : Nat} {xs : List Value} (hown : w.ownsRow 0 e 1 v n xs) :
    (Builtin.append_ #[t, t] ty #[v, .slice none 0 c]).run Try.prog w = .ok v w := by
  rcases hown.2 with ⟨rfl, rfl⟩ | ⟨g, cap, cur, rfl, _, _, hnc, _⟩
  · simp [Builtin.append_, run_underlying ht, sizeOf, typeInfo, hi, Builtin.lenOf, Builtin.firstCells]
  · simp [Builtin.append_, run_underlying ht, sizeOf, typeInfo, hi, Builtin.lenOf, Builtin.firstCells, hnc, storeCells]
theorem step_app_nil {w : World} {ops : Array Oper} {o : Oper} {a : Act} {K : Act → World → Prop} {Q : Exit → Act → World → Prop} {E' : Prop} (hgd : o.guard = none) (s x : Operand) {t e : TypeId} {z : Value} {b : Nat} (E : El t e z b)
    (ho : o.op = .call { callee := .builtin .append, args := #[s, x], argTypes := #[t, t] }) (v : Value) (n : Nat) (xs : List Value) (hs : a.eval s = v) (hown : w.ownsRow 0 e 1 v n xs) (c : Nat) (hx : a.eval x = .slice none 0 c)
    (h : K (a.put o.dst v) w) : if Region.wanted o (yielded ops a.tmps) = true then Oper.wp Try.prog o a w K Q else E' := by
  have hw : Region.wanted o (yielded ops a.tmps) = true := by simp [Region.wanted, hgd]
  rw [if_pos hw]
  obtain ⟨i, hi, _⟩ := E.hi
  have hr := run_append_nil (ty := o.type) (c := c) E.ht hi hown
  unfold Oper.wp execOp
  simp only [ho, resolve, invoke, builtin, Sem.run_bind, Sem.run_pure, Result.andThen_ok, List.map_toArray, List.map_cons, List.map_nil, hs, hx, hr]
  exact h

theorem src_bools {w W : World} {ad : Addr} {kn kc : Nat} {keep : List Bool} (h : RdB w (some ad) keep) (hk : kn = keep.length) (hb : Below w.heap.size w W) : Src W (some ad) kn kc (vb keep) := by
  refine ⟨by rw [vb_len, hk], fun h => (by cases h), fun a ha j u hu => ?_, vb_one _⟩
  cases ha
  obtain ⟨hj, rfl⟩ := vb_get hu
  obtain ⟨b, off, e, hc⟩ := h (by omega)
  cases e
  rw [Addr.add_lit]
  exact keep_old hb (hc j hj)

/-- What is armed lies in a new row. -/
theorem arm_end {w W2 : World} {r : Nat} {R : RParts} {d : DS} {n kn c6 : Nat} {keep : List Bool} {t : Int} {a6 : Option Addr} (h : RefP w r R d) (hkn : kn = keep.length) (hkl : kn ≤ 100) (ht : I64 t) (hn : (n : Int) ≤ 9223372036854775807) (hb : Below w.heap.size w W2)
    (ho : W2.ownsRow 0 4 1 (.slice a6 kn c6) kn (vb keep)) (ha : ∀ a, a6 = some a → w.heap.size ≤ a.block) :
    (Ending.returned (.int .i64 0) = .returned (.int .i64 (if (n : Int) < 0 then 2 else 0))) ∧ (∃ R', RefP (((W2.setCell ⟨r, 9, none⟩ (.int .i64 (n : Int))).setCell ⟨r, 10, none⟩ (.slice a6 kn c6)).setCell ⟨r, 11, none⟩ (.int .i64 t)) r R' (armD d (n : Int) keep t) ∧ RGrew R w R') ∧
      DFrame w (((W2.setCell ⟨r, 9, none⟩ (.int .i64 (n : Int))).setCell ⟨r, 10, none⟩ (.slice a6 kn c6)).setCell ⟨r, 11, none⟩ (.int .i64 t)) r R.mut := by
  have h2 := h.later hb
  have hrl := h.rlt
  obtain ⟨W, hW⟩ : ∃ W, W = ((W2.setCell ⟨r, 9, none⟩ (.int .i64 (n : Int))).setCell ⟨r, 10, none⟩ (.slice a6 kn c6)).setCell ⟨r, 11, none⟩ (.int .i64 t) := ⟨_, rfl⟩
  rw [← hW]
  have hbl : ∀ k, k ≠ r → W.heap[k]? = W2.heap[k]? := fun k hk => by rw [hW, set_heap _ _ _ _ _ hk, set_heap _ _ _ _ _ hk, set_heap _ _ _ _ _ hk]
  have hcl : ∀ i, i < 9 → W.cell? ⟨r, i, none⟩ = W2.cell? ⟨r, i, none⟩ := fun i hi => by rw [hW, set_off _ _ _ (by omega), set_off _ _ _ (by omega), set_off _ _ _ (by omega)]
  have hfz : ∀ i, W.frozen? ⟨r, i, none⟩ = W2.frozen? ⟨r, i, none⟩ := fun i => by rw [hW, World.frozen?_setCell, World.frozen?_setCell, World.frozen?_setCell]
  have hsz : W.heap.size = W2.heap.size := by rw [hW]; simp
  have e9 : W.cell? ⟨r, 9, none⟩ = some (.int .i64 (n : Int)) := by rw [hW, set_off _ _ _ (by omega), set_off _ _ _ (by omega)]; exact set_same h2.c9
  have e10 : W.cell? ⟨r, 10, none⟩ = some (.slice a6 kn c6) := by rw [hW, set_off _ _ _ (by omega)]; exact set_same ((set_off _ _ _ (by omega)).trans h2.c10)
  have e11 : W.cell? ⟨r, 11, none⟩ = some (.int .i64 t) := by rw [hW]; exact set_same ((set_off _ _ _ (by omega)).trans ((set_off _ _ _ (by omega)).trans h2.c11))
  subst hkn
  have hrd := rdB_own ho
  have hal : (armD d (n : Int) keep t).left = n := by
    unfold armD
    rw [if_neg (by omega)]
    by_cases h0 : (n : Int) = 0
    · rw [if_pos h0]; show 0 = n; omega
    · rw [if_neg h0]; simp
  have hfs : (armD d (n : Int) keep t).f0 = d.f0 ∧ (armD d (n : Int) keep t).f1 = d.f1 ∧ (armD d (n : Int) keep t).room = d.room ∧ (armD d (n : Int) keep t).off = d.off ∧ (armD d (n : Int) keep t).ops = d.ops := by
    unfold armD disarmD
    split
    · exact ⟨rfl, rfl, rfl, rfl, rfl⟩
    · split <;> exact ⟨rfl, rfl, rfl, rfl, rfl⟩
  have hkt : 0 < (armD d (n : Int) keep t).left → (armD d (n : Int) keep t).keep = keep ∧ (armD d (n : Int) keep t).torn = t := fun hp => by
    rw [hal] at hp
    unfold armD
    rw [if_neg (by omega), if_neg (by omega)]
    exact ⟨rfl, rfl⟩
  have hok : (armD d (n : Int) keep t).Ok := by
    unfold armD disarmD
    split
    · exact h.ok
    · split
      · exact ⟨h.ok.r1, h.ok.r2, h.ok.sum, h.ok.ok0, h.ok.ok1, by simp, by simp, by simp, h.ok.op⟩
      · exact ⟨h.ok.r1, h.ok.r2, h.ok.sum, h.ok.ok0, h.ok.ok1, hkl, ht, by simp; omega, h.ok.op⟩
  refine ⟨by rw [if_neg (by omega)], ⟨_, h2.turn (w' := W) (d' := armD d (n : Int) keep t) (SK := fun k => w.heap.size ≤ k ∧ k < W2.heap.size) (Nat.le_of_eq hsz.symm) (fun k _ hk => hbl k hk) (fun i h1 hi => hcl i (by omega)) hfz (by rw [hfs.2.2.1]; exact (hcl 0 (by omega)).trans h2.c0) (by rw [hfs.2.2.2.1]; exact (hcl 7 (by omega)).trans h2.c7) (by rw [hfs.2.2.2.2]; exact (hcl 8 (by omega)).trans h2.c8) (by rw [hal]; exact e9) e10 e11 hfs.1 hfs.2.1 ?_ (fun k hk => ⟨fun h0 => by have := h.b0 k h0; omega, fun h0 => by have := h.b1 k h0; omega, by omega⟩) (fun k hk => by rw [hsz]; exact hk.2) hok, ?_, ?_⟩, ?_⟩
  · intro hp
    rw [(hkt hp).1, (hkt hp).2]
    obtain ⟨ko', kc', hv, hr1, hr2⟩ := hrd
    simp only [Value.slice.injEq, true_and] at hv
    obtain ⟨rfl, rfl⟩ := hv
    exact ⟨rfl, rfl, rdB_stay hr1 (fun _ a ha' _ => hbl _ (by have := ha a ha'; omega)), fun _ a ha' => ⟨ha a ha', (hr2 a ha').2⟩⟩
  · rintro k (h1 | h1 | h1)
    · exact Or.inl (Or.inl h1)
    · exact Or.inl (Or.inr (Or.inl h1))
    · exact Or.inr h1.1
  · exact fun k hk => Or.inl hk
  · exact ⟨by rw [hW]; exact hb.os, by rw [hW]; exact hb.tape, by rw [hW]; exact hb.output, by rw [hsz]; exact hb.size, fun k hk hkr _ => (hbl k hkr).trans (hb.block k hk)⟩

set_option maxHeartbeats 1000000 in
theorem rarm_neg (r : Nat) (R : RParts) (d : DS) (n : Int) (ko : Option Addr) (kc : Nat) (keep : List Bool) (t : Int) (w : World) (h : RefP w r R d) (h0 : n < 0) :
    Calls Try.prog 37 #[.pointer (some ⟨r, 0, none⟩), .int .i64 n, .agg #[.slice ko keep.length kc, .int .i64 t]] w fun e w' => e = .returned (.int .i64 (if n < 0 then 2 else 0)) ∧ (∃ R', RefP w' r R' (armD d n keep t) ∧ RGrew R w R') ∧ DFrame w w' r R.mut := by
  have H := hid h
  rw [if_pos h0]
  have e : armD d n keep t = d := by simp [armD, h0]
  rw [e]
  clear e h
  go_enter Try.func37, Try.ntmps37
  go_wp2
  go_ret
  have hb : Below w.heap.size w (w.alloc (.cells #[.slice ko keep.length kc, .int .i64 t] 70)) := (Below.refl _ _).alloc (Nat.le_refl _) _
  exact ⟨rfl, ⟨R, H.out.later hb, RGrew.refl _ _⟩, DFrame.below hb⟩

set_option maxHeartbeats 4000000 in
set_option maxRecDepth 20000 in
theorem rarm_none (r : Nat) (R : RParts) (d : DS) (n : Nat) (kc : Nat) (keep : List Bool) (t : Int) (w : World) (h : RefP w r R d) (hn2 : (n : Int) ≤ 9223372036854775807) (hr : RdB w none keep) (hk : keep.length ≤ 100) (ht : I64 t) :
    Calls Try.prog 37 #[.pointer (some ⟨r, 0, none⟩), .int .i64 (n : Int), .agg #[.slice none keep.length kc, .int .i64 t]] w fun e w' => e = .returned (.int .i64 (if (n : Int) < 0 then 2 else 0)) ∧ (∃ R', RefP w' r R' (armD d (n : Int) keep t) ∧ RGrew R w R') ∧ DFrame w w' r R.mut := by
  obtain ⟨kn, hkn⟩ : ∃ kn, kn = keep.length := ⟨_, rfl⟩
  rw [← hkn] at hk ⊢
  have hk0 : kn = 0 := by
    rw [hkn]
    rcases keep with _ | ⟨a, l⟩
    · rfl
    · obtain ⟨b, off, e, _⟩ := hr (by simp); cases e
  have HKE : Hid (vb keep = []) := hid (by have e : keep = [] := List.eq_nil_of_length_eq_zero (by rw [← hkn]; exact hk0); rw [e]; rfl)
  have HK0 := hid hk0
  clear hk0
  obtain ⟨w1, hw1⟩ : ∃ w1, w1 = w.alloc (.cells #[.slice none kn kc, .int .i64 t] 70) := ⟨_, rfl⟩
  obtain ⟨cb, hcb⟩ : ∃ cb, cb = w.heap.size := ⟨_, rfl⟩
  have HBW1 : Hid (Below w.heap.size w w1) := hid (by rw [hw1]; exact (Below.refl _ _).alloc (Nat.le_refl _) _)
  have HC : Hid (w1.cell? ⟨cb, 0, none⟩ = some (.slice none kn kc) ∧ w1.cell? ⟨cb, 1, none⟩ = some (.int .i64 t)) := hid ⟨by rw [hw1, hcb, World.cell?_alloc_at _ _ _ _ rfl]; rfl, by rw [hw1, hcb, World.cell?_alloc_at _ _ _ _ rfl]; rfl⟩
  have hcbl : cb < w1.heap.size := lt_cell HC.out.1
  have hcbr : cb ≠ r := by have := h.rlt; omega
  have H1 := hid (h.later HBW1.out)
  have hrl := H1.out.rlt
  have HRD : Hid (RdB w1 none keep) := hid (rdB_stay hr (fun _ _ _ hl => HBW1.out.block _ hl))
  have HC9 := hid H1.out.c9; have HC10 := hid H1.out.c10; have HC11 := hid H1.out.c11; have HF9 := hid (H1.out.fz 9); have HF10 := hid (H1.out.fz 10); have HF11 := hid (H1.out.fz 11)
  have HKN := hid hkn; have HKL := hid hk; have HT := hid ht; have HW1 := hid hw1; have HCB := hid hcb
  have hn0 : ¬ ((n : Int) < 0) := by omega
  clear h hr hkn hw1 hcb ht
  go_enter Try.func37, Try.ntmps37
  go_wp2_with fail
  rw [← HW1.out, ← HCB.out]
  refine wp_region_K (S := Reads2 ⟨cb, 0, none⟩ ⟨cb, 1, none⟩ (.slice none kn kc) (.int .i64 t)) (fun _ => false) (by kernel_rfl) HC.out (fun hHeld => ?_)
  obtain ⟨W0, hW0⟩ : ∃ W0, W0 = w1.drew := ⟨_, rfl⟩
  rw [← hW0] at hHeld ⊢
  have hR := hHeld
  have hBW : Below w1.heap.size w1 W0 := by rw [hW0]; exact (Below.refl _ _).drew
  clear hW0
  have hk0 := HK0.out
  refine wpAnyK_pure (i := 0) (v := ?_) (op_at _ 0 _ rfl) (by kernel_rfl) (by kernel_rfl) (by kernel_rfl) (by kernel_rfl) (fun _ _ _ h => h) (Or.inl ⟨by rfl, ?_⟩) (Or.inl (by assumption)) ?_
  rotate_left 1
  focus (intro W hSw; go_simp; first | done | with_reducible rfl)
  (try simp only [Act.put, List.setIfInBounds_toArray, List.set_cons_zero, List.set_cons_succ])
  refine wpAnyK_pure (i := 1) (v := ?_) (op_at _ 1 _ rfl) (by kernel_rfl) (by kernel_rfl) (by kernel_rfl) (by kernel_rfl) (fun _ _ _ h => h) (Or.inl ⟨by rfl, ?_⟩) (Or.inl (by assumption)) ?_
  rotate_left 1
  focus (intro W hSw; go_simp; first | done | with_reducible rfl)
  (try simp only [Act.put, List.setIfInBounds_toArray, List.set_cons_zero, List.set_cons_succ])
  refine wpAnyK_pure (i := 2) (v := ?_) (op_at _ 2 _ rfl) (by kernel_rfl) (by kernel_rfl) (by kernel_rfl) (by kernel_rfl) (fun _ _ _ h => h) (Or.inl ⟨by rfl, ?_⟩) (Or.inl (by assumption)) ?_
  rotate_left 1
  focus (intro W hSw; go_simp; first | done | with_reducible rfl)
  (try simp only [Act.put, List.setIfInBounds_toArray, List.set_cons_zero, List.set_cons_succ])
  refine wpAnyK_pure (i := 4) (v := ?_) (op_at _ 4 _ rfl) (by kernel_rfl) (by kernel_rfl) (by kernel_rfl) (by kernel_rfl) (fun _ _ _ h => h) (Or.inl ⟨by rfl, ?_⟩) (Or.inl (by assumption)) ?_
  rotate_left 1
  focus (intro W hSw; go_simp; first | done | with_reducible rfl)
  (try simp only [Act.put, List.setIfInBounds_toArray, List.set_cons_zero, List.set_cons_succ])
  refine wpAnyK_take (i := 5) (v := ?_) (op_at _ 5 _ rfl) (by kernel_rfl) (by kernel_rfl) (by kernel_rfl) (by kernel_rfl) (fun _ _ _ h => h) (Or.inl ⟨by rfl, ?_⟩) (by assumption) ?_
  rotate_left 1
  focus (intro W hSw; obtain ⟨q0, q1⟩ := hSw; go_simp; first | done | with_reducible rfl)
  (try simp only [Act.put, List.setIfInBounds_toArray, List.set_cons_zero, List.set_cons_succ])
  refine wpAnyK_pure (i := 7) (v := ?_) (op_at _ 7 _ rfl) (by kernel_rfl) (by kernel_rfl) (by kernel_rfl) (by kernel_rfl) (fun _ _ _ h => h) (Or.inl ⟨by rfl, ?_⟩) (Or.inl (by assumption)) ?_
  rotate_left 1
  focus (intro W hSw; go_simp; first | done | with_reducible rfl)
  (try simp only [Act.put, List.setIfInBounds_toArray, List.set_cons_zero, List.set_cons_succ])
  refine wpAnyK_take (i := 8) (v := ?_) (op_at _ 8 _ rfl) (by kernel_rfl) (by kernel_rfl) (by kernel_rfl) (by kernel_rfl) (fun _ _ _ h => h) (Or.inl ⟨by rfl, ?_⟩) (by assumption) ?_
  rotate_left 1
  focus (intro W hSw; obtain ⟨q0, q1⟩ := hSw; go_simp; first | done | with_reducible rfl)
  (try simp only [Act.put, List.setIfInBounds_toArray, List.set_cons_zero, List.set_cons_succ])
  refine wpAnyK_ready (rs := [3]) (by kernel_rfl) (by simp) ?_
  refine AllReadyK.cons (op_at _ 3 _ rfl) (fun K hK => ?_) AllReadyK.nil
  go_simp
  obtain ⟨W1, hW1⟩ : ∃ W', W' = W0.alloc (.cells #[] 4) := ⟨_, rfl⟩; rw [← hW1]; have hb1 : Below W0.heap.size W0 W1 := (by rw [hW1]; exact (Below.refl _ _).alloc (Nat.le_refl _) _); have hA : W1.ownsRow 0 4 1 (.slice (some ⟨W0.heap.size, 0, none⟩) 0 0) 0 [] := (by rw [hW1]; exact World.ownsRow_made W0 #[] 0 (Nat.zero_le _) (by decide) rfl); have hl1 := hBW.size; replace hBW := hBW.trans (hb1.mono hBW.size); replace hR := hR.keep hb1; clear hW1
  refine hK.out _ _ hR (fun hHeld => ?_)
  clear hK K
  (try simp only [Act.put, List.setIfInBounds_toArray, List.set_cons_zero, List.set_cons_succ])
  refine wpAnyK_ready (rs := [6]) (by kernel_rfl) (by simp) ?_
  refine AllReadyK.cons (op_at _ 6 _ rfl) (fun K hK => ?_) AllReadyK.nil
  refine step_app_nil rfl (.tmp 12) (.tmp 14) el30 rfl (.slice (some ⟨W0.heap.size, 0, none⟩) 0 0) 0 [] rfl hA kc rfl ?_; have e6 : (Value.slice (some ⟨W0.heap.size, 0, none⟩) 0 0) = .slice (some ⟨W0.heap.size, 0, none⟩) 0 0 := rfl; obtain ⟨a6, c6, W2, hW2, hv6⟩ : ∃ (a6 : Option Addr) (c6 : Nat) (W2 : World), W2 = W1 ∧ (Value.slice (some ⟨W0.heap.size, 0, none⟩) 0 0) = .slice a6 kn c6 := ⟨_, _, _, rfl, by rw [hk0]⟩; rw [hv6, ← hW2]; have ho6 : W2.ownsRow 0 4 1 (.slice a6 kn c6) kn (vb keep) := (by rw [hW2, ← hv6, hk0, HKE.out]; exact hA); have ha6 : ∀ a, a6 = some a → w1.heap.size ≤ a.block := (fun a ha => by simp only [Value.slice.injEq] at hv6; rw [← hv6.1] at ha; cases ha; exact hl1); rw [← hW2] at hBW hR; clear e6 hW2 hv6 hk0; have h9 := keep_cell hBW HC9.out hrl; have g9 := (keep_frozen hBW hrl (a := ⟨r, 9, none⟩)).trans HF9.out; have g10 := (keep_frozen hBW hrl (a := ⟨r, 10, none⟩)).trans HF10.out; have g11 := (keep_frozen hBW hrl (a := ⟨r, 11, none⟩)).trans HF11.out; have h10 := keep_cell hBW HC10.out hrl; have h11 := keep_cell hBW HC11.out hrl
  refine hK.out _ _ hR (fun hHeld => ?_)
  clear hK K
  (try simp only [Act.put, List.setIfInBounds_toArray, List.set_cons_zero, List.set_cons_succ])
  refine wpAnyK_pure (i := 9) (v := ?_) (op_at _ 9 _ rfl) (by kernel_rfl) (by kernel_rfl) (by kernel_rfl) (by kernel_rfl) (fun _ _ _ h => h) (Or.inl ⟨by rfl, ?_⟩) (Or.inl (by assumption)) ?_
  rotate_left 1
  focus (intro W hSw; go_simp; first | done | with_reducible rfl)
  (try simp only [Act.put, List.setIfInBounds_toArray, List.set_cons_zero, List.set_cons_succ])
  refine wpAnyK_pure (i := 10) (v := ?_) (op_at _ 10 _ rfl) (by kernel_rfl) (by kernel_rfl) (by kernel_rfl) (by kernel_rfl) (fun _ _ _ h => h) (Or.inl ⟨by rfl, ?_⟩) (Or.inl (by assumption)) ?_
  rotate_left 1
  focus (intro W hSw; go_simp; first | done | with_reducible rfl)
  (try simp only [Act.put, List.setIfInBounds_toArray, List.set_cons_zero, List.set_cons_succ])
  refine wpAnyK_pure (i := 11) (v := ?_) (op_at _ 11 _ rfl) (by kernel_rfl) (by kernel_rfl) (by kernel_rfl) (by kernel_rfl) (fun _ _ _ h => h) (Or.inl ⟨by rfl, ?_⟩) (Or.inl (by assumption)) ?_
  rotate_left 1
  focus (intro W hSw; go_simp; first | done | with_reducible rfl)
  (try simp only [Act.put, List.setIfInBounds_toArray, List.set_cons_zero, List.set_cons_succ])
  refine wpAnyK_ready (rs := [12]) (by kernel_rfl) (by simp) ?_
  refine AllReadyK.cons (op_at _ 12 _ rfl) (fun K hK => ?_) AllReadyK.nil
  go_simp
  replace hR : Reads2 ⟨cb, 0, none⟩ ⟨cb, 1, none⟩ (.slice none kn kc) (.int .i64 t) (W2.setCell ⟨r, 9, none⟩ (.int .i64 (n : Int))) := ⟨(World.cell?_of_block (set_other (a := ⟨r, 9, none⟩) _ hcbr)).trans hR.1, (World.cell?_of_block (set_other (a := ⟨r, 9, none⟩) _ hcbr)).trans hR.2⟩
  refine hK.out _ _ hR (fun hHeld => ?_)
  clear hK K
  (try simp only [Act.put, List.setIfInBounds_toArray, List.set_cons_zero, List.set_cons_succ])
  refine wpAnyK_pure (i := 13) (v := ?_) (op_at _ 13 _ rfl) (by kernel_rfl) (by kernel_rfl) (by kernel_rfl) (by kernel_rfl) (fun _ _ _ h => h) (Or.inl ⟨by rfl, ?_⟩) (Or.inl (by assumption)) ?_
  rotate_left 1
  focus (intro W hSw; go_simp; first | done | with_reducible rfl)
  (try simp only [Act.put, List.setIfInBounds_toArray, List.set_cons_zero, List.set_cons_succ])
  refine wpAnyK_pure (i := 14) (v := ?_) (op_at _ 14 _ rfl) (by kernel_rfl) (by kernel_rfl) (by kernel_rfl) (by kernel_rfl) (fun _ _ _ h => h) (Or.inl ⟨by rfl, ?_⟩) (Or.inl (by assumption)) ?_
  rotate_left 1
  focus (intro W hSw; go_simp; first | done | with_reducible rfl)
  (try simp only [Act.put, List.setIfInBounds_toArray, List.set_cons_zero, List.set_cons_succ])
  refine wpAnyK_ready (rs := [15]) (by kernel_rfl) (by simp) ?_
  refine AllReadyK.cons (op_at _ 15 _ rfl) (fun K hK => ?_) AllReadyK.nil
  go_simp
  replace hR : Reads2 ⟨cb, 0, none⟩ ⟨cb, 1, none⟩ (.slice none kn kc) (.int .i64 t) (((W2.setCell ⟨r, 9, none⟩ (.int .i64 (n : Int))).setCell ⟨r, 10, none⟩ (.slice a6 kn c6)).setCell ⟨r, 11, none⟩ (.int .i64 t)) := ⟨(World.cell?_of_block (set_other (a := ⟨r, 11, none⟩) _ hcbr)).trans ((World.cell?_of_block (set_other (a := ⟨r, 10, none⟩) _ hcbr)).trans hR.1), (World.cell?_of_block (set_other (a := ⟨r, 11, none⟩) _ hcbr)).trans ((World.cell?_of_block (set_other (a := ⟨r, 10, none⟩) _ hcbr)).trans hR.2)⟩
  refine hK.out _ _ hR (fun hHeld => ?_)
  clear hK K
  (try simp only [Act.put, List.setIfInBounds_toArray, List.set_cons_zero, List.set_cons_succ])
  refine wpAnyK_done (by kernel_rfl) ?_ _
  go_wp2
  go_ret
  obtain ⟨q1, ⟨R', q2, q3⟩, q4⟩ := arm_end H1.out HKN.out HKL.out HT.out hn2 hBW ho6 ha6
  exact ⟨q1, ⟨R', q2, q3.of HBW1.out.size⟩, (DFrame.below HBW1.out).trans (q4.imp (fun _ _ h => Or.inl h))⟩

set_option maxHeartbeats 4000000 in
set_option maxRecDepth 20000 in
theorem rarm_some (r : Nat) (R : RParts) (d : DS) (n : Nat) (ad : Addr) (kc : Nat) (keep : List Bool) (t : Int) (w : World) (h : RefP w r R d) (hn2 : (n : Int) ≤ 9223372036854775807) (hr : RdB w (some ad) keep) (hk : keep.length ≤ 100) (ht : I64 t) :
    Calls Try.prog 37 #[.pointer (some ⟨r, 0, none⟩), .int .i64 (n : Int), .agg #[.slice (some ad) keep.length kc, .int .i64 t]] w fun e w' => e = .returned (.int .i64 (if (n : Int) < 0 then 2 else 0)) ∧ (∃ R', RefP w' r R' (armD d (n : Int) keep t) ∧ RGrew R w R') ∧ DFrame w w' r R.mut := by
  obtain ⟨kn, hkn⟩ : ∃ kn, kn = keep.length := ⟨_, rfl⟩
  rw [← hkn] at hk ⊢
  obtain ⟨w1, hw1⟩ : ∃ w1, w1 = w.alloc (.cells #[.slice (some ad) kn kc, .int .i64 t] 70) := ⟨_, rfl⟩
  obtain ⟨cb, hcb⟩ : ∃ cb, cb = w.heap.size := ⟨_, rfl⟩
  have HBW1 : Hid (Below w.heap.size w w1) := hid (by rw [hw1]; exact (Below.refl _ _).alloc (Nat.le_refl _) _)
  have HC : Hid (w1.cell? ⟨cb, 0, none⟩ = some (.slice (some ad) kn kc) ∧ w1.cell? ⟨cb, 1, none⟩ = some (.int .i64 t)) := hid ⟨by rw [hw1, hcb, World.cell?_alloc_at _ _ _ _ rfl]; rfl, by rw [hw1, hcb, World.cell?_alloc_at _ _ _ _ rfl]; rfl⟩
  have hcbl : cb < w1.heap.size := lt_cell HC.out.1
  have hcbr : cb ≠ r := by have := h.rlt; omega
  have H1 := hid (h.later HBW1.out)
  have hrl := H1.out.rlt
  have HRD : Hid (RdB w1 (some ad) keep) := hid (rdB_stay hr (fun _ _ _ hl => HBW1.out.block _ hl))
  have HC9 := hid H1.out.c9; have HC10 := hid H1.out.c10; have HC11 := hid H1.out.c11; have HF9 := hid (H1.out.fz 9); have HF10 := hid (H1.out.fz 10); have HF11 := hid (H1.out.fz 11)
  have HKN := hid hkn; have HKL := hid hk; have HT := hid ht; have HW1 := hid hw1; have HCB := hid hcb
  have hn0 : ¬ ((n : Int) < 0) := by omega
  clear h hr hkn hw1 hcb ht
  go_enter Try.func37, Try.ntmps37
  go_wp2_with fail
  rw [← HW1.out, ← HCB.out]
  refine wp_region_K (S := Reads2 ⟨cb, 0, none⟩ ⟨cb, 1, none⟩ (.slice (some ad) kn kc) (.int .i64 t)) (fun _ => false) (by kernel_rfl) HC.out (fun hHeld => ?_)
  obtain ⟨W0, hW0⟩ : ∃ W0, W0 = w1.drew := ⟨_, rfl⟩
  rw [← hW0] at hHeld ⊢
  have hR := hHeld
  have hBW : Below w1.heap.size w1 W0 := by rw [hW0]; exact (Below.refl _ _).drew
  clear hW0
  refine wpAnyK_pure (i := 0) (v := ?_) (op_at _ 0 _ rfl) (by kernel_rfl) (by kernel_rfl) (by kernel_rfl) (by kernel_rfl) (fun _ _ _ h => h) (Or.inl ⟨by rfl, ?_⟩) (Or.inl (by assumption)) ?_
  rotate_left 1
  focus (intro W hSw; go_simp; first | done | with_reducible rfl)
  (try simp only [Act.put, List.setIfInBounds_toArray, List.set_cons_zero, List.set_cons_succ])
  refine wpAnyK_pure (i := 1) (v := ?_) (op_at _ 1 _ rfl) (by kernel_rfl) (by kernel_rfl) (by kernel_rfl) (by kernel_rfl) (fun _ _ _ h => h) (Or.inl ⟨by rfl, ?_⟩) (Or.inl (by assumption)) ?_
  rotate_left 1
  focus (intro W hSw; go_simp; first | done | with_reducible rfl)
  (try simp only [Act.put, List.setIfInBounds_toArray, List.set_cons_zero, List.set_cons_succ])
  refine wpAnyK_pure (i := 2) (v := ?_) (op_at _ 2 _ rfl) (by kernel_rfl) (by kernel_rfl) (by kernel_rfl) (by kernel_rfl) (fun _ _ _ h => h) (Or.inl ⟨by rfl, ?_⟩) (Or.inl (by assumption)) ?_
  rotate_left 1
  focus (intro W hSw; go_simp; first | done | with_reducible rfl)
  (try simp only [Act.put, List.setIfInBounds_toArray, List.set_cons_zero, List.set_cons_succ])
  refine wpAnyK_pure (i := 4) (v := ?_) (op_at _ 4 _ rfl) (by kernel_rfl) (by kernel_rfl) (by kernel_rfl) (by kernel_rfl) (fun _ _ _ h => h) (Or.inl ⟨by rfl, ?_⟩) (Or.inl (by assumption)) ?_
  rotate_left 1
  focus (intro W hSw; go_simp; first | done | with_reducible rfl)
  (try simp only [Act.put, List.setIfInBounds_toArray, List.set_cons_zero, List.set_cons_succ])
  refine wpAnyK_take (i := 5) (v := ?_) (op_at _ 5 _ rfl) (by kernel_rfl) (by kernel_rfl) (by kernel_rfl) (by kernel_rfl) (fun _ _ _ h => h) (Or.inl ⟨by rfl, ?_⟩) (by assumption) ?_
  rotate_left 1
  focus (intro W hSw; obtain ⟨q0, q1⟩ := hSw; go_simp; first | done | with_reducible rfl)
  (try simp only [Act.put, List.setIfInBounds_toArray, List.set_cons_zero, List.set_cons_succ])
  refine wpAnyK_pure (i := 7) (v := ?_) (op_at _ 7 _ rfl) (by kernel_rfl) (by kernel_rfl) (by kernel_rfl) (by kernel_rfl) (fun _ _ _ h => h) (Or.inl ⟨by rfl, ?_⟩) (Or.inl (by assumption)) ?_
  rotate_left 1
  focus (intro W hSw; go_simp; first | done | with_reducible rfl)
  (try simp only [Act.put, List.setIfInBounds_toArray, List.set_cons_zero, List.set_cons_succ])
  refine wpAnyK_take (i := 8) (v := ?_) (op_at _ 8 _ rfl) (by kernel_rfl) (by kernel_rfl) (by kernel_rfl) (by kernel_rfl) (fun _ _ _ h => h) (Or.inl ⟨by rfl, ?_⟩) (by assumption) ?_
  rotate_left 1
  focus (intro W hSw; obtain ⟨q0, q1⟩ := hSw; go_simp; first | done | with_reducible rfl)
  (try simp only [Act.put, List.setIfInBounds_toArray, List.set_cons_zero, List.set_cons_succ])
  refine wpAnyK_ready (rs := [3]) (by kernel_rfl) (by simp) ?_
  refine AllReadyK.cons (op_at _ 3 _ rfl) (fun K hK => ?_) AllReadyK.nil
  go_simp
  obtain ⟨W1, hW1⟩ : ∃ W', W' = W0.alloc (.cells #[] 4) := ⟨_, rfl⟩; rw [← hW1]; have hb1 : Below W0.heap.size W0 W1 := (by rw [hW1]; exact (Below.refl _ _).alloc (Nat.le_refl _) _); have hA : W1.ownsRow 0 4 1 (.slice (some ⟨W0.heap.size, 0, none⟩) 0 0) 0 [] := (by rw [hW1]; exact World.ownsRow_made W0 #[] 0 (Nat.zero_le _) (by decide) rfl); have hl1 := hBW.size; replace hBW := hBW.trans (hb1.mono hBW.size); replace hR := hR.keep hb1; clear hW1
  refine hK.out _ _ hR (fun hHeld => ?_)
  clear hK K
  (try simp only [Act.put, List.setIfInBounds_toArray, List.set_cons_zero, List.set_cons_succ])
  refine wpAnyK_ready (rs := [6]) (by kernel_rfl) (by simp) ?_
  refine AllReadyK.cons (op_at _ 6 _ rfl) (fun K hK => ?_) AllReadyK.nil
  refine step_app rfl (.tmp 12) (.tmp 14) el30 rfl (.slice (some ⟨W0.heap.size, 0, none⟩) 0 0) 0 [] rfl hA (some ad) kn kc (vb keep) rfl (src_bools HRD.out HKN.out hBW) (by have := HKL.out; omega) ?_; simp only [Nat.zero_add, List.nil_append]; intro a6 c6 W2 ho6 hg6 hat6; have ha6 : ∀ a, a6 = some a → w1.heap.size ≤ a.block := (fun a ha => by rcases hat6 a ha with h | h; simp only [Value.ownBlock, Option.some.injEq] at h; omega; have := hBW.size; omega); replace hBW := hBW.grown hg6 hBW.size (fun k hk => by simp only [Value.ownBlock, Option.some.injEq] at hk; omega); replace hR : Reads2 ⟨cb, 0, none⟩ ⟨cb, 1, none⟩ (.slice (some ad) kn kc) (.int .i64 t) W2 := ⟨keep_cell hBW HC.out.1 hcbl, keep_cell hBW HC.out.2 hcbl⟩; clear hg6 hat6; have h9 := keep_cell hBW HC9.out hrl; have g9 := (keep_frozen hBW hrl (a := ⟨r, 9, none⟩)).trans HF9.out; have g10 := (keep_frozen hBW hrl (a := ⟨r, 10, none⟩)).trans HF10.out; have g11 := (keep_frozen hBW hrl (a := ⟨r, 11, none⟩)).trans HF11.out; have h10 := keep_cell hBW HC10.out hrl; have h11 := keep_cell hBW HC11.out hrl
  refine hK.out _ _ hR (fun hHeld => ?_)
  clear hK K
  (try simp only [Act.put, List.setIfInBounds_toArray, List.set_cons_zero, List.set_cons_succ])
  refine wpAnyK_pure (i := 9) (v := ?_) (op_at _ 9 _ rfl) (by kernel_rfl) (by kernel_rfl) (by kernel_rfl) (by kernel_rfl) (fun _ _ _ h => h) (Or.inl ⟨by rfl, ?_⟩) (Or.inl (by assumption)) ?_
  rotate_left 1
  focus (intro W hSw; go_simp; first | done | with_reducible rfl)
  (try simp only [Act.put, List.setIfInBounds_toArray, List.set_cons_zero, List.set_cons_succ])
  refine wpAnyK_pure (i := 10) (v := ?_) (op_at _ 10 _ rfl) (by kernel_rfl) (by kernel_rfl) (by kernel_rfl) (by kernel_rfl) (fun _ _ _ h => h) (Or.inl ⟨by rfl, ?_⟩) (Or.inl (by assumption)) ?_
  rotate_left 1
  focus (intro W hSw; go_simp; first | done | with_reducible rfl)
  (try simp only [Act.put, List.setIfInBounds_toArray, List.set_cons_zero, List.set_cons_succ])
  refine wpAnyK_pure (i := 11) (v := ?_) (op_at _ 11 _ rfl) (by kernel_rfl) (by kernel_rfl) (by kernel_rfl) (by kernel_rfl) (fun _ _ _ h => h) (Or.inl ⟨by rfl, ?_⟩) (Or.inl (by assumption)) ?_
  rotate_left 1
  focus (intro W hSw; go_simp; first | done | with_reducible rfl)
  (try simp only [Act.put, List.setIfInBounds_toArray, List.set_cons_zero, List.set_cons_succ])
  refine wpAnyK_ready (rs := [12]) (by kernel_rfl) (by simp) ?_
  refine AllReadyK.cons (op_at _ 12 _ rfl) (fun K hK => ?_) AllReadyK.nil
  go_simp
  replace hR : Reads2 ⟨cb, 0, none⟩ ⟨cb, 1, none⟩ (.slice (some ad) kn kc) (.int .i64 t) (W2.setCell ⟨r, 9, none⟩ (.int .i64 (n : Int))) := ⟨(World.cell?_of_block (set_other (a := ⟨r, 9, none⟩) _ hcbr)).trans hR.1, (World.cell?_of_block (set_other (a := ⟨r, 9, none⟩) _ hcbr)).trans hR.2⟩
  refine hK.out _ _ hR (fun hHeld => ?_)
  clear hK K
  (try simp only [Act.put, List.setIfInBounds_toArray, List.set_cons_zero, List.set_cons_succ])
  refine wpAnyK_pure (i := 13) (v := ?_) (op_at _ 13 _ rfl) (by kernel_rfl) (by kernel_rfl) (by kernel_rfl) (by kernel_rfl) (fun _ _ _ h => h) (Or.inl ⟨by rfl, ?_⟩) (Or.inl (by assumption)) ?_
  rotate_left 1
  focus (intro W hSw; go_simp; first | done | with_reducible rfl)
  (try simp only [Act.put, List.setIfInBounds_toArray, List.set_cons_zero, List.set_cons_succ])
  refine wpAnyK_pure (i := 14) (v := ?_) (op_at _ 14 _ rfl) (by kernel_rfl) (by kernel_rfl) (by kernel_rfl) (by kernel_rfl) (fun _ _ _ h => h) (Or.inl ⟨by rfl, ?_⟩) (Or.inl (by assumption)) ?_
  rotate_left 1
  focus (intro W hSw; go_simp; first | done | with_reducible rfl)
  (try simp only [Act.put, List.setIfInBounds_toArray, List.set_cons_zero, List.set_cons_succ])
  refine wpAnyK_ready (rs := [15]) (by kernel_rfl) (by simp) ?_
  refine AllReadyK.cons (op_at _ 15 _ rfl) (fun K hK => ?_) AllReadyK.nil
  go_simp
  replace hR : Reads2 ⟨cb, 0, none⟩ ⟨cb, 1, none⟩ (.slice (some ad) kn kc) (.int .i64 t) (((W2.setCell ⟨r, 9, none⟩ (.int .i64 (n : Int))).setCell ⟨r, 10, none⟩ (.slice a6 kn c6)).setCell ⟨r, 11, none⟩ (.int .i64 t)) := ⟨(World.cell?_of_block (set_other (a := ⟨r, 11, none⟩) _ hcbr)).trans ((World.cell?_of_block (set_other (a := ⟨r, 10, none⟩) _ hcbr)).trans hR.1), (World.cell?_of_block (set_other (a := ⟨r, 11, none⟩) _ hcbr)).trans ((World.cell?_of_block (set_other (a := ⟨r, 10, none⟩) _ hcbr)).trans hR.2)⟩
  refine hK.out _ _ hR (fun hHeld => ?_)
  clear hK K
  (try simp only [Act.put, List.setIfInBounds_toArray, List.set_cons_zero, List.set_cons_succ])
  refine wpAnyK_done (by kernel_rfl) ?_ _
  go_wp2
  go_ret
  obtain ⟨q1, ⟨R', q2, q3⟩, q4⟩ := arm_end H1.out HKN.out HKL.out HT.out hn2 hBW ho6 ha6
  exact ⟨q1, ⟨R', q2, q3.of HBW1.out.size⟩, (DFrame.below HBW1.out).trans (q4.imp (fun _ _ h => Or.inl h))⟩

theorem rarm_call (r : Nat) (R : RParts) (d : DS) (n : Int) (ko : Option Addr) (kc : Nat) (keep : List Bool) (t : Int) (w : World) (h : RefP w r R d) (hn2 : n ≤ 9223372036854775807) (hr : RdB w ko keep) (hk : keep.length ≤ 100) (ht : I64 t) :
    Calls Try.prog 37 #[.pointer (some ⟨r, 0, none⟩), .int .i64 n, .agg #[.slice ko keep.length kc, .int .i64 t]] w fun e w' => e = .returned (.int .i64 (if n < 0 then 2 else 0)) ∧ (∃ R', RefP w' r R' (armD d n keep t) ∧ RGrew R w R') ∧ DFrame w w' r R.mut := by
  by_cases h0 : n < 0
  · exact rarm_neg r R d n ko kc keep t w h h0
  · obtain ⟨m, rfl⟩ := Int.eq_ofNat_of_zero_le (show 0 ≤ n by omega)
    cases ko with
    | none => exact rarm_none r R d m kc keep t w h hn2 hr hk ht
    | some ad => exact rarm_some r R d m ad kc keep t w h hn2 hr hk ht

end Go.Proofs.Ytkgenmooepfhjaa
