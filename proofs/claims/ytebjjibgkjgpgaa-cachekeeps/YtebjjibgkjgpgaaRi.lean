/- The document's cache: Clear, Copy; no statement of the seat is proved here. -/
import Derived.Test.YtebjjibgkjgpgaaRh
namespace Go.Proofs.Ytebjjibgkjgpgaa
open Go.RowKit Go.Maps

theorem app4B (B : Nat) (ty : TypeId) (w : World) (v : Value) (n : Nat) (xs : List (Row × RB)) (hown : w.ownsRow B 81 4 v n (rvs xs)) (ao : Option Addr) (m c : Nat) (ys : List (Row × RB)) (hs : Src4 w ao m c ys) (hb : n + m ≤ 1000000) (hB : B ≤ w.heap.size) :
    ∃ ao' c' w', (Builtin.append_ #[61, 61] ty #[v, .slice ao m c]).run Try.prog w = .ok (.slice ao' (n + m) c') w' ∧ w'.ownsRow B 81 4 (.slice ao' (n + m) c') (n + m) (rvs (xs ++ ys)) ∧ w.grownBy w' v.ownBlock ∧ ∀ a, ao' = some a → (v.ownBlock = some a.block ∨ a.block = w.heap.size) := by
  obtain ⟨i, hi, hz0, hz1, hz2⟩ := info_parts info81
  have hgen : ∃ v' w', (Builtin.append_ #[61, 61] ty #[v, .slice ao m c]).run Try.prog w = .ok v' w' ∧ w'.ownsRow B 81 4 v' (n + m) (rvs (xs ++ ys)) ∧ w.grownBy w' v.ownBlock ∧ (v'.ownBlock = v.ownBlock ∨ v'.ownBlock = some w.heap.size) := by
    cases ao with
    | none =>
      obtain ⟨rfl, rfl⟩ := hs.no rfl
      obtain rfl : ys = [] := List.eq_nil_of_length_eq_zero hs.len
      exact ⟨v, w, run_append_owned_none (P := Try.prog) (w := w) B 61 ty 81 i 4 Try.u61 hi v n (rvs xs) hown, by simpa using hown, ⟨rfl, rfl, rfl, Nat.le_refl _, fun _ _ _ => rfl⟩, Or.inl rfl⟩
    | some ad =>
      obtain ⟨v', w', h1, h2, h3, _, h5⟩ := run_append_own_at (P := Try.prog) w B 61 ty 81 i zrow 4 48 Try.u61 hi hz0 hz1 hz2 rfl (by decide) v n (rvs xs) hown ad m c (rvs ys) (by rw [rvs_length, hs.len]) (hs.at_ ad rfl) (rvs_ones ys) (by unfold maxLen; omega) (by omega) hB
      exact ⟨v', w', h1, by rw [rvs_append]; exact h2, h3, h5⟩
  obtain ⟨v', w', h1, h2, h3, h4⟩ := hgen
  rcases h2.2 with ⟨rfl, hz⟩ | ⟨g, cap, cur, rfl, hh⟩
  · exact ⟨none, 0, w', by rw [hz]; exact h1, by rw [hz] at h2 ⊢; exact h2, h3, fun a ha => by cases ha⟩
  · refine ⟨_, cap, w', h1, h2, h3, fun a ha => ?_⟩
    cases ha
    rcases h4 with h4 | h4
    · exact Or.inl h4.symm
    · right; simpa [Value.ownBlock] using h4

theorem own4_madeB (w : World) : ((w.alloc (.cells #[] 81)).drew).ownsRow w.heap.size 81 4 (.slice (some ⟨w.heap.size, 0, none⟩) 0 0) 0 (rvs []) :=
  ⟨rfl, .inr ⟨w.heap.size, 0, #[], rfl, Nat.le_refl _, heap_alloc_new w _, Nat.le_refl _, by decide, rfl, rfl⟩⟩
theorem own4_base {w : World} {B B' n sz : Nat} {v : Value} {xs : List Value} {e : TypeId} (h : w.ownsRow B e sz v n xs) (hb : B' ≤ B) : w.ownsRow B' e sz v n xs := by
  refine ⟨h.1, ?_⟩
  rcases h.2 with hn | ⟨g, cap, cur, rfl, hB, hr⟩
  · exact .inl hn
  · exact .inr ⟨g, cap, cur, rfl, Nat.le_trans hb hB, hr⟩
theorem own4_ge {w : World} {B n cap sz : Nat} {ao : Option Addr} {xs : List Value} {e : TypeId} (h : w.ownsRow B e sz (.slice ao n cap) n xs) : ∀ a, ao = some a → B ≤ a.block := by
  intro a ha
  rcases h.2 with ⟨hv, _⟩ | ⟨g, cap', cur, hv, hB, _⟩
  · simp only [Value.slice.injEq] at hv; rw [hv.1] at ha; cases ha
  · simp only [Value.slice.injEq] at hv; rw [hv.1] at ha; cases ha; exact hB
theorem own4_later {w w' : World} {B n sz : Nat} {e : TypeId} {v : Value} {xs : List Value} (h : w.ownsRow B e sz v n xs) (hb : Below w.heap.size w w') : w'.ownsRow B e sz v n xs := by
  refine ⟨h.1, ?_⟩
  rcases h.2 with hn | ⟨g, cap, cur, rfl, hb', hg, hr⟩
  · exact .inl hn
  · exact .inr ⟨g, cap, cur, rfl, hb', (hb.block g (Array.getElem?_eq_some_iff.1 hg).1).trans hg, hr⟩

theorem step_app4B (B : Nat) {w : World} {ops : Array Oper} {o : Oper} {a : Act} {K : Act → World → Prop} {Q : Exit → Act → World → Prop} {E' : Prop} (hgd : o.guard = none) (s x : Operand)
    (ho : o.op = .call { callee := .builtin .append, args := #[s, x], argTypes := #[61, 61] }) (v : Value) (n : Nat) (xs : List (Row × RB)) (hs : a.eval s = v) (hown : w.ownsRow B 81 4 v n (rvs xs))
    (ao : Option Addr) (m c : Nat) (ys : List (Row × RB)) (hx : a.eval x = .slice ao m c) (hsr : Src4 w ao m c ys) (hb : n + m ≤ 1000000) (hB : B ≤ w.heap.size)
    (h : ∀ ao' c' w', w'.ownsRow B 81 4 (.slice ao' (n + m) c') (n + m) (rvs (xs ++ ys)) → Below B w w' → K (a.put o.dst (.slice ao' (n + m) c')) w') :
    if Region.wanted o (yielded ops a.tmps) = true then Oper.wp Try.prog o a w K Q else E' := by
  have hw : Region.wanted o (yielded ops a.tmps) = true := by simp [Region.wanted, hgd]
  rw [if_pos hw]
  obtain ⟨ao', c', w', hr, h2, h3, h4⟩ := app4B B o.type w v n xs hown ao m c ys hsr hb hB
  unfold Oper.wp execOp
  simp only [ho, resolve, invoke, builtin, Sem.run_bind, Sem.run_pure, Result.andThen_ok, List.map_toArray, List.map_cons, List.map_nil, hs, hx, hr]
  exact h ao' c' w' h2 ((Below.refl B w).grown h3 hB fun k hk => (hown.lt k hk).1)
theorem wpList_app4B (B : Nat) {w : World} {ops : Array Oper} {rest : List Oper} {o : Oper} {a : Act} {Q : Exit → Act → World → Prop} (hgd : o.guard = none) (s x : Operand)
    (ho : o.op = .call { callee := .builtin .append, args := #[s, x], argTypes := #[61, 61] }) (v : Value) (n : Nat) (xs : List (Row × RB)) (hs : a.eval s = v) (hown : w.ownsRow B 81 4 v n (rvs xs))
    (ao : Option Addr) (m c : Nat) (ys : List (Row × RB)) (hx : a.eval x = .slice ao m c) (hsr : Src4 w ao m c ys) (hb : n + m ≤ 1000000) (hB : B ≤ w.heap.size)
    (h : ∀ ao' c' w', w'.ownsRow B 81 4 (.slice ao' (n + m) c') (n + m) (rvs (xs ++ ys)) → Below B w w' → wpList Try.prog ops Q rest (a.put o.dst (.slice ao' (n + m) c')) w') : wpList Try.prog ops Q (o :: rest) a w := by
  refine wpList_plain hgd fun K hK => ?_
  obtain ⟨ao', c', w', hr, h2, h3, h4⟩ := app4B B o.type w v n xs hown ao m c ys hsr hb hB
  unfold Oper.wp execOp
  simp only [ho, resolve, invoke, builtin, Sem.run_bind, Sem.run_pure, Result.andThen_ok, List.map_toArray, List.map_cons, List.map_nil, hs, hx, hr]
  exact hK _ _ (h ao' c' w' h2 ((Below.refl B w).grown h3 hB fun k hk => (hown.lt k hk).1))

theorem RP.src {w : World} {m : Nat} {R : RParts} {s : CS} (h : RP w m R s) : Src4 w R.ao R.ps.length R.cap R.ps := by
  refine ⟨rfl, fun h0 => ?_, fun ad ha j u hu => ?_⟩
  · rcases h.row.2 with ⟨hv, hz⟩ | ⟨g, cap', cur, hv, _⟩
    · simp only [Value.slice.injEq] at hv; exact ⟨hz, hv.2.2⟩
    · simp only [Value.slice.injEq] at hv; rw [h0] at hv; simp at hv
  · obtain ⟨cur, hg, e1, _⟩ := row4_blk h.row ha
    rw [e1, Addr.add_lit, Nat.zero_add]
    have hrow := h.row
    rw [ha, e1] at hrow
    have hl := (List.getElem?_eq_some_iff.1 hu).1
    rw [rvs_length] at hl
    exact (hrow.cellAt j hl).trans hu

set_option maxRecDepth 20000 in
set_option maxHeartbeats 2000000 in
theorem rcopy_call (m : Nat) (R : RParts) (s : CS) (w : World) (h : RP w m R s) (hn0 : R.ps.length ≤ 1000000) :
    Calls Try.prog 22 #[.pointer (some ⟨m, 0, none⟩)] w fun e w' => ∃ m2, e = .returned (.pointer (some ⟨m2, 0, none⟩)) ∧ ∃ R2, RP w' m2 R2 s ∧ (∀ k, R2.S m2 k → w.heap.size ≤ k) ∧ R2.ps = R.ps ∧ Below w.heap.size w w' := by
  obtain ⟨ao, cap, ps⟩ := R
  obtain ⟨n, hnn⟩ : ∃ n, n = ps.length := ⟨_, rfl⟩
  have hhd := h.hd
  have hsrc : Hid (∀ W, Below w.heap.size w W → Src4 W ao n cap ps) := hid (fun W hb => hnn ▸ (h.later hb).src)
  have HSRC := hsrc
  simp only at hhd hn0
  rw [← hnn] at hhd hn0
  have hml := h.mlt
  have HH := hid h; have HN := hid hnn; have HHD := hid hhd
  clear h hnn hsrc
  go_enter Try.func22, Try.ntmps22
  go_wp2_with fail
  refine wp_region_K (S := fun W => W.heap[m]? = some (.cells (hdR s.room ao n cap s.hit s.miss).toArray 63 (0, 0))) (fun _ => false) (by kernel_rfl) hhd (fun hHeld => ?_)
  clear hhd
  refine wpAnyK_pure (i := 0) (v := ?_) (op_at2 _ 0 _ rfl) (by kernel_rfl) (by kernel_rfl) (by kernel_rfl) (by kernel_rfl) (fun _ _ _ h => h) (Or.inl ⟨by rfl, ?_⟩) (Or.inl (by assumption)) ?_
  rotate_left 1
  focus (intro W hSw; go_simp; first | done | with_reducible rfl)
  (try simp only [Act.put, List.setIfInBounds_toArray, List.set_cons_zero, List.set_cons_succ])
  refine wpAnyK_pure (i := 1) (v := ?_) (op_at2 _ 1 _ rfl) (by kernel_rfl) (by kernel_rfl) (by kernel_rfl) (by kernel_rfl) (fun _ _ _ h => h) (Or.inl ⟨by rfl, ?_⟩) (Or.inl (by assumption)) ?_
  rotate_left 1
  focus (intro W hSw; go_simp; first | done | with_reducible rfl)
  (try simp only [Act.put, List.setIfInBounds_toArray, List.set_cons_zero, List.set_cons_succ])
  refine wpAnyK_pure (i := 2) (v := ?_) (op_at2 _ 2 _ rfl) (by kernel_rfl) (by kernel_rfl) (by kernel_rfl) (by kernel_rfl) (fun _ _ _ h => h) (Or.inl ⟨by rfl, ?_⟩) (Or.inl (by assumption)) ?_
  rotate_left 1
  focus (intro W hSw; go_simp; first | done | with_reducible rfl)
  (try simp only [Act.put, List.setIfInBounds_toArray, List.set_cons_zero, List.set_cons_succ])
  refine wpAnyK_take (i := 3) (v := ?_) (op_at2 _ 3 _ rfl) (by kernel_rfl) (by kernel_rfl) (by kernel_rfl) (by kernel_rfl) (fun _ _ _ h => h) (Or.inl ⟨by rfl, ?_⟩) (by assumption) ?_
  rotate_left 1
  focus (intro W hSw; have q : W.cell? ⟨m, 0, none⟩ = some (.int .i64 (s.room : Int)) := hd_cell hSw 0; go_simp; first | done | with_reducible rfl)
  (try simp only [Act.put, List.setIfInBounds_toArray, List.set_cons_zero, List.set_cons_succ])
  refine wpAnyK_pure (i := 5) (v := ?_) (op_at2 _ 5 _ rfl) (by kernel_rfl) (by kernel_rfl) (by kernel_rfl) (by kernel_rfl) (fun _ _ _ h => h) (Or.inl ⟨by rfl, ?_⟩) (Or.inl (by assumption)) ?_
  rotate_left 1
  focus (intro W hSw; go_simp; first | done | with_reducible rfl)
  (try simp only [Act.put, List.setIfInBounds_toArray, List.set_cons_zero, List.set_cons_succ])
  refine wpAnyK_pure (i := 6) (v := ?_) (op_at2 _ 6 _ rfl) (by kernel_rfl) (by kernel_rfl) (by kernel_rfl) (by kernel_rfl) (fun _ _ _ h => h) (Or.inl ⟨by rfl, ?_⟩) (Or.inl (by assumption)) ?_
  rotate_left 1
  focus (intro W hSw; go_simp; first | done | with_reducible rfl)
  (try simp only [Act.put, List.setIfInBounds_toArray, List.set_cons_zero, List.set_cons_succ])
  refine wpAnyK_pure (i := 7) (v := ?_) (op_at2 _ 7 _ rfl) (by kernel_rfl) (by kernel_rfl) (by kernel_rfl) (by kernel_rfl) (fun _ _ _ h => h) (Or.inl ⟨by rfl, ?_⟩) (Or.inl (by assumption)) ?_
  rotate_left 1
  focus (intro W hSw; go_simp; first | done | with_reducible rfl)
  (try simp only [Act.put, List.setIfInBounds_toArray, List.set_cons_zero, List.set_cons_succ])
  refine wpAnyK_take (i := 8) (v := ?_) (op_at2 _ 8 _ rfl) (by kernel_rfl) (by kernel_rfl) (by kernel_rfl) (by kernel_rfl) (fun _ _ _ h => h) (Or.inl ⟨by rfl, ?_⟩) (by assumption) ?_
  rotate_left 1
  focus (intro W hSw; have q : W.cell? ⟨m, 1, none⟩ = some (.slice ao n cap) := hd_cell hSw 1; go_simp; first | done | with_reducible rfl)
  (try simp only [Act.put, List.setIfInBounds_toArray, List.set_cons_zero, List.set_cons_succ])
  refine wpAnyK_pure (i := 10) (v := ?_) (op_at2 _ 10 _ rfl) (by kernel_rfl) (by kernel_rfl) (by kernel_rfl) (by kernel_rfl) (fun _ _ _ h => h) (Or.inl ⟨by rfl, ?_⟩) (Or.inl (by assumption)) ?_
  rotate_left 1
  focus (intro W hSw; go_simp; first | done | with_reducible rfl)
  (try simp only [Act.put, List.setIfInBounds_toArray, List.set_cons_zero, List.set_cons_succ])
  refine wpAnyK_pure (i := 11) (v := ?_) (op_at2 _ 11 _ rfl) (by kernel_rfl) (by kernel_rfl) (by kernel_rfl) (by kernel_rfl) (fun _ _ _ h => h) (Or.inl ⟨by rfl, ?_⟩) (Or.inl (by assumption)) ?_
  rotate_left 1
  focus (intro W hSw; go_simp; first | done | with_reducible rfl)
  (try simp only [Act.put, List.setIfInBounds_toArray, List.set_cons_zero, List.set_cons_succ])
  refine wpAnyK_pure (i := 12) (v := ?_) (op_at2 _ 12 _ rfl) (by kernel_rfl) (by kernel_rfl) (by kernel_rfl) (by kernel_rfl) (fun _ _ _ h => h) (Or.inl ⟨by rfl, ?_⟩) (Or.inl (by assumption)) ?_
  rotate_left 1
  focus (intro W hSw; go_simp; first | done | with_reducible rfl)
  (try simp only [Act.put, List.setIfInBounds_toArray, List.set_cons_zero, List.set_cons_succ])
  refine wpAnyK_take (i := 13) (v := ?_) (op_at2 _ 13 _ rfl) (by kernel_rfl) (by kernel_rfl) (by kernel_rfl) (by kernel_rfl) (fun _ _ _ h => h) (Or.inl ⟨by rfl, ?_⟩) (by assumption) ?_
  rotate_left 1
  focus (intro W hSw; have q : W.cell? ⟨m, 2, none⟩ = some (.int .i64 (s.hit : Int)) := hd_cell hSw 2; go_simp; first | done | with_reducible rfl)
  (try simp only [Act.put, List.setIfInBounds_toArray, List.set_cons_zero, List.set_cons_succ])
  refine wpAnyK_pure (i := 14) (v := ?_) (op_at2 _ 14 _ rfl) (by kernel_rfl) (by kernel_rfl) (by kernel_rfl) (by kernel_rfl) (fun _ _ _ h => h) (Or.inl ⟨by rfl, ?_⟩) (Or.inl (by assumption)) ?_
  rotate_left 1
  focus (intro W hSw; go_simp; first | done | with_reducible rfl)
  (try simp only [Act.put, List.setIfInBounds_toArray, List.set_cons_zero, List.set_cons_succ])
  refine wpAnyK_pure (i := 15) (v := ?_) (op_at2 _ 15 _ rfl) (by kernel_rfl) (by kernel_rfl) (by kernel_rfl) (by kernel_rfl) (fun _ _ _ h => h) (Or.inl ⟨by rfl, ?_⟩) (Or.inl (by assumption)) ?_
  rotate_left 1
  focus (intro W hSw; go_simp; first | done | with_reducible rfl)
  (try simp only [Act.put, List.setIfInBounds_toArray, List.set_cons_zero, List.set_cons_succ])
  refine wpAnyK_pure (i := 16) (v := ?_) (op_at2 _ 16 _ rfl) (by kernel_rfl) (by kernel_rfl) (by kernel_rfl) (by kernel_rfl) (fun _ _ _ h => h) (Or.inl ⟨by rfl, ?_⟩) (Or.inl (by assumption)) ?_
  rotate_left 1
  focus (intro W hSw; go_simp; first | done | with_reducible rfl)
  (try simp only [Act.put, List.setIfInBounds_toArray, List.set_cons_zero, List.set_cons_succ])
  refine wpAnyK_take (i := 17) (v := ?_) (op_at2 _ 17 _ rfl) (by kernel_rfl) (by kernel_rfl) (by kernel_rfl) (by kernel_rfl) (fun _ _ _ h => h) (Or.inl ⟨by rfl, ?_⟩) (by assumption) ?_
  rotate_left 1
  focus (intro W hSw; have q : W.cell? ⟨m, 3, none⟩ = some (.int .i64 (s.miss : Int)) := hd_cell hSw 3; go_simp; first | done | with_reducible rfl)
  (try simp only [Act.put, List.setIfInBounds_toArray, List.set_cons_zero, List.set_cons_succ])
  refine wpAnyK_ready (rs := [4]) (by kernel_rfl) (by simp) ?_
  refine AllReadyK.cons (op_at2 _ 4 _ rfl) (fun K hK => ?_) AllReadyK.nil
  go_simp
  obtain ⟨W1, hW1⟩ : ∃ W1, W1 = (w.alloc (.cells #[] 81)).drew := ⟨_, rfl⟩; rw [← hW1]; have hb1 : Below w.heap.size w W1 := (by rw [hW1]; exact ((Below.refl _ w).alloc (Nat.le_refl _) _).drew); have ho1 : W1.ownsRow w.heap.size 81 4 (.slice (some ⟨w.heap.size, 0, none⟩) 0 0) 0 (rvs []) := (by rw [hW1]; exact own4_madeB w); have hR : W1.heap[m]? = some (.cells (hdR s.room ao n cap s.hit s.miss).toArray 63 (0, 0)) := (hb1.block m hml).trans HHD.out; have HB1 := hid hb1; have HO1 := hid ho1; clear hW1 hb1 ho1
  refine hK.out _ _ hR (fun hHeld => ?_)
  clear hK K
  (try simp only [Act.put, List.setIfInBounds_toArray, List.set_cons_zero, List.set_cons_succ])
  refine wpAnyK_ready (rs := [9]) (by kernel_rfl) (by simp) ?_
  refine AllReadyK.cons (op_at2 _ 9 _ rfl) (fun K hK => ?_) AllReadyK.nil
  refine step_app4B w.heap.size rfl (.tmp 7) (.tmp 11) rfl (.slice (some ⟨w.heap.size, 0, none⟩) 0 0) 0 [] rfl HO1.out _ n cap ps rfl (HSRC.out W1 HB1.out) (by omega) HB1.out.size ?_; simp only [Nat.zero_add, List.nil_append]; intro a2 c2 w2 ho2 hb2; have hbw : Below w.heap.size w w2 := (HB1.out.trans hb2); have hR : w2.heap[m]? = some (.cells (hdR s.room ao n cap s.hit s.miss).toArray 63 (0, 0)) := (hbw.block m hml).trans HHD.out; have HB2 := hid hbw; have HO2 := hid ho2; clear hb2 ho2 hbw
  refine hK.out _ _ hR (fun hHeld => ?_)
  clear hK K
  (try simp only [Act.put, List.setIfInBounds_toArray, List.set_cons_zero, List.set_cons_succ])
  refine wpAnyK_pure (i := 18) (v := ?_) (op_at2 _ 18 _ rfl) (by kernel_rfl) (by kernel_rfl) (by kernel_rfl) (by kernel_rfl) (fun _ _ _ h => h) (Or.inl ⟨by rfl, ?_⟩) (Or.inl (by assumption)) ?_
  rotate_left 1
  focus (intro W hSw; go_simp; first | done | with_reducible rfl)
  (try simp only [Act.put, List.setIfInBounds_toArray, List.set_cons_zero, List.set_cons_succ])
  refine wpAnyK_ready (rs := [19]) (by kernel_rfl) (by simp) ?_
  refine AllReadyK.cons (op_at2 _ 19 _ rfl) (fun K hK => ?_) AllReadyK.nil
  go_simp
  have hR : (w2.alloc (.cells #[.int .i64 (s.room : Int), .slice a2 n c2, .int .i64 (s.hit : Int), .int .i64 (s.miss : Int)] 63)).heap[m]? = some (.cells (hdR s.room ao n cap s.hit s.miss).toArray 63 (0, 0)) := (Below.heap_alloc _ _ _ (by have := HB2.out.size; omega)).trans hR
  refine hK.out _ _ hR (fun hHeld => ?_)
  clear hK K
  (try simp only [Act.put, List.setIfInBounds_toArray, List.set_cons_zero, List.set_cons_succ])
  refine wpAnyK_pure (i := 20) (v := ?_) (op_at2 _ 20 _ rfl) (by kernel_rfl) (by kernel_rfl) (by kernel_rfl) (by kernel_rfl) (fun _ _ _ h => h) (Or.inl ⟨by rfl, ?_⟩) (Or.inl (by assumption)) ?_
  rotate_left 1
  focus (intro W hSw; go_simp; first | done | with_reducible rfl)
  (try simp only [Act.put, List.setIfInBounds_toArray, List.set_cons_zero, List.set_cons_succ])
  refine wpAnyK_done (by kernel_rfl) ?_ _
  go_wp2
  go_ret
  have ho2 := HO2.out
  rw [HN.out] at ho2
  have hb2 := HB2.out
  obtain ⟨W, hW⟩ : ∃ W, W = w2.alloc (.cells #[.int .i64 (s.room : Int), .slice a2 n c2, .int .i64 (s.hit : Int), .int .i64 (s.miss : Int)] 63) := ⟨_, rfl⟩
  have hb3 : Below w2.heap.size w2 W := by rw [hW]; exact (Below.refl _ _).alloc (Nat.le_refl _) _
  have hnew : W.heap[w2.heap.size]? = some (.cells (hdR s.room a2 ps.length c2 s.hit s.miss).toArray 63 (0, 0)) := by rw [hW, ← HN.out]; exact heap_alloc_new w2 _
  rw [← hW]
  refine ⟨w2.heap.size, rfl, ⟨a2, c2, ps⟩, ⟨hnew, own4_base (own4_later ho2 hb3) (Nat.zero_le _), fun p hp => ((HH.out.later hb2).later hb3).by_ p hp, HH.out.ls⟩, fun k hk => ?_, rfl, gt hb2 hb3⟩
  rcases hk with rfl | ⟨a, ha, rfl⟩
  · exact hb2.size
  · exact own4_ge ho2 a ha

end Go.Proofs.Ytebjjibgkjgpgaa
