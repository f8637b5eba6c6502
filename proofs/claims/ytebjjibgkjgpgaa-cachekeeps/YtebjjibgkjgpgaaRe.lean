/- The document's cache: a row goes; no statement of the seat is proved here. -/
import Derived.Test.YtebjjibgkjgpgaaRd
namespace Go.Proofs.Ytebjjibgkjgpgaa
open Go.RowKit Go.Maps

theorem op_at (l : List Oper) (i : Nat) (o : Oper) (h : l[i]? = some o) : l.toArray[i]? = some o := by simpa using h

theorem own4_made (w : World) : ((w.alloc (.cells #[] 81)).drew).ownsRow 0 81 4 (.slice (some ⟨w.heap.size, 0, none⟩) 0 0) 0 (rvs []) :=
  ⟨rfl, .inr ⟨w.heap.size, 0, #[], rfl, Nat.zero_le _, heap_alloc_new w _, Nat.le_refl _, by decide, rfl, rfl⟩⟩
theorem slice_own4 {ao : Option Addr} {n c k : Nat} (h : (Value.slice ao n c).ownBlock = some k) : ∃ a, ao = some a ∧ a.block = k := by
  cases ao with
  | none => simp [Value.ownBlock] at h
  | some a => exact ⟨a, rfl, by simpa [Value.ownBlock] using h⟩

theorem low_of {a2 : Option Addr} {i c2 k B N : Nat} (hk : (Value.slice a2 i c2).ownBlock = some k) (hat : ∀ a, a2 = some a → ((Value.slice (some ⟨B, 0, none⟩) 0 0).ownBlock = some a.block ∨ a.block = N)) (hN : N = B + 1) : B ≤ k := by
  obtain ⟨a, rfl, rfl⟩ := slice_own4 hk
  rcases hat a rfl with h | h
  · have q : B = a.block := by simpa [Value.ownBlock] using h
    omega
  · omega

theorem step_app4 {w : World} {ops : Array Oper} {o : Oper} {a : Act} {K : Act → World → Prop} {Q : Exit → Act → World → Prop} {E' : Prop} (hgd : o.guard = none) (s x : Operand)
    (ho : o.op = .call { callee := .builtin .append, args := #[s, x], argTypes := #[61, 61] }) (v : Value) (n : Nat) (xs : List (Row × RB)) (hs : a.eval s = v) (hown : w.ownsRow 0 81 4 v n (rvs xs))
    (ao : Option Addr) (m c : Nat) (ys : List (Row × RB)) (hx : a.eval x = .slice ao m c) (hsr : Src4 w ao m c ys) (hb : n + m ≤ 1000000)
    (h : ∀ ao' c' w', w'.ownsRow 0 81 4 (.slice ao' (n + m) c') (n + m) (rvs (xs ++ ys)) → w.grownBy w' v.ownBlock → (∀ a, ao' = some a → (v.ownBlock = some a.block ∨ a.block = w.heap.size)) → K (a.put o.dst (.slice ao' (n + m) c')) w') :
    if Region.wanted o (yielded ops a.tmps) = true then Oper.wp Try.prog o a w K Q else E' := by
  have hw : Region.wanted o (yielded ops a.tmps) = true := by simp [Region.wanted, hgd]
  rw [if_pos hw]
  obtain ⟨ao', c', w', hr, h2, h3, h4⟩ := app4 o.type w v n xs hown ao m c ys hsr hb
  unfold Oper.wp execOp
  simp only [ho, resolve, invoke, builtin, Sem.run_bind, Sem.run_pure, Result.andThen_ok, List.map_toArray, List.map_cons, List.map_nil, hs, hx, hr]
  exact h ao' c' w' h2 h3 h4

theorem RP.cellAt {w : World} {m g cap : Nat} {ps : List (Row × RB)} {s : CS} (h : RP w m ⟨some ⟨g, 0, none⟩, cap, ps⟩ s) {t : Nat} {u : Value} (ht : (rvs ps)[t]? = some u) : w.cell? ⟨g, t, none⟩ = some u := by
  have hl := (List.getElem?_eq_some_iff.1 ht).1
  rw [rvs_length] at hl
  exact (h.row.cellAt t (by simpa using hl)).trans ht
theorem RP.src_take {w : World} {m g cap : Nat} {ps : List (Row × RB)} {s : CS} (h : RP w m ⟨some ⟨g, 0, none⟩, cap, ps⟩ s) (i : Nat) (hi : i ≤ ps.length) : Src4 w (some ⟨g, 0, none⟩) i cap (ps.take i) := by
  refine ⟨by simp; omega, fun h => (by cases h), fun ad ha j u hu => ?_⟩
  cases ha
  rw [Addr.add_lit, Nat.zero_add]
  refine h.cellAt ?_
  rw [← rvs_take] at hu
  rw [List.getElem?_take] at hu
  split at hu
  · exact hu
  · cases hu
theorem RP.src_drop {w : World} {m g cap n i : Nat} {A : Addr} {ps : List (Row × RB)} {s : CS} (h : RP w m ⟨some ⟨g, 0, none⟩, cap, ps⟩ s) (hn : n = ps.length) (hi : i < n) (hA : A = if cap = i + 1 then ⟨g, 0, none⟩ else ⟨g, (i + 1) * 4, none⟩) : Src4 w (some A) (n - (i + 1)) (cap - (i + 1)) (ps.drop (i + 1)) := by
  have hcap : ps.length ≤ cap := (row4_blk h.row (a := ⟨g, 0, none⟩) rfl).choose_spec.2.2
  refine ⟨by simp; omega, fun h => (by cases h), fun ad ha j u hu => ?_⟩
  cases ha
  by_cases hc : cap = i + 1
  · have : ps.drop (i + 1) = [] := List.drop_of_length_le (by omega)
    rw [this] at hu
    simp [rvs] at hu
  · rw [hA, if_neg hc, Addr.add_lit]
    refine h.cellAt ?_
    rw [← rvs_drop, List.getElem?_drop] at hu
    exact hu

set_option maxRecDepth 20000 in
set_option maxHeartbeats 4000000 in
theorem rout_any (m g cap i n : Nat) (ps : List (Row × RB)) (s : CS) (w : World) (h : RP w m ⟨some ⟨g, 0, none⟩, cap, ps⟩ s) (hi : i < n) (hn : n ≤ 1000000) (hnn : n = ps.length) :
    Calls Try.prog 58 #[.pointer (some ⟨m, 0, none⟩), .int .i64 (i : Int)] w fun e w' => e = .returned (.tuple #[]) ∧ ∃ R', RStep w w' m ⟨some ⟨g, 0, none⟩, cap, ps⟩ R' { s with l := s.l.eraseIdx i } := by
  have c1 := h.c1
  simp only at c1
  have hcap : n ≤ cap := by rw [hnn]; exact (row4_blk h.row (a := ⟨g, 0, none⟩) rfl).choose_spec.2.2
  rw [← hnn] at c1
  have hi1 : (i : Int) ≤ (cap : Int) := by omega
  have hi2 : (i : Int) + 1 ≤ (n : Int) := by omega
  have hi3 : IntKind.i64.wrap ((i : Int) + 1) = (i : Int) + 1 := by rw [IntWalk.i64_in _ ⟨by omega, by omega⟩]
  obtain ⟨A, hA⟩ : ∃ A : Addr, A = if cap = i + 1 then ⟨g, 0, none⟩ else ⟨g, (i + 1) * 4, none⟩ := ⟨_, rfl⟩
  have hi4 : (0 : Int) ≤ (i : Int) + 1 := by omega
  have hml := h.mlt
  have f1 := hd_frozen h.hd 1
  have HA := hid hA
  have HH := hid h; have HN := hid hnn
  clear h hnn hA
  go_enter Try.func58, Try.ntmps58
  go_wp2_with fail
  refine wp_region_K (S := Reads1 ⟨m, 1, none⟩ (.slice (some ⟨g, 0, none⟩) n cap)) (fun i => i == 19) (by kernel_rfl) ⟨c1, trivial⟩ (fun hHeld => ?_)
  refine wpAnyK_pure (i := 0) (v := ?_) (op_at _ 0 _ rfl) (by kernel_rfl) (by kernel_rfl) (by kernel_rfl) (by kernel_rfl) (fun _ _ _ h => h) (Or.inl ⟨by rfl, ?_⟩) (Or.inl (by assumption)) ?_
  rotate_left 1
  focus (intro W hSw; go_simp; first | done | with_reducible rfl)
  (try simp only [Act.put, List.setIfInBounds_toArray, List.set_cons_zero, List.set_cons_succ])
  refine wpAnyK_pure (i := 2) (v := ?_) (op_at _ 2 _ rfl) (by kernel_rfl) (by kernel_rfl) (by kernel_rfl) (by kernel_rfl) (fun _ _ _ h => h) (Or.inl ⟨by rfl, ?_⟩) (Or.inl (by assumption)) ?_
  rotate_left 1
  focus (intro W hSw; go_simp; first | done | with_reducible rfl)
  (try simp only [Act.put, List.setIfInBounds_toArray, List.set_cons_zero, List.set_cons_succ])
  refine wpAnyK_pure (i := 3) (v := ?_) (op_at _ 3 _ rfl) (by kernel_rfl) (by kernel_rfl) (by kernel_rfl) (by kernel_rfl) (fun _ _ _ h => h) (Or.inl ⟨by rfl, ?_⟩) (Or.inl (by assumption)) ?_
  rotate_left 1
  focus (intro W hSw; go_simp; first | done | with_reducible rfl)
  (try simp only [Act.put, List.setIfInBounds_toArray, List.set_cons_zero, List.set_cons_succ])
  refine wpAnyK_pure (i := 4) (v := ?_) (op_at _ 4 _ rfl) (by kernel_rfl) (by kernel_rfl) (by kernel_rfl) (by kernel_rfl) (fun _ _ _ h => h) (Or.inl ⟨by rfl, ?_⟩) (Or.inl (by assumption)) ?_
  rotate_left 1
  focus (intro W hSw; go_simp; first | done | with_reducible rfl)
  (try simp only [Act.put, List.setIfInBounds_toArray, List.set_cons_zero, List.set_cons_succ])
  refine wpAnyK_take (i := 5) (v := ?_) (op_at _ 5 _ rfl) (by kernel_rfl) (by kernel_rfl) (by kernel_rfl) (by kernel_rfl) (fun _ _ _ h => h) (Or.inl ⟨by rfl, ?_⟩) (by assumption) ?_
  rotate_left 1
  focus (intro W hSw; obtain ⟨hw1, _⟩ := hSw; go_simp; first | done | with_reducible rfl)
  (try simp only [Act.put, List.setIfInBounds_toArray, List.set_cons_zero, List.set_cons_succ])
  refine wpAnyK_pure (i := 6) (v := ?_) (op_at _ 6 _ rfl) (by kernel_rfl) (by kernel_rfl) (by kernel_rfl) (by kernel_rfl) (fun _ _ _ h => h) (Or.inl ⟨by rfl, ?_⟩) (Or.inl (by assumption)) ?_
  rotate_left 1
  focus (intro W hSw; go_simp; first | done | with_reducible rfl)
  (try simp only [Act.put, List.setIfInBounds_toArray, List.set_cons_zero, List.set_cons_succ])
  refine wpAnyK_pure (i := 7) (v := .slice (some ⟨g, 0, none⟩) i cap) (op_at _ 7 _ rfl) (by kernel_rfl) (by kernel_rfl) (by kernel_rfl) (by kernel_rfl) (fun _ _ _ h => h) (Or.inl ⟨by rfl, ?_⟩) (Or.inl (by assumption)) ?_
  focus (intro W hSw; go_simp)
  (try simp only [Act.put, List.setIfInBounds_toArray, List.set_cons_zero, List.set_cons_succ])
  refine wpAnyK_pure (i := 9) (v := ?_) (op_at _ 9 _ rfl) (by kernel_rfl) (by kernel_rfl) (by kernel_rfl) (by kernel_rfl) (fun _ _ _ h => h) (Or.inl ⟨by rfl, ?_⟩) (Or.inl (by assumption)) ?_
  rotate_left 1
  focus (intro W hSw; go_simp; first | done | with_reducible rfl)
  (try simp only [Act.put, List.setIfInBounds_toArray, List.set_cons_zero, List.set_cons_succ])
  refine wpAnyK_pure (i := 10) (v := ?_) (op_at _ 10 _ rfl) (by kernel_rfl) (by kernel_rfl) (by kernel_rfl) (by kernel_rfl) (fun _ _ _ h => h) (Or.inl ⟨by rfl, ?_⟩) (Or.inl (by assumption)) ?_
  rotate_left 1
  focus (intro W hSw; go_simp; first | done | with_reducible rfl)
  (try simp only [Act.put, List.setIfInBounds_toArray, List.set_cons_zero, List.set_cons_succ])
  refine wpAnyK_pure (i := 11) (v := ?_) (op_at _ 11 _ rfl) (by kernel_rfl) (by kernel_rfl) (by kernel_rfl) (by kernel_rfl) (fun _ _ _ h => h) (Or.inl ⟨by rfl, ?_⟩) (Or.inl (by assumption)) ?_
  rotate_left 1
  focus (intro W hSw; go_simp; first | done | with_reducible rfl)
  (try simp only [Act.put, List.setIfInBounds_toArray, List.set_cons_zero, List.set_cons_succ])
  refine wpAnyK_take (i := 12) (v := ?_) (op_at _ 12 _ rfl) (by kernel_rfl) (by kernel_rfl) (by kernel_rfl) (by kernel_rfl) (fun _ _ _ h => h) (Or.inl ⟨by rfl, ?_⟩) (by assumption) ?_
  rotate_left 1
  focus (intro W hSw; obtain ⟨hw1, _⟩ := hSw; go_simp; first | done | with_reducible rfl)
  (try simp only [Act.put, List.setIfInBounds_toArray, List.set_cons_zero, List.set_cons_succ])
  refine wpAnyK_pure (i := 13) (v := ?_) (op_at _ 13 _ rfl) (by kernel_rfl) (by kernel_rfl) (by kernel_rfl) (by kernel_rfl) (fun _ _ _ h => h) (Or.inl ⟨by rfl, ?_⟩) (Or.inl (by assumption)) ?_
  rotate_left 1
  focus (intro W hSw; go_simp; first | done | with_reducible rfl)
  (try simp only [Act.put, List.setIfInBounds_toArray, List.set_cons_zero, List.set_cons_succ])
  refine wpAnyK_pure (i := 14) (v := ?_) (op_at _ 14 _ rfl) (by kernel_rfl) (by kernel_rfl) (by kernel_rfl) (by kernel_rfl) (fun _ _ _ h => h) (Or.inl ⟨by rfl, ?_⟩) (Or.inl (by assumption)) ?_
  rotate_left 1
  focus (intro W hSw; go_simp; first | done | with_reducible rfl)
  (try simp only [Act.put, List.setIfInBounds_toArray, List.set_cons_zero, List.set_cons_succ])
  refine wpAnyK_pure (i := 15) (v := .slice (some A) (n - (i + 1)) (cap - (i + 1))) (op_at _ 15 _ rfl) (by kernel_rfl) (by kernel_rfl) (by kernel_rfl) (by kernel_rfl) (fun _ _ _ h => h) (Or.inl ⟨by rfl, ?_⟩) (Or.inl (by assumption)) ?_
  focus (intro W hSw; go_simp; rw [HA.out]; split <;> rfl)
  (try simp only [Act.put, List.setIfInBounds_toArray, List.set_cons_zero, List.set_cons_succ])
  refine wpAnyK_ready (rs := [1]) (by kernel_rfl) (by simp) ?_
  refine AllReadyK.cons (op_at _ 1 _ rfl) (fun K hK => ?_) AllReadyK.nil
  go_simp
  obtain ⟨W1, hW1⟩ : ∃ W1, W1 = (w.alloc (.cells #[] 81)).drew := ⟨_, rfl⟩; rw [← hW1]; have hb1 : Below w.heap.size w W1 := (by rw [hW1]; exact ((Below.refl _ w).alloc (Nat.le_refl _) _).drew); have ho1 : W1.ownsRow 0 81 4 (.slice (some ⟨w.heap.size, 0, none⟩) 0 0) 0 (rvs []) := (by rw [hW1]; exact own4_made w); have hR : Reads1 ⟨m, 1, none⟩ (.slice (some ⟨g, 0, none⟩) n cap) W1 := ⟨keep_old hb1 c1, trivial⟩; have HB1 := hid hb1; have HO1 := hid ho1; have HW1 := hid (show W1.heap.size = w.heap.size + 1 by rw [hW1]; simp [World.drew]); clear hW1 hb1 ho1
  refine hK.out _ _ hR (fun hHeld => ?_)
  clear hK K
  (try simp only [Act.put, List.setIfInBounds_toArray, List.set_cons_zero, List.set_cons_succ])
  refine wpAnyK_ready (rs := [8]) (by kernel_rfl) (by simp) ?_
  refine AllReadyK.cons (op_at _ 8 _ rfl) (fun K hK => ?_) AllReadyK.nil
  refine step_app4 rfl (.tmp 5) (.tmp 11) rfl (.slice (some ⟨w.heap.size, 0, none⟩) 0 0) 0 [] rfl HO1.out _ i cap (ps.take i) rfl ((HH.out.later HB1.out).src_take i (by rw [← HN.out]; omega)) (by omega) ?_; simp only [Nat.zero_add, List.nil_append]; intro a2 c2 w2 ho2 hg2 hat2; have hb2 : Below w.heap.size w w2 := (HB1.out.grown hg2 HB1.out.size (fun k hk => by have q : w.heap.size = k := (by simpa [Value.ownBlock] using hk); omega)); have hR : Reads1 ⟨m, 1, none⟩ (.slice (some ⟨g, 0, none⟩) n cap) w2 := ⟨keep_old hb2 c1, trivial⟩; have HB2 := hid hb2; have HO2 := hid ho2; have HA2 := hid hat2; have HG2 := hid hg2; clear hb2 ho2 hat2 hg2
  refine hK.out _ _ hR (fun hHeld => ?_)
  clear hK K
  (try simp only [Act.put, List.setIfInBounds_toArray, List.set_cons_zero, List.set_cons_succ])
  refine wpAnyK_ready (rs := [16]) (by kernel_rfl) (by simp) ?_
  refine AllReadyK.cons (op_at _ 16 _ rfl) (fun K hK => ?_) AllReadyK.nil
  refine step_app4 rfl (.tmp 12) (.tmp 19) rfl (.slice a2 i c2) i (ps.take i) rfl HO2.out _ (n - (i + 1)) (cap - (i + 1)) (ps.drop (i + 1)) rfl ((HH.out.later HB2.out).src_drop (i := i) HN.out (by omega) HA.out) (by omega) ?_; intro a3 c3 w3 ho3 hg3 hat3; have hlow : ∀ k, (Value.slice a2 i c2).ownBlock = some k → w.heap.size ≤ k := (fun k hk => low_of hk HA2.out HW1.out); have hb3 : Below w.heap.size w w3 := (HB2.out.grown hg3 HB2.out.size (fun k hk => hlow k hk)); have hR : Reads1 ⟨m, 1, none⟩ (.slice (some ⟨g, 0, none⟩) n cap) w3 := ⟨keep_old hb3 c1, trivial⟩; have HB3 := hid hb3; have HO3 := hid ho3; have HA3 := hid hat3; have HLOW := hid hlow; have d1 := hR.1; have f3 := (keep_frozen hb3 (a := ⟨m, 1, none⟩) hml).trans f1; clear hb3 ho3 hat3 hlow hg3
  refine hK.out _ _ hR (fun hHeld => ?_)
  clear hK K
  (try simp only [Act.put, List.setIfInBounds_toArray, List.set_cons_zero, List.set_cons_succ])
  refine wpAnyK_pure (i := 17) (v := ?_) (op_at _ 17 _ rfl) (by kernel_rfl) (by kernel_rfl) (by kernel_rfl) (by kernel_rfl) (fun _ _ _ h => h) (Or.inl ⟨by rfl, ?_⟩) (Or.inl (by assumption)) ?_
  rotate_left 1
  focus (intro W hSw; go_simp; first | done | with_reducible rfl)
  (try simp only [Act.put, List.setIfInBounds_toArray, List.set_cons_zero, List.set_cons_succ])
  refine wpAnyK_pure (i := 18) (v := ?_) (op_at _ 18 _ rfl) (by kernel_rfl) (by kernel_rfl) (by kernel_rfl) (by kernel_rfl) (fun _ _ _ h => h) (Or.inl ⟨by rfl, ?_⟩) (Or.inl (by assumption)) ?_
  rotate_left 1
  focus (intro W hSw; go_simp; first | done | with_reducible rfl)
  (try simp only [Act.put, List.setIfInBounds_toArray, List.set_cons_zero, List.set_cons_succ])
  refine wpAnyK_ready (rs := [19]) (by kernel_rfl) (by simp) ?_
  refine AllReadyK.late (op_at _ 19 _ rfl) (by kernel_rfl) (fun K hK => ?_) AllReadyK.nil
  go_simp
  refine hK.out _ _ ?_
  clear hK K
  (try simp only [Act.put, List.setIfInBounds_toArray, List.set_cons_zero, List.set_cons_succ])
  refine wpAnyK_done (by kernel_rfl) ?_ _
  go_wp2
  go_end0
  have hlow3 : ∀ a, a3 = some a → w.heap.size ≤ a.block := fun a ha => by
    rcases HA3.out a ha with h | h
    · exact HLOW.out _ h
    · have := HB2.out.size; omega
  refine ⟨rfl, ?_⟩
  have e1 : i + (n - (i + 1)) = (ps.take i ++ ps.drop (i + 1)).length := by have := HN.out; simp; omega
  have e2 : ps.eraseIdx i = ps.take i ++ ps.drop (i + 1) := List.eraseIdx_eq_take_drop_succ ps i
  have ho3 := HO3.out
  rw [e1] at ho3 ⊢
  have hgm3 : ∀ a, a3 = some a → a.block ≠ m := fun a ha h0 => by have := hlow3 a ha; omega
  refine ⟨⟨a3, c3, ps.take i ++ ps.drop (i + 1)⟩, ⟨?_, row4_stay ho3 (fun a ha => set_heap _ _ _ _ _ (hgm3 a ha)), fun p hp => ?_, ?_⟩, (Fr.of_below HB3.out).set (Or.inl (Or.inl rfl)) _, fun k hk => ?_⟩
  · have q := blk_set (i := 1) (v := .slice a3 (ps.take i ++ ps.drop (i + 1)).length c3) ((HH.out.later HB3.out).hd)
    exact q
  · have hp' : p ∈ ps := by
      rw [← e2] at hp
      exact List.mem_of_mem_eraseIdx hp
    have q := (HH.out.later HB3.out).by_ p hp'
    refine row4_stay q (fun a ha => set_heap _ _ _ _ _ (fun h0 => ?_))
    obtain ⟨cur, hg, _⟩ := row4_blk q ha
    rw [h0, (HH.out.later HB3.out).hd] at hg
    simp at hg
  · have q := HH.out.ls
    simp only at q ⊢
    rw [q, List.eraseIdx_eq_take_drop_succ]; simp [List.map_take, List.map_drop]
  · rcases hk with rfl | ⟨a, ha, rfl⟩
    · exact Or.inl (Or.inl rfl)
    · exact Or.inr (hlow3 a ha)

end Go.Proofs.Ytebjjibgkjgpgaa
