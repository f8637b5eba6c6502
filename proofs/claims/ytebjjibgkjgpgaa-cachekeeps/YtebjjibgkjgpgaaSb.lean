/- What one act makes of a cache and of the document's; no statement of the seat is proved here. -/
import Derived.Test.YtebjjibgkjgpgaaSa
namespace Go.Proofs.Ytebjjibgkjgpgaa
open Go.RowKit Go.Maps

/-- Every act that lay there lies there still. -/
def KB (W W' : World) : Prop := ∀ k x, Box k x W → Box k x W'
def blen : Option (List Nat) → Nat
  | none => 0
  | some _ => 512
theorem bytes_rd {o : Option (List Nat)} {B : Nat} {w' : World} {e : Ending} (h : Bytes o B w' e) : ∃ ao cap, e = .returned (.tuple #[.slice ao (blen o) cap, .bool o.isSome]) ∧ Rd w' ao (blen o) cap (o.getD []) ∧ ∀ a, ao = some a → B ≤ a.block := by
  cases o with
  | none => exact ⟨none, 0, h, Rd.nil w', fun a ha => by cases ha⟩
  | some x =>
    obtain ⟨hl, ao, cap, rfl, ho⟩ := h
    exact ⟨ao, cap, rfl, rd_own5 ho, own4_ge ho⟩
theorem Rd.fr' {w w' : World} {ao : Option Addr} {cap n : Nat} {b : List Nat} {S : Nat → Prop} (hr : Rd w ao n cap b) (hf : Fr S w w') (hs : ∀ a, ao = some a → ¬ S a.block) : Rd w' ao n cap b := by
  refine ⟨hr.1, hr.2.1, hr.2.2.1, fun hn => ?_⟩
  obtain ⟨b', off, e1, hc⟩ := hr.2.2.2 hn
  exact ⟨b', off, e1, fun t ht => (World.cell?_of_block (hf.blk b' (lt_cell (hc t ht)) (hs _ e1))).trans (hc t ht)⟩
theorem cvt' {W : World} {ao : Option Addr} {n cap : Nat} {xs : List Nat} (h : Rd W ao n cap xs) : (convert 38 9 (.slice ao n cap)).run Try.prog W = .ok (.string (str xs)) W := conv_rd h 38 9 5 Try.underlying38 Try.underlying5 Try.underlying9

set_option maxHeartbeats 4000000 in
set_option maxRecDepth 20000 in
theorem act_pin (w0 W : World) (c m : Nat) (C : Parts) (R : RParts) (s t : CS) (p : Int) (sd : Nat) (sh : Bool) (h : Both w0 W c m C R s t) (hnd : (t.l.map Row.page).Nodup) (hs : OkS 999999 s) (ht : OkS 999999 t) (hx : AvOk ⟨3, p, sd, sh⟩) :
    Calls Try.prog 11 #[.pointer (some ⟨c, 0, none⟩), .pointer (some ⟨m, 0, none⟩), .agg #[.int .i64 3, .int .i64 p, .int .u8 (sd : Int), .bool sh]] W fun e w' => ∃ v, e = .returned (.bool v) ∧ (s = t → v = true) ∧ ∃ C' R', Both w0 w' c m C' R' (s.did ⟨3, p, sd, sh⟩) (t.did ⟨3, p, sd, sh⟩) ∧ KB W w' := by
  obtain ⟨W1, hW1⟩ : ∃ W1, W1 = W.alloc (.cells #[.int .i64 3, .int .i64 p, .int .u8 (sd : Int), .bool sh] 29) := ⟨_, rfl⟩
  obtain ⟨xb, hxb⟩ : ∃ xb, xb = W.heap.size := ⟨_, rfl⟩
  have hB1 : Both w0 W1 c m C R s t := by rw [hW1]; exact h.later ((Below.refl _ _).alloc (Nat.le_refl _) _)
  have hX1 : Box xb ⟨3, p, sd, sh⟩ W1 := by rw [hW1, hxb]; exact Box.new W ⟨3, p, sd, sh⟩
  have hwf : (Lit.int .i64 p).wf = true := wf64 hx.p.1 hx.p.2
  have HK1 := hid (show KB W W1 from fun k x hk => by rw [hW1]; exact hk.later ((Below.refl _ _).alloc (Nat.le_refl _) _))
  have HWF := hid hwf; have HND := hid hnd; have HS := hid hs; have HT := hid ht; have HXO := hid hx
  have HB1 := hid hB1; have HX1 := hid hX1; have HW1 := hid hW1; have HXB := hid hxb
  have HCL := hid (show C.ks.length < 1000000 by rw [h.cp.klen]; have := hs.len; omega)
  have HRL := hid (show R.ps.length < 1000000 by rw [← h.rp.len]; have := ht.len; omega)
  obtain ⟨x0, x1, x2, x3⟩ := hX1.cells
  simp only at x0 x1 x2 x3
  clear h hnd hs ht hx hwf hW1 hxb hB1 hX1
  obtain ⟨u, hu⟩ : ∃ u, u = (s.pin p).2 := ⟨_, rfl⟩
  obtain ⟨v, hv⟩ : ∃ v, v = (t.pin p).2 := ⟨_, rfl⟩
  have HU := hid hu; have HV := hid hv
  clear hu hv
  go_enter Try.func11, Try.ntmps11
  go_upto_region 13 with fail
  rw [← HW1.out, ← HXB.out]
  refine wp_region_K (S := Box xb ⟨3, p, sd, sh⟩) (fun _ => false) (by kernel_rfl) HX1.out (fun hHeld => ?_)
  obtain ⟨W0, hW0⟩ : ∃ W0, W0 = W1.drew := ⟨_, rfl⟩
  rw [← hW0] at hHeld ⊢
  have B0 : Hid (Both w0 W0 c m C R s t) := hid (by rw [hW0]; exact HB1.out.later ((Below.refl _ _).drew))
  have X0 := hid hHeld
  have K0 : Hid (KB W W0) := hid (by rw [hW0]; exact fun k x hk => HK1.out k x hk)
  have hR := hHeld
  clear hW0
  refine wpAnyK_pure (i := 0) (v := ?_) (op_at _ 0 _ rfl) (by kernel_rfl) (by kernel_rfl) (by kernel_rfl) (by kernel_rfl) (fun _ _ _ h => h) (Or.inl ⟨by rfl, ?_⟩) (Or.inl (by assumption)) ?_
  rotate_left 1
  focus (intro W hSw; go_simp; first | done | with_reducible rfl)
  (try simp only [Act.put, List.setIfInBounds_toArray, List.set_cons_zero, List.set_cons_succ])
  refine wpAnyK_pure (i := 1) (v := ?_) (op_at _ 1 _ rfl) (by kernel_rfl) (by kernel_rfl) (by kernel_rfl) (by kernel_rfl) (fun _ _ _ h => h) (Or.inl ⟨by rfl, ?_⟩) (Or.inl (by assumption)) ?_
  rotate_left 1
  focus (intro W hSw; go_simp; first | done | with_reducible rfl)
  (try simp only [Act.put, List.setIfInBounds_toArray, List.set_cons_zero, List.set_cons_succ])
  refine wpAnyK_take (i := 2) (v := ?_) (op_at _ 2 _ rfl) (by kernel_rfl) (by kernel_rfl) (by kernel_rfl) (by kernel_rfl) (fun _ _ _ h => h) (Or.inl ⟨by rfl, ?_⟩) (by assumption) ?_
  rotate_left 1
  focus (intro W hSw; obtain ⟨q0, q1, q2, q3⟩ := Box.cells hSw; go_simp; first | done | with_reducible rfl)
  (try simp only [Act.put, List.setIfInBounds_toArray, List.set_cons_zero, List.set_cons_succ])
  refine wpAnyK_pure (i := 4) (v := ?_) (op_at _ 4 _ rfl) (by kernel_rfl) (by kernel_rfl) (by kernel_rfl) (by kernel_rfl) (fun _ _ _ h => h) (Or.inl ⟨by rfl, ?_⟩) (Or.inl (by assumption)) ?_
  rotate_left 1
  focus (intro W hSw; go_simp; first | done | with_reducible rfl)
  (try simp only [Act.put, List.setIfInBounds_toArray, List.set_cons_zero, List.set_cons_succ])
  refine wpAnyK_pure (i := 5) (v := ?_) (op_at _ 5 _ rfl) (by kernel_rfl) (by kernel_rfl) (by kernel_rfl) (by kernel_rfl) (fun _ _ _ h => h) (Or.inl ⟨by rfl, ?_⟩) (Or.inl (by assumption)) ?_
  rotate_left 1
  focus (intro W hSw; go_simp; first | done | with_reducible rfl)
  (try simp only [Act.put, List.setIfInBounds_toArray, List.set_cons_zero, List.set_cons_succ])
  refine wpAnyK_take (i := 6) (v := ?_) (op_at _ 6 _ rfl) (by kernel_rfl) (by kernel_rfl) (by kernel_rfl) (by kernel_rfl) (fun _ _ _ h => h) (Or.inl ⟨by rfl, ?_⟩) (by assumption) ?_
  rotate_left 1
  focus (intro W hSw; obtain ⟨q0, q1, q2, q3⟩ := Box.cells hSw; go_simp; first | done | with_reducible rfl)
  (try simp only [Act.put, List.setIfInBounds_toArray, List.set_cons_zero, List.set_cons_succ])
  refine wpAnyK_ready (rs := [3]) (by kernel_rfl) (by simp) ?_
  refine AllReadyK.cons (op_at _ 3 _ rfl) (fun K hK => ?_) AllReadyK.nil
  go_simp
  go_at_call 25; refine (pin_call c C s p W0 B0.out.cp HWF.out (fun r hr => by have := HS.out.pins r hr; omega)).mono ?_; rintro e w3 ⟨rfl, C3, st⟩; rw [← HU.out]; have B3 := hid (B0.out.left st); have X3 := hid (X0.out.left B0.out st); have K3 := hid (show KB W w3 from fun k9 x9 hk9 => (K0.out k9 x9 hk9).left B0.out st); have hR := X3.out; clear st
  refine hK.out _ _ hR (fun hHeld => ?_)
  clear hK K
  (try simp only [Act.put, List.setIfInBounds_toArray, List.set_cons_zero, List.set_cons_succ])
  refine wpAnyK_ready (rs := [7]) (by kernel_rfl) (by simp) ?_
  refine AllReadyK.cons (op_at _ 7 _ rfl) (fun K hK => ?_) AllReadyK.nil
  go_simp
  go_at_call 35; refine (rpin_call m R t p w3 B3.out.rp (by have := HRL.out; omega) HND.out (fun r hr => by have := HT.out.pins r hr; omega)).mono ?_; rintro e w4 ⟨rfl, R4, st⟩; rw [← HV.out]; have B4 := hid (B3.out.right st); have X4 := hid (X3.out.right B3.out st); have K4 := hid (show KB W w4 from fun k9 x9 hk9 => (K3.out k9 x9 hk9).right B3.out st); have hR := X4.out; clear st
  refine hK.out _ _ hR (fun hHeld => ?_)
  clear hK K
  (try simp only [Act.put, List.setIfInBounds_toArray, List.set_cons_zero, List.set_cons_succ])
  refine wpAnyK_pure (i := 8) (v := ?_) (op_at _ 8 _ rfl) (by kernel_rfl) (by kernel_rfl) (by kernel_rfl) (by kernel_rfl) (fun _ _ _ h => h) (Or.inl ⟨by rfl, ?_⟩) (Or.inl (by assumption)) ?_
  rotate_left 1
  focus (intro W hSw; go_simp; first | done | with_reducible rfl)
  (try simp only [Act.put, List.setIfInBounds_toArray, List.set_cons_zero, List.set_cons_succ])
  refine wpAnyK_pure (i := 9) (v := ?_) (op_at _ 9 _ rfl) (by kernel_rfl) (by kernel_rfl) (by kernel_rfl) (by kernel_rfl) (fun _ _ _ h => h) (Or.inl ⟨by rfl, ?_⟩) (Or.inl (by assumption)) ?_
  rotate_left 1
  focus (intro W hSw; go_simp; first | done | with_reducible rfl)
  (try simp only [Act.put, List.setIfInBounds_toArray, List.set_cons_zero, List.set_cons_succ])
  refine wpAnyK_done (by kernel_rfl) ?_ _
  go_wp2
  go_ret
  exact ⟨_, rfl, fun h => by subst h; rw [HU.out, ← HV.out]; simp, C3, R4, by simpa [CS.did] using B4.out, K4.out⟩

set_option maxHeartbeats 4000000 in
set_option maxRecDepth 20000 in
theorem act_free (w0 W : World) (c m : Nat) (C : Parts) (R : RParts) (s t : CS) (p : Int) (sd : Nat) (sh : Bool) (h : Both w0 W c m C R s t) (hnd : (t.l.map Row.page).Nodup) (hs : OkS 999999 s) (ht : OkS 999999 t) (hx : AvOk ⟨4, p, sd, sh⟩) :
    Calls Try.prog 11 #[.pointer (some ⟨c, 0, none⟩), .pointer (some ⟨m, 0, none⟩), .agg #[.int .i64 4, .int .i64 p, .int .u8 (sd : Int), .bool sh]] W fun e w' => ∃ v, e = .returned (.bool v) ∧ (s = t → v = true) ∧ ∃ C' R', Both w0 w' c m C' R' (s.did ⟨4, p, sd, sh⟩) (t.did ⟨4, p, sd, sh⟩) ∧ KB W w' := by
  obtain ⟨W1, hW1⟩ : ∃ W1, W1 = W.alloc (.cells #[.int .i64 4, .int .i64 p, .int .u8 (sd : Int), .bool sh] 29) := ⟨_, rfl⟩
  obtain ⟨xb, hxb⟩ : ∃ xb, xb = W.heap.size := ⟨_, rfl⟩
  have hB1 : Both w0 W1 c m C R s t := by rw [hW1]; exact h.later ((Below.refl _ _).alloc (Nat.le_refl _) _)
  have hX1 : Box xb ⟨4, p, sd, sh⟩ W1 := by rw [hW1, hxb]; exact Box.new W ⟨4, p, sd, sh⟩
  have hwf : (Lit.int .i64 p).wf = true := wf64 hx.p.1 hx.p.2
  have HK1 := hid (show KB W W1 from fun k x hk => by rw [hW1]; exact hk.later ((Below.refl _ _).alloc (Nat.le_refl _) _))
  have HWF := hid hwf; have HND := hid hnd; have HS := hid hs; have HT := hid ht; have HXO := hid hx
  have HB1 := hid hB1; have HX1 := hid hX1; have HW1 := hid hW1; have HXB := hid hxb
  have HCL := hid (show C.ks.length < 1000000 by rw [h.cp.klen]; have := hs.len; omega)
  have HRL := hid (show R.ps.length < 1000000 by rw [← h.rp.len]; have := ht.len; omega)
  obtain ⟨x0, x1, x2, x3⟩ := hX1.cells
  simp only at x0 x1 x2 x3
  clear h hnd hs ht hx hwf hW1 hxb hB1 hX1
  obtain ⟨u, hu⟩ : ∃ u, u = (s.free p).2 := ⟨_, rfl⟩
  obtain ⟨v, hv⟩ : ∃ v, v = (t.free p).2 := ⟨_, rfl⟩
  have HU := hid hu; have HV := hid hv
  clear hu hv
  go_enter Try.func11, Try.ntmps11
  go_upto_region 15 with fail
  rw [← HW1.out, ← HXB.out]
  refine wp_region_K (S := Box xb ⟨4, p, sd, sh⟩) (fun _ => false) (by kernel_rfl) HX1.out (fun hHeld => ?_)
  obtain ⟨W0, hW0⟩ : ∃ W0, W0 = W1.drew := ⟨_, rfl⟩
  rw [← hW0] at hHeld ⊢
  have B0 : Hid (Both w0 W0 c m C R s t) := hid (by rw [hW0]; exact HB1.out.later ((Below.refl _ _).drew))
  have X0 := hid hHeld
  have K0 : Hid (KB W W0) := hid (by rw [hW0]; exact fun k x hk => HK1.out k x hk)
  have hR := hHeld
  clear hW0
  refine wpAnyK_pure (i := 0) (v := ?_) (op_at _ 0 _ rfl) (by kernel_rfl) (by kernel_rfl) (by kernel_rfl) (by kernel_rfl) (fun _ _ _ h => h) (Or.inl ⟨by rfl, ?_⟩) (Or.inl (by assumption)) ?_
  rotate_left 1
  focus (intro W hSw; go_simp; first | done | with_reducible rfl)
  (try simp only [Act.put, List.setIfInBounds_toArray, List.set_cons_zero, List.set_cons_succ])
  refine wpAnyK_pure (i := 1) (v := ?_) (op_at _ 1 _ rfl) (by kernel_rfl) (by kernel_rfl) (by kernel_rfl) (by kernel_rfl) (fun _ _ _ h => h) (Or.inl ⟨by rfl, ?_⟩) (Or.inl (by assumption)) ?_
  rotate_left 1
  focus (intro W hSw; go_simp; first | done | with_reducible rfl)
  (try simp only [Act.put, List.setIfInBounds_toArray, List.set_cons_zero, List.set_cons_succ])
  refine wpAnyK_take (i := 2) (v := ?_) (op_at _ 2 _ rfl) (by kernel_rfl) (by kernel_rfl) (by kernel_rfl) (by kernel_rfl) (fun _ _ _ h => h) (Or.inl ⟨by rfl, ?_⟩) (by assumption) ?_
  rotate_left 1
  focus (intro W hSw; obtain ⟨q0, q1, q2, q3⟩ := Box.cells hSw; go_simp; first | done | with_reducible rfl)
  (try simp only [Act.put, List.setIfInBounds_toArray, List.set_cons_zero, List.set_cons_succ])
  refine wpAnyK_pure (i := 4) (v := ?_) (op_at _ 4 _ rfl) (by kernel_rfl) (by kernel_rfl) (by kernel_rfl) (by kernel_rfl) (fun _ _ _ h => h) (Or.inl ⟨by rfl, ?_⟩) (Or.inl (by assumption)) ?_
  rotate_left 1
  focus (intro W hSw; go_simp; first | done | with_reducible rfl)
  (try simp only [Act.put, List.setIfInBounds_toArray, List.set_cons_zero, List.set_cons_succ])
  refine wpAnyK_pure (i := 5) (v := ?_) (op_at _ 5 _ rfl) (by kernel_rfl) (by kernel_rfl) (by kernel_rfl) (by kernel_rfl) (fun _ _ _ h => h) (Or.inl ⟨by rfl, ?_⟩) (Or.inl (by assumption)) ?_
  rotate_left 1
  focus (intro W hSw; go_simp; first | done | with_reducible rfl)
  (try simp only [Act.put, List.setIfInBounds_toArray, List.set_cons_zero, List.set_cons_succ])
  refine wpAnyK_take (i := 6) (v := ?_) (op_at _ 6 _ rfl) (by kernel_rfl) (by kernel_rfl) (by kernel_rfl) (by kernel_rfl) (fun _ _ _ h => h) (Or.inl ⟨by rfl, ?_⟩) (by assumption) ?_
  rotate_left 1
  focus (intro W hSw; obtain ⟨q0, q1, q2, q3⟩ := Box.cells hSw; go_simp; first | done | with_reducible rfl)
  (try simp only [Act.put, List.setIfInBounds_toArray, List.set_cons_zero, List.set_cons_succ])
  refine wpAnyK_ready (rs := [3]) (by kernel_rfl) (by simp) ?_
  refine AllReadyK.cons (op_at _ 3 _ rfl) (fun K hK => ?_) AllReadyK.nil
  go_simp
  go_at_call 26; refine (free_call c C s p W0 B0.out.cp HWF.out (fun r hr => by have := HS.out.pins r hr; omega)).mono ?_; rintro e w3 ⟨rfl, C3, st⟩; rw [← HU.out]; have B3 := hid (B0.out.left st); have X3 := hid (X0.out.left B0.out st); have K3 := hid (show KB W w3 from fun k9 x9 hk9 => (K0.out k9 x9 hk9).left B0.out st); have hR := X3.out; clear st
  refine hK.out _ _ hR (fun hHeld => ?_)
  clear hK K
  (try simp only [Act.put, List.setIfInBounds_toArray, List.set_cons_zero, List.set_cons_succ])
  refine wpAnyK_ready (rs := [7]) (by kernel_rfl) (by simp) ?_
  refine AllReadyK.cons (op_at _ 7 _ rfl) (fun K hK => ?_) AllReadyK.nil
  go_simp
  go_at_call 36; refine (rfree_call m R t p w3 B3.out.rp (by have := HRL.out; omega) HND.out (fun r hr => by have := HT.out.pins r hr; omega)).mono ?_; rintro e w4 ⟨rfl, R4, st⟩; rw [← HV.out]; have B4 := hid (B3.out.right st); have X4 := hid (X3.out.right B3.out st); have K4 := hid (show KB W w4 from fun k9 x9 hk9 => (K3.out k9 x9 hk9).right B3.out st); have hR := X4.out; clear st
  refine hK.out _ _ hR (fun hHeld => ?_)
  clear hK K
  (try simp only [Act.put, List.setIfInBounds_toArray, List.set_cons_zero, List.set_cons_succ])
  refine wpAnyK_pure (i := 8) (v := ?_) (op_at _ 8 _ rfl) (by kernel_rfl) (by kernel_rfl) (by kernel_rfl) (by kernel_rfl) (fun _ _ _ h => h) (Or.inl ⟨by rfl, ?_⟩) (Or.inl (by assumption)) ?_
  rotate_left 1
  focus (intro W hSw; go_simp; first | done | with_reducible rfl)
  (try simp only [Act.put, List.setIfInBounds_toArray, List.set_cons_zero, List.set_cons_succ])
  refine wpAnyK_pure (i := 9) (v := ?_) (op_at _ 9 _ rfl) (by kernel_rfl) (by kernel_rfl) (by kernel_rfl) (by kernel_rfl) (fun _ _ _ h => h) (Or.inl ⟨by rfl, ?_⟩) (Or.inl (by assumption)) ?_
  rotate_left 1
  focus (intro W hSw; go_simp; first | done | with_reducible rfl)
  (try simp only [Act.put, List.setIfInBounds_toArray, List.set_cons_zero, List.set_cons_succ])
  refine wpAnyK_done (by kernel_rfl) ?_ _
  go_wp2
  go_ret
  exact ⟨_, rfl, fun h => by subst h; rw [HU.out, ← HV.out]; simp, C3, R4, by simpa [CS.did] using B4.out, K4.out⟩

set_option maxHeartbeats 4000000 in
set_option maxRecDepth 20000 in
theorem act_drop (w0 W : World) (c m : Nat) (C : Parts) (R : RParts) (s t : CS) (p : Int) (sd : Nat) (sh : Bool) (h : Both w0 W c m C R s t) (hnd : (t.l.map Row.page).Nodup) (hs : OkS 999999 s) (ht : OkS 999999 t) (hx : AvOk ⟨6, p, sd, sh⟩) :
    Calls Try.prog 11 #[.pointer (some ⟨c, 0, none⟩), .pointer (some ⟨m, 0, none⟩), .agg #[.int .i64 6, .int .i64 p, .int .u8 (sd : Int), .bool sh]] W fun e w' => ∃ v, e = .returned (.bool v) ∧ (s = t → v = true) ∧ ∃ C' R', Both w0 w' c m C' R' (s.did ⟨6, p, sd, sh⟩) (t.did ⟨6, p, sd, sh⟩) ∧ KB W w' := by
  obtain ⟨W1, hW1⟩ : ∃ W1, W1 = W.alloc (.cells #[.int .i64 6, .int .i64 p, .int .u8 (sd : Int), .bool sh] 29) := ⟨_, rfl⟩
  obtain ⟨xb, hxb⟩ : ∃ xb, xb = W.heap.size := ⟨_, rfl⟩
  have hB1 : Both w0 W1 c m C R s t := by rw [hW1]; exact h.later ((Below.refl _ _).alloc (Nat.le_refl _) _)
  have hX1 : Box xb ⟨6, p, sd, sh⟩ W1 := by rw [hW1, hxb]; exact Box.new W ⟨6, p, sd, sh⟩
  have hwf : (Lit.int .i64 p).wf = true := wf64 hx.p.1 hx.p.2
  have HK1 := hid (show KB W W1 from fun k x hk => by rw [hW1]; exact hk.later ((Below.refl _ _).alloc (Nat.le_refl _) _))
  have HWF := hid hwf; have HND := hid hnd; have HS := hid hs; have HT := hid ht; have HXO := hid hx
  have HB1 := hid hB1; have HX1 := hid hX1; have HW1 := hid hW1; have HXB := hid hxb
  have HCL := hid (show C.ks.length < 1000000 by rw [h.cp.klen]; have := hs.len; omega)
  have HRL := hid (show R.ps.length < 1000000 by rw [← h.rp.len]; have := ht.len; omega)
  obtain ⟨x0, x1, x2, x3⟩ := hX1.cells
  simp only at x0 x1 x2 x3
  clear h hnd hs ht hx hwf hW1 hxb hB1 hX1
  obtain ⟨u, hu⟩ : ∃ u, u = (s.drop p).2 := ⟨_, rfl⟩
  obtain ⟨v, hv⟩ : ∃ v, v = (t.drop p).2 := ⟨_, rfl⟩
  have HU := hid hu; have HV := hid hv
  clear hu hv
  go_enter Try.func11, Try.ntmps11
  go_upto_region 19 with fail
  rw [← HW1.out, ← HXB.out]
  refine wp_region_K (S := Box xb ⟨6, p, sd, sh⟩) (fun _ => false) (by kernel_rfl) HX1.out (fun hHeld => ?_)
  obtain ⟨W0, hW0⟩ : ∃ W0, W0 = W1.drew := ⟨_, rfl⟩
  rw [← hW0] at hHeld ⊢
  have B0 : Hid (Both w0 W0 c m C R s t) := hid (by rw [hW0]; exact HB1.out.later ((Below.refl _ _).drew))
  have X0 := hid hHeld
  have K0 : Hid (KB W W0) := hid (by rw [hW0]; exact fun k x hk => HK1.out k x hk)
  have hR := hHeld
  clear hW0
  refine wpAnyK_pure (i := 0) (v := ?_) (op_at _ 0 _ rfl) (by kernel_rfl) (by kernel_rfl) (by kernel_rfl) (by kernel_rfl) (fun _ _ _ h => h) (Or.inl ⟨by rfl, ?_⟩) (Or.inl (by assumption)) ?_
  rotate_left 1
  focus (intro W hSw; go_simp; first | done | with_reducible rfl)
  (try simp only [Act.put, List.setIfInBounds_toArray, List.set_cons_zero, List.set_cons_succ])
  refine wpAnyK_pure (i := 1) (v := ?_) (op_at _ 1 _ rfl) (by kernel_rfl) (by kernel_rfl) (by kernel_rfl) (by kernel_rfl) (fun _ _ _ h => h) (Or.inl ⟨by rfl, ?_⟩) (Or.inl (by assumption)) ?_
  rotate_left 1
  focus (intro W hSw; go_simp; first | done | with_reducible rfl)
  (try simp only [Act.put, List.setIfInBounds_toArray, List.set_cons_zero, List.set_cons_succ])
  refine wpAnyK_take (i := 2) (v := ?_) (op_at _ 2 _ rfl) (by kernel_rfl) (by kernel_rfl) (by kernel_rfl) (by kernel_rfl) (fun _ _ _ h => h) (Or.inl ⟨by rfl, ?_⟩) (by assumption) ?_
  rotate_left 1
  focus (intro W hSw; obtain ⟨q0, q1, q2, q3⟩ := Box.cells hSw; go_simp; first | done | with_reducible rfl)
  (try simp only [Act.put, List.setIfInBounds_toArray, List.set_cons_zero, List.set_cons_succ])
  refine wpAnyK_pure (i := 4) (v := ?_) (op_at _ 4 _ rfl) (by kernel_rfl) (by kernel_rfl) (by kernel_rfl) (by kernel_rfl) (fun _ _ _ h => h) (Or.inl ⟨by rfl, ?_⟩) (Or.inl (by assumption)) ?_
  rotate_left 1
  focus (intro W hSw; go_simp; first | done | with_reducible rfl)
  (try simp only [Act.put, List.setIfInBounds_toArray, List.set_cons_zero, List.set_cons_succ])
  refine wpAnyK_pure (i := 5) (v := ?_) (op_at _ 5 _ rfl) (by kernel_rfl) (by kernel_rfl) (by kernel_rfl) (by kernel_rfl) (fun _ _ _ h => h) (Or.inl ⟨by rfl, ?_⟩) (Or.inl (by assumption)) ?_
  rotate_left 1
  focus (intro W hSw; go_simp; first | done | with_reducible rfl)
  (try simp only [Act.put, List.setIfInBounds_toArray, List.set_cons_zero, List.set_cons_succ])
  refine wpAnyK_take (i := 6) (v := ?_) (op_at _ 6 _ rfl) (by kernel_rfl) (by kernel_rfl) (by kernel_rfl) (by kernel_rfl) (fun _ _ _ h => h) (Or.inl ⟨by rfl, ?_⟩) (by assumption) ?_
  rotate_left 1
  focus (intro W hSw; obtain ⟨q0, q1, q2, q3⟩ := Box.cells hSw; go_simp; first | done | with_reducible rfl)
  (try simp only [Act.put, List.setIfInBounds_toArray, List.set_cons_zero, List.set_cons_succ])
  refine wpAnyK_ready (rs := [3]) (by kernel_rfl) (by simp) ?_
  refine AllReadyK.cons (op_at _ 3 _ rfl) (fun K hK => ?_) AllReadyK.nil
  go_simp
  go_at_call 28; refine (drop_call c C s p W0 B0.out.cp HWF.out).mono ?_; rintro e w3 ⟨rfl, C3, st⟩; rw [← HU.out]; have B3 := hid (B0.out.left st); have X3 := hid (X0.out.left B0.out st); have K3 := hid (show KB W w3 from fun k9 x9 hk9 => (K0.out k9 x9 hk9).left B0.out st); have hR := X3.out; clear st
  refine hK.out _ _ hR (fun hHeld => ?_)
  clear hK K
  (try simp only [Act.put, List.setIfInBounds_toArray, List.set_cons_zero, List.set_cons_succ])
  refine wpAnyK_ready (rs := [7]) (by kernel_rfl) (by simp) ?_
  refine AllReadyK.cons (op_at _ 7 _ rfl) (fun K hK => ?_) AllReadyK.nil
  go_simp
  go_at_call 38; refine (rdrop_call m R t p w3 B3.out.rp (by have := HRL.out; omega) HND.out).mono ?_; rintro e w4 ⟨rfl, R4, st⟩; rw [← HV.out]; have B4 := hid (B3.out.right st); have X4 := hid (X3.out.right B3.out st); have K4 := hid (show KB W w4 from fun k9 x9 hk9 => (K3.out k9 x9 hk9).right B3.out st); have hR := X4.out; clear st
  refine hK.out _ _ hR (fun hHeld => ?_)
  clear hK K
  (try simp only [Act.put, List.setIfInBounds_toArray, List.set_cons_zero, List.set_cons_succ])
  refine wpAnyK_pure (i := 8) (v := ?_) (op_at _ 8 _ rfl) (by kernel_rfl) (by kernel_rfl) (by kernel_rfl) (by kernel_rfl) (fun _ _ _ h => h) (Or.inl ⟨by rfl, ?_⟩) (Or.inl (by assumption)) ?_
  rotate_left 1
  focus (intro W hSw; go_simp; first | done | with_reducible rfl)
  (try simp only [Act.put, List.setIfInBounds_toArray, List.set_cons_zero, List.set_cons_succ])
  refine wpAnyK_pure (i := 9) (v := ?_) (op_at _ 9 _ rfl) (by kernel_rfl) (by kernel_rfl) (by kernel_rfl) (by kernel_rfl) (fun _ _ _ h => h) (Or.inl ⟨by rfl, ?_⟩) (Or.inl (by assumption)) ?_
  rotate_left 1
  focus (intro W hSw; go_simp; first | done | with_reducible rfl)
  (try simp only [Act.put, List.setIfInBounds_toArray, List.set_cons_zero, List.set_cons_succ])
  refine wpAnyK_done (by kernel_rfl) ?_ _
  go_wp2
  go_ret
  exact ⟨_, rfl, fun h => by subst h; rw [HU.out, ← HV.out]; simp, C3, R4, by simpa [CS.did] using B4.out, K4.out⟩

set_option maxHeartbeats 4000000 in
set_option maxRecDepth 20000 in
theorem act_mark (w0 W : World) (c m : Nat) (C : Parts) (R : RParts) (s t : CS) (p : Int) (sd : Nat) (sh : Bool) (h : Both w0 W c m C R s t) (hnd : (t.l.map Row.page).Nodup) (hs : OkS 999999 s) (ht : OkS 999999 t) (hx : AvOk ⟨5, p, sd, sh⟩) :
    Calls Try.prog 11 #[.pointer (some ⟨c, 0, none⟩), .pointer (some ⟨m, 0, none⟩), .agg #[.int .i64 5, .int .i64 p, .int .u8 (sd : Int), .bool sh]] W fun e w' => ∃ v, e = .returned (.bool v) ∧ (s = t → v = true) ∧ ∃ C' R', Both w0 w' c m C' R' (s.did ⟨5, p, sd, sh⟩) (t.did ⟨5, p, sd, sh⟩) ∧ KB W w' := by
  obtain ⟨W1, hW1⟩ : ∃ W1, W1 = W.alloc (.cells #[.int .i64 5, .int .i64 p, .int .u8 (sd : Int), .bool sh] 29) := ⟨_, rfl⟩
  obtain ⟨xb, hxb⟩ : ∃ xb, xb = W.heap.size := ⟨_, rfl⟩
  have hB1 : Both w0 W1 c m C R s t := by rw [hW1]; exact h.later ((Below.refl _ _).alloc (Nat.le_refl _) _)
  have hX1 : Box xb ⟨5, p, sd, sh⟩ W1 := by rw [hW1, hxb]; exact Box.new W ⟨5, p, sd, sh⟩
  have hwf : (Lit.int .i64 p).wf = true := wf64 hx.p.1 hx.p.2
  have HK1 := hid (show KB W W1 from fun k x hk => by rw [hW1]; exact hk.later ((Below.refl _ _).alloc (Nat.le_refl _) _))
  have HWF := hid hwf; have HND := hid hnd; have HS := hid hs; have HT := hid ht; have HXO := hid hx
  have HB1 := hid hB1; have HX1 := hid hX1; have HW1 := hid hW1; have HXB := hid hxb
  have HCL := hid (show C.ks.length < 1000000 by rw [h.cp.klen]; have := hs.len; omega)
  have HRL := hid (show R.ps.length < 1000000 by rw [← h.rp.len]; have := ht.len; omega)
  obtain ⟨x0, x1, x2, x3⟩ := hX1.cells
  simp only at x0 x1 x2 x3
  clear h hnd hs ht hx hwf hW1 hxb hB1 hX1
  obtain ⟨u, hu⟩ : ∃ u, u = (s.mark p (decide (sd % 2 = 0))).2 := ⟨_, rfl⟩
  obtain ⟨v, hv⟩ : ∃ v, v = (t.mark p (decide (sd % 2 = 0))).2 := ⟨_, rfl⟩
  have HU := hid hu; have HV := hid hv
  clear hu hv
  go_enter Try.func11, Try.ntmps11
  go_upto_region 17 with fail
  rw [← HW1.out, ← HXB.out]
  refine wp_region_K (S := Box xb ⟨5, p, sd, sh⟩) (fun _ => false) (by kernel_rfl) HX1.out (fun hHeld => ?_)
  obtain ⟨W0, hW0⟩ : ∃ W0, W0 = W1.drew := ⟨_, rfl⟩
  rw [← hW0] at hHeld ⊢
  have B0 : Hid (Both w0 W0 c m C R s t) := hid (by rw [hW0]; exact HB1.out.later ((Below.refl _ _).drew))
  have X0 := hid hHeld
  have K0 : Hid (KB W W0) := hid (by rw [hW0]; exact fun k x hk => HK1.out k x hk)
  have hR := hHeld
  clear hW0
  refine wpAnyK_pure (i := 0) (v := ?_) (op_at _ 0 _ rfl) (by kernel_rfl) (by kernel_rfl) (by kernel_rfl) (by kernel_rfl) (fun _ _ _ h => h) (Or.inl ⟨by rfl, ?_⟩) (Or.inl (by assumption)) ?_
  rotate_left 1
  focus (intro W hSw; go_simp; first | done | with_reducible rfl)
  (try simp only [Act.put, List.setIfInBounds_toArray, List.set_cons_zero, List.set_cons_succ])
  refine wpAnyK_pure (i := 1) (v := ?_) (op_at _ 1 _ rfl) (by kernel_rfl) (by kernel_rfl) (by kernel_rfl) (by kernel_rfl) (fun _ _ _ h => h) (Or.inl ⟨by rfl, ?_⟩) (Or.inl (by assumption)) ?_
  rotate_left 1
  focus (intro W hSw; go_simp; first | done | with_reducible rfl)
  (try simp only [Act.put, List.setIfInBounds_toArray, List.set_cons_zero, List.set_cons_succ])
  refine wpAnyK_take (i := 2) (v := ?_) (op_at _ 2 _ rfl) (by kernel_rfl) (by kernel_rfl) (by kernel_rfl) (by kernel_rfl) (fun _ _ _ h => h) (Or.inl ⟨by rfl, ?_⟩) (by assumption) ?_
  rotate_left 1
  focus (intro W hSw; obtain ⟨q0, q1, q2, q3⟩ := Box.cells hSw; go_simp; first | done | with_reducible rfl)
  (try simp only [Act.put, List.setIfInBounds_toArray, List.set_cons_zero, List.set_cons_succ])
  refine wpAnyK_pure (i := 3) (v := ?_) (op_at _ 3 _ rfl) (by kernel_rfl) (by kernel_rfl) (by kernel_rfl) (by kernel_rfl) (fun _ _ _ h => h) (Or.inl ⟨by rfl, ?_⟩) (Or.inl (by assumption)) ?_
  rotate_left 1
  focus (intro W hSw; go_simp; first | done | with_reducible rfl)
  (try simp only [Act.put, List.setIfInBounds_toArray, List.set_cons_zero, List.set_cons_succ])
  refine wpAnyK_take (i := 4) (v := ?_) (op_at _ 4 _ rfl) (by kernel_rfl) (by kernel_rfl) (by kernel_rfl) (by kernel_rfl) (fun _ _ _ h => h) (Or.inl ⟨by rfl, ?_⟩) (by assumption) ?_
  rotate_left 1
  focus (intro W hSw; obtain ⟨q0, q1, q2, q3⟩ := Box.cells hSw; go_simp; first | done | with_reducible rfl)
  (try simp only [Act.put, List.setIfInBounds_toArray, List.set_cons_zero, List.set_cons_succ])
  refine wpAnyK_pure (i := 5) (v := (.int .u8 ((sd % 2 : Nat) : Int))) (op_at _ 5 _ rfl) (by kernel_rfl) (by kernel_rfl) (by kernel_rfl) (by kernel_rfl) (fun _ _ _ h => h) (Or.inl ⟨by rfl, ?_⟩) (Or.inl (by assumption)) ?_
  focus (intro W hSw; go_simp; exact Int.tmod_eq_emod_of_nonneg (by omega))
  (try simp only [Act.put, List.setIfInBounds_toArray, List.set_cons_zero, List.set_cons_succ])
  refine wpAnyK_pure (i := 6) (v := (.bool (decide (sd % 2 = 0)))) (op_at _ 6 _ rfl) (by kernel_rfl) (by kernel_rfl) (by kernel_rfl) (by kernel_rfl) (fun _ _ _ h => h) (Or.inl ⟨by rfl, ?_⟩) (Or.inl (by assumption)) ?_
  focus (intro W hSw; go_simp; rw [Bool.eq_iff_iff]; simp; omega)
  (try simp only [Act.put, List.setIfInBounds_toArray, List.set_cons_zero, List.set_cons_succ])
  refine wpAnyK_pure (i := 8) (v := ?_) (op_at _ 8 _ rfl) (by kernel_rfl) (by kernel_rfl) (by kernel_rfl) (by kernel_rfl) (fun _ _ _ h => h) (Or.inl ⟨by rfl, ?_⟩) (Or.inl (by assumption)) ?_
  rotate_left 1
  focus (intro W hSw; go_simp; first | done | with_reducible rfl)
  (try simp only [Act.put, List.setIfInBounds_toArray, List.set_cons_zero, List.set_cons_succ])
  refine wpAnyK_pure (i := 9) (v := ?_) (op_at _ 9 _ rfl) (by kernel_rfl) (by kernel_rfl) (by kernel_rfl) (by kernel_rfl) (fun _ _ _ h => h) (Or.inl ⟨by rfl, ?_⟩) (Or.inl (by assumption)) ?_
  rotate_left 1
  focus (intro W hSw; go_simp; first | done | with_reducible rfl)
  (try simp only [Act.put, List.setIfInBounds_toArray, List.set_cons_zero, List.set_cons_succ])
  refine wpAnyK_take (i := 10) (v := ?_) (op_at _ 10 _ rfl) (by kernel_rfl) (by kernel_rfl) (by kernel_rfl) (by kernel_rfl) (fun _ _ _ h => h) (Or.inl ⟨by rfl, ?_⟩) (by assumption) ?_
  rotate_left 1
  focus (intro W hSw; obtain ⟨q0, q1, q2, q3⟩ := Box.cells hSw; go_simp; first | done | with_reducible rfl)
  (try simp only [Act.put, List.setIfInBounds_toArray, List.set_cons_zero, List.set_cons_succ])
  refine wpAnyK_pure (i := 11) (v := ?_) (op_at _ 11 _ rfl) (by kernel_rfl) (by kernel_rfl) (by kernel_rfl) (by kernel_rfl) (fun _ _ _ h => h) (Or.inl ⟨by rfl, ?_⟩) (Or.inl (by assumption)) ?_
  rotate_left 1
  focus (intro W hSw; go_simp; first | done | with_reducible rfl)
  (try simp only [Act.put, List.setIfInBounds_toArray, List.set_cons_zero, List.set_cons_succ])
  refine wpAnyK_take (i := 12) (v := ?_) (op_at _ 12 _ rfl) (by kernel_rfl) (by kernel_rfl) (by kernel_rfl) (by kernel_rfl) (fun _ _ _ h => h) (Or.inl ⟨by rfl, ?_⟩) (by assumption) ?_
  rotate_left 1
  focus (intro W hSw; obtain ⟨q0, q1, q2, q3⟩ := Box.cells hSw; go_simp; first | done | with_reducible rfl)
  (try simp only [Act.put, List.setIfInBounds_toArray, List.set_cons_zero, List.set_cons_succ])
  refine wpAnyK_pure (i := 13) (v := (.int .u8 ((sd % 2 : Nat) : Int))) (op_at _ 13 _ rfl) (by kernel_rfl) (by kernel_rfl) (by kernel_rfl) (by kernel_rfl) (fun _ _ _ h => h) (Or.inl ⟨by rfl, ?_⟩) (Or.inl (by assumption)) ?_
  focus (intro W hSw; go_simp; exact Int.tmod_eq_emod_of_nonneg (by omega))
  (try simp only [Act.put, List.setIfInBounds_toArray, List.set_cons_zero, List.set_cons_succ])
  refine wpAnyK_pure (i := 14) (v := (.bool (decide (sd % 2 = 0)))) (op_at _ 14 _ rfl) (by kernel_rfl) (by kernel_rfl) (by kernel_rfl) (by kernel_rfl) (fun _ _ _ h => h) (Or.inl ⟨by rfl, ?_⟩) (Or.inl (by assumption)) ?_
  focus (intro W hSw; go_simp; rw [Bool.eq_iff_iff]; simp; omega)
  (try simp only [Act.put, List.setIfInBounds_toArray, List.set_cons_zero, List.set_cons_succ])
  refine wpAnyK_ready (rs := [7]) (by kernel_rfl) (by simp) ?_
  refine AllReadyK.cons (op_at _ 7 _ rfl) (fun K hK => ?_) AllReadyK.nil
  go_simp
  go_at_call 27; refine (mark_call c C s p _ W0 B0.out.cp HWF.out).mono ?_; rintro e w3 ⟨rfl, C3, st⟩; rw [← HU.out]; have B3 := hid (B0.out.left st); have X3 := hid (X0.out.left B0.out st); have K3 := hid (show KB W w3 from fun k9 x9 hk9 => (K0.out k9 x9 hk9).left B0.out st); have hR := X3.out; clear st
  refine hK.out _ _ hR (fun hHeld => ?_)
  clear hK K
  (try simp only [Act.put, List.setIfInBounds_toArray, List.set_cons_zero, List.set_cons_succ])
  refine wpAnyK_ready (rs := [15]) (by kernel_rfl) (by simp) ?_
  refine AllReadyK.cons (op_at _ 15 _ rfl) (fun K hK => ?_) AllReadyK.nil
  go_simp
  go_at_call 37; refine (rmark_call m R t p _ w3 B3.out.rp (by have := HRL.out; omega) HND.out).mono ?_; rintro e w4 ⟨rfl, R4, st⟩; rw [← HV.out]; have B4 := hid (B3.out.right st); have X4 := hid (X3.out.right B3.out st); have K4 := hid (show KB W w4 from fun k9 x9 hk9 => (K3.out k9 x9 hk9).right B3.out st); have hR := X4.out; clear st
  refine hK.out _ _ hR (fun hHeld => ?_)
  clear hK K
  (try simp only [Act.put, List.setIfInBounds_toArray, List.set_cons_zero, List.set_cons_succ])
  refine wpAnyK_pure (i := 16) (v := ?_) (op_at _ 16 _ rfl) (by kernel_rfl) (by kernel_rfl) (by kernel_rfl) (by kernel_rfl) (fun _ _ _ h => h) (Or.inl ⟨by rfl, ?_⟩) (Or.inl (by assumption)) ?_
  rotate_left 1
  focus (intro W hSw; go_simp; first | done | with_reducible rfl)
  (try simp only [Act.put, List.setIfInBounds_toArray, List.set_cons_zero, List.set_cons_succ])
  refine wpAnyK_pure (i := 17) (v := ?_) (op_at _ 17 _ rfl) (by kernel_rfl) (by kernel_rfl) (by kernel_rfl) (by kernel_rfl) (fun _ _ _ h => h) (Or.inl ⟨by rfl, ?_⟩) (Or.inl (by assumption)) ?_
  rotate_left 1
  focus (intro W hSw; go_simp; first | done | with_reducible rfl)
  (try simp only [Act.put, List.setIfInBounds_toArray, List.set_cons_zero, List.set_cons_succ])
  refine wpAnyK_done (by kernel_rfl) ?_ _
  go_wp2
  go_ret
  exact ⟨_, rfl, fun h => by subst h; rw [HU.out, ← HV.out]; simp, C3, R4, by simpa [CS.did] using B4.out, K4.out⟩

set_option maxHeartbeats 4000000 in
set_option maxRecDepth 20000 in
theorem act_clear (w0 W : World) (c m : Nat) (C : Parts) (R : RParts) (s t : CS) (p : Int) (sd : Nat) (sh : Bool) (h : Both w0 W c m C R s t) (hnd : (t.l.map Row.page).Nodup) (hs : OkS 999999 s) (ht : OkS 999999 t) (hx : AvOk ⟨7, p, sd, sh⟩) :
    Calls Try.prog 11 #[.pointer (some ⟨c, 0, none⟩), .pointer (some ⟨m, 0, none⟩), .agg #[.int .i64 7, .int .i64 p, .int .u8 (sd : Int), .bool sh]] W fun e w' => ∃ v, e = .returned (.bool v) ∧ (s = t → v = true) ∧ ∃ C' R', Both w0 w' c m C' R' (s.did ⟨7, p, sd, sh⟩) (t.did ⟨7, p, sd, sh⟩) ∧ KB W w' := by
  obtain ⟨W1, hW1⟩ : ∃ W1, W1 = W.alloc (.cells #[.int .i64 7, .int .i64 p, .int .u8 (sd : Int), .bool sh] 29) := ⟨_, rfl⟩
  obtain ⟨xb, hxb⟩ : ∃ xb, xb = W.heap.size := ⟨_, rfl⟩
  have hB1 : Both w0 W1 c m C R s t := by rw [hW1]; exact h.later ((Below.refl _ _).alloc (Nat.le_refl _) _)
  have hX1 : Box xb ⟨7, p, sd, sh⟩ W1 := by rw [hW1, hxb]; exact Box.new W ⟨7, p, sd, sh⟩
  have hwf : (Lit.int .i64 p).wf = true := wf64 hx.p.1 hx.p.2
  have HK1 := hid (show KB W W1 from fun k x hk => by rw [hW1]; exact hk.later ((Below.refl _ _).alloc (Nat.le_refl _) _))
  have HWF := hid hwf; have HND := hid hnd; have HS := hid hs; have HT := hid ht; have HXO := hid hx
  have HB1 := hid hB1; have HX1 := hid hX1; have HW1 := hid hW1; have HXB := hid hxb
  have HCL := hid (show C.ks.length < 1000000 by rw [h.cp.klen]; have := hs.len; omega)
  have HRL := hid (show R.ps.length < 1000000 by rw [← h.rp.len]; have := ht.len; omega)
  obtain ⟨x0, x1, x2, x3⟩ := hX1.cells
  simp only at x0 x1 x2 x3
  clear h hnd hs ht hx hwf hW1 hxb hB1 hX1
  obtain ⟨u, hu⟩ : ∃ u, u = s.cleared := ⟨_, rfl⟩
  obtain ⟨v, hv⟩ : ∃ v, v = t.cleared := ⟨_, rfl⟩
  have HU := hid hu; have HV := hid hv
  clear hu hv
  go_enter Try.func11, Try.ntmps11
  go_wp2_with (first
    | (go_at_call 29; rw [← HW1.out]; refine (clear_call c C s W1 HB1.out.cp (by have := HCL.out; omega)).mono ?_; rintro e w3 ⟨rfl, C3, st⟩; rw [← HU.out]; have B3 := hid (HB1.out.left st); have K3 := hid (show KB W w3 from fun k9 x9 hk9 => (HK1.out k9 x9 hk9).left HB1.out st); clear st)
    | (go_at_call 39; refine (rclear_call m R t w3 B3.out.rp (by have := HRL.out; omega)).mono ?_; rintro e w4 ⟨rfl, R4, st⟩; rw [← HV.out]; have B4 := hid (B3.out.right st); have K4 := hid (show KB W w4 from fun k9 x9 hk9 => (K3.out k9 x9 hk9).right B3.out st); clear st))
  go_ret
  exact ⟨_, rfl, fun h => by subst h; rw [HU.out, ← HV.out]; simp, C3, R4, by simpa [CS.did] using B4.out, K4.out⟩

set_option maxHeartbeats 4000000 in
set_option maxRecDepth 20000 in
theorem act_get (w0 W : World) (c m : Nat) (C : Parts) (R : RParts) (s t : CS) (p : Int) (sd : Nat) (sh : Bool) (h : Both w0 W c m C R s t) (hnd : (t.l.map Row.page).Nodup) (hs : OkS 999999 s) (ht : OkS 999999 t) (hx : AvOk ⟨1, p, sd, sh⟩) :
    Calls Try.prog 11 #[.pointer (some ⟨c, 0, none⟩), .pointer (some ⟨m, 0, none⟩), .agg #[.int .i64 1, .int .i64 p, .int .u8 (sd : Int), .bool sh]] W fun e w' => ∃ v, e = .returned (.bool v) ∧ (s = t → v = true) ∧ ∃ C' R', Both w0 w' c m C' R' (s.did ⟨1, p, sd, sh⟩) (t.did ⟨1, p, sd, sh⟩) ∧ KB W w' := by
  obtain ⟨W1, hW1⟩ : ∃ W1, W1 = W.alloc (.cells #[.int .i64 1, .int .i64 p, .int .u8 (sd : Int), .bool sh] 29) := ⟨_, rfl⟩
  obtain ⟨xb, hxb⟩ : ∃ xb, xb = W.heap.size := ⟨_, rfl⟩
  have hB1 : Both w0 W1 c m C R s t := by rw [hW1]; exact h.later ((Below.refl _ _).alloc (Nat.le_refl _) _)
  have hX1 : Box xb ⟨1, p, sd, sh⟩ W1 := by rw [hW1, hxb]; exact Box.new W ⟨1, p, sd, sh⟩
  have hwf : (Lit.int .i64 p).wf = true := wf64 hx.p.1 hx.p.2
  have HK1 := hid (show KB W W1 from fun k x hk => by rw [hW1]; exact hk.later ((Below.refl _ _).alloc (Nat.le_refl _) _))
  have HWF := hid hwf; have HND := hid hnd; have HS := hid hs; have HT := hid ht; have HXO := hid hx
  have HB1 := hid hB1; have HX1 := hid hX1; have HW1 := hid hW1; have HXB := hid hxb
  have HCL := hid (show C.ks.length < 1000000 by rw [h.cp.klen]; have := hs.len; omega)
  have HRL := hid (show R.ps.length < 1000000 by rw [← h.rp.len]; have := ht.len; omega)
  obtain ⟨x0, x1, x2, x3⟩ := hX1.cells
  simp only at x0 x1 x2 x3
  clear h hnd hs ht hx hwf hW1 hxb hB1 hX1
  obtain ⟨o1, ho1⟩ : ∃ o, o = s.peek p := ⟨_, rfl⟩
  obtain ⟨o2, ho2⟩ : ∃ o, o = t.peek p := ⟨_, rfl⟩
  have HO : Hid (s = t → o1 = o2) := hid (fun h => by rw [ho1, ho2, h])
  have KC := hid (get_call c C s p W1 HB1.out.cp HWF.out (by have := HS.out.hit; omega) (by have := HS.out.miss; omega))
  have KR := hid (fun w C3 s3 (hb : Both w0 w c m C3 R s3 t) => rget_call m R t p w hb.rp HRL.out HND.out (by have := HT.out.hit; omega) (by have := HT.out.miss; omega))
  rw [← ho1] at KC; rw [← ho2] at KR
  obtain ⟨n1, hn1⟩ : ∃ n, n = blen o1 := ⟨_, rfl⟩
  obtain ⟨n2, hn2⟩ : ∃ n, n = blen o2 := ⟨_, rfl⟩
  obtain ⟨sx, hsx⟩ : ∃ x, x = str (o1.getD []) := ⟨_, rfl⟩
  obtain ⟨sy, hsy⟩ : ∃ x, x = str (o2.getD []) := ⟨_, rfl⟩
  obtain ⟨b1, hb1⟩ : ∃ x, x = o1.isSome := ⟨_, rfl⟩
  obtain ⟨b2, hb2⟩ : ∃ x, x = o2.isSome := ⟨_, rfl⟩
  have HE : Hid (s = t → sx = sy ∧ b1 = b2) := hid (fun h => by rw [hsx, hsy, hb1, hb2, HO.out h]; exact ⟨rfl, rfl⟩)
  have HN1 := hid hn1; have HN2 := hid hn2; have HSX := hid hsx; have HSY := hid hsy; have HB9 := hid hb1; have HB8 := hid hb2
  clear hn1 hn2 hsx hsy hb1 hb2 ho1 ho2 HO
  go_enter Try.func11, Try.ntmps11
  by_cases hxy : sx.toList = sy.toList
  · go_wp2_with (first
      | (go_at_call 23; rw [← HW1.out]; refine KC.out.mono ?_; rintro e w3 ⟨hby, C3, st⟩; obtain ⟨ao3, cap3, rfl, rd3, ge3⟩ := bytes_rd hby; rw [← HN1.out] at rd3 ⊢; rw [← HB9.out]; have B3 := hid (HB1.out.left st); have X3 := hid (HX1.out.left HB1.out st); have K3 := hid (show KB W w3 from fun k9 x9 hk9 => (HK1.out k9 x9 hk9).left HB1.out st); have RD3 := hid rd3; have GE3 := hid ge3; have y1 := X3.out.cells.2.1; simp only at y1; clear st hby rd3 ge3; rw [← HXB.out])
      | (go_at_call 33; refine (KR.out w3 _ _ B3.out).mono ?_; rintro e w4 ⟨hby, R4, st⟩; obtain ⟨ao4, cap4, rfl, rd4, ge4⟩ := bytes_rd hby; rw [← HN2.out] at rd4 ⊢; rw [← HB8.out]; have cx := cvt' (RD3.out.fr' st.fr (fun a ha hS => by have := GE3.out a ha; have := HB1.out.rp.lt (Or.inl hS); omega)); have cy := cvt' rd4; rw [← HSX.out] at cx; rw [← HSY.out] at cy; have B4 := hid (B3.out.right st); have K4 := hid (show KB W w4 from fun k9 x9 hk9 => (K3.out k9 x9 hk9).right B3.out st); clear st hby rd4 ge4))
    go_ret
    exact ⟨_, rfl, fun h => by rw [(HE.out h).2]; simp, _, _, by simpa [CS.did] using B4.out, K4.out⟩
  · go_wp2_with (first
      | (go_at_call 23; rw [← HW1.out]; refine KC.out.mono ?_; rintro e w3 ⟨hby, C3, st⟩; obtain ⟨ao3, cap3, rfl, rd3, ge3⟩ := bytes_rd hby; rw [← HN1.out] at rd3 ⊢; rw [← HB9.out]; have B3 := hid (HB1.out.left st); have X3 := hid (HX1.out.left HB1.out st); have K3 := hid (show KB W w3 from fun k9 x9 hk9 => (HK1.out k9 x9 hk9).left HB1.out st); have RD3 := hid rd3; have GE3 := hid ge3; have y1 := X3.out.cells.2.1; simp only at y1; clear st hby rd3 ge3; rw [← HXB.out])
      | (go_at_call 33; refine (KR.out w3 _ _ B3.out).mono ?_; rintro e w4 ⟨hby, R4, st⟩; obtain ⟨ao4, cap4, rfl, rd4, ge4⟩ := bytes_rd hby; rw [← HN2.out] at rd4 ⊢; rw [← HB8.out]; have cx := cvt' (RD3.out.fr' st.fr (fun a ha hS => by have := GE3.out a ha; have := HB1.out.rp.lt (Or.inl hS); omega)); have cy := cvt' rd4; rw [← HSX.out] at cx; rw [← HSY.out] at cy; have B4 := hid (B3.out.right st); have K4 := hid (show KB W w4 from fun k9 x9 hk9 => (K3.out k9 x9 hk9).right B3.out st); clear st hby rd4 ge4))
    go_ret
    exact ⟨_, rfl, fun h => absurd (by rw [(HE.out h).1]) hxy, _, _, by simpa [CS.did] using B4.out, K4.out⟩

set_option maxHeartbeats 4000000 in
set_option maxRecDepth 20000 in
theorem act_peek (w0 W : World) (c m : Nat) (C : Parts) (R : RParts) (s t : CS) (p : Int) (sd : Nat) (sh : Bool) (h : Both w0 W c m C R s t) (hnd : (t.l.map Row.page).Nodup) (hs : OkS 999999 s) (ht : OkS 999999 t) (hx : AvOk ⟨2, p, sd, sh⟩) :
    Calls Try.prog 11 #[.pointer (some ⟨c, 0, none⟩), .pointer (some ⟨m, 0, none⟩), .agg #[.int .i64 2, .int .i64 p, .int .u8 (sd : Int), .bool sh]] W fun e w' => ∃ v, e = .returned (.bool v) ∧ (s = t → v = true) ∧ ∃ C' R', Both w0 w' c m C' R' (s.did ⟨2, p, sd, sh⟩) (t.did ⟨2, p, sd, sh⟩) ∧ KB W w' := by
  obtain ⟨W1, hW1⟩ : ∃ W1, W1 = W.alloc (.cells #[.int .i64 2, .int .i64 p, .int .u8 (sd : Int), .bool sh] 29) := ⟨_, rfl⟩
  obtain ⟨xb, hxb⟩ : ∃ xb, xb = W.heap.size := ⟨_, rfl⟩
  have hB1 : Both w0 W1 c m C R s t := by rw [hW1]; exact h.later ((Below.refl _ _).alloc (Nat.le_refl _) _)
  have hX1 : Box xb ⟨2, p, sd, sh⟩ W1 := by rw [hW1, hxb]; exact Box.new W ⟨2, p, sd, sh⟩
  have hwf : (Lit.int .i64 p).wf = true := wf64 hx.p.1 hx.p.2
  have HK1 := hid (show KB W W1 from fun k x hk => by rw [hW1]; exact hk.later ((Below.refl _ _).alloc (Nat.le_refl _) _))
  have HWF := hid hwf; have HND := hid hnd; have HS := hid hs; have HT := hid ht; have HXO := hid hx
  have HB1 := hid hB1; have HX1 := hid hX1; have HW1 := hid hW1; have HXB := hid hxb
  have HCL := hid (show C.ks.length < 1000000 by rw [h.cp.klen]; have := hs.len; omega)
  have HRL := hid (show R.ps.length < 1000000 by rw [← h.rp.len]; have := ht.len; omega)
  obtain ⟨x0, x1, x2, x3⟩ := hX1.cells
  simp only at x0 x1 x2 x3
  clear h hnd hs ht hx hwf hW1 hxb hB1 hX1
  obtain ⟨o1, ho1⟩ : ∃ o, o = s.peek p := ⟨_, rfl⟩
  obtain ⟨o2, ho2⟩ : ∃ o, o = t.peek p := ⟨_, rfl⟩
  have HO : Hid (s = t → o1 = o2) := hid (fun h => by rw [ho1, ho2, h])
  have KC := hid (peek_call c C s p W1 HB1.out.cp HWF.out)
  have KR := hid (fun w C3 s3 (hb : Both w0 w c m C3 R s3 t) => rpeek_call m R t p w hb.rp (by have := HRL.out; omega))
  rw [← ho1] at KC; rw [← ho2] at KR
  obtain ⟨n1, hn1⟩ : ∃ n, n = blen o1 := ⟨_, rfl⟩
  obtain ⟨n2, hn2⟩ : ∃ n, n = blen o2 := ⟨_, rfl⟩
  obtain ⟨sx, hsx⟩ : ∃ x, x = str (o1.getD []) := ⟨_, rfl⟩
  obtain ⟨sy, hsy⟩ : ∃ x, x = str (o2.getD []) := ⟨_, rfl⟩
  obtain ⟨b1, hb1⟩ : ∃ x, x = o1.isSome := ⟨_, rfl⟩
  obtain ⟨b2, hb2⟩ : ∃ x, x = o2.isSome := ⟨_, rfl⟩
  have HE : Hid (s = t → sx = sy ∧ b1 = b2) := hid (fun h => by rw [hsx, hsy, hb1, hb2, HO.out h]; exact ⟨rfl, rfl⟩)
  have HN1 := hid hn1; have HN2 := hid hn2; have HSX := hid hsx; have HSY := hid hsy; have HB9 := hid hb1; have HB8 := hid hb2
  clear hn1 hn2 hsx hsy hb1 hb2 ho1 ho2 HO
  go_enter Try.func11, Try.ntmps11
  by_cases hxy : sx.toList = sy.toList
  · go_wp2_with (first
      | (go_at_call 18; rw [← HW1.out]; refine KC.out.mono ?_; rintro e w3 ⟨hby, hb3⟩; obtain ⟨ao3, cap3, rfl, rd3, ge3⟩ := bytes_rd hby; rw [← HN1.out] at rd3 ⊢; rw [← HB9.out]; have B3 := hid (HB1.out.later hb3); have X3 := hid (HX1.out.later hb3); have K3 := hid (show KB W w3 from fun k9 x9 hk9 => (HK1.out k9 x9 hk9).later hb3); have RD3 := hid rd3; have GE3 := hid ge3; have y1 := X3.out.cells.2.1; simp only at y1; clear hb3 hby rd3 ge3; rw [← HXB.out])
      | (go_at_call 34; refine (KR.out w3 _ _ B3.out).mono ?_; rintro e w4 ⟨hby, hb4⟩; obtain ⟨ao4, cap4, rfl, rd4, ge4⟩ := bytes_rd hby; rw [← HN2.out] at rd4 ⊢; rw [← HB8.out]; have cx := cvt' (RD3.out.keep hb4); have cy := cvt' rd4; rw [← HSX.out] at cx; rw [← HSY.out] at cy; have B4 := hid (B3.out.later hb4); have K4 := hid (show KB W w4 from fun k9 x9 hk9 => (K3.out k9 x9 hk9).later hb4); clear hb4 hby rd4 ge4))
    go_ret
    exact ⟨_, rfl, fun h => by rw [(HE.out h).2]; simp, _, _, by simpa [CS.did] using B4.out, K4.out⟩
  · go_wp2_with (first
      | (go_at_call 18; rw [← HW1.out]; refine KC.out.mono ?_; rintro e w3 ⟨hby, hb3⟩; obtain ⟨ao3, cap3, rfl, rd3, ge3⟩ := bytes_rd hby; rw [← HN1.out] at rd3 ⊢; rw [← HB9.out]; have B3 := hid (HB1.out.later hb3); have X3 := hid (HX1.out.later hb3); have K3 := hid (show KB W w3 from fun k9 x9 hk9 => (HK1.out k9 x9 hk9).later hb3); have RD3 := hid rd3; have GE3 := hid ge3; have y1 := X3.out.cells.2.1; simp only at y1; clear hb3 hby rd3 ge3; rw [← HXB.out])
      | (go_at_call 34; refine (KR.out w3 _ _ B3.out).mono ?_; rintro e w4 ⟨hby, hb4⟩; obtain ⟨ao4, cap4, rfl, rd4, ge4⟩ := bytes_rd hby; rw [← HN2.out] at rd4 ⊢; rw [← HB8.out]; have cx := cvt' (RD3.out.keep hb4); have cy := cvt' rd4; rw [← HSX.out] at cx; rw [← HSY.out] at cy; have B4 := hid (B3.out.later hb4); have K4 := hid (show KB W w4 from fun k9 x9 hk9 => (K3.out k9 x9 hk9).later hb4); clear hb4 hby rd4 ge4))
    go_ret
    exact ⟨_, rfl, fun h => absurd (by rw [(HE.out h).1]) hxy, _, _, by simpa [CS.did] using B4.out, K4.out⟩

set_option maxHeartbeats 4000000 in
set_option maxRecDepth 20000 in
theorem act_else (w0 W : World) (c m : Nat) (C : Parts) (R : RParts) (s t : CS) (k p : Int) (sd : Nat) (sh : Bool) (h : Both w0 W c m C R s t) (hnd : (t.l.map Row.page).Nodup) (hs : OkS 999999 s) (ht : OkS 999999 t) (hx : AvOk ⟨k, p, sd, sh⟩) (hk : ∀ i : Int, 0 ≤ i → i ≤ 7 → k ≠ i) :
    Calls Try.prog 11 #[.pointer (some ⟨c, 0, none⟩), .pointer (some ⟨m, 0, none⟩), .agg #[.int .i64 k, .int .i64 p, .int .u8 (sd : Int), .bool sh]] W fun e w' => ∃ v, e = .returned (.bool v) ∧ (s = t → v = true) ∧ ∃ C' R', Both w0 w' c m C' R' (s.did ⟨k, p, sd, sh⟩) (t.did ⟨k, p, sd, sh⟩) ∧ KB W w' := by
  obtain ⟨W1, hW1⟩ : ∃ W1, W1 = W.alloc (.cells #[.int .i64 k, .int .i64 p, .int .u8 (sd : Int), .bool sh] 29) := ⟨_, rfl⟩
  obtain ⟨xb, hxb⟩ : ∃ xb, xb = W.heap.size := ⟨_, rfl⟩
  have hB1 : Both w0 W1 c m C R s t := by rw [hW1]; exact h.later ((Below.refl _ _).alloc (Nat.le_refl _) _)
  have hX1 : Box xb ⟨k, p, sd, sh⟩ W1 := by rw [hW1, hxb]; exact Box.new W ⟨k, p, sd, sh⟩
  have hwf : (Lit.int .i64 p).wf = true := wf64 hx.p.1 hx.p.2
  have HK1 := hid (show KB W W1 from fun k x hk => by rw [hW1]; exact hk.later ((Below.refl _ _).alloc (Nat.le_refl _) _))
  have HWF := hid hwf; have HND := hid hnd; have HS := hid hs; have HT := hid ht; have HXO := hid hx
  have HB1 := hid hB1; have HX1 := hid hX1; have HW1 := hid hW1; have HXB := hid hxb
  have HCL := hid (show C.ks.length < 1000000 by rw [h.cp.klen]; have := hs.len; omega)
  have HRL := hid (show R.ps.length < 1000000 by rw [← h.rp.len]; have := ht.len; omega)
  obtain ⟨x0, x1, x2, x3⟩ := hX1.cells
  simp only at x0 x1 x2 x3
  clear h hnd hs ht hx hwf hW1 hxb hB1 hX1
  have z0 : (k == 0) = false := by simpa using hk 0 (by omega) (by omega)
  have z1 : (k == 1) = false := by simpa using hk 1 (by omega) (by omega)
  have z2 : (k == 2) = false := by simpa using hk 2 (by omega) (by omega)
  have z3 : (k == 3) = false := by simpa using hk 3 (by omega) (by omega)
  have z4 : (k == 4) = false := by simpa using hk 4 (by omega) (by omega)
  have z5 : (k == 5) = false := by simpa using hk 5 (by omega) (by omega)
  have z6 : (k == 6) = false := by simpa using hk 6 (by omega) (by omega)
  have z7 : (k == 7) = false := by simpa using hk 7 (by omega) (by omega)
  have HD : Hid (∀ s : CS, s.did ⟨k, p, sd, sh⟩ = s) := hid (fun s => by
    simp only [CS.did]
    rw [if_neg (hk 0 (by omega) (by omega)), if_neg (hk 1 (by omega) (by omega)), if_neg (hk 3 (by omega) (by omega)), if_neg (hk 4 (by omega) (by omega)), if_neg (hk 5 (by omega) (by omega)), if_neg (hk 6 (by omega) (by omega)), if_neg (hk 7 (by omega) (by omega))])
  clear hk
  go_enter Try.func11, Try.ntmps11
  go_wp2
  go_ret
  rw [← HW1.out]
  exact ⟨_, rfl, fun _ => rfl, C, R, by rw [HD.out, HD.out]; exact HB1.out, HK1.out⟩

set_option maxHeartbeats 4000000 in
set_option maxRecDepth 20000 in
theorem act_short (w0 W : World) (c m : Nat) (C : Parts) (R : RParts) (s t : CS) (p : Int) (sd : Nat) (h : Both w0 W c m C R s t) (hnd : (t.l.map Row.page).Nodup) (hs : OkS 999999 s) (ht : OkS 999999 t) (hx : AvOk ⟨0, p, sd, true⟩) :
    Calls Try.prog 11 #[.pointer (some ⟨c, 0, none⟩), .pointer (some ⟨m, 0, none⟩), .agg #[.int .i64 0, .int .i64 p, .int .u8 (sd : Int), .bool true]] W fun e w' => ∃ v, e = .returned (.bool v) ∧ (s = t → v = true) ∧ ∃ C' R', Both w0 w' c m C' R' (s.did ⟨0, p, sd, true⟩) (t.did ⟨0, p, sd, true⟩) ∧ KB W w' := by
  obtain ⟨W1, hW1⟩ : ∃ W1, W1 = W.alloc (.cells #[.int .i64 0, .int .i64 p, .int .u8 (sd : Int), .bool true] 29) := ⟨_, rfl⟩
  obtain ⟨xb, hxb⟩ : ∃ xb, xb = W.heap.size := ⟨_, rfl⟩
  have hB1 : Both w0 W1 c m C R s t := by rw [hW1]; exact h.later ((Below.refl _ _).alloc (Nat.le_refl _) _)
  have hX1 : Box xb ⟨0, p, sd, true⟩ W1 := by rw [hW1, hxb]; exact Box.new W ⟨0, p, sd, true⟩
  have hwf : (Lit.int .i64 p).wf = true := wf64 hx.p.1 hx.p.2
  have HK1 := hid (show KB W W1 from fun k x hk => by rw [hW1]; exact hk.later ((Below.refl _ _).alloc (Nat.le_refl _) _))
  have HWF := hid hwf; have HND := hid hnd; have HS := hid hs; have HT := hid ht; have HXO := hid hx
  have HB1 := hid hB1; have HX1 := hid hX1; have HW1 := hid hW1; have HXB := hid hxb
  have HCL := hid (show C.ks.length < 1000000 by rw [h.cp.klen]; have := hs.len; omega)
  have HRL := hid (show R.ps.length < 1000000 by rw [← h.rp.len]; have := ht.len; omega)
  obtain ⟨x0, x1, x2, x3⟩ := hX1.cells
  simp only at x0 x1 x2 x3
  clear h hnd hs ht hx hwf hW1 hxb hB1 hX1
  have HD : Hid (∀ s : CS, s.did ⟨0, p, sd, true⟩ = s) := hid (fun s => by simp [CS.did, ])
  skip
  go_enter Try.func11, Try.ntmps11
  go_upto_region 3 with fail
  rw [← HW1.out, ← HXB.out]
  refine wp_region_K (S := Box xb ⟨0, p, sd, true⟩) (fun _ => false) (by kernel_rfl) HX1.out (fun hHeld => ?_)
  obtain ⟨W0, hW0⟩ : ∃ W0, W0 = W1.drew := ⟨_, rfl⟩
  rw [← hW0] at hHeld ⊢
  have B0 : Hid (Both w0 W0 c m C R s t) := hid (by rw [hW0]; exact HB1.out.later ((Below.refl _ _).drew))
  have X0 := hid hHeld
  have K0 : Hid (KB W W0) := hid (by rw [hW0]; exact fun k x hk => HK1.out k x hk)
  have hR := hHeld
  clear hW0
  refine wpAnyK_pure (i := 0) (v := ?_) (op_at _ 0 _ rfl) (by kernel_rfl) (by kernel_rfl) (by kernel_rfl) (by kernel_rfl) (fun _ _ _ h => h) (Or.inl ⟨by rfl, ?_⟩) (Or.inl (by assumption)) ?_
  rotate_left 1
  focus (intro W hSw; go_simp; first | done | with_reducible rfl)
  (try simp only [Act.put, List.setIfInBounds_toArray, List.set_cons_zero, List.set_cons_succ])
  refine wpAnyK_pure (i := 1) (v := ?_) (op_at _ 1 _ rfl) (by kernel_rfl) (by kernel_rfl) (by kernel_rfl) (by kernel_rfl) (fun _ _ _ h => h) (Or.inl ⟨by rfl, ?_⟩) (Or.inl (by assumption)) ?_
  rotate_left 1
  focus (intro W hSw; go_simp; first | done | with_reducible rfl)
  (try simp only [Act.put, List.setIfInBounds_toArray, List.set_cons_zero, List.set_cons_succ])
  refine wpAnyK_take (i := 2) (v := ?_) (op_at _ 2 _ rfl) (by kernel_rfl) (by kernel_rfl) (by kernel_rfl) (by kernel_rfl) (fun _ _ _ h => h) (Or.inl ⟨by rfl, ?_⟩) (by assumption) ?_
  rotate_left 1
  focus (intro W hSw; obtain ⟨q0, q1, q2, q3⟩ := Box.cells hSw; go_simp; first | done | with_reducible rfl)
  (try simp only [Act.put, List.setIfInBounds_toArray, List.set_cons_zero, List.set_cons_succ])
  refine wpAnyK_take (i := 3) (v := ?_) (op_at _ 3 _ rfl) (by kernel_rfl) (by kernel_rfl) (by kernel_rfl) (by kernel_rfl) (fun _ _ _ h => h) (Or.inl ⟨by rfl, ?_⟩) (by assumption) ?_
  rotate_left 1
  focus (intro W hSw; obtain ⟨q0, q1, q2, q3⟩ := Box.cells hSw; go_simp; first | done | with_reducible rfl)
  (try simp only [Act.put, List.setIfInBounds_toArray, List.set_cons_zero, List.set_cons_succ])
  refine wpAnyK_pure (i := 6) (v := ?_) (op_at _ 6 _ rfl) (by kernel_rfl) (by kernel_rfl) (by kernel_rfl) (by kernel_rfl) (fun _ _ _ h => h) (Or.inl ⟨by rfl, ?_⟩) (Or.inl (by assumption)) ?_
  rotate_left 1
  focus (intro W hSw; go_simp; first | done | with_reducible rfl)
  (try simp only [Act.put, List.setIfInBounds_toArray, List.set_cons_zero, List.set_cons_succ])
  refine wpAnyK_pure (i := 7) (v := ?_) (op_at _ 7 _ rfl) (by kernel_rfl) (by kernel_rfl) (by kernel_rfl) (by kernel_rfl) (fun _ _ _ h => h) (Or.inl ⟨by rfl, ?_⟩) (Or.inl (by assumption)) ?_
  rotate_left 1
  focus (intro W hSw; go_simp; first | done | with_reducible rfl)
  (try simp only [Act.put, List.setIfInBounds_toArray, List.set_cons_zero, List.set_cons_succ])
  refine wpAnyK_take (i := 8) (v := ?_) (op_at _ 8 _ rfl) (by kernel_rfl) (by kernel_rfl) (by kernel_rfl) (by kernel_rfl) (fun _ _ _ h => h) (Or.inl ⟨by rfl, ?_⟩) (by assumption) ?_
  rotate_left 1
  focus (intro W hSw; obtain ⟨q0, q1, q2, q3⟩ := Box.cells hSw; go_simp; first | done | with_reducible rfl)
  (try simp only [Act.put, List.setIfInBounds_toArray, List.set_cons_zero, List.set_cons_succ])
  refine wpAnyK_take (i := 9) (v := ?_) (op_at _ 9 _ rfl) (by kernel_rfl) (by kernel_rfl) (by kernel_rfl) (by kernel_rfl) (fun _ _ _ h => h) (Or.inl ⟨by rfl, ?_⟩) (by assumption) ?_
  rotate_left 1
  focus (intro W hSw; obtain ⟨q0, q1, q2, q3⟩ := Box.cells hSw; go_simp; first | done | with_reducible rfl)
  (try simp only [Act.put, List.setIfInBounds_toArray, List.set_cons_zero, List.set_cons_succ])
  refine wpAnyK_ready (rs := [4]) (by kernel_rfl) (by simp) ?_
  refine AllReadyK.cons (op_at _ 4 _ rfl) (fun K hK => ?_) AllReadyK.nil
  go_simp
  go_at_call 17; refine (bytes_no _ _ _ _).mono ?_; rintro e w2 ⟨g2, rfl, hbl⟩; have B2 := hid (B0.out.later hbl); have X2 := hid (X0.out.later hbl); have K2 := hid (show KB W w2 from fun k9 x9 hk9 => (K0.out k9 x9 hk9).later hbl); have hR := X2.out; clear hbl
  refine hK.out _ _ hR (fun hHeld => ?_)
  clear hK K
  (try simp only [Act.put, List.setIfInBounds_toArray, List.set_cons_zero, List.set_cons_succ])
  refine wpAnyK_ready (rs := [5]) (by kernel_rfl) (by simp) ?_
  refine AllReadyK.cons (op_at _ 5 _ rfl) (fun K hK => ?_) AllReadyK.nil
  go_simp
  go_at_call 16; refine (put_wrong c 1 1 _ C s p w2 B2.out.cp (Or.inr (by omega))).mono ?_; rintro e w3 ⟨rfl, hw3⟩; obtain rfl := hw3.symm; have B3 := B2; have X3 := X2; have K3 := K2; have hR := X3.out
  refine hK.out _ _ hR (fun hHeld => ?_)
  clear hK K
  (try simp only [Act.put, List.setIfInBounds_toArray, List.set_cons_zero, List.set_cons_succ])
  refine wpAnyK_ready (rs := [10]) (by kernel_rfl) (by simp) ?_
  refine AllReadyK.cons (op_at _ 10 _ rfl) (fun K hK => ?_) AllReadyK.nil
  go_simp
  go_at_call 17; refine (bytes_no _ _ _ _).mono ?_; rintro e w4 ⟨g4, rfl, hbl⟩; have B4 := hid (B3.out.later hbl); have X4 := hid (X3.out.later hbl); have K4 := hid (show KB W w4 from fun k9 x9 hk9 => (K3.out k9 x9 hk9).later hbl); have hR := X4.out; clear hbl
  refine hK.out _ _ hR (fun hHeld => ?_)
  clear hK K
  (try simp only [Act.put, List.setIfInBounds_toArray, List.set_cons_zero, List.set_cons_succ])
  refine wpAnyK_ready (rs := [11]) (by kernel_rfl) (by simp) ?_
  refine AllReadyK.cons (op_at _ 11 _ rfl) (fun K hK => ?_) AllReadyK.nil
  go_simp
  go_at_call 32; refine (rput_wrong m 1 1 _ p w4 (Or.inr (by omega))).mono ?_; rintro e w5 ⟨rfl, hw5⟩; obtain rfl := hw5.symm; have B5 := B4; have X5 := X4; have K5 := K4; have hR := X5.out
  refine hK.out _ _ hR (fun hHeld => ?_)
  clear hK K
  (try simp only [Act.put, List.setIfInBounds_toArray, List.set_cons_zero, List.set_cons_succ])
  refine wpAnyK_pure (i := 12) (v := ?_) (op_at _ 12 _ rfl) (by kernel_rfl) (by kernel_rfl) (by kernel_rfl) (by kernel_rfl) (fun _ _ _ h => h) (Or.inl ⟨by rfl, ?_⟩) (Or.inl (by assumption)) ?_
  rotate_left 1
  focus (intro W hSw; go_simp; first | done | with_reducible rfl)
  (try simp only [Act.put, List.setIfInBounds_toArray, List.set_cons_zero, List.set_cons_succ])
  refine wpAnyK_pure (i := 13) (v := ?_) (op_at _ 13 _ rfl) (by kernel_rfl) (by kernel_rfl) (by kernel_rfl) (by kernel_rfl) (fun _ _ _ h => h) (Or.inl ⟨by rfl, ?_⟩) (Or.inl (by assumption)) ?_
  rotate_left 1
  focus (intro W hSw; go_simp; first | done | with_reducible rfl)
  (try simp only [Act.put, List.setIfInBounds_toArray, List.set_cons_zero, List.set_cons_succ])
  refine wpAnyK_done (by kernel_rfl) ?_ _
  go_wp2
  go_ret
  first | exact ⟨_, rfl, fun _ => rfl, _, _, by rw [HD.out, HD.out]; exact B5.out, K5.out⟩ | exact Or.inr ⟨rfl, ⟨_, _, by rw [HD.out, HD.out]; exact B5.out⟩, K5.out⟩

set_option maxHeartbeats 4000000 in
set_option maxRecDepth 20000 in
theorem act_low (w0 W : World) (c m : Nat) (C : Parts) (R : RParts) (s t : CS) (p : Int) (sd : Nat) (h : Both w0 W c m C R s t) (hnd : (t.l.map Row.page).Nodup) (hs : OkS 999999 s) (ht : OkS 999999 t) (hx : AvOk ⟨0, p, sd, false⟩) (hp : p < 1) :
    Calls Try.prog 11 #[.pointer (some ⟨c, 0, none⟩), .pointer (some ⟨m, 0, none⟩), .agg #[.int .i64 0, .int .i64 p, .int .u8 (sd : Int), .bool false]] W fun e w' => ∃ v, e = .returned (.bool v) ∧ (s = t → v = true) ∧ ∃ C' R', Both w0 w' c m C' R' (s.did ⟨0, p, sd, false⟩) (t.did ⟨0, p, sd, false⟩) ∧ KB W w' := by
  obtain ⟨W1, hW1⟩ : ∃ W1, W1 = W.alloc (.cells #[.int .i64 0, .int .i64 p, .int .u8 (sd : Int), .bool false] 29) := ⟨_, rfl⟩
  obtain ⟨xb, hxb⟩ : ∃ xb, xb = W.heap.size := ⟨_, rfl⟩
  have hB1 : Both w0 W1 c m C R s t := by rw [hW1]; exact h.later ((Below.refl _ _).alloc (Nat.le_refl _) _)
  have hX1 : Box xb ⟨0, p, sd, false⟩ W1 := by rw [hW1, hxb]; exact Box.new W ⟨0, p, sd, false⟩
  have hwf : (Lit.int .i64 p).wf = true := wf64 hx.p.1 hx.p.2
  have HK1 := hid (show KB W W1 from fun k x hk => by rw [hW1]; exact hk.later ((Below.refl _ _).alloc (Nat.le_refl _) _))
  have HWF := hid hwf; have HND := hid hnd; have HS := hid hs; have HT := hid ht; have HXO := hid hx
  have HB1 := hid hB1; have HX1 := hid hX1; have HW1 := hid hW1; have HXB := hid hxb
  have HCL := hid (show C.ks.length < 1000000 by rw [h.cp.klen]; have := hs.len; omega)
  have HRL := hid (show R.ps.length < 1000000 by rw [← h.rp.len]; have := ht.len; omega)
  obtain ⟨x0, x1, x2, x3⟩ := hX1.cells
  simp only at x0 x1 x2 x3
  clear h hnd hs ht hx hwf hW1 hxb hB1 hX1
  have HD : Hid (∀ s : CS, s.did ⟨0, p, sd, false⟩ = s) := hid (fun s => by simp [CS.did, hp])
  have HP := hid hp; clear hp
  go_enter Try.func11, Try.ntmps11
  go_upto_region 3 with fail
  rw [← HW1.out, ← HXB.out]
  refine wp_region_K (S := Box xb ⟨0, p, sd, false⟩) (fun _ => false) (by kernel_rfl) HX1.out (fun hHeld => ?_)
  obtain ⟨W0, hW0⟩ : ∃ W0, W0 = W1.drew := ⟨_, rfl⟩
  rw [← hW0] at hHeld ⊢
  have B0 : Hid (Both w0 W0 c m C R s t) := hid (by rw [hW0]; exact HB1.out.later ((Below.refl _ _).drew))
  have X0 := hid hHeld
  have K0 : Hid (KB W W0) := hid (by rw [hW0]; exact fun k x hk => HK1.out k x hk)
  have hR := hHeld
  clear hW0
  refine wpAnyK_pure (i := 0) (v := ?_) (op_at _ 0 _ rfl) (by kernel_rfl) (by kernel_rfl) (by kernel_rfl) (by kernel_rfl) (fun _ _ _ h => h) (Or.inl ⟨by rfl, ?_⟩) (Or.inl (by assumption)) ?_
  rotate_left 1
  focus (intro W hSw; go_simp; first | done | with_reducible rfl)
  (try simp only [Act.put, List.setIfInBounds_toArray, List.set_cons_zero, List.set_cons_succ])
  refine wpAnyK_pure (i := 1) (v := ?_) (op_at _ 1 _ rfl) (by kernel_rfl) (by kernel_rfl) (by kernel_rfl) (by kernel_rfl) (fun _ _ _ h => h) (Or.inl ⟨by rfl, ?_⟩) (Or.inl (by assumption)) ?_
  rotate_left 1
  focus (intro W hSw; go_simp; first | done | with_reducible rfl)
  (try simp only [Act.put, List.setIfInBounds_toArray, List.set_cons_zero, List.set_cons_succ])
  refine wpAnyK_take (i := 2) (v := ?_) (op_at _ 2 _ rfl) (by kernel_rfl) (by kernel_rfl) (by kernel_rfl) (by kernel_rfl) (fun _ _ _ h => h) (Or.inl ⟨by rfl, ?_⟩) (by assumption) ?_
  rotate_left 1
  focus (intro W hSw; obtain ⟨q0, q1, q2, q3⟩ := Box.cells hSw; go_simp; first | done | with_reducible rfl)
  (try simp only [Act.put, List.setIfInBounds_toArray, List.set_cons_zero, List.set_cons_succ])
  refine wpAnyK_take (i := 3) (v := ?_) (op_at _ 3 _ rfl) (by kernel_rfl) (by kernel_rfl) (by kernel_rfl) (by kernel_rfl) (fun _ _ _ h => h) (Or.inl ⟨by rfl, ?_⟩) (by assumption) ?_
  rotate_left 1
  focus (intro W hSw; obtain ⟨q0, q1, q2, q3⟩ := Box.cells hSw; go_simp; first | done | with_reducible rfl)
  (try simp only [Act.put, List.setIfInBounds_toArray, List.set_cons_zero, List.set_cons_succ])
  refine wpAnyK_pure (i := 6) (v := ?_) (op_at _ 6 _ rfl) (by kernel_rfl) (by kernel_rfl) (by kernel_rfl) (by kernel_rfl) (fun _ _ _ h => h) (Or.inl ⟨by rfl, ?_⟩) (Or.inl (by assumption)) ?_
  rotate_left 1
  focus (intro W hSw; go_simp; first | done | with_reducible rfl)
  (try simp only [Act.put, List.setIfInBounds_toArray, List.set_cons_zero, List.set_cons_succ])
  refine wpAnyK_pure (i := 7) (v := ?_) (op_at _ 7 _ rfl) (by kernel_rfl) (by kernel_rfl) (by kernel_rfl) (by kernel_rfl) (fun _ _ _ h => h) (Or.inl ⟨by rfl, ?_⟩) (Or.inl (by assumption)) ?_
  rotate_left 1
  focus (intro W hSw; go_simp; first | done | with_reducible rfl)
  (try simp only [Act.put, List.setIfInBounds_toArray, List.set_cons_zero, List.set_cons_succ])
  refine wpAnyK_take (i := 8) (v := ?_) (op_at _ 8 _ rfl) (by kernel_rfl) (by kernel_rfl) (by kernel_rfl) (by kernel_rfl) (fun _ _ _ h => h) (Or.inl ⟨by rfl, ?_⟩) (by assumption) ?_
  rotate_left 1
  focus (intro W hSw; obtain ⟨q0, q1, q2, q3⟩ := Box.cells hSw; go_simp; first | done | with_reducible rfl)
  (try simp only [Act.put, List.setIfInBounds_toArray, List.set_cons_zero, List.set_cons_succ])
  refine wpAnyK_take (i := 9) (v := ?_) (op_at _ 9 _ rfl) (by kernel_rfl) (by kernel_rfl) (by kernel_rfl) (by kernel_rfl) (fun _ _ _ h => h) (Or.inl ⟨by rfl, ?_⟩) (by assumption) ?_
  rotate_left 1
  focus (intro W hSw; obtain ⟨q0, q1, q2, q3⟩ := Box.cells hSw; go_simp; first | done | with_reducible rfl)
  (try simp only [Act.put, List.setIfInBounds_toArray, List.set_cons_zero, List.set_cons_succ])
  refine wpAnyK_ready (rs := [4]) (by kernel_rfl) (by simp) ?_
  refine AllReadyK.cons (op_at _ 4 _ rfl) (fun K hK => ?_) AllReadyK.nil
  go_simp
  go_at_call 17; refine (bytes_yes _ _ _ _).mono ?_; rintro e w2 ⟨g2, hGE2, rfl, hRD2, hbl⟩; have B2 := hid (B0.out.later hbl); have X2 := hid (X0.out.later hbl); have K2 := hid (show KB W w2 from fun k9 x9 hk9 => (K0.out k9 x9 hk9).later hbl); have hR := X2.out; have RD2 := hid hRD2; have GE2 := hid hGE2; clear hRD2 hGE2; clear hbl
  refine hK.out _ _ hR (fun hHeld => ?_)
  clear hK K
  (try simp only [Act.put, List.setIfInBounds_toArray, List.set_cons_zero, List.set_cons_succ])
  refine wpAnyK_ready (rs := [5]) (by kernel_rfl) (by simp) ?_
  refine AllReadyK.cons (op_at _ 5 _ rfl) (fun K hK => ?_) AllReadyK.nil
  go_simp
  go_at_call 16; refine (put_wrong c 512 512 _ C s p w2 B2.out.cp (Or.inl HP.out)).mono ?_; rintro e w3 ⟨rfl, hw3⟩; obtain rfl := hw3.symm; have B3 := B2; have X3 := X2; have K3 := K2; have hR := X3.out
  refine hK.out _ _ hR (fun hHeld => ?_)
  clear hK K
  (try simp only [Act.put, List.setIfInBounds_toArray, List.set_cons_zero, List.set_cons_succ])
  refine wpAnyK_ready (rs := [10]) (by kernel_rfl) (by simp) ?_
  refine AllReadyK.cons (op_at _ 10 _ rfl) (fun K hK => ?_) AllReadyK.nil
  go_simp
  go_at_call 17; refine (bytes_yes _ _ _ _).mono ?_; rintro e w4 ⟨g4, hGE4, rfl, hRD4, hbl⟩; have B4 := hid (B3.out.later hbl); have X4 := hid (X3.out.later hbl); have K4 := hid (show KB W w4 from fun k9 x9 hk9 => (K3.out k9 x9 hk9).later hbl); have hR := X4.out; have RD4 := hid hRD4; have GE4 := hid hGE4; clear hRD4 hGE4; clear hbl
  refine hK.out _ _ hR (fun hHeld => ?_)
  clear hK K
  (try simp only [Act.put, List.setIfInBounds_toArray, List.set_cons_zero, List.set_cons_succ])
  refine wpAnyK_ready (rs := [11]) (by kernel_rfl) (by simp) ?_
  refine AllReadyK.cons (op_at _ 11 _ rfl) (fun K hK => ?_) AllReadyK.nil
  go_simp
  go_at_call 32; refine (rput_wrong m 512 512 _ p w4 (Or.inl HP.out)).mono ?_; rintro e w5 ⟨rfl, hw5⟩; obtain rfl := hw5.symm; have B5 := B4; have X5 := X4; have K5 := K4; have hR := X5.out
  refine hK.out _ _ hR (fun hHeld => ?_)
  clear hK K
  (try simp only [Act.put, List.setIfInBounds_toArray, List.set_cons_zero, List.set_cons_succ])
  refine wpAnyK_pure (i := 12) (v := ?_) (op_at _ 12 _ rfl) (by kernel_rfl) (by kernel_rfl) (by kernel_rfl) (by kernel_rfl) (fun _ _ _ h => h) (Or.inl ⟨by rfl, ?_⟩) (Or.inl (by assumption)) ?_
  rotate_left 1
  focus (intro W hSw; go_simp; first | done | with_reducible rfl)
  (try simp only [Act.put, List.setIfInBounds_toArray, List.set_cons_zero, List.set_cons_succ])
  refine wpAnyK_pure (i := 13) (v := ?_) (op_at _ 13 _ rfl) (by kernel_rfl) (by kernel_rfl) (by kernel_rfl) (by kernel_rfl) (fun _ _ _ h => h) (Or.inl ⟨by rfl, ?_⟩) (Or.inl (by assumption)) ?_
  rotate_left 1
  focus (intro W hSw; go_simp; first | done | with_reducible rfl)
  (try simp only [Act.put, List.setIfInBounds_toArray, List.set_cons_zero, List.set_cons_succ])
  refine wpAnyK_done (by kernel_rfl) ?_ _
  go_wp2
  go_ret
  first | exact ⟨_, rfl, fun _ => rfl, _, _, by rw [HD.out, HD.out]; exact B5.out, K5.out⟩ | exact Or.inr ⟨rfl, ⟨_, _, by rw [HD.out, HD.out]; exact B5.out⟩, K5.out⟩

set_option maxHeartbeats 4000000 in
set_option maxRecDepth 20000 in
theorem act_put (w0 W : World) (c m : Nat) (C : Parts) (R : RParts) (s t : CS) (p : Int) (sd : Nat) (h : Both w0 W c m C R s t) (hnd : (t.l.map Row.page).Nodup) (hs : OkS 999999 s) (ht : OkS 999999 t) (hx : AvOk ⟨0, p, sd, false⟩) (hp : 1 ≤ p) :
    Calls Try.prog 11 #[.pointer (some ⟨c, 0, none⟩), .pointer (some ⟨m, 0, none⟩), .agg #[.int .i64 0, .int .i64 p, .int .u8 (sd : Int), .bool false]] W fun e w' => ∃ v, e = .returned (.bool v) ∧ (s = t → v = true) ∧ ∃ C' R', Both w0 w' c m C' R' (s.did ⟨0, p, sd, false⟩) (t.did ⟨0, p, sd, false⟩) ∧ KB W w' := by
  obtain ⟨W1, hW1⟩ : ∃ W1, W1 = W.alloc (.cells #[.int .i64 0, .int .i64 p, .int .u8 (sd : Int), .bool false] 29) := ⟨_, rfl⟩
  obtain ⟨xb, hxb⟩ : ∃ xb, xb = W.heap.size := ⟨_, rfl⟩
  have hB1 : Both w0 W1 c m C R s t := by rw [hW1]; exact h.later ((Below.refl _ _).alloc (Nat.le_refl _) _)
  have hX1 : Box xb ⟨0, p, sd, false⟩ W1 := by rw [hW1, hxb]; exact Box.new W ⟨0, p, sd, false⟩
  have hwf : (Lit.int .i64 p).wf = true := wf64 hx.p.1 hx.p.2
  have HK1 := hid (show KB W W1 from fun k x hk => by rw [hW1]; exact hk.later ((Below.refl _ _).alloc (Nat.le_refl _) _))
  have HWF := hid hwf; have HND := hid hnd; have HS := hid hs; have HT := hid ht; have HXO := hid hx
  have HB1 := hid hB1; have HX1 := hid hX1; have HW1 := hid hW1; have HXB := hid hxb
  have HCL := hid (show C.ks.length < 1000000 by rw [h.cp.klen]; have := hs.len; omega)
  have HRL := hid (show R.ps.length < 1000000 by rw [← h.rp.len]; have := ht.len; omega)
  obtain ⟨x0, x1, x2, x3⟩ := hX1.cells
  simp only at x0 x1 x2 x3
  clear h hnd hs ht hx hwf hW1 hxb hB1 hX1
  have HD : Hid (∀ s : CS, s.did ⟨0, p, sd, false⟩ = s.put p (pageB sd)) := hid (fun s => by have hq : ¬ p < 1 := (by omega); simp [CS.did, hq])
  have HP := hid hp; clear hp
  go_enter Try.func11, Try.ntmps11
  go_upto_region 3 with fail
  rw [← HW1.out, ← HXB.out]
  refine wp_region_K (S := Box xb ⟨0, p, sd, false⟩) (fun _ => false) (by kernel_rfl) HX1.out (fun hHeld => ?_)
  obtain ⟨W0, hW0⟩ : ∃ W0, W0 = W1.drew := ⟨_, rfl⟩
  rw [← hW0] at hHeld ⊢
  have B0 : Hid (Both w0 W0 c m C R s t) := hid (by rw [hW0]; exact HB1.out.later ((Below.refl _ _).drew))
  have X0 := hid hHeld
  have K0 : Hid (KB W W0) := hid (by rw [hW0]; exact fun k x hk => HK1.out k x hk)
  have hR := hHeld
  clear hW0
  refine wpAnyK_pure (i := 0) (v := ?_) (op_at _ 0 _ rfl) (by kernel_rfl) (by kernel_rfl) (by kernel_rfl) (by kernel_rfl) (fun _ _ _ h => h) (Or.inl ⟨by rfl, ?_⟩) (Or.inl (by assumption)) ?_
  rotate_left 1
  focus (intro W hSw; go_simp; first | done | with_reducible rfl)
  (try simp only [Act.put, List.setIfInBounds_toArray, List.set_cons_zero, List.set_cons_succ])
  refine wpAnyK_pure (i := 1) (v := ?_) (op_at _ 1 _ rfl) (by kernel_rfl) (by kernel_rfl) (by kernel_rfl) (by kernel_rfl) (fun _ _ _ h => h) (Or.inl ⟨by rfl, ?_⟩) (Or.inl (by assumption)) ?_
  rotate_left 1
  focus (intro W hSw; go_simp; first | done | with_reducible rfl)
  (try simp only [Act.put, List.setIfInBounds_toArray, List.set_cons_zero, List.set_cons_succ])
  refine wpAnyK_take (i := 2) (v := ?_) (op_at _ 2 _ rfl) (by kernel_rfl) (by kernel_rfl) (by kernel_rfl) (by kernel_rfl) (fun _ _ _ h => h) (Or.inl ⟨by rfl, ?_⟩) (by assumption) ?_
  rotate_left 1
  focus (intro W hSw; obtain ⟨q0, q1, q2, q3⟩ := Box.cells hSw; go_simp; first | done | with_reducible rfl)
  (try simp only [Act.put, List.setIfInBounds_toArray, List.set_cons_zero, List.set_cons_succ])
  refine wpAnyK_take (i := 3) (v := ?_) (op_at _ 3 _ rfl) (by kernel_rfl) (by kernel_rfl) (by kernel_rfl) (by kernel_rfl) (fun _ _ _ h => h) (Or.inl ⟨by rfl, ?_⟩) (by assumption) ?_
  rotate_left 1
  focus (intro W hSw; obtain ⟨q0, q1, q2, q3⟩ := Box.cells hSw; go_simp; first | done | with_reducible rfl)
  (try simp only [Act.put, List.setIfInBounds_toArray, List.set_cons_zero, List.set_cons_succ])
  refine wpAnyK_pure (i := 6) (v := ?_) (op_at _ 6 _ rfl) (by kernel_rfl) (by kernel_rfl) (by kernel_rfl) (by kernel_rfl) (fun _ _ _ h => h) (Or.inl ⟨by rfl, ?_⟩) (Or.inl (by assumption)) ?_
  rotate_left 1
  focus (intro W hSw; go_simp; first | done | with_reducible rfl)
  (try simp only [Act.put, List.setIfInBounds_toArray, List.set_cons_zero, List.set_cons_succ])
  refine wpAnyK_pure (i := 7) (v := ?_) (op_at _ 7 _ rfl) (by kernel_rfl) (by kernel_rfl) (by kernel_rfl) (by kernel_rfl) (fun _ _ _ h => h) (Or.inl ⟨by rfl, ?_⟩) (Or.inl (by assumption)) ?_
  rotate_left 1
  focus (intro W hSw; go_simp; first | done | with_reducible rfl)
  (try simp only [Act.put, List.setIfInBounds_toArray, List.set_cons_zero, List.set_cons_succ])
  refine wpAnyK_take (i := 8) (v := ?_) (op_at _ 8 _ rfl) (by kernel_rfl) (by kernel_rfl) (by kernel_rfl) (by kernel_rfl) (fun _ _ _ h => h) (Or.inl ⟨by rfl, ?_⟩) (by assumption) ?_
  rotate_left 1
  focus (intro W hSw; obtain ⟨q0, q1, q2, q3⟩ := Box.cells hSw; go_simp; first | done | with_reducible rfl)
  (try simp only [Act.put, List.setIfInBounds_toArray, List.set_cons_zero, List.set_cons_succ])
  refine wpAnyK_take (i := 9) (v := ?_) (op_at _ 9 _ rfl) (by kernel_rfl) (by kernel_rfl) (by kernel_rfl) (by kernel_rfl) (fun _ _ _ h => h) (Or.inl ⟨by rfl, ?_⟩) (by assumption) ?_
  rotate_left 1
  focus (intro W hSw; obtain ⟨q0, q1, q2, q3⟩ := Box.cells hSw; go_simp; first | done | with_reducible rfl)
  (try simp only [Act.put, List.setIfInBounds_toArray, List.set_cons_zero, List.set_cons_succ])
  refine wpAnyK_ready (rs := [4]) (by kernel_rfl) (by simp) ?_
  refine AllReadyK.cons (op_at _ 4 _ rfl) (fun K hK => ?_) AllReadyK.nil
  go_simp
  go_at_call 17; refine (bytes_yes _ _ _ _).mono ?_; rintro e w2 ⟨g2, hGE2, rfl, hRD2, hbl⟩; have B2 := hid (B0.out.later hbl); have X2 := hid (X0.out.later hbl); have K2 := hid (show KB W w2 from fun k9 x9 hk9 => (K0.out k9 x9 hk9).later hbl); have hR := X2.out; have RD2 := hid hRD2; have GE2 := hid hGE2; clear hRD2 hGE2; clear hbl
  refine hK.out _ _ hR (fun hHeld => ?_)
  clear hK K
  (try simp only [Act.put, List.setIfInBounds_toArray, List.set_cons_zero, List.set_cons_succ])
  refine wpAnyK_ready (rs := [5]) (by kernel_rfl) (by simp) ?_
  refine AllReadyK.cons (op_at _ 5 _ rfl) (fun K hK => ?_) AllReadyK.nil
  go_simp
  go_at_call 16; refine (put_call c g2 0 512 C s p _ w2 B2.out.cp HWF.out HP.out RD2.out (fun hS => by have := B0.out.cp.lt hS; have := GE2.out; omega) HCL.out).mono ?_; rintro e w3 ⟨rfl, C3, st⟩; have B3 := hid (B2.out.left st); have X3 := hid (X2.out.left B2.out st); have K3 := hid (show KB W w3 from fun k9 x9 hk9 => (K2.out k9 x9 hk9).left B2.out st); have hR := X3.out; clear st
  refine hK.out _ _ hR (fun hHeld => ?_)
  clear hK K
  (try simp only [Act.put, List.setIfInBounds_toArray, List.set_cons_zero, List.set_cons_succ])
  refine wpAnyK_ready (rs := [10]) (by kernel_rfl) (by simp) ?_
  refine AllReadyK.cons (op_at _ 10 _ rfl) (fun K hK => ?_) AllReadyK.nil
  go_simp
  go_at_call 17; refine (bytes_yes _ _ _ _).mono ?_; rintro e w4 ⟨g4, hGE4, rfl, hRD4, hbl⟩; have B4 := hid (B3.out.later hbl); have X4 := hid (X3.out.later hbl); have K4 := hid (show KB W w4 from fun k9 x9 hk9 => (K3.out k9 x9 hk9).later hbl); have hR := X4.out; have RD4 := hid hRD4; have GE4 := hid hGE4; clear hRD4 hGE4; clear hbl
  refine hK.out _ _ hR (fun hHeld => ?_)
  clear hK K
  (try simp only [Act.put, List.setIfInBounds_toArray, List.set_cons_zero, List.set_cons_succ])
  refine wpAnyK_ready (rs := [11]) (by kernel_rfl) (by simp) ?_
  refine AllReadyK.cons (op_at _ 11 _ rfl) (fun K hK => ?_) AllReadyK.nil
  go_simp
  go_at_call 32; refine (rput_call m g4 0 512 R t p _ w4 B4.out.rp HP.out RD4.out (fun hS => by have := B3.out.rp.lt (Or.inl hS); have := GE4.out; omega) HRL.out HND.out).mono ?_; rintro e w5 ⟨rfl, R5, st⟩; have B5 := hid (B4.out.right st); have X5 := hid (X4.out.right B4.out st); have K5 := hid (show KB W w5 from fun k9 x9 hk9 => (K4.out k9 x9 hk9).right B4.out st); have hR := X5.out; clear st
  refine hK.out _ _ hR (fun hHeld => ?_)
  clear hK K
  (try simp only [Act.put, List.setIfInBounds_toArray, List.set_cons_zero, List.set_cons_succ])
  refine wpAnyK_pure (i := 12) (v := ?_) (op_at _ 12 _ rfl) (by kernel_rfl) (by kernel_rfl) (by kernel_rfl) (by kernel_rfl) (fun _ _ _ h => h) (Or.inl ⟨by rfl, ?_⟩) (Or.inl (by assumption)) ?_
  rotate_left 1
  focus (intro W hSw; go_simp; first | done | with_reducible rfl)
  (try simp only [Act.put, List.setIfInBounds_toArray, List.set_cons_zero, List.set_cons_succ])
  refine wpAnyK_pure (i := 13) (v := ?_) (op_at _ 13 _ rfl) (by kernel_rfl) (by kernel_rfl) (by kernel_rfl) (by kernel_rfl) (fun _ _ _ h => h) (Or.inl ⟨by rfl, ?_⟩) (Or.inl (by assumption)) ?_
  rotate_left 1
  focus (intro W hSw; go_simp; first | done | with_reducible rfl)
  (try simp only [Act.put, List.setIfInBounds_toArray, List.set_cons_zero, List.set_cons_succ])
  refine wpAnyK_done (by kernel_rfl) ?_ _
  go_wp2
  go_ret
  first | exact ⟨_, rfl, fun _ => rfl, _, _, by rw [HD.out, HD.out]; exact B5.out, K5.out⟩ | exact Or.inr ⟨rfl, ⟨_, _, by rw [HD.out, HD.out]; exact B5.out⟩, K5.out⟩

theorem act_any (w0 W : World) (c m : Nat) (C : Parts) (R : RParts) (s t : CS) (x : Av) (h : Both w0 W c m C R s t) (hnd : (t.l.map Row.page).Nodup) (hs : OkS 999999 s) (ht : OkS 999999 t) (hx : AvOk x) :
    Calls Try.prog 11 #[.pointer (some ⟨c, 0, none⟩), .pointer (some ⟨m, 0, none⟩), .agg #[.int .i64 x.k, .int .i64 x.p, .int .u8 (x.s : Int), .bool x.sh]] W fun e w' => ∃ v, e = .returned (.bool v) ∧ (s = t → v = true) ∧ ∃ C' R', Both w0 w' c m C' R' (s.did x) (t.did x) ∧ KB W w' := by
  obtain ⟨k, p, sd, sh⟩ := x
  by_cases h0 : k = 0
  · subst h0
    cases sh
    · rcases Int.lt_or_le p 1 with hp | hp
      · exact act_low w0 W c m C R s t p sd h hnd hs ht hx hp
      · exact act_put w0 W c m C R s t p sd h hnd hs ht hx hp
    · exact act_short w0 W c m C R s t p sd h hnd hs ht hx
  by_cases h1 : k = 1
  · subst h1; exact act_get w0 W c m C R s t p sd sh h hnd hs ht hx
  by_cases h2 : k = 2
  · subst h2; exact act_peek w0 W c m C R s t p sd sh h hnd hs ht hx
  by_cases h3 : k = 3
  · subst h3; exact act_pin w0 W c m C R s t p sd sh h hnd hs ht hx
  by_cases h4 : k = 4
  · subst h4; exact act_free w0 W c m C R s t p sd sh h hnd hs ht hx
  by_cases h5 : k = 5
  · subst h5; exact act_mark w0 W c m C R s t p sd sh h hnd hs ht hx
  by_cases h6 : k = 6
  · subst h6; exact act_drop w0 W c m C R s t p sd sh h hnd hs ht hx
  by_cases h7 : k = 7
  · subst h7; exact act_clear w0 W c m C R s t p sd sh h hnd hs ht hx
  exact act_else w0 W c m C R s t k p sd sh h hnd hs ht hx (fun i h8 h9 => by omega)

end Go.Proofs.Ytebjjibgkjgpgaa
