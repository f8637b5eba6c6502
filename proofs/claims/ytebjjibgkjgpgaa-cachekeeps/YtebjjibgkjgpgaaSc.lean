/- Whether a cache and the document's tell the same; no statement of the seat is proved here. -/
import Derived.Test.YtebjjibgkjgpgaaSb
namespace Go.Proofs.Ytebjjibgkjgpgaa
open Go.RowKit Go.Maps

/-- What is read of the document's cache. -/
def AL (m _room : Nat) (ao : Option Addr) (n cap hit miss : Nat) (W : World) : Prop := (W.cell? ⟨m, 1, none⟩ = some (.slice ao n cap) ∧ W.cell? ⟨m, 2, none⟩ = some (.int .i64 (hit : Int)) ∧ W.cell? ⟨m, 3, none⟩ = some (.int .i64 (miss : Int))) ∧ True
theorem Both.al {w0 W : World} {c m n0 : Nat} {C : Parts} {R : RParts} {s t : CS} (h : Both w0 W c m C R s t) (hn : n0 = R.ps.length) : AL m t.room R.ao n0 R.cap t.hit t.miss W := ⟨⟨hn ▸ h.rp.c1, h.rp.c2, h.rp.c3⟩, trivial⟩
theorem own_cap {w : World} {B n cap : Nat} {ao : Option Addr} {xs : List Value} (ho : w.ownsRow B 3 1 (.slice ao n cap) n xs) : n ≤ cap := by
  rcases ho.2 with ⟨hv, hz⟩ | ⟨g, cap', cur, hv, _, _, hnc, _⟩
  · omega
  · simp only [Value.slice.injEq] at hv; rw [hv.2.2]; exact hnc

set_option maxHeartbeats 8000000 in
set_option maxRecDepth 20000 in
theorem alike_any (w0 W : World) (c m : Nat) (C : Parts) (R : RParts) (s : CS) (p : Int) (h : Both w0 W c m C R s s) (hs : OkS 999999 s) (hp : I64 p) :
    Calls Try.prog 12 #[.pointer (some ⟨c, 0, none⟩), .pointer (some ⟨m, 0, none⟩), .int .i64 p] W fun e w' => e = .returned (.bool true) ∧ Below W.heap.size W w' := by
  have HWF := hid (wf64 hp.1 hp.2)
  obtain ⟨lo, hlo⟩ : ∃ n, n = (s.l.map Row.page).length := ⟨_, rfl⟩
  obtain ⟨ld, hld⟩ : ∃ n, n = s.dirt.length := ⟨_, rfl⟩
  obtain ⟨n0, hn0⟩ : ∃ n, n = R.ps.length := ⟨_, rfl⟩
  obtain ⟨pi, hpi⟩ : ∃ n, n = s.pinsOf p := ⟨_, rfl⟩
  have hsl : n0 = s.l.length := by rw [hn0, h.rp.len]
  have HLOB := hid (show lo ≤ 999999 by rw [hlo]; simp; exact hs.len)
  have HLDB := hid (show ld ≤ 999999 by
    have h1 : s.dirt.length = (told Row.dirty s.l).length := by unfold CS.dirt; exact rise_length _
    have h2 : (told Row.dirty s.l).length ≤ s.l.length := (by unfold told; simp; exact List.length_filter_le _ _)
    have := hs.len; omega)
  have HCL := hid (show C.ks.length ≤ 1000000 by rw [h.cp.klen]; have := hs.len; omega)
  have HRL := hid (show R.ps.length ≤ 1000000 by rw [← h.rp.len]; have := hs.len; omega)
  have HLO := hid hlo; have HLD := hid hld; have HN := hid hn0; have HPI := hid hpi; have HSL := hid hsl
  have HB := hid h
  clear h hs hp hlo hld hn0 hpi hsl
  go_enter Try.func12, Try.ntmps12
  go_wp2_with (go_at_call 24; refine (hits_call c C s W HB.out.cp).mono ?_; rintro e wx ⟨rfl, hwx⟩; obtain rfl := hwx)
  refine wp_region_K (S := AL m s.room R.ao n0 R.cap s.hit s.miss) (fun _ => false) (by kernel_rfl) (HB.out.al HN.out) (fun hHeld => ?_)
  obtain ⟨W0, hW0⟩ : ∃ W0, W0 = W.drew.drew := ⟨_, rfl⟩
  rw [← hW0] at hHeld ⊢
  have G0 : Hid (Below W.heap.size W W0) := hid (by rw [hW0]; exact (Below.refl _ _).drew.drew)
  have B0 : Hid (Both w0 W0 c m C R s s) := hid (HB.out.later G0.out)
  have hR := hHeld
  clear hW0
  refine wpAnyK_pure (i := 0) (v := ?_) (op_at _ 0 _ rfl) (by kernel_rfl) (by kernel_rfl) (by kernel_rfl) (by kernel_rfl) (fun _ _ _ h => h) (Or.inl ⟨by rfl, ?_⟩) (Or.inl (by assumption)) ?_
  rotate_left 1
  focus (intro W hSw; go_simp; first | done | with_reducible rfl)
  (try simp only [Act.put, List.setIfInBounds_toArray, List.set_cons_zero, List.set_cons_succ])
  refine wpAnyK_pure (i := 2) (v := ?_) (op_at _ 2 _ rfl) (by kernel_rfl) (by kernel_rfl) (by kernel_rfl) (by kernel_rfl) (fun _ _ _ h => h) (Or.inl ⟨by rfl, ?_⟩) (Or.inl (by assumption)) ?_
  rotate_left 1
  focus (intro W hSw; go_simp; first | done | with_reducible rfl)
  (try simp only [Act.put, List.setIfInBounds_toArray, List.set_cons_zero, List.set_cons_succ])
  refine wpAnyK_ready (rs := [1]) (by kernel_rfl) (by simp) ?_
  refine AllReadyK.cons (op_at _ 1 _ rfl) (fun K hK => ?_) AllReadyK.nil
  go_simp
  go_at_call 14; refine (order_call c C s W0 B0.out.cp HCL.out).mono ?_; rintro e w1 ⟨a1, k1, rfl, ho, hb⟩; rw [← HLO.out] at ho ⊢; have T1 := hid (rdI_own ho); have L1 := hid (own_cap ho); have B1 := hid (B0.out.later hb); have G1 := hid (gt G0.out hb); have D1 := hid hb; have hR : AL m s.room R.ao n0 R.cap s.hit s.miss w1 := B1.out.al HN.out; clear ho hb
  refine hK.out _ _ hR (fun hHeld => ?_)
  clear hK K
  (try simp only [Act.put, List.setIfInBounds_toArray, List.set_cons_zero, List.set_cons_succ])
  refine wpAnyK_ready (rs := [3]) (by kernel_rfl) (by simp) ?_
  refine AllReadyK.cons (op_at _ 3 _ rfl) (fun K hK => ?_) AllReadyK.nil
  go_simp
  go_at_call 40; refine (rorder_call m R s w1 B1.out.rp HRL.out).mono ?_; rintro e w3 ⟨a3, k3, rfl, ho, hb⟩; rw [← HLO.out] at ho ⊢; have T3 := hid (rdI_own ho); have L3 := hid (own_cap ho); have B3 := hid (B1.out.later hb); have G3 := hid (gt G1.out hb); have D3 := hid hb; have hR : AL m s.room R.ao n0 R.cap s.hit s.miss w3 := B3.out.al HN.out; clear ho hb
  refine hK.out _ _ hR (fun hHeld => ?_)
  clear hK K
  (try simp only [Act.put, List.setIfInBounds_toArray, List.set_cons_zero, List.set_cons_succ])
  refine wpAnyK_ready (rs := [4]) (by kernel_rfl) (by simp) ?_
  refine AllReadyK.cons (op_at _ 4 _ rfl) (fun K hK => ?_) AllReadyK.nil
  go_simp
  go_at_call 30; refine (ints_any a1 a3 lo lo k1 k3 _ _ w3 (T1.out.keep D3.out) T3.out (by have := HLOB.out; omega) L1.out L3.out).mono ?_; rintro e w4 ⟨rfl, hb⟩; simp only [decide_true]; have B4 := hid (B3.out.later hb); have G4 := hid (gt G3.out hb); have hR : AL m s.room R.ao n0 R.cap s.hit s.miss w4 := B4.out.al HN.out; clear hb
  refine hK.out _ _ hR (fun hHeld => ?_)
  clear hK K
  (try simp only [Act.put, List.setIfInBounds_toArray, List.set_cons_zero, List.set_cons_succ])
  refine wpAnyK_pure (i := 5) (v := ?_) (op_at _ 5 _ rfl) (by kernel_rfl) (by kernel_rfl) (by kernel_rfl) (by kernel_rfl) (fun _ _ _ h => h) (Or.inl ⟨by rfl, ?_⟩) (Or.inl (by assumption)) ?_
  rotate_left 1
  focus (intro W hSw; go_simp; first | done | with_reducible rfl)
  (try simp only [Act.put, List.setIfInBounds_toArray, List.set_cons_zero, List.set_cons_succ])
  refine wpAnyK_pure (i := 6) (v := ?_) (op_at _ 6 _ rfl) (by kernel_rfl) (by kernel_rfl) (by kernel_rfl) (by kernel_rfl) (fun _ _ _ h => h) (Or.inl ⟨by rfl, ?_⟩) (Or.inl (by assumption)) ?_
  rotate_left 1
  focus (intro W hSw; go_simp; first | done | with_reducible rfl)
  (try simp only [Act.put, List.setIfInBounds_toArray, List.set_cons_zero, List.set_cons_succ])
  refine wpAnyK_pure (i := 8) (v := ?_) (op_at _ 8 _ rfl) (by kernel_rfl) (by kernel_rfl) (by kernel_rfl) (by kernel_rfl) (fun _ _ _ h => h) (Or.inl ⟨by rfl, ?_⟩) (Or.inl (by assumption)) ?_
  rotate_left 1
  focus (intro W hSw; go_simp; first | done | with_reducible rfl)
  (try simp only [Act.put, List.setIfInBounds_toArray, List.set_cons_zero, List.set_cons_succ])
  refine wpAnyK_ready (rs := [7]) (by kernel_rfl) (by simp) ?_
  refine AllReadyK.cons (op_at _ 7 _ rfl) (fun K hK => ?_) AllReadyK.nil
  go_simp
  go_at_call 13; refine (dirty_call c C s w4 B4.out.cp HCL.out).mono ?_; rintro e w7 ⟨a7, k7, rfl, ho, hb⟩; rw [← HLD.out] at ho ⊢; have T7 := hid (rdI_own ho); have L7 := hid (own_cap ho); have B7 := hid (B4.out.later hb); have G7 := hid (gt G4.out hb); have D7 := hid hb; have hR : AL m s.room R.ao n0 R.cap s.hit s.miss w7 := B7.out.al HN.out; clear ho hb
  refine hK.out _ _ hR (fun hHeld => ?_)
  clear hK K
  (try simp only [Act.put, List.setIfInBounds_toArray, List.set_cons_zero, List.set_cons_succ])
  refine wpAnyK_ready (rs := [9]) (by kernel_rfl) (by simp) ?_
  refine AllReadyK.cons (op_at _ 9 _ rfl) (fun K hK => ?_) AllReadyK.nil
  go_simp
  go_at_call 41; refine (rdirt_call m R s w7 B7.out.rp HRL.out).mono ?_; rintro e w9 ⟨a9, k9, rfl, ho, hb⟩; rw [← HLD.out] at ho ⊢; have T9 := hid (rdI_own ho); have L9 := hid (own_cap ho); have B9 := hid (B7.out.later hb); have G9 := hid (gt G7.out hb); have D9 := hid hb; have hR : AL m s.room R.ao n0 R.cap s.hit s.miss w9 := B9.out.al HN.out; clear ho hb
  refine hK.out _ _ hR (fun hHeld => ?_)
  clear hK K
  (try simp only [Act.put, List.setIfInBounds_toArray, List.set_cons_zero, List.set_cons_succ])
  refine wpAnyK_ready (rs := [10]) (by kernel_rfl) (by simp) ?_
  refine AllReadyK.cons (op_at _ 10 _ rfl) (fun K hK => ?_) AllReadyK.nil
  go_simp
  go_at_call 30; refine (ints_any a7 a9 ld ld k7 k9 _ _ w9 (T7.out.keep D9.out) T9.out (by have := HLDB.out; omega) L7.out L9.out).mono ?_; rintro e w10 ⟨rfl, hb⟩; simp only [decide_true]; have B10 := hid (B9.out.later hb); have G10 := hid (gt G9.out hb); have hR : AL m s.room R.ao n0 R.cap s.hit s.miss w10 := B10.out.al HN.out; clear hb
  refine hK.out _ _ hR (fun hHeld => ?_)
  clear hK K
  (try simp only [Act.put, List.setIfInBounds_toArray, List.set_cons_zero, List.set_cons_succ])
  refine wpAnyK_pure (i := 11) (v := ?_) (op_at _ 11 _ rfl) (by kernel_rfl) (by kernel_rfl) (by kernel_rfl) (by kernel_rfl) (fun _ _ _ h => h) (Or.inl ⟨by rfl, ?_⟩) (Or.inl (by assumption)) ?_
  rotate_left 1
  focus (intro W hSw; go_simp; first | done | with_reducible rfl)
  (try simp only [Act.put, List.setIfInBounds_toArray, List.set_cons_zero, List.set_cons_succ])
  refine wpAnyK_pure (i := 12) (v := ?_) (op_at _ 12 _ rfl) (by kernel_rfl) (by kernel_rfl) (by kernel_rfl) (by kernel_rfl) (fun _ _ _ h => h) (Or.inl ⟨by rfl, ?_⟩) (Or.inl (by assumption)) ?_
  rotate_left 1
  focus (intro W hSw; go_simp; first | done | with_reducible rfl)
  (try simp only [Act.put, List.setIfInBounds_toArray, List.set_cons_zero, List.set_cons_succ])
  refine wpAnyK_pure (i := 13) (v := ?_) (op_at _ 13 _ rfl) (by kernel_rfl) (by kernel_rfl) (by kernel_rfl) (by kernel_rfl) (fun _ _ _ h => h) (Or.inl ⟨by rfl, ?_⟩) (Or.inl (by assumption)) ?_
  rotate_left 1
  focus (intro W hSw; go_simp; first | done | with_reducible rfl)
  (try simp only [Act.put, List.setIfInBounds_toArray, List.set_cons_zero, List.set_cons_succ])
  refine wpAnyK_pure (i := 14) (v := ?_) (op_at _ 14 _ rfl) (by kernel_rfl) (by kernel_rfl) (by kernel_rfl) (by kernel_rfl) (fun _ _ _ h => h) (Or.inl ⟨by rfl, ?_⟩) (Or.inl (by assumption)) ?_
  rotate_left 1
  focus (intro W hSw; go_simp; first | done | with_reducible rfl)
  (try simp only [Act.put, List.setIfInBounds_toArray, List.set_cons_zero, List.set_cons_succ])
  refine wpAnyK_pure (i := 16) (v := ?_) (op_at _ 16 _ rfl) (by kernel_rfl) (by kernel_rfl) (by kernel_rfl) (by kernel_rfl) (fun _ _ _ h => h) (Or.inl ⟨by rfl, ?_⟩) (Or.inl (by assumption)) ?_
  rotate_left 1
  focus (intro W hSw; go_simp; first | done | with_reducible rfl)
  (try simp only [Act.put, List.setIfInBounds_toArray, List.set_cons_zero, List.set_cons_succ])
  refine wpAnyK_pure (i := 17) (v := ?_) (op_at _ 17 _ rfl) (by kernel_rfl) (by kernel_rfl) (by kernel_rfl) (by kernel_rfl) (fun _ _ _ h => h) (Or.inl ⟨by rfl, ?_⟩) (Or.inl (by assumption)) ?_
  rotate_left 1
  focus (intro W hSw; go_simp; first | done | with_reducible rfl)
  (try simp only [Act.put, List.setIfInBounds_toArray, List.set_cons_zero, List.set_cons_succ])
  refine wpAnyK_ready (rs := [15]) (by kernel_rfl) (by simp) ?_
  refine AllReadyK.cons (op_at _ 15 _ rfl) (fun K hK => ?_) AllReadyK.nil
  go_simp
  go_at_call 15; refine (pins_call c C s p w10 B10.out.cp HWF.out).mono ?_; rintro e wx ⟨rfl, hwx⟩; obtain rfl := hwx.symm; rw [← HPI.out]; have hR : AL m s.room R.ao n0 R.cap s.hit s.miss w10 := B10.out.al HN.out
  refine hK.out _ _ hR (fun hHeld => ?_)
  clear hK K
  (try simp only [Act.put, List.setIfInBounds_toArray, List.set_cons_zero, List.set_cons_succ])
  refine wpAnyK_ready (rs := [18]) (by kernel_rfl) (by simp) ?_
  refine AllReadyK.cons (op_at _ 18 _ rfl) (fun K hK => ?_) AllReadyK.nil
  go_simp
  go_at_call 42; refine (rpins_call m R s p w10 B10.out.rp HRL.out).mono ?_; rintro e w18 ⟨rfl, hb⟩; rw [← HPI.out]; have B18 := hid (B10.out.later hb); have G18 := hid (gt G10.out hb); have hR : AL m s.room R.ao n0 R.cap s.hit s.miss w18 := B18.out.al HN.out; clear hb
  refine hK.out _ _ hR (fun hHeld => ?_)
  clear hK K
  (try simp only [Act.put, List.setIfInBounds_toArray, List.set_cons_zero, List.set_cons_succ])
  refine wpAnyK_pure (i := 19) (v := ?_) (op_at _ 19 _ rfl) (by kernel_rfl) (by kernel_rfl) (by kernel_rfl) (by kernel_rfl) (fun _ _ _ h => h) (Or.inl ⟨by rfl, ?_⟩) (Or.inl (by assumption)) ?_
  rotate_left 1
  focus (intro W hSw; go_simp; first | done | with_reducible rfl)
  (try simp only [Act.put, List.setIfInBounds_toArray, List.set_cons_zero, List.set_cons_succ])
  refine wpAnyK_pure (i := 20) (v := ?_) (op_at _ 20 _ rfl) (by kernel_rfl) (by kernel_rfl) (by kernel_rfl) (by kernel_rfl) (fun _ _ _ h => h) (Or.inl ⟨by rfl, ?_⟩) (Or.inl (by assumption)) ?_
  rotate_left 1
  focus (intro W hSw; go_simp; first | done | with_reducible rfl)
  (try simp only [Act.put, List.setIfInBounds_toArray, List.set_cons_zero, List.set_cons_succ])
  refine wpAnyK_pure (i := 21) (v := ?_) (op_at _ 21 _ rfl) (by kernel_rfl) (by kernel_rfl) (by kernel_rfl) (by kernel_rfl) (fun _ _ _ h => h) (Or.inl ⟨by rfl, ?_⟩) (Or.inl (by assumption)) ?_
  rotate_left 1
  focus (intro W hSw; go_simp; first | done | with_reducible rfl)
  (try simp only [Act.put, List.setIfInBounds_toArray, List.set_cons_zero, List.set_cons_succ])
  refine wpAnyK_pure (i := 22) (v := ?_) (op_at _ 22 _ rfl) (by kernel_rfl) (by kernel_rfl) (by kernel_rfl) (by kernel_rfl) (fun _ _ _ h => h) (Or.inl ⟨by rfl, ?_⟩) (Or.inl (by assumption)) ?_
  rotate_left 1
  focus (intro W hSw; go_simp; first | done | with_reducible rfl)
  (try simp only [Act.put, List.setIfInBounds_toArray, List.set_cons_zero, List.set_cons_succ])
  refine wpAnyK_pure (i := 24) (v := ?_) (op_at _ 24 _ rfl) (by kernel_rfl) (by kernel_rfl) (by kernel_rfl) (by kernel_rfl) (fun _ _ _ h => h) (Or.inl ⟨by rfl, ?_⟩) (Or.inl (by assumption)) ?_
  rotate_left 1
  focus (intro W hSw; go_simp; first | done | with_reducible rfl)
  (try simp only [Act.put, List.setIfInBounds_toArray, List.set_cons_zero, List.set_cons_succ])
  refine wpAnyK_pure (i := 25) (v := ?_) (op_at _ 25 _ rfl) (by kernel_rfl) (by kernel_rfl) (by kernel_rfl) (by kernel_rfl) (fun _ _ _ h => h) (Or.inl ⟨by rfl, ?_⟩) (Or.inl (by assumption)) ?_
  rotate_left 1
  focus (intro W hSw; go_simp; first | done | with_reducible rfl)
  (try simp only [Act.put, List.setIfInBounds_toArray, List.set_cons_zero, List.set_cons_succ])
  refine wpAnyK_pure (i := 26) (v := ?_) (op_at _ 26 _ rfl) (by kernel_rfl) (by kernel_rfl) (by kernel_rfl) (by kernel_rfl) (fun _ _ _ h => h) (Or.inl ⟨by rfl, ?_⟩) (Or.inl (by assumption)) ?_
  rotate_left 1
  focus (intro W hSw; go_simp; first | done | with_reducible rfl)
  (try simp only [Act.put, List.setIfInBounds_toArray, List.set_cons_zero, List.set_cons_succ])
  refine wpAnyK_take (i := 27) (v := ?_) (op_at _ 27 _ rfl) (by kernel_rfl) (by kernel_rfl) (by kernel_rfl) (by kernel_rfl) (fun _ _ _ h => h) (Or.inl ⟨by rfl, ?_⟩) (by assumption) ?_
  rotate_left 1
  focus (intro W hSw; obtain ⟨q1, q2, q3⟩ := hSw.1; go_simp; first | done | with_reducible rfl)
  (try simp only [Act.put, List.setIfInBounds_toArray, List.set_cons_zero, List.set_cons_succ])
  refine wpAnyK_pure (i := 28) (v := ?_) (op_at _ 28 _ rfl) (by kernel_rfl) (by kernel_rfl) (by kernel_rfl) (by kernel_rfl) (fun _ _ _ h => h) (Or.inl ⟨by rfl, ?_⟩) (Or.inl (by assumption)) ?_
  rotate_left 1
  focus (intro W hSw; go_simp; first | done | with_reducible rfl)
  (try simp only [Act.put, List.setIfInBounds_toArray, List.set_cons_zero, List.set_cons_succ])
  refine wpAnyK_ready (rs := [23]) (by kernel_rfl) (by simp) ?_
  refine AllReadyK.cons (op_at _ 23 _ rfl) (fun K hK => ?_) AllReadyK.nil
  go_simp
  go_at_call 19; refine (len_call c C s w18 B18.out.cp).mono ?_; rintro e wx ⟨rfl, hwx⟩; obtain rfl := hwx.symm; rw [← HSL.out]; have hR : AL m s.room R.ao n0 R.cap s.hit s.miss w18 := B18.out.al HN.out
  refine hK.out _ _ hR (fun hHeld => ?_)
  clear hK K
  (try simp only [Act.put, List.setIfInBounds_toArray, List.set_cons_zero, List.set_cons_succ])
  refine wpAnyK_pure (i := 29) (v := ?_) (op_at _ 29 _ rfl) (by kernel_rfl) (by kernel_rfl) (by kernel_rfl) (by kernel_rfl) (fun _ _ _ h => h) (Or.inl ⟨by rfl, ?_⟩) (Or.inl (by assumption)) ?_
  rotate_left 1
  focus (intro W hSw; go_simp; first | done | with_reducible rfl)
  (try simp only [Act.put, List.setIfInBounds_toArray, List.set_cons_zero, List.set_cons_succ])
  refine wpAnyK_pure (i := 30) (v := ?_) (op_at _ 30 _ rfl) (by kernel_rfl) (by kernel_rfl) (by kernel_rfl) (by kernel_rfl) (fun _ _ _ h => h) (Or.inl ⟨by rfl, ?_⟩) (Or.inl (by assumption)) ?_
  rotate_left 1
  focus (intro W hSw; go_simp; first | done | with_reducible rfl)
  (try simp only [Act.put, List.setIfInBounds_toArray, List.set_cons_zero, List.set_cons_succ])
  refine wpAnyK_pure (i := 31) (v := ?_) (op_at _ 31 _ rfl) (by kernel_rfl) (by kernel_rfl) (by kernel_rfl) (by kernel_rfl) (fun _ _ _ h => h) (Or.inl ⟨by rfl, ?_⟩) (Or.inl (by assumption)) ?_
  rotate_left 1
  focus (intro W hSw; go_simp; first | done | with_reducible rfl)
  (try simp only [Act.put, List.setIfInBounds_toArray, List.set_cons_zero, List.set_cons_succ])
  refine wpAnyK_pure (i := 32) (v := ?_) (op_at _ 32 _ rfl) (by kernel_rfl) (by kernel_rfl) (by kernel_rfl) (by kernel_rfl) (fun _ _ _ h => h) (Or.inl ⟨by rfl, ?_⟩) (Or.inl (by assumption)) ?_
  rotate_left 1
  focus (intro W hSw; go_simp; first | done | with_reducible rfl)
  (try simp only [Act.put, List.setIfInBounds_toArray, List.set_cons_zero, List.set_cons_succ])
  refine wpAnyK_pure (i := 33) (v := ?_) (op_at _ 33 _ rfl) (by kernel_rfl) (by kernel_rfl) (by kernel_rfl) (by kernel_rfl) (fun _ _ _ h => h) (Or.inl ⟨by rfl, ?_⟩) (Or.inl (by assumption)) ?_
  rotate_left 1
  focus (intro W hSw; go_simp; first | done | with_reducible rfl)
  (try simp only [Act.put, List.setIfInBounds_toArray, List.set_cons_zero, List.set_cons_succ])
  refine wpAnyK_pure (i := 34) (v := ?_) (op_at _ 34 _ rfl) (by kernel_rfl) (by kernel_rfl) (by kernel_rfl) (by kernel_rfl) (fun _ _ _ h => h) (Or.inl ⟨by rfl, ?_⟩) (Or.inl (by assumption)) ?_
  rotate_left 1
  focus (intro W hSw; go_simp; first | done | with_reducible rfl)
  (try simp only [Act.put, List.setIfInBounds_toArray, List.set_cons_zero, List.set_cons_succ])
  refine wpAnyK_pure (i := 35) (v := ?_) (op_at _ 35 _ rfl) (by kernel_rfl) (by kernel_rfl) (by kernel_rfl) (by kernel_rfl) (fun _ _ _ h => h) (Or.inl ⟨by rfl, ?_⟩) (Or.inl (by assumption)) ?_
  rotate_left 1
  focus (intro W hSw; go_simp; first | done | with_reducible rfl)
  (try simp only [Act.put, List.setIfInBounds_toArray, List.set_cons_zero, List.set_cons_succ])
  refine wpAnyK_take (i := 36) (v := ?_) (op_at _ 36 _ rfl) (by kernel_rfl) (by kernel_rfl) (by kernel_rfl) (by kernel_rfl) (fun _ _ _ h => h) (Or.inl ⟨by rfl, ?_⟩) (by assumption) ?_
  rotate_left 1
  focus (intro W hSw; obtain ⟨q1, q2, q3⟩ := hSw.1; go_simp; first | done | with_reducible rfl)
  (try simp only [Act.put, List.setIfInBounds_toArray, List.set_cons_zero, List.set_cons_succ])
  refine wpAnyK_pure (i := 37) (v := ?_) (op_at _ 37 _ rfl) (by kernel_rfl) (by kernel_rfl) (by kernel_rfl) (by kernel_rfl) (fun _ _ _ h => h) (Or.inl ⟨by rfl, ?_⟩) (Or.inl (by assumption)) ?_
  rotate_left 1
  focus (intro W hSw; go_simp; first | done | with_reducible rfl)
  (try simp only [Act.put, List.setIfInBounds_toArray, List.set_cons_zero, List.set_cons_succ])
  refine wpAnyK_pure (i := 38) (v := ?_) (op_at _ 38 _ rfl) (by kernel_rfl) (by kernel_rfl) (by kernel_rfl) (by kernel_rfl) (fun _ _ _ h => h) (Or.inl ⟨by rfl, ?_⟩) (Or.inl (by assumption)) ?_
  rotate_left 1
  focus (intro W hSw; go_simp; first | done | with_reducible rfl)
  (try simp only [Act.put, List.setIfInBounds_toArray, List.set_cons_zero, List.set_cons_succ])
  refine wpAnyK_pure (i := 39) (v := ?_) (op_at _ 39 _ rfl) (by kernel_rfl) (by kernel_rfl) (by kernel_rfl) (by kernel_rfl) (fun _ _ _ h => h) (Or.inl ⟨by rfl, ?_⟩) (Or.inl (by assumption)) ?_
  rotate_left 1
  focus (intro W hSw; go_simp; first | done | with_reducible rfl)
  (try simp only [Act.put, List.setIfInBounds_toArray, List.set_cons_zero, List.set_cons_succ])
  refine wpAnyK_pure (i := 40) (v := ?_) (op_at _ 40 _ rfl) (by kernel_rfl) (by kernel_rfl) (by kernel_rfl) (by kernel_rfl) (fun _ _ _ h => h) (Or.inl ⟨by rfl, ?_⟩) (Or.inl (by assumption)) ?_
  rotate_left 1
  focus (intro W hSw; go_simp; first | done | with_reducible rfl)
  (try simp only [Act.put, List.setIfInBounds_toArray, List.set_cons_zero, List.set_cons_succ])
  refine wpAnyK_pure (i := 41) (v := ?_) (op_at _ 41 _ rfl) (by kernel_rfl) (by kernel_rfl) (by kernel_rfl) (by kernel_rfl) (fun _ _ _ h => h) (Or.inl ⟨by rfl, ?_⟩) (Or.inl (by assumption)) ?_
  rotate_left 1
  focus (intro W hSw; go_simp; first | done | with_reducible rfl)
  (try simp only [Act.put, List.setIfInBounds_toArray, List.set_cons_zero, List.set_cons_succ])
  refine wpAnyK_pure (i := 42) (v := ?_) (op_at _ 42 _ rfl) (by kernel_rfl) (by kernel_rfl) (by kernel_rfl) (by kernel_rfl) (fun _ _ _ h => h) (Or.inl ⟨by rfl, ?_⟩) (Or.inl (by assumption)) ?_
  rotate_left 1
  focus (intro W hSw; go_simp; first | done | with_reducible rfl)
  (try simp only [Act.put, List.setIfInBounds_toArray, List.set_cons_zero, List.set_cons_succ])
  refine wpAnyK_pure (i := 43) (v := ?_) (op_at _ 43 _ rfl) (by kernel_rfl) (by kernel_rfl) (by kernel_rfl) (by kernel_rfl) (fun _ _ _ h => h) (Or.inl ⟨by rfl, ?_⟩) (Or.inl (by assumption)) ?_
  rotate_left 1
  focus (intro W hSw; go_simp; first | done | with_reducible rfl)
  (try simp only [Act.put, List.setIfInBounds_toArray, List.set_cons_zero, List.set_cons_succ])
  refine wpAnyK_take (i := 44) (v := ?_) (op_at _ 44 _ rfl) (by kernel_rfl) (by kernel_rfl) (by kernel_rfl) (by kernel_rfl) (fun _ _ _ h => h) (Or.inl ⟨by rfl, ?_⟩) (by assumption) ?_
  rotate_left 1
  focus (intro W hSw; obtain ⟨q1, q2, q3⟩ := hSw.1; go_simp; first | done | with_reducible rfl)
  (try simp only [Act.put, List.setIfInBounds_toArray, List.set_cons_zero, List.set_cons_succ])
  refine wpAnyK_pure (i := 45) (v := ?_) (op_at _ 45 _ rfl) (by kernel_rfl) (by kernel_rfl) (by kernel_rfl) (by kernel_rfl) (fun _ _ _ h => h) (Or.inl ⟨by rfl, ?_⟩) (Or.inl (by assumption)) ?_
  rotate_left 1
  focus (intro W hSw; go_simp; first | done | with_reducible rfl)
  (try simp only [Act.put, List.setIfInBounds_toArray, List.set_cons_zero, List.set_cons_succ])
  refine wpAnyK_pure (i := 46) (v := ?_) (op_at _ 46 _ rfl) (by kernel_rfl) (by kernel_rfl) (by kernel_rfl) (by kernel_rfl) (fun _ _ _ h => h) (Or.inl ⟨by rfl, ?_⟩) (Or.inl (by assumption)) ?_
  rotate_left 1
  focus (intro W hSw; go_simp; first | done | with_reducible rfl)
  (try simp only [Act.put, List.setIfInBounds_toArray, List.set_cons_zero, List.set_cons_succ])
  refine wpAnyK_pure (i := 47) (v := ?_) (op_at _ 47 _ rfl) (by kernel_rfl) (by kernel_rfl) (by kernel_rfl) (by kernel_rfl) (fun _ _ _ h => h) (Or.inl ⟨by rfl, ?_⟩) (Or.inl (by assumption)) ?_
  rotate_left 1
  focus (intro W hSw; go_simp; first | done | with_reducible rfl)
  (try simp only [Act.put, List.setIfInBounds_toArray, List.set_cons_zero, List.set_cons_succ])
  refine wpAnyK_done (by kernel_rfl) ?_ _
  go_wp2
  go_ret
  exact ⟨rfl, gt G18.out (Below.refl _ _)⟩

end Go.Proofs.Ytebjjibgkjgpgaa
