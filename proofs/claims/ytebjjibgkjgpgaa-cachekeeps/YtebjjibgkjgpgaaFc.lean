/- Pages that are put once each: the last ones are here; no statement of the seat is proved here. -/
import Derived.Test.YtebjjibgkjgpgaaFb
namespace Go.Proofs.Ytebjjibgkjgpgaa
open Go.RowKit Go.Maps

theorem shed_drop (p : Row → Bool) (x : Row) : ∀ (m : Nat) (a : List Row), (∀ r ∈ a, p r = true) → m ≤ a.length → shedL p m (a ++ [x]) = a.drop m ++ [x]
  | 0, a, _, _ => by rw [shedL_zero]; rfl
  | m + 1, [], _, h => by simp at h
  | m + 1, r :: a, hp, h => by
    rw [List.cons_append, shed_yes (by omega) (hp r (by simp))]
    exact shed_drop p x m a (fun r hr => hp r (by simp [hr])) (by simpa using h)

def lrow (xs : List Nat) (j : Nat) : Row := ⟨(j : Int) + 1, pageB (xs.getD j 0), 0, false⟩
def lastS (n : Nat) (xs : List Nat) (i : Nat) : CS := ⟨n, ((List.range i).map (lrow xs)).drop (i - n), 0, 0⟩

theorem last_len (n : Nat) (xs : List Nat) (i : Nat) : (lastS n xs i).l.length = i - (i - n) := by simp [lastS]
theorem last_mem {n : Nat} {xs : List Nat} {i : Nat} {r : Row} (h : r ∈ (lastS n xs i).l) : ∃ j, j < i ∧ r = lrow xs j := by
  have := List.mem_of_mem_drop h
  obtain ⟨j, hj, rfl⟩ := List.mem_map.1 this
  exact ⟨j, List.mem_range.1 hj, rfl⟩

theorem last_step (n : Nat) (xs : List Nat) (i : Nat) (hn : 1 ≤ n) : (lastS n xs i).put ((i : Int) + 1) (pageB (xs.getD i 0)) = lastS n xs (i + 1) := by
  have hno : ∀ r ∈ (lastS n xs i).l, r.page ≠ (i : Int) + 1 := fun r hr => by
    obtain ⟨j, hj, rfl⟩ := last_mem hr
    show (j : Int) + 1 ≠ (i : Int) + 1
    omega
  have e1 : (lastS n xs i).others ((i : Int) + 1) = (lastS n xs i).l := List.filter_eq_self.2 (fun r hr => by simpa using hno r hr)
  have e2 : (lastS n xs i).find ((i : Int) + 1) = none := List.find?_eq_none.2 (fun r hr => by simpa using hno r hr)
  have e3 : (lastS n xs i).putL ((i : Int) + 1) (pageB (xs.getD i 0)) = (lastS n xs i).l ++ [lrow xs i] := by
    unfold CS.putL CS.rowFor
    rw [e1, e2]
    rfl
  unfold CS.put
  rw [e3]
  have hl := last_len n xs i
  have hr : (lastS n xs i).room = n := rfl
  rw [List.length_append, hl, hr]
  show (⟨n, _, 0, 0⟩ : CS) = ⟨n, _, 0, 0⟩
  congr 1
  rw [shed_drop]
  · unfold lastS
    simp only [List.drop_drop]
    rw [List.range_succ, List.map_append, List.drop_append_of_le_length (by simp; omega)]
    congr 2
    simp
    omega
  · intro r hr
    obtain ⟨j, hj, rfl⟩ := last_mem hr
    simp only [p52, lrow, Bool.not_false, Bool.and_true, decide_true]
    simp
    omega
  · rw [hl]; simp; omega

theorem last_peek (n : Nat) (xs : List Nat) (N i : Nat) (hi : i < N) : (lastS n xs N).peek (1 + (i : Int)) = if N - n ≤ i then some (pageB (xs.getD i 0)) else none := by
  unfold CS.peek CS.find
  by_cases h : N - n ≤ i
  · rw [if_pos h]
    have e1 : (lastS n xs N).l.find? (fun r => r.page == 1 + (i : Int)) = some (lrow xs i) := by
      refine List.find?_eq_some_iff_getElem.2 ⟨by simp [lrow]; omega, i - (N - n), by rw [last_len]; omega, ?_, fun j hj => ?_⟩
      · simp [lastS, List.getElem_drop, show N - n + (i - (N - n)) = i by omega]
      · simp only [lastS, List.getElem_drop, List.getElem_map, List.getElem_range, lrow]
        simp; omega
    rw [e1]; rfl
  · rw [if_neg h]
    have e1 : (lastS n xs N).l.find? (fun r => r.page == 1 + (i : Int)) = none := by
      refine List.find?_eq_none.2 (fun r hr => ?_)
      obtain ⟨k, hk, rfl⟩ := List.mem_iff_getElem.1 hr
      simp only [lastS, List.getElem_drop, List.getElem_map, List.getElem_range, lrow]
      simp; omega
    rw [e1]; rfl

theorem op_at (l : List Oper) (i : Nat) (o : Oper) (h : l[i]? = some o) : l.toArray[i]? = some o := by simpa using h
theorem wf64 {x : Int} (h1 : -9223372036854775808 ≤ x) (h2 : x ≤ 9223372036854775807) : (Lit.int .i64 x).wf = true := by
  show (decide (IntKind.i64.min ≤ x) && decide (x ≤ IntKind.i64.max)) = true
  rw [Bool.and_eq_true]
  exact ⟨decide_eq_true h1, decide_eq_true h2⟩
theorem rd_own5 {w : World} {B n cap : Nat} {ao : Option Addr} {x : List Nat} (h : w.ownsRow B 5 1 (.slice ao n cap) n (bs x)) : Rd w ao n cap x := by
  obtain ⟨ao', cap', e, hr, _⟩ := rd_owned h
  simp only [Value.slice.injEq, true_and] at e
  obtain ⟨rfl, rfl⟩ := e
  exact hr

theorem OP.rd {w0 W : World} {c g : Nat} {s : CS} {x : List Nat} (h : OP w0 W c s g x) : Rd W (some ⟨g, 0, none⟩) 512 512 x := by obtain ⟨_, _, _, _, h, _⟩ := h; exact h
theorem OP.oc {w0 W : World} {c g : Nat} {s : CS} {x : List Nat} (h : OP w0 W c s g x) : OC w0 W c s := by obtain ⟨C, h1, h2, h3, _⟩ := h; exact ⟨C, h1, h2, h3⟩
theorem oc_page' (w0 W : World) (c : Nat) (s : CS) (x : Nat) (h : OC w0 W c s) : Calls Try.prog 20 #[.int .u8 (x : Int)] W fun e w' => e = .returned (.slice (some ⟨W.heap.size, 0, none⟩) 512 512) ∧ OP w0 w' c s W.heap.size (pageB x) ∧ Below W.heap.size W w' := by
  obtain ⟨C, h1, h2, h3⟩ := h
  refine (page_any x W).mono ?_
  rintro e w' ⟨hl, rfl, hr, hb, hs⟩
  exact ⟨rfl, ⟨C, h1.later hb, h2, gt h3 hb, hr, fun hS => by have := h1.lt hS; omega⟩, hb⟩

theorem new_oc (r : Nat) (w : World) (h1 : 1 ≤ r) (h2 : r ≤ 4096) : Calls Try.prog 9 #[.int .i64 (r : Int)] w fun e w' => ∃ c, e = .returned (.pointer (some ⟨c, 0, none⟩)) ∧ OC w w' c ⟨r, [], 0, 0⟩ := by
  refine (new_yes r w h1 h2).mono ?_
  rintro e w1 ⟨c, rfl, C0, g1, g2, g3, g4⟩
  exact ⟨c, rfl, C0, g1, g3, g4⟩

set_option maxRecDepth 20000 in
set_option maxHeartbeats 4000000 in
theorem last_short (r L cap : Nat) (ao : Option Addr) (xs : List Nat) (w : World) (hr : r < 256) (hx : Rd w ao L cap xs) (hL : L ≤ 100) :
    Calls Try.prog 5 #[.int .u8 (r : Int), .slice ao L cap] w fun e w' => e = .returned (.bool true) ∧ Below w.heap.size w w' := by
  obtain ⟨n, hn⟩ : ∃ n, n = 1 + r % 10 := ⟨_, rfl⟩
  have k0 := hid (new_oc n w (by omega) (by omega))
  have hcap := hx.2.1
  have HX := hid hx
  have hL2 : ¬ (100 : Int) < (L : Int) := by omega
  have hrn : 1 + (r : Int) % 10 = (n : Int) := by omega
  have hn1 : 1 ≤ n := by omega
  have hn2 : n ≤ 10 := by omega
  have kp := hid (fun W c s x h => oc_page w W c s x h)
  have kp2 := hid (fun W c s x h => oc_page' w W c s x h)
  have kq : Hid (∀ (i : Nat) W c g, i < L → OP w W c (lastS n xs i) g (pageB (xs.getD i 0)) → Calls Try.prog 16 #[.pointer (some ⟨c, 0, none⟩), .int .i64 (1 + (i : Int)), .slice (some ⟨g, 0, none⟩) 512 512] W fun e w' => e = .returned (.int .i64 0) ∧ OC w w' c (lastS n xs (i + 1))) := by
    refine hid fun i W c g hi h => ?_
    have q := oc_put w W c g _ ((i : Int) + 1) _ h (wf64 (by omega) (by omega)) (by omega) (by rw [last_len]; omega)
    rw [last_step n xs i hn1, Int.add_comm (i : Int) 1] at q
    exact q
  have kk : Hid (∀ (i : Nat) W c, i < L → OC w W c (lastS n xs L) → Calls Try.prog 18 #[.pointer (some ⟨c, 0, none⟩), .int .i64 (1 + (i : Int))] W fun e w' => Bytes (if L - n ≤ i then some (pageB (xs.getD i 0)) else none) W.heap.size w' e ∧ OC w w' c (lastS n xs L)) := by
    refine hid fun i W c hi h => ?_
    rw [← last_peek n xs L i hi]
    obtain ⟨C, g1, g2, g3⟩ := h
    refine (peek_call c C _ _ W g1 (wf64 (by omega) (by omega))).mono ?_
    rintro e w' ⟨h1, h2⟩
    exact ⟨h1, C, g1.later h2, g2, gt g3 h2⟩
  have kl := hid lives_any
  clear hx hn
  go_enter Try.func5, Try.ntmps5
  go_wp2_with (go_at_call 9; refine k0.out.mono ?_; rintro e w1 ⟨c, rfl, g1⟩; have G1 := hid g1; clear g1 k0)
  go_loopg [25] L (fun k v W => ∃ i : Nat, i + k = L ∧ v = .int .i64 (i : Int) ∧ Hid (OC w W c (lastS n xs i)))
  case atStart => exact ⟨0, by omega, rfl, hid (by have q := G1.out; rw [show (⟨n, [], 0, 0⟩ : CS) = lastS n xs 0 by simp [lastS]] at q; exact q)⟩
  case round =>
    clear G1
    obtain ⟨i, hik, rfl, HO⟩ := hrel
    by_cases hi : i < L
    · obtain ⟨b, o, rfl, x1⟩ := (HX.out.keep HO.out.bl).2.2.2 (by omega)
      have y1 := x1 i hi
      have hi1 : (i : Int) < (L : Int) := by omega
      have kq1 := hid (fun W g => kq.out i W c g hi)
      clear x1
      go_wp2_with (first
        | (go_at_call 20; refine (kp.out _ _ _ _ HO.out).mono ?_; rintro e w2 ⟨rfl, g2⟩; have G2 := hid g2; clear g2)
        | (go_at_call 16; refine (kq1.out _ _ G2.out).mono ?_; rintro e w3 ⟨rfl, g3⟩; have G3 := hid g3; clear g3))
      go_roundg (gk - 1)
      case measure => omega
      case rel => exact ⟨i + 1, by omega, by simp, G3⟩
    · obtain rfl : i = L := by omega
      have hi1 : ¬ (i : Int) < (i : Int) := by omega
      go_wp2
      go_loopg [40] i (fun k v W => ∃ j : Nat, j + k = i ∧ v = .int .i64 (j : Int) ∧ Hid (OC w W c (lastS n xs i)))
      case atStart => exact ⟨0, by omega, rfl, HO⟩
      case round =>
        clear HO
        obtain ⟨j, hjk, rfl, HO⟩ := hrel
        by_cases hj : j < i
        · obtain ⟨b, o, rfl, x1⟩ := (HX.out.keep HO.out.bl).2.2.2 (by omega)
          have y1 := x1 j hj
          have hj1 : (j : Int) < (i : Int) := by omega
          have kk1 := hid (kk.out j wr c hj HO.out)
          have hwr : IntKind.i64.wrap ((i : Int) - (n : Int)) = (i : Int) - (n : Int) := by rw [IntWalk.i64_in _ ⟨by omega, by omega⟩]
          obtain ⟨X, hX⟩ : ∃ X, X = xs.getD j 0 := ⟨_, rfl⟩
          rw [← hX] at kk1 y1
          clear x1 hX
          by_cases hd : i - n ≤ j
          · rw [if_pos hd] at kk1
            have hd1 : (i : Int) - (n : Int) ≤ (j : Int) := by omega
            go_wp2_with (go_at_call 18; refine kk1.out.mono ?_; rintro e w2 ⟨⟨hl5, a5, c5, rfl, h5⟩, g2⟩; have G2 := hid g2; have H5 := hid h5; have HRD := hid (rd_own5 h5); clear g2 h5)
            refine wp_region_K (S := fun W => Rd W a5 512 c5 (pageB X)) (fun _ => false) (by kernel_rfl) (HRD.out) (fun hHeld => ?_)
            refine wpAnyK_pure (i := 0) (v := ?_) (op_at _ 0 _ rfl) (by kernel_rfl) (by kernel_rfl) (by kernel_rfl) (by kernel_rfl) (fun _ _ _ h => h) (Or.inl ⟨by rfl, ?_⟩) (Or.inl (by assumption)) ?_
            rotate_left 1
            focus (intro W hSw; go_simp; first | done | with_reducible rfl)
            (try simp only [Act.put, List.setIfInBounds_toArray, List.set_cons_zero, List.set_cons_succ])
            refine wpAnyK_pure (i := 1) (v := ?_) (op_at _ 1 _ rfl) (by kernel_rfl) (by kernel_rfl) (by kernel_rfl) (by kernel_rfl) (fun _ _ _ h => h) (Or.inl ⟨by rfl, ?_⟩) (Or.inl (by assumption)) ?_
            rotate_left 1
            focus (intro W hSw; go_simp; first | done | with_reducible rfl)
            (try simp only [Act.put, List.setIfInBounds_toArray, List.set_cons_zero, List.set_cons_succ])
            refine wpAnyK_pure (i := 2) (v := ?_) (op_at _ 2 _ rfl) (by kernel_rfl) (by kernel_rfl) (by kernel_rfl) (by kernel_rfl) (fun _ _ _ h => h) (Or.inl ⟨by rfl, ?_⟩) (Or.inl (by assumption)) ?_
            rotate_left 1
            focus (intro W hSw; go_simp; first | done | with_reducible rfl)
            (try simp only [Act.put, List.setIfInBounds_toArray, List.set_cons_zero, List.set_cons_succ])
            refine wpAnyK_pure (i := 3) (v := ?_) (op_at _ 3 _ rfl) (by kernel_rfl) (by kernel_rfl) (by kernel_rfl) (by kernel_rfl) (fun _ _ _ h => h) (Or.inl ⟨by rfl, ?_⟩) (Or.inl (by assumption)) ?_
            rotate_left 1
            focus (intro W hSw; go_simp; first | done | with_reducible rfl)
            (try simp only [Act.put, List.setIfInBounds_toArray, List.set_cons_zero, List.set_cons_succ])
            refine wpAnyK_pure (i := 4) (v := ?_) (op_at _ 4 _ rfl) (by kernel_rfl) (by kernel_rfl) (by kernel_rfl) (by kernel_rfl) (fun _ _ _ h => h) (Or.inl ⟨by rfl, ?_⟩) (Or.inl (by assumption)) ?_
            rotate_left 1
            focus (intro W hSw; go_simp; first | done | with_reducible rfl)
            (try simp only [Act.put, List.setIfInBounds_toArray, List.set_cons_zero, List.set_cons_succ])
            refine wpAnyK_pure (i := 5) (v := .int .i64 ((i : Int) - (n : Int))) (op_at _ 5 _ rfl) (by kernel_rfl) (by kernel_rfl) (by kernel_rfl) (by kernel_rfl) (fun _ _ _ h => h) (Or.inl ⟨by rfl, ?_⟩) (Or.inl (by assumption)) ?_
            focus (intro W hSw; go_simp; first | done | with_reducible rfl | omega | (simp; omega))
            (try simp only [Act.put, List.setIfInBounds_toArray, List.set_cons_zero, List.set_cons_succ])
            refine wpAnyK_pure (i := 6) (v := .bool true) (op_at _ 6 _ rfl) (by kernel_rfl) (by kernel_rfl) (by kernel_rfl) (by kernel_rfl) (fun _ _ _ h => h) (Or.inl ⟨by rfl, ?_⟩) (Or.inl (by assumption)) ?_
            focus (intro W hSw; go_simp; first | done | with_reducible rfl | omega | (simp; omega))
            (try simp only [Act.put, List.setIfInBounds_toArray, List.set_cons_zero, List.set_cons_succ])
            refine wpAnyK_pure (i := 7) (v := .bool false) (op_at _ 7 _ rfl) (by kernel_rfl) (by kernel_rfl) (by kernel_rfl) (by kernel_rfl) (fun _ _ _ h => h) (Or.inl ⟨by rfl, ?_⟩) (Or.inl (by assumption)) ?_
            focus (intro W hSw; go_simp; first | done | with_reducible rfl | omega | (simp; omega))
            (try simp only [Act.put, List.setIfInBounds_toArray, List.set_cons_zero, List.set_cons_succ])
            refine wpAnyK_pure (i := 8) (v := .bool false) (op_at _ 8 _ rfl) (by kernel_rfl) (by kernel_rfl) (by kernel_rfl) (by kernel_rfl) (fun _ _ _ h => h) (Or.inl ⟨by rfl, ?_⟩) (Or.inl (by assumption)) ?_
            focus (intro W hSw; go_simp; first | done | with_reducible rfl | omega | (simp; omega))
            (try simp only [Act.put, List.setIfInBounds_toArray, List.set_cons_zero, List.set_cons_succ])
            refine wpAnyK_pure (i := 9) (v := ?_) (op_at _ 9 _ rfl) (by kernel_rfl) (by kernel_rfl) (by kernel_rfl) (by kernel_rfl) (fun _ _ _ h => h) (Or.inl ⟨by rfl, ?_⟩) (Or.inl (by assumption)) ?_
            rotate_left 1
            focus (intro W hSw; go_simp; first | done | with_reducible rfl)
            (try simp only [Act.put, List.setIfInBounds_toArray, List.set_cons_zero, List.set_cons_succ])
            refine wpAnyK_pure (i := 10) (v := ?_) (op_at _ 10 _ rfl) (by kernel_rfl) (by kernel_rfl) (by kernel_rfl) (by kernel_rfl) (fun _ _ _ h => h) (Or.inl ⟨by rfl, ?_⟩) (Or.inl (by assumption)) ?_
            rotate_left 1
            focus (intro W hSw; go_simp; first | done | with_reducible rfl)
            (try simp only [Act.put, List.setIfInBounds_toArray, List.set_cons_zero, List.set_cons_succ])
            refine wpAnyK_pure (i := 11) (v := ?_) (op_at _ 11 _ rfl) (by kernel_rfl) (by kernel_rfl) (by kernel_rfl) (by kernel_rfl) (fun _ _ _ h => h) (Or.inl ⟨by rfl, ?_⟩) (Or.inl (by assumption)) ?_
            rotate_left 1
            focus (intro W hSw; go_simp; first | done | with_reducible rfl)
            (try simp only [Act.put, List.setIfInBounds_toArray, List.set_cons_zero, List.set_cons_succ])
            refine wpAnyK_take (i := 12) (v := ?_) (op_at _ 12 _ rfl) (by kernel_rfl) (by kernel_rfl) (by kernel_rfl) (by kernel_rfl) (fun _ _ _ h => h) (Or.inl ⟨by rfl, ?_⟩) (by assumption) ?_
            rotate_left 1
            focus (intro W hSw; have hcv := conv_rd hSw 38 9 5 Try.underlying38 Try.underlying5 Try.underlying9; go_simp; first | done | with_reducible rfl)
            (try simp only [Act.put, List.setIfInBounds_toArray, List.set_cons_zero, List.set_cons_succ])
            refine wpAnyK_pure (i := 13) (v := ?_) (op_at _ 13 _ rfl) (by kernel_rfl) (by kernel_rfl) (by kernel_rfl) (by kernel_rfl) (fun _ _ _ h => h) (Or.inl ⟨by rfl, ?_⟩) (Or.inl (by assumption)) ?_
            rotate_left 1
            focus (intro W hSw; go_simp; first | done | with_reducible rfl)
            (try simp only [Act.put, List.setIfInBounds_toArray, List.set_cons_zero, List.set_cons_succ])
            refine wpAnyK_ready (rs := [14]) (by kernel_rfl) (by simp) ?_
            refine AllReadyK.cons (op_at _ 14 _ rfl) (fun K hK => ?_) AllReadyK.nil
            go_simp
            refine (kp2.out _ _ _ X (G2.out.later ((Below.refl _ _).drew))).mono ?_; rintro e w4 ⟨rfl, g4, hb4⟩; have hR := hHeld.keep hb4; have HB4 := hid hb4; clear hb4; have hcv2 : (convert 38 9 (.slice (some ⟨w2.heap.size, 0, none⟩) 512 512)).run Try.prog w4 = .ok (.string (str (pageB X))) w4 := conv_rd g4.rd 38 9 5 Try.underlying38 Try.underlying5 Try.underlying9; have G4 := hid g4; clear g4
            refine hK.out _ _ hR (fun hHeld => ?_)
            clear hK K
            (try simp only [Act.put, List.setIfInBounds_toArray, List.set_cons_zero, List.set_cons_succ])
            refine wpAnyK_ready (rs := [15]) (by kernel_rfl) (by simp) ?_
            refine AllReadyK.cons (op_at _ 15 _ rfl) (fun K hK => ?_) AllReadyK.nil
            go_simp
            refine hK.out _ _ hR (fun hHeld => ?_)
            clear hK K
            (try simp only [Act.put, List.setIfInBounds_toArray, List.set_cons_zero, List.set_cons_succ])
            refine wpAnyK_pure (i := 16) (v := ?_) (op_at _ 16 _ rfl) (by kernel_rfl) (by kernel_rfl) (by kernel_rfl) (by kernel_rfl) (fun _ _ _ h => h) (Or.inl ⟨by rfl, ?_⟩) (Or.inl (by assumption)) ?_
            rotate_left 1
            focus (intro W hSw; go_simp; first | done | with_reducible rfl)
            (try simp only [Act.put, List.setIfInBounds_toArray, List.set_cons_zero, List.set_cons_succ])
            refine wpAnyK_pure (i := 17) (v := ?_) (op_at _ 17 _ rfl) (by kernel_rfl) (by kernel_rfl) (by kernel_rfl) (by kernel_rfl) (fun _ _ _ h => h) (Or.inl ⟨by rfl, ?_⟩) (Or.inl (by assumption)) ?_
            rotate_left 1
            focus (intro W hSw; go_simp; first | done | with_reducible rfl)
            (try simp only [Act.put, List.setIfInBounds_toArray, List.set_cons_zero, List.set_cons_succ])
            refine wpAnyK_pure (i := 18) (v := ?_) (op_at _ 18 _ rfl) (by kernel_rfl) (by kernel_rfl) (by kernel_rfl) (by kernel_rfl) (fun _ _ _ h => h) (Or.inl ⟨by rfl, ?_⟩) (Or.inl (by assumption)) ?_
            rotate_left 1
            focus (intro W hSw; go_simp; first | done | with_reducible rfl)
            (try simp only [Act.put, List.setIfInBounds_toArray, List.set_cons_zero, List.set_cons_succ])
            refine wpAnyK_done (by kernel_rfl) ?_ _
            go_wp2
            go_roundg (gk - 1)
            case measure => omega
            case rel => exact ⟨j + 1, by omega, by simp, hid G4.out.oc⟩
          · rw [if_neg hd] at kk1
            have hd1 : ¬ (i : Int) - (n : Int) ≤ (j : Int) := by omega
            go_wp2_with (go_at_call 18; refine kk1.out.mono ?_; rintro e w2 ⟨h5, g2⟩; obtain rfl := h5; have G2 := hid g2; clear g2)
            refine wp_region_K (S := fun _ => True) (fun _ => false) (by kernel_rfl) trivial (fun hHeld => ?_)
            refine wpAnyK_pure (i := 0) (v := ?_) (op_at _ 0 _ rfl) (by kernel_rfl) (by kernel_rfl) (by kernel_rfl) (by kernel_rfl) (fun _ _ _ h => h) (Or.inl ⟨by rfl, ?_⟩) (Or.inl (by assumption)) ?_
            rotate_left 1
            focus (intro W hSw; go_simp; first | done | with_reducible rfl)
            (try simp only [Act.put, List.setIfInBounds_toArray, List.set_cons_zero, List.set_cons_succ])
            refine wpAnyK_pure (i := 1) (v := ?_) (op_at _ 1 _ rfl) (by kernel_rfl) (by kernel_rfl) (by kernel_rfl) (by kernel_rfl) (fun _ _ _ h => h) (Or.inl ⟨by rfl, ?_⟩) (Or.inl (by assumption)) ?_
            rotate_left 1
            focus (intro W hSw; go_simp; first | done | with_reducible rfl)
            (try simp only [Act.put, List.setIfInBounds_toArray, List.set_cons_zero, List.set_cons_succ])
            refine wpAnyK_pure (i := 2) (v := ?_) (op_at _ 2 _ rfl) (by kernel_rfl) (by kernel_rfl) (by kernel_rfl) (by kernel_rfl) (fun _ _ _ h => h) (Or.inl ⟨by rfl, ?_⟩) (Or.inl (by assumption)) ?_
            rotate_left 1
            focus (intro W hSw; go_simp; first | done | with_reducible rfl)
            (try simp only [Act.put, List.setIfInBounds_toArray, List.set_cons_zero, List.set_cons_succ])
            refine wpAnyK_pure (i := 3) (v := ?_) (op_at _ 3 _ rfl) (by kernel_rfl) (by kernel_rfl) (by kernel_rfl) (by kernel_rfl) (fun _ _ _ h => h) (Or.inl ⟨by rfl, ?_⟩) (Or.inl (by assumption)) ?_
            rotate_left 1
            focus (intro W hSw; go_simp; first | done | with_reducible rfl)
            (try simp only [Act.put, List.setIfInBounds_toArray, List.set_cons_zero, List.set_cons_succ])
            refine wpAnyK_pure (i := 4) (v := ?_) (op_at _ 4 _ rfl) (by kernel_rfl) (by kernel_rfl) (by kernel_rfl) (by kernel_rfl) (fun _ _ _ h => h) (Or.inl ⟨by rfl, ?_⟩) (Or.inl (by assumption)) ?_
            rotate_left 1
            focus (intro W hSw; go_simp; first | done | with_reducible rfl)
            (try simp only [Act.put, List.setIfInBounds_toArray, List.set_cons_zero, List.set_cons_succ])
            refine wpAnyK_pure (i := 5) (v := .int .i64 ((i : Int) - (n : Int))) (op_at _ 5 _ rfl) (by kernel_rfl) (by kernel_rfl) (by kernel_rfl) (by kernel_rfl) (fun _ _ _ h => h) (Or.inl ⟨by rfl, ?_⟩) (Or.inl (by assumption)) ?_
            focus (intro W hSw; go_simp; first | done | with_reducible rfl | omega | (simp; omega))
            (try simp only [Act.put, List.setIfInBounds_toArray, List.set_cons_zero, List.set_cons_succ])
            refine wpAnyK_pure (i := 6) (v := .bool false) (op_at _ 6 _ rfl) (by kernel_rfl) (by kernel_rfl) (by kernel_rfl) (by kernel_rfl) (fun _ _ _ h => h) (Or.inl ⟨by rfl, ?_⟩) (Or.inl (by assumption)) ?_
            focus (intro W hSw; go_simp; first | done | with_reducible rfl | omega | (simp; omega))
            (try simp only [Act.put, List.setIfInBounds_toArray, List.set_cons_zero, List.set_cons_succ])
            refine wpAnyK_pure (i := 7) (v := .bool false) (op_at _ 7 _ rfl) (by kernel_rfl) (by kernel_rfl) (by kernel_rfl) (by kernel_rfl) (fun _ _ _ h => h) (Or.inl ⟨by rfl, ?_⟩) (Or.inl (by assumption)) ?_
            focus (intro W hSw; go_simp; first | done | with_reducible rfl | omega | (simp; omega))
            (try simp only [Act.put, List.setIfInBounds_toArray, List.set_cons_zero, List.set_cons_succ])
            refine wpAnyK_pure (i := 8) (v := .bool false) (op_at _ 8 _ rfl) (by kernel_rfl) (by kernel_rfl) (by kernel_rfl) (by kernel_rfl) (fun _ _ _ h => h) (Or.inl ⟨by rfl, ?_⟩) (Or.inl (by assumption)) ?_
            focus (intro W hSw; go_simp; first | done | with_reducible rfl | omega | (simp; omega))
            (try simp only [Act.put, List.setIfInBounds_toArray, List.set_cons_zero, List.set_cons_succ])
            refine wpAnyK_pure (i := 9) (v := ?_) (op_at _ 9 _ rfl) (by kernel_rfl) (by kernel_rfl) (by kernel_rfl) (by kernel_rfl) (fun _ _ _ h => h) (Or.inl ⟨by rfl, ?_⟩) (Or.inl (by assumption)) ?_
            rotate_left 1
            focus (intro W hSw; go_simp; first | done | with_reducible rfl)
            (try simp only [Act.put, List.setIfInBounds_toArray, List.set_cons_zero, List.set_cons_succ])
            refine wpAnyK_pure (i := 10) (v := ?_) (op_at _ 10 _ rfl) (by kernel_rfl) (by kernel_rfl) (by kernel_rfl) (by kernel_rfl) (fun _ _ _ h => h) (Or.inl ⟨by rfl, ?_⟩) (Or.inl (by assumption)) ?_
            rotate_left 1
            focus (intro W hSw; go_simp; first | done | with_reducible rfl)
            (try simp only [Act.put, List.setIfInBounds_toArray, List.set_cons_zero, List.set_cons_succ])
            refine wpAnyK_pure (i := 11) (v := undef) (op_at _ 11 _ rfl) (by kernel_rfl) (by kernel_rfl) (by kernel_rfl) (by kernel_rfl) (fun _ _ _ h => h) (Or.inr ⟨by kernel_rfl, rfl⟩) (Or.inl (by assumption)) ?_
            (try simp only [Act.put, List.setIfInBounds_toArray, List.set_cons_zero, List.set_cons_succ])
            refine wpAnyK_pure (i := 12) (v := undef) (op_at _ 12 _ rfl) (by kernel_rfl) (by kernel_rfl) (by kernel_rfl) (by kernel_rfl) (fun _ _ _ h => h) (Or.inr ⟨by kernel_rfl, rfl⟩) (Or.inl (by assumption)) ?_
            (try simp only [Act.put, List.setIfInBounds_toArray, List.set_cons_zero, List.set_cons_succ])
            refine wpAnyK_pure (i := 13) (v := undef) (op_at _ 13 _ rfl) (by kernel_rfl) (by kernel_rfl) (by kernel_rfl) (by kernel_rfl) (fun _ _ _ h => h) (Or.inr ⟨by kernel_rfl, rfl⟩) (Or.inl (by assumption)) ?_
            (try simp only [Act.put, List.setIfInBounds_toArray, List.set_cons_zero, List.set_cons_succ])
            refine wpAnyK_pure (i := 14) (v := undef) (op_at _ 14 _ rfl) (by kernel_rfl) (by kernel_rfl) (by kernel_rfl) (by kernel_rfl) (fun _ _ _ h => h) (Or.inr ⟨by kernel_rfl, rfl⟩) (Or.inl (by assumption)) ?_
            (try simp only [Act.put, List.setIfInBounds_toArray, List.set_cons_zero, List.set_cons_succ])
            refine wpAnyK_pure (i := 15) (v := undef) (op_at _ 15 _ rfl) (by kernel_rfl) (by kernel_rfl) (by kernel_rfl) (by kernel_rfl) (fun _ _ _ h => h) (Or.inr ⟨by kernel_rfl, rfl⟩) (Or.inl (by assumption)) ?_
            (try simp only [Act.put, List.setIfInBounds_toArray, List.set_cons_zero, List.set_cons_succ])
            refine wpAnyK_pure (i := 16) (v := undef) (op_at _ 16 _ rfl) (by kernel_rfl) (by kernel_rfl) (by kernel_rfl) (by kernel_rfl) (fun _ _ _ h => h) (Or.inr ⟨by kernel_rfl, rfl⟩) (Or.inl (by assumption)) ?_
            (try simp only [Act.put, List.setIfInBounds_toArray, List.set_cons_zero, List.set_cons_succ])
            refine wpAnyK_pure (i := 17) (v := ?_) (op_at _ 17 _ rfl) (by kernel_rfl) (by kernel_rfl) (by kernel_rfl) (by kernel_rfl) (fun _ _ _ h => h) (Or.inl ⟨by rfl, ?_⟩) (Or.inl (by assumption)) ?_
            rotate_left 1
            focus (intro W hSw; go_simp; first | done | with_reducible rfl)
            (try simp only [Act.put, List.setIfInBounds_toArray, List.set_cons_zero, List.set_cons_succ])
            refine wpAnyK_pure (i := 18) (v := ?_) (op_at _ 18 _ rfl) (by kernel_rfl) (by kernel_rfl) (by kernel_rfl) (by kernel_rfl) (fun _ _ _ h => h) (Or.inl ⟨by rfl, ?_⟩) (Or.inl (by assumption)) ?_
            rotate_left 1
            focus (intro W hSw; go_simp; first | done | with_reducible rfl)
            (try simp only [Act.put, List.setIfInBounds_toArray, List.set_cons_zero, List.set_cons_succ])
            refine wpAnyK_done (by kernel_rfl) ?_ _
            go_wp2
            go_roundg (gk - 1)
            case measure => omega
            case rel => exact ⟨j + 1, by omega, by simp, hid (G2.out.later ((Below.refl _ _).drew))⟩
        · obtain rfl : j = i := by omega
          have hj1 : ¬ (j : Int) < (j : Int) := by omega
          go_wp2_with (go_at_call 8; refine (kl.out _).mono ?_; rintro e w2 ⟨rfl, h2⟩; have H2 := hid h2; clear h2)
          go_ret
          exact ⟨rfl, gt HO.out.bl H2.out⟩

set_option maxHeartbeats 1000000 in
theorem last_long (r L cap : Nat) (ao : Option Addr) (w : World) (hL : 100 < L) :
    Calls Try.prog 5 #[.int .u8 (r : Int), .slice ao L cap] w fun e w' => e = .returned (.bool true) ∧ Below w.heap.size w w' := by
  have hL2 : (100 : Int) < (L : Int) := by omega
  have kl := hid lives_any
  go_enter Try.func5, Try.ntmps5
  go_wp2_with (go_at_call 8; refine (kl.out _).mono ?_; rintro e w2 ⟨rfl, h2⟩; have H2 := hid h2; clear h2)
  go_ret
  exact ⟨rfl, H2.out⟩

end Go.Proofs.Ytebjjibgkjgpgaa
