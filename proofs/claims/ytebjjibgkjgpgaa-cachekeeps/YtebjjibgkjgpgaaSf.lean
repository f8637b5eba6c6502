/- The law CacheKeeps returns true and turns nothing that was there, whatever it is called with; the walk alone. -/
import Derived.Test.YtebjjibgkjgpgaaSg
namespace Go.Proofs.Ytebjjibgkjgpgaa
open Go.RowKit Go.Maps

theorem did_room (s : CS) (x : Av) : (s.did x).room = s.room := by
  unfold CS.did
  repeat' split
  all_goals first
    | rfl
    | (unfold CS.get; split <;> rfl)
    | (unfold CS.pin; split <;> rfl)
    | (unfold CS.free; split <;> first | rfl | (split <;> rfl))
    | (unfold CS.mark; split <;> rfl)
    | (unfold CS.drop; split <;> first | rfl | (split <;> rfl))
theorem Box.step {W W' : World} {c xb : Nat} {x : Av} {C C' : Parts} {s s' : CS} (h : Box xb x W) (hc : CP W c C s) (st : Step W W' c C C' s') : Box xb x W' := (st.fr.blk _ h.lt (fun hS => by
  rcases hc.kind hS with ⟨es, cl, h3⟩ | ⟨cur', t', h3, h4⟩
  · rw [h] at h3; cases h3
  · rw [h] at h3; cases h3; rcases h4 with h' | h' <;> exact absurd h' (by decide))).trans h
theorem own3_step {W W' : World} {c B n cap : Nat} {ao : Option Addr} {xs : List Value} {C C' : Parts} {s s' : CS} (h : W.ownsRow B 3 1 (.slice ao n cap) n xs) (hc : CP W c C s) (st : Step W W' c C C' s') : W'.ownsRow B 3 1 (.slice ao n cap) n xs := by
  refine ⟨h.1, ?_⟩
  rcases h.2 with hn | ⟨g, cap', cur, hv, hb', hg, hr⟩
  · exact .inl hn
  · refine .inr ⟨g, cap', cur, hv, hb', (st.fr.blk _ (Array.getElem?_eq_some_iff.1 hg).1 (fun hS => ?_)).trans hg, hr⟩
    rcases hc.kind hS with ⟨es, cl, h3⟩ | ⟨cur', t', h3, h4⟩
    · rw [hg] at h3; cases h3
    · rw [hg] at h3; cases h3; rcases h4 with h' | h' <;> exact absurd h' (by decide)

theorem CP.grown3 {W W' : World} {c B n : Nat} {v : Value} {xs : List Value} {C : Parts} {s : CS} (h : CP W c C s) (ho : W.ownsRow B 3 1 v n xs) (hg : W.grownBy W' v.ownBlock) : CP W' c C s := by
  refine h.stay (fun k hk hS => hg.block k hk (fun h0 => ?_))
  rcases ho.2 with ⟨hv, _⟩ | ⟨g, cap', cur, hv, _, hgb, _⟩
  · rw [hv] at h0; simp [Value.ownBlock] at h0
  · rw [hv] at h0
    have h1 : k = g := by simpa [Value.ownBlock] using h0
    subst h1
    rcases h.kind hS with ⟨es, cl, h3⟩ | ⟨cur', t', h3, h4⟩
    · rw [hgb] at h3; cases h3
    · rw [hgb] at h3; cases h3; rcases h4 with h' | h' <;> exact absurd h' (by decide)
theorem Box.grown3 {W W' : World} {xb B n : Nat} {v : Value} {xs : List Value} {x : Av} (h : Box xb x W) (ho : W.ownsRow B 3 1 v n xs) (hg : W.grownBy W' v.ownBlock) : Box xb x W' := by
  refine (hg.block xb h.lt (fun h0 => ?_)).trans h
  rcases ho.2 with ⟨hv, _⟩ | ⟨g, cap', cur, hv, _, hgb, _⟩
  · rw [hv] at h0; simp [Value.ownBlock] at h0
  · rw [hv] at h0
    have h1 : xb = g := by simpa [Value.ownBlock] using h0
    subst h1
    rw [h] at hgb; cases hgb
theorem oc_grown {w W W' : World} {c B n : Nat} {v : Value} {xs : List Value} {s : CS} (h : OC w W c s) (ho : W.ownsRow B 3 1 v n xs) (hg : W.grownBy W' v.ownBlock) (hB : w.heap.size ≤ B) (hBW : B ≤ W.heap.size) : OC w W' c s := by
  obtain ⟨C, h1, h2, h3⟩ := h
  have hb : Below B W W' := (Below.refl B W).grown hg hBW (fun k hk => (ho.lt k hk).1)
  exact ⟨C, h1.grown3 ho hg, h2, h3.trans (hb.mono hB)⟩
theorem mem_take_succ {l : List Int} {j : Nat} (hj : j < l.length) (p : Int) : decide (p ∈ l.take (j + 1)) = (decide (p ∈ l.take j) || (p == l[j])) := by
  rw [List.take_add_one, List.getElem?_eq_getElem hj, Bool.eq_iff_iff]
  simp only [Option.toList_some, decide_eq_true_eq, Bool.or_eq_true, List.mem_append, List.mem_singleton, beq_iff_eq]

set_option maxHeartbeats 1000000 in
set_option maxRecDepth 20000 in
theorem keeps_long (r : Nat) (lo : Option Addr) (L C : Nat) (w : World) (hL : 150 < L) :
    Calls Try.prog 4 #[.int .u8 (r : Int), .slice lo L C] w fun e w' => e = .returned (.bool true) ∧ Below w.heap.size w w' := by
  have h1 : (150 : Int) < (L : Int) := by omega
  go_enter Try.func4, Try.ntmps4
  go_wp2_with (go_at_call 8; refine (lives_any _).mono ?_; rintro e w3 ⟨rfl, hb3⟩; replace hb3 := hid hb3)
  go_ret
  exact ⟨rfl, hb3.out⟩

set_option maxHeartbeats 8000000 in
set_option maxRecDepth 20000 in
theorem keeps_short (r : Nat) (lo : Option Addr) (L C : Nat) (X : Nat → Av) (w : World) (hr : r < 256) (h : ActsV w lo L X) (hL : L ≤ 150) :
    Calls Try.prog 4 #[.int .u8 (r : Int), .slice lo L C] w fun e w' => e = .returned (.bool true) ∧ Below w.heap.size w w' := by
  obtain ⟨n, hn⟩ : ∃ n, n = 1 + r % 6 := ⟨_, rfl⟩
  have k0 := hid (new_oc n w (by omega) (by omega))
  have h1 : ¬ (150 : Int) < (L : Int) := by omega
  have hrn : 1 + (r : Int) % 6 = (n : Int) := by omega
  have hn1 : 1 ≤ n := by omega
  have hn2 : n ≤ 6 := by omega
  have H := hid h
  clear h hn
  go_enter Try.func4, Try.ntmps4
  go_wp2_with (go_at_call 9; refine k0.out.mono ?_; rintro e w1 ⟨c, rfl, g1⟩; have G1 := hid g1; clear g1 k0)
  go_loopg [34] L (fun k v W => ∃ (i : Nat) (s : CS), i + k = L ∧ v = .int .i64 (i : Int) ∧ Hid (OC w W c s) ∧ Hid (OkS i s) ∧ Hid (s.room = n))
  case atStart => exact ⟨0, _, by omega, rfl, G1, hid (ok_new n), hid rfl⟩
  case round =>
    clear G1
    obtain ⟨i, s, hik, rfl, HO, HOK, HRM⟩ := hrel
    by_cases hiL : i < L
    · obtain ⟨wq, hwq⟩ : ∃ x, x = wr := ⟨_, rfl⟩
      subst hwq
      obtain ⟨b, off, rfl, hacts⟩ := H.out (by omega)
      have hiL' : (i : Int) < (L : Int) := by omega
      obtain ⟨c0, c1, c2, c3, ok⟩ := keep_acts HO.out.bl hacts i hiL
      have OK := hid ok
      have hbl : b < wq.heap.size := lt_cell c0
      have hbl' : ¬ b = wq.heap.size := by omega
      clear hacts ok
      obtain ⟨W0, hW0⟩ : ∃ W0, W0 = wq.alloc (.cells #[.int .i64 (X i).k, .int .i64 (X i).p, .int .u8 ((X i).s : Int), .bool (X i).sh] 29) := ⟨_, rfl⟩
      have hb0 : Below wq.heap.size wq W0 := by rw [hW0]; exact (Below.refl _ _).alloc (Nat.le_refl _) _
      have hx0 : Box wq.heap.size (X i) W0 := by rw [hW0]; exact Box.new wq (X i)
      obtain ⟨C0, cp0, cn0, bl0⟩ := HO.out.later hb0
      have CP0 := hid cp0; have CN0 := hid cn0; have BL0 := hid bl0; have BX0 := hid hx0
      obtain ⟨ld, hld⟩ : ∃ k, k = s.dirt.length := ⟨_, rfl⟩
      obtain ⟨lq, hlq⟩ : ∃ k, k = (s.l.map Row.page).length := ⟨_, rfl⟩
      have hlb : lq ≤ 150 := by rw [hlq]; simp; have := HOK.out.len; omega
      have hdb : ld ≤ 150 := by
        have q1 : s.dirt.length = (told Row.dirty s.l).length := by unfold CS.dirt; exact rise_length _
        have q2 : (told Row.dirty s.l).length ≤ s.l.length := by unfold told; simp; exact List.length_filter_le _ _
        have := HOK.out.len; omega
      have hcl : C0.ks.length ≤ 1000000 := by rw [cp0.klen]; have := HOK.out.len; omega
      have HCL := hid hcl; have HLD := hid hld; have HLQ := hid hlq; have HND := hid cp0.pg; have HW0 := hid hW0
      clear hW0 hb0 hx0 cp0 cn0 bl0 hld hlq hcl
      go_wp2_with (first
        | (go_at_call 13; rw [← HW0.out]; refine (dirty_call c C0 s W0 CP0.out HCL.out).mono ?_; rintro e wa ⟨aD, kD, rfl, ho, hb⟩; rw [← HLD.out] at ho ⊢; have OD := hid ho; have CP1 := hid (CP0.out.later hb); have BL1 := hid (gt BL0.out hb); have BX1 := hid (BX0.out.later hb); have hz0 := hb.size; have HZ0 := hid hz0; clear ho hb hz0)
        | (go_at_call 14; refine (order_call c C0 s wa CP1.out HCL.out).mono ?_; rintro e wb ⟨aO, kO, rfl, ho, hb⟩; rw [← HLQ.out] at ho ⊢; have OO := hid (rdI_own ho); have hko := own_cap ho; have OD2 := hid (own4_later OD.out hb); have HZ1 := hid hb.size; have CP2 := hid (CP1.out.later hb); have BL2 := hid (gt BL1.out hb); have BX2 := hid (BX1.out.later hb); clear ho hb OD CP1 BL1 BX1 CP0 BX0))
      go_loopg [10, 43] lq (fun q d v W => ∃ (j : Nat) (ap : Option Addr) (np kp : Nat), j + q = lq ∧ v = .int .i64 (j : Int) ∧ d = .slice ap np kp ∧ np ≤ j ∧ Hid (W.ownsRow wb.heap.size 3 1 (.slice ap np kp) np (ints (pinnedL (s.l.take j)))) ∧ Hid (Below wb.heap.size wb W))
      case atStart => exact ⟨0, none, 0, 0, by omega, rfl, rfl, Nat.le_refl _, hid (World.ownsRow_nil _ _ _ _), hid (Below.refl _ _)⟩
      case round =>
        obtain ⟨j, ap, np, kp, hjq, rfl, rfl, hnj, HP, HB⟩ := hrel
        by_cases hj : j < lq
        · have hjl : j < s.l.length := by have := HLQ.out; simp at this; omega
          obtain ⟨ob, oo, rfl, hcell⟩ := (OO.out.keep HB.out).2 (by omega)
          have y1 := hcell j hj
          obtain ⟨pg, hpg⟩ : ∃ k, k = s.l[j].page := ⟨_, rfl⟩
          rw [show (s.l.map Row.page).getD j 0 = pg by rw [hpg]; simp [List.getD, List.getElem?_eq_getElem hjl]] at y1
          obtain ⟨pn, hpn⟩ : ∃ k, k = s.l[j].pins := ⟨_, rfl⟩
          have hj1 : (j : Int) < (lq : Int) := by omega
          have K15 := pins_call c C0 s pg wr (CP2.out.later HB.out) (by rw [hpg]; exact (CP2.out.wf _ (List.getElem_mem hjl)).1)
          rw [show s.pinsOf pg = pn by rw [hpg, hpn]; exact pinsOf_at HND.out (List.getElem_mem hjl)] at K15
          replace K15 := hid K15
          have hstep : Hid (pinnedL (s.l.take (j + 1)) = pinnedL (s.l.take j) ++ (if 0 < pn then [pg] else [])) := hid (by unfold pinnedL; rw [told_step _ _ _ hjl, hpn, hpg]; simp)
          have hbs := HB.out.size
          clear hcell hpg hpn hjl
          by_cases hp0 : 0 < pn
          · have hp1 : (0 : Int) < (pn : Int) := by omega
            go_wp2_with (first
              | (go_at_call 15; refine K15.out.mono ?_; rintro e wx ⟨rfl, hwx⟩; obtain rfl := hwx.symm)
              | ((with_reducible refine here_op 54 ?_); refine wpList_app33g rfl (.tmp 51) (.tmp 53) rfl wb.heap.size (.slice ap np kp) np _ rfl (own4_later HP.out ((Below.refl _ _).alloc (Nat.le_refl _) _)) _ pg rfl (by rw [World.cell?_alloc_at _ _ _ _ (by simp)]; rfl) (by omega) (by simp; omega) ?_; intro a2 c2 w2 ho2 hb2 _; have HO2 := hid ho2; have HB2 := hid hb2; clear ho2 hb2))
            go_roundg (gk - 1)
            case measure => omega
            case rel => exact ⟨j + 1, a2, np + 1, c2, by omega, by simp, rfl, by omega, hid (by have q := HO2.out; rw [hstep.out, if_pos hp0]; exact q), hid (HB.out.trans (((Below.refl _ wr).alloc hbs _).trans HB2.out))⟩
          · have hp1 : ¬ (0 : Int) < (pn : Int) := by omega
            go_wp2_with (go_at_call 15; refine K15.out.mono ?_; rintro e wx ⟨rfl, hwx⟩; obtain rfl := hwx.symm)
            go_roundg (gk - 1)
            case measure => omega
            case rel => exact ⟨j + 1, ap, np, kp, by omega, by simp, rfl, by omega, hid (by have q := HP.out; rw [hstep.out, if_neg hp0, List.append_nil]; exact q), HB⟩
        · have hj1 : ¬ (j : Int) < (lq : Int) := by omega
          have hnp : np ≤ 150 := by omega
          have OP3 := hid (show wr.ownsRow wb.heap.size 3 1 (.slice ap np kp) np (ints (pinnedL s.l)) from by have q := HP.out; rwa [List.take_of_length_le (by have := HLQ.out; simp at this; omega)] at q)
          have OD3 := hid (own4_later OD2.out HB.out)
          have CP3 := hid (CP2.out.later HB.out)
          have BL3 := hid (gt BL2.out HB.out)
          have BX3 := hid (BX2.out.later HB.out)
          have HZ3 := hid (show W0.heap.size ≤ wr.heap.size from Nat.le_trans HZ0.out (Nat.le_trans HZ1.out HB.out.size))
          have hxc := BX3.out.cells
          obtain ⟨x0, x1, x2, x3⟩ := hxc
          obtain ⟨wc, hwc⟩ : ∃ x, x = wr := ⟨_, rfl⟩
          subst hwc
          clear HP HB OD2 CP2 BL2 BX2 OO
          by_cases hk : (X i).k = 0
          · have hk2 : ((X i).k != 0) = false := by simpa using hk
            by_cases hsh : (X i).sh = true
            · have k17 : Hid (∀ W, Calls Try.prog 17 #[.agg #[.int .i64 (X i).k, .int .i64 (X i).p, .int .u8 ((X i).s : Int), .bool (X i).sh]] W fun e w' => ∃ g, e = .returned (.slice (some ⟨g, 0, none⟩) 1 1) ∧ Below W.heap.size W w') := hid (fun W => by rw [hsh]; exact bytes_no (X i).k (X i).p (X i).s W)
              have HD := hid (show s.did (X i) = s by simp [CS.did, hk, hsh])
              clear hk hsh
              go_wp2
              refine wp_region_K (S := Box wq.heap.size (X i)) (fun _ => false) (by kernel_rfl) BX3.out (fun hHeld => ?_)
              obtain ⟨W9, hW9⟩ : ∃ W9, W9 = wc.drew := ⟨_, rfl⟩
              rw [← hW9] at hHeld ⊢
              have hb9 : Below wc.heap.size wc W9 := by rw [hW9]; exact (Below.refl _ _).drew
              have CP4 := hid (CP3.out.later hb9); have BL4 := hid (gt BL3.out hb9); have OD4 := hid (own4_later OD3.out hb9); have OP4 := hid (own4_later OP3.out hb9)
              have X4 := hid hHeld
              have hR := hHeld
              have HZX := hid (show W0.heap.size ≤ W9.heap.size from Nat.le_trans HZ3.out hb9.size)
              clear hW9 hb9 CP3 BL3 OD3 OP3
              refine wpAnyK_pure (i := 0) (v := ?_) (op_at _ 0 _ rfl) (by kernel_rfl) (by kernel_rfl) (by kernel_rfl) (by kernel_rfl) (fun _ _ _ h => h) (Or.inl ⟨by rfl, ?_⟩) (Or.inl (by assumption)) ?_
              rotate_left 1
              focus (intro W hSw; go_simp; first | done | with_reducible rfl)
              (try simp only [Act.put, List.setIfInBounds_toArray, List.set_cons_zero, List.set_cons_succ])
              refine wpAnyK_pure (i := 1) (v := ?_) (op_at _ 1 _ rfl) (by kernel_rfl) (by kernel_rfl) (by kernel_rfl) (by kernel_rfl) (fun _ _ _ h => h) (Or.inl ⟨by rfl, ?_⟩) (Or.inl (by assumption)) ?_
              rotate_left 1
              focus (intro W hSw; go_simp; first | done | with_reducible rfl)
              (try simp only [Act.put, List.setIfInBounds_toArray, List.set_cons_zero, List.set_cons_succ])
              refine wpAnyK_take (i := 2) (v := ?_) (op_at _ 2 _ rfl) (by kernel_rfl) (by kernel_rfl) (by kernel_rfl) (by kernel_rfl) (fun _ _ _ h => h) (Or.inl ⟨by rfl, ?_⟩) (by assumption) ?_
              rotate_left 1
              focus (intro W hSw; obtain ⟨q0, q1, q2, q3⟩ := Box.cells hSw; go_simp; first | done | with_reducible rfl)
              (try simp only [Act.put, List.setIfInBounds_toArray, List.set_cons_zero, List.set_cons_succ])
              refine wpAnyK_take (i := 3) (v := ?_) (op_at _ 3 _ rfl) (by kernel_rfl) (by kernel_rfl) (by kernel_rfl) (by kernel_rfl) (fun _ _ _ h => h) (Or.inl ⟨by rfl, ?_⟩) (by assumption) ?_
              rotate_left 1
              focus (intro W hSw; obtain ⟨q0, q1, q2, q3⟩ := Box.cells hSw; go_simp; first | done | with_reducible rfl)
              (try simp only [Act.put, List.setIfInBounds_toArray, List.set_cons_zero, List.set_cons_succ])
              refine wpAnyK_ready (rs := [4]) (by kernel_rfl) (by simp) ?_
              refine AllReadyK.cons (op_at _ 4 _ rfl) (fun K hK => ?_) AllReadyK.nil
              go_simp
              go_at_call 17; refine (k17.out W9).mono ?_; rintro e wd ⟨g2, rfl, hbl⟩; have CP5 := hid (CP4.out.later hbl); have BL5 := hid (gt BL4.out hbl); have OD5 := hid (own4_later OD4.out hbl); have OP5 := hid (own4_later OP4.out hbl); have X5 := hid (X4.out.later hbl); have HZW := hid (show W0.heap.size ≤ wd.heap.size from Nat.le_trans HZX.out hbl.size); have hR := X5.out; clear hbl
              refine hK.out _ _ hR (fun hHeld => ?_)
              clear hK K
              (try simp only [Act.put, List.setIfInBounds_toArray, List.set_cons_zero, List.set_cons_succ])
              refine wpAnyK_ready (rs := [5]) (by kernel_rfl) (by simp) ?_
              refine AllReadyK.cons (op_at _ 5 _ rfl) (fun K hK => ?_) AllReadyK.nil
              go_simp
              go_at_call 16; refine (put_wrong c 1 1 _ C0 s (X i).p wd CP5.out (Or.inr (by omega))).mono ?_; rintro e wx ⟨rfl, hwx⟩; obtain rfl := hwx.symm; have hR := X5.out
              refine hK.out _ _ hR (fun hHeld => ?_)
              clear hK K
              (try simp only [Act.put, List.setIfInBounds_toArray, List.set_cons_zero, List.set_cons_succ])
              refine wpAnyK_pure (i := 6) (v := ?_) (op_at _ 6 _ rfl) (by kernel_rfl) (by kernel_rfl) (by kernel_rfl) (by kernel_rfl) (fun _ _ _ h => h) (Or.inl ⟨by rfl, ?_⟩) (Or.inl (by assumption)) ?_
              rotate_left 1
              focus (intro W hSw; go_simp; first | done | with_reducible rfl)
              (try simp only [Act.put, List.setIfInBounds_toArray, List.set_cons_zero, List.set_cons_succ])
              refine wpAnyK_done (by kernel_rfl) ?_ _
              go_wp2
              go_roundg (L - i - 1)
              case measure => omega
              case rel => exact ⟨i + 1, s.did (X i), by omega, by simp, hid (by rw [HD.out]; exact ⟨C0, CP5.out, CN0.out, BL5.out⟩), hid (HOK.out.did (X i)), hid (by rw [did_room]; exact HRM.out)⟩
            · have hsf : (X i).sh = false := by simpa using hsh
              have k17 : Hid (∀ W, Calls Try.prog 17 #[.agg #[.int .i64 (X i).k, .int .i64 (X i).p, .int .u8 ((X i).s : Int), .bool (X i).sh]] W fun e w' => ∃ g, W.heap.size ≤ g ∧ e = .returned (.slice (some ⟨g, 0, none⟩) 512 512) ∧ Rd w' (some ⟨g, 0, none⟩) 512 512 (pageB (X i).s) ∧ Below W.heap.size W w') := hid (fun W => by rw [hsf]; exact bytes_yes (X i).k (X i).p (X i).s W)
              by_cases hp : (X i).p < 1
              · have HD := hid (show s.did (X i) = s by simp [CS.did, hk, hp])
                clear hk hsh hsf
                go_wp2
                refine wp_region_K (S := Box wq.heap.size (X i)) (fun _ => false) (by kernel_rfl) BX3.out (fun hHeld => ?_)
                obtain ⟨W9, hW9⟩ : ∃ W9, W9 = wc.drew := ⟨_, rfl⟩
                rw [← hW9] at hHeld ⊢
                have hb9 : Below wc.heap.size wc W9 := by rw [hW9]; exact (Below.refl _ _).drew
                have CP4 := hid (CP3.out.later hb9); have BL4 := hid (gt BL3.out hb9); have OD4 := hid (own4_later OD3.out hb9); have OP4 := hid (own4_later OP3.out hb9)
                have X4 := hid hHeld
                have hR := hHeld
                have HZX := hid (show W0.heap.size ≤ W9.heap.size from Nat.le_trans HZ3.out hb9.size)
                clear hW9 hb9 CP3 BL3 OD3 OP3
                refine wpAnyK_pure (i := 0) (v := ?_) (op_at _ 0 _ rfl) (by kernel_rfl) (by kernel_rfl) (by kernel_rfl) (by kernel_rfl) (fun _ _ _ h => h) (Or.inl ⟨by rfl, ?_⟩) (Or.inl (by assumption)) ?_
                rotate_left 1
                focus (intro W hSw; go_simp; first | done | with_reducible rfl)
                (try simp only [Act.put, List.setIfInBounds_toArray, List.set_cons_zero, List.set_cons_succ])
                refine wpAnyK_pure (i := 1) (v := ?_) (op_at _ 1 _ rfl) (by kernel_rfl) (by kernel_rfl) (by kernel_rfl) (by kernel_rfl) (fun _ _ _ h => h) (Or.inl ⟨by rfl, ?_⟩) (Or.inl (by assumption)) ?_
                rotate_left 1
                focus (intro W hSw; go_simp; first | done | with_reducible rfl)
                (try simp only [Act.put, List.setIfInBounds_toArray, List.set_cons_zero, List.set_cons_succ])
                refine wpAnyK_take (i := 2) (v := ?_) (op_at _ 2 _ rfl) (by kernel_rfl) (by kernel_rfl) (by kernel_rfl) (by kernel_rfl) (fun _ _ _ h => h) (Or.inl ⟨by rfl, ?_⟩) (by assumption) ?_
                rotate_left 1
                focus (intro W hSw; obtain ⟨q0, q1, q2, q3⟩ := Box.cells hSw; go_simp; first | done | with_reducible rfl)
                (try simp only [Act.put, List.setIfInBounds_toArray, List.set_cons_zero, List.set_cons_succ])
                refine wpAnyK_take (i := 3) (v := ?_) (op_at _ 3 _ rfl) (by kernel_rfl) (by kernel_rfl) (by kernel_rfl) (by kernel_rfl) (fun _ _ _ h => h) (Or.inl ⟨by rfl, ?_⟩) (by assumption) ?_
                rotate_left 1
                focus (intro W hSw; obtain ⟨q0, q1, q2, q3⟩ := Box.cells hSw; go_simp; first | done | with_reducible rfl)
                (try simp only [Act.put, List.setIfInBounds_toArray, List.set_cons_zero, List.set_cons_succ])
                refine wpAnyK_ready (rs := [4]) (by kernel_rfl) (by simp) ?_
                refine AllReadyK.cons (op_at _ 4 _ rfl) (fun K hK => ?_) AllReadyK.nil
                go_simp
                go_at_call 17; refine (k17.out W9).mono ?_; rintro e wd ⟨g2, hge, rfl, hrd, hbl⟩; have GE := hid hge; have RD := hid hrd; clear hge hrd; have CP5 := hid (CP4.out.later hbl); have BL5 := hid (gt BL4.out hbl); have OD5 := hid (own4_later OD4.out hbl); have OP5 := hid (own4_later OP4.out hbl); have X5 := hid (X4.out.later hbl); have HZW := hid (show W0.heap.size ≤ wd.heap.size from Nat.le_trans HZX.out hbl.size); have hR := X5.out; clear hbl
                refine hK.out _ _ hR (fun hHeld => ?_)
                clear hK K
                (try simp only [Act.put, List.setIfInBounds_toArray, List.set_cons_zero, List.set_cons_succ])
                refine wpAnyK_ready (rs := [5]) (by kernel_rfl) (by simp) ?_
                refine AllReadyK.cons (op_at _ 5 _ rfl) (fun K hK => ?_) AllReadyK.nil
                go_simp
                go_at_call 16; refine (put_wrong c 512 512 _ C0 s (X i).p wd CP5.out (Or.inl hp)).mono ?_; rintro e wx ⟨rfl, hwx⟩; obtain rfl := hwx.symm; have hR := X5.out
                refine hK.out _ _ hR (fun hHeld => ?_)
                clear hK K
                (try simp only [Act.put, List.setIfInBounds_toArray, List.set_cons_zero, List.set_cons_succ])
                refine wpAnyK_pure (i := 6) (v := ?_) (op_at _ 6 _ rfl) (by kernel_rfl) (by kernel_rfl) (by kernel_rfl) (by kernel_rfl) (fun _ _ _ h => h) (Or.inl ⟨by rfl, ?_⟩) (Or.inl (by assumption)) ?_
                rotate_left 1
                focus (intro W hSw; go_simp; first | done | with_reducible rfl)
                (try simp only [Act.put, List.setIfInBounds_toArray, List.set_cons_zero, List.set_cons_succ])
                refine wpAnyK_done (by kernel_rfl) ?_ _
                go_wp2
                go_roundg (L - i - 1)
                case measure => omega
                case rel => exact ⟨i + 1, s.did (X i), by omega, by simp, hid (by rw [HD.out]; exact ⟨C0, CP5.out, CN0.out, BL5.out⟩), hid (HOK.out.did (X i)), hid (by rw [did_room]; exact HRM.out)⟩
              · replace hp : 1 ≤ (X i).p := by omega
                have HD := hid (show s.did (X i) = s.put (X i).p (pageB (X i).s) by simp [CS.did, hk, hsf, show ¬ (X i).p < 1 by omega])
                have HWF := hid (wf64 OK.out.p.1 OK.out.p.2)
                clear hk hsh hsf
                go_wp2
                refine wp_region_K (S := Box wq.heap.size (X i)) (fun _ => false) (by kernel_rfl) BX3.out (fun hHeld => ?_)
                obtain ⟨W9, hW9⟩ : ∃ W9, W9 = wc.drew := ⟨_, rfl⟩
                rw [← hW9] at hHeld ⊢
                have hb9 : Below wc.heap.size wc W9 := by rw [hW9]; exact (Below.refl _ _).drew
                have CP4 := hid (CP3.out.later hb9); have BL4 := hid (gt BL3.out hb9); have OD4 := hid (own4_later OD3.out hb9); have OP4 := hid (own4_later OP3.out hb9)
                have X4 := hid hHeld
                have hR := hHeld
                have HZX := hid (show W0.heap.size ≤ W9.heap.size from Nat.le_trans HZ3.out hb9.size)
                clear hW9 hb9 CP3 BL3 OD3 OP3
                refine wpAnyK_pure (i := 0) (v := ?_) (op_at _ 0 _ rfl) (by kernel_rfl) (by kernel_rfl) (by kernel_rfl) (by kernel_rfl) (fun _ _ _ h => h) (Or.inl ⟨by rfl, ?_⟩) (Or.inl (by assumption)) ?_
                rotate_left 1
                focus (intro W hSw; go_simp; first | done | with_reducible rfl)
                (try simp only [Act.put, List.setIfInBounds_toArray, List.set_cons_zero, List.set_cons_succ])
                refine wpAnyK_pure (i := 1) (v := ?_) (op_at _ 1 _ rfl) (by kernel_rfl) (by kernel_rfl) (by kernel_rfl) (by kernel_rfl) (fun _ _ _ h => h) (Or.inl ⟨by rfl, ?_⟩) (Or.inl (by assumption)) ?_
                rotate_left 1
                focus (intro W hSw; go_simp; first | done | with_reducible rfl)
                (try simp only [Act.put, List.setIfInBounds_toArray, List.set_cons_zero, List.set_cons_succ])
                refine wpAnyK_take (i := 2) (v := ?_) (op_at _ 2 _ rfl) (by kernel_rfl) (by kernel_rfl) (by kernel_rfl) (by kernel_rfl) (fun _ _ _ h => h) (Or.inl ⟨by rfl, ?_⟩) (by assumption) ?_
                rotate_left 1
                focus (intro W hSw; obtain ⟨q0, q1, q2, q3⟩ := Box.cells hSw; go_simp; first | done | with_reducible rfl)
                (try simp only [Act.put, List.setIfInBounds_toArray, List.set_cons_zero, List.set_cons_succ])
                refine wpAnyK_take (i := 3) (v := ?_) (op_at _ 3 _ rfl) (by kernel_rfl) (by kernel_rfl) (by kernel_rfl) (by kernel_rfl) (fun _ _ _ h => h) (Or.inl ⟨by rfl, ?_⟩) (by assumption) ?_
                rotate_left 1
                focus (intro W hSw; obtain ⟨q0, q1, q2, q3⟩ := Box.cells hSw; go_simp; first | done | with_reducible rfl)
                (try simp only [Act.put, List.setIfInBounds_toArray, List.set_cons_zero, List.set_cons_succ])
                refine wpAnyK_ready (rs := [4]) (by kernel_rfl) (by simp) ?_
                refine AllReadyK.cons (op_at _ 4 _ rfl) (fun K hK => ?_) AllReadyK.nil
                go_simp
                go_at_call 17; refine (k17.out W9).mono ?_; rintro e wd ⟨g2, hge, rfl, hrd, hbl⟩; have GE := hid hge; have RD := hid hrd; clear hge hrd; have CP5 := hid (CP4.out.later hbl); have BL5 := hid (gt BL4.out hbl); have OD5 := hid (own4_later OD4.out hbl); have OP5 := hid (own4_later OP4.out hbl); have X5 := hid (X4.out.later hbl); have HZW := hid (show W0.heap.size ≤ wd.heap.size from Nat.le_trans HZX.out hbl.size); have hR := X5.out; clear hbl
                refine hK.out _ _ hR (fun hHeld => ?_)
                clear hK K
                (try simp only [Act.put, List.setIfInBounds_toArray, List.set_cons_zero, List.set_cons_succ])
                refine wpAnyK_ready (rs := [5]) (by kernel_rfl) (by simp) ?_
                refine AllReadyK.cons (op_at _ 5 _ rfl) (fun K hK => ?_) AllReadyK.nil
                go_simp
                go_at_call 16; refine (put_call c g2 0 512 C0 s (X i).p _ wd CP5.out HWF.out hp RD.out (fun hS => by have := CP4.out.lt hS; have := GE.out; omega) (by rw [CP5.out.klen]; have := HOK.out.len; omega)).mono ?_; rintro e we ⟨rfl, C5, st⟩; have O6 := hid (OC.of_step st CN0.out BL5.out); have OD6 := hid (own3_step OD5.out CP5.out st); have OP6 := hid (own3_step OP5.out CP5.out st); have X6 := hid (X5.out.step CP5.out st); have HZ9 := hid (show W0.heap.size ≤ we.heap.size from Nat.le_trans HZW.out st.fr.size); have hR := X6.out; clear st
                refine hK.out _ _ hR (fun hHeld => ?_)
                clear hK K
                (try simp only [Act.put, List.setIfInBounds_toArray, List.set_cons_zero, List.set_cons_succ])
                refine wpAnyK_pure (i := 6) (v := ?_) (op_at _ 6 _ rfl) (by kernel_rfl) (by kernel_rfl) (by kernel_rfl) (by kernel_rfl) (fun _ _ _ h => h) (Or.inl ⟨by rfl, ?_⟩) (Or.inl (by assumption)) ?_
                rotate_left 1
                focus (intro W hSw; go_simp; first | done | with_reducible rfl)
                (try simp only [Act.put, List.setIfInBounds_toArray, List.set_cons_zero, List.set_cons_succ])
                refine wpAnyK_done (by kernel_rfl) ?_ _
                obtain ⟨s2, hs2⟩ : ∃ s2, s2 = s.put (X i).p (pageB (X i).s) := ⟨_, rfl⟩
                have hk2s : ∀ p ∈ s.dirt ++ pinnedL s.l, (s2.peek p).isSome = true ∧ (Lit.int .i64 p).wf = true := by
                  intro p hp
                  rw [hs2]
                  rcases List.mem_append.1 hp with h9 | h9
                  · obtain ⟨r9, h91, h92, rfl⟩ := mem_dirt.1 h9
                    exact ⟨put_keeps h91 (Or.inl h92), (CP5.out.wf _ h91).1⟩
                  · obtain ⟨r9, h91, h92, rfl⟩ := mem_pinned.1 h9
                    exact ⟨put_keeps h91 (Or.inr h92), (CP5.out.wf _ h91).1⟩
                have hhd : n < s2.l.length → ∀ r ∈ s2.l, r.page = (X i).p ∨ 0 < r.pins ∨ r.dirty = true := by rw [hs2]; intro h9; exact put_held (by rw [HRM.out]; exact h9)
                have HK2S := hid hk2s; have HHD := hid hhd
                have OK2 := hid (show OkS (i + 1) s2 by rw [hs2]; exact HOK.out.put _ _)
                have O7 := hid (show OC w we c s2 by rw [hs2]; exact O6.out)
                have HD2 := hid (show s.did (X i) = s2 by rw [hs2]; exact HD.out)
                clear hs2 hk2s hhd O6 HD
                go_wp2_with ((with_reducible refine here_op 72 ?_); refine wpList_appI rfl (.tmp 70) (.tmp 71) rfl W0.heap.size (.slice aD ld kD) ld _ rfl OD6.out _ np kp wb.heap.size _ rfl OP6.out (by omega) HZ9.out ?_; intro a8 k8 w8 ho8 hg8; have O8 := hid (oc_grown O7.out OD6.out hg8 BL0.out.size HZ9.out); have X8 := hid (X6.out.grown3 OD6.out hg8); have R8 := hid (rdI_own ho8); have hk8 := own_cap ho8; clear ho8 hg8)
                go_loopg [74] (ld + np) (fun q v W => ∃ (j : Nat), j + q = ld + np ∧ v = .int .i64 (j : Int) ∧ Hid (Below w8.heap.size w8 W))
                case atStart => exact ⟨0, by omega, by simp, hid (Below.refl _ _)⟩
                case round =>
                  obtain ⟨j2, hjq2, rfl, HB8⟩ := hrel
                  by_cases hj2 : j2 < ld + np
                  · obtain ⟨ob, oo, rfl, hcell⟩ := (R8.out.keep HB8.out).2 (by omega)
                    have y1 := hcell j2 hj2
                    obtain ⟨pg, hpg⟩ : ∃ k, k = (s.dirt ++ pinnedL s.l).getD j2 0 := ⟨_, rfl⟩
                    rw [← hpg] at y1
                    have hmem : pg ∈ s.dirt ++ pinnedL s.l := by
                      have hl9 := R8.out.1
                      rw [hpg, List.getD, List.getElem?_eq_getElem (by omega)]; exact List.getElem_mem _
                    obtain ⟨z1, z2⟩ := HK2S.out pg hmem
                    obtain ⟨C8, cp8, cn8, bl8⟩ := O8.out
                    have K18 := peek_call c C8 s2 pg wr (cp8.later HB8.out) z2
                    obtain ⟨o9, ho9⟩ : ∃ o, o = s2.peek pg := ⟨_, rfl⟩
                    rw [← ho9] at K18 z1
                    have hj21 : (j2 : Int) < ((ld + np : Nat) : Int) := by omega
                    have hj22 : (j2 : Int) < (ld : Int) + (np : Int) := by omega
                    have K18' := hid K18
                    clear hcell hpg hmem z2 cp8 cn8 bl8 K18 ho9
                    go_wp2_with (go_at_call 18; refine K18'.out.mono ?_; rintro e w9 ⟨hby, hb9⟩; obtain ⟨ao9, cap9, rfl, _, _⟩ := bytes_rd hby; rw [z1]; have HB9 := hid hb9; clear hby hb9)
                    go_roundg (ld + np - j2 - 1)
                    case measure => omega
                    case rel => exact ⟨j2 + 1, by omega, by simp, hid (gt HB8.out HB9.out)⟩
                  · have hj21 : ¬ (j2 : Int) < ((ld + np : Nat) : Int) := by omega
                    have hj22 : ¬ (j2 : Int) < (ld : Int) + (np : Int) := by omega
                    obtain ⟨C8, cp8, cn8, bl8⟩ := O8.out
                    have CP9 := hid (cp8.later HB8.out); have BL9 := hid (gt bl8 HB8.out); have CN9 := hid cn8; have X9 := hid (X8.out.later HB8.out)
                    obtain ⟨w9, hw9⟩ : ∃ x, x = wr := ⟨_, rfl⟩
                    subst hw9
                    clear cp8 cn8 bl8
                    obtain ⟨l2, hl2⟩ : ∃ k, k = s2.l.length := ⟨_, rfl⟩
                    have K19 := len_call c C8 s2 w9 CP9.out
                    rw [← hl2] at K19
                    have HL2 := hid hl2
                    replace K19 := hid K19
                    obtain ⟨l3, hl3⟩ : ∃ k, k = (s2.l.map Row.page).length := ⟨_, rfl⟩
                    have HL3 := hid hl3
                    have hl3b : l3 ≤ 151 := by rw [hl3]; simp; have := OK2.out.len; omega
                    clear hl3
                    have hl2b : l2 ≤ 151 := by rw [hl2]; have := OK2.out.len; omega
                    clear hl2
                    by_cases hbig : n < l2
                    · have hbig' : (n : Int) < (l2 : Int) := by omega
                      go_wp2_with (first
                        | (go_at_call 19; refine K19.out.mono ?_; rintro e wx ⟨rfl, hwx⟩; obtain rfl := hwx.symm)
                        | (go_at_call 14; refine (order_call c C8 s2 w9 CP9.out (by rw [CP9.out.klen]; have := OK2.out.len; omega)).mono ?_; rintro e wi ⟨aP, kP, rfl, ho, hb⟩; rw [← HL3.out] at ho ⊢; have RP3 := hid (rdI_own ho); have hkp := own_cap ho; have CPi := hid (CP9.out.later hb); have BLi := hid (gt BL9.out hb); have Xi := hid (X9.out.later hb); clear ho hb))
                      go_loopg [94] l3 (fun q v W => ∃ (j3 : Nat), j3 + q = l3 ∧ v = .int .i64 (j3 : Int) ∧ Hid (Below wi.heap.size wi W))
                      case atStart => exact ⟨0, by omega, by simp, hid (Below.refl _ _)⟩
                      case round =>
                        obtain ⟨j3, hjq3, rfl, HBi⟩ := hrel
                        obtain ⟨wj, hwj⟩ : ∃ x, x = wr := ⟨_, rfl⟩
                        subst hwj
                        by_cases hj3 : j3 < l3
                        · have hjl : j3 < s2.l.length := by have := HL3.out; simp at this; omega
                          obtain ⟨ob, oo, rfl, hcell⟩ := (RP3.out.keep HBi.out).2 (by omega)
                          have y1 := hcell j3 hj3
                          obtain ⟨p3, hp3⟩ : ∃ k, k = s2.l[j3].page := ⟨_, rfl⟩
                          rw [show (s2.l.map Row.page).getD j3 0 = p3 by rw [hp3]; simp [List.getD, List.getElem?_eq_getElem hjl]] at y1
                          obtain ⟨pn, hpn⟩ : ∃ k, k = s2.l[j3].pins := ⟨_, rfl⟩
                          have hj31 : (j3 : Int) < (l3 : Int) := by omega
                          have K15 := pins_call c C8 s2 p3 wj (CPi.out.later HBi.out) (by rw [hp3]; exact (CPi.out.wf _ (List.getElem_mem hjl)).1)
                          rw [show s2.pinsOf p3 = pn by rw [hp3, hpn]; exact pinsOf_at CPi.out.pg (List.getElem_mem hjl)] at K15
                          replace K15 := hid K15
                          have K13 := dirty_call c C8 s2 wj (CPi.out.later HBi.out) (by rw [CPi.out.klen]; have := OK2.out.len; omega)
                          obtain ⟨l4, hl4⟩ : ∃ k, k = s2.dirt.length := ⟨_, rfl⟩
                          have hl4b : l4 ≤ 151 := by
                            have q1 : s2.dirt.length = (told Row.dirty s2.l).length := by unfold CS.dirt; exact rise_length _
                            have q2 : (told Row.dirty s2.l).length ≤ s2.l.length := by unfold told; simp; exact List.length_filter_le _ _
                            have := OK2.out.len; omega
                          unfold Told at K13
                          rw [← hl4] at K13
                          replace K13 := hid K13
                          have x1' := (Xi.out.later HBi.out).cells.2.1
                          have hheld : p3 = (X i).p ∨ 0 < pn ∨ p3 ∈ s2.dirt := by
                            rcases HHD.out (by rw [← HL2.out]; exact hbig) _ (List.getElem_mem hjl) with h9 | h9 | h9
                            · exact Or.inl (by rw [hp3]; exact h9)
                            · exact Or.inr (Or.inl (by rw [hpn]; exact h9))
                            · exact Or.inr (Or.inr (mem_dirt.2 ⟨_, List.getElem_mem hjl, h9, hp3.symm⟩))
                          have HHE := hid hheld; have HL4 := hid hl4
                          clear hcell hp3 hpn hjl hheld hl4
                          by_cases hp0 : 0 < pn
                          · have hp1 : (0 : Int) < (pn : Int) := by omega
                            go_wp2_with (first
                              | (go_at_call 15; refine K15.out.mono ?_; rintro e wx ⟨rfl, hwx⟩; obtain rfl := hwx.symm)
                              | (go_at_call 13; refine K13.out.mono ?_; rintro e wk ⟨aQ, kQ, rfl, ho, hb⟩; have RQ := hid (rdI_own ho); have hkq := own_cap ho; have HBk := hid hb; clear ho hb))
                            obtain ⟨b0, hb0⟩ : ∃ b0, b0 = true := ⟨_, rfl⟩
                            have HH0 := hid (show b0 = true ∨ p3 ∈ s2.dirt from Or.inl hb0)
                            have HB0 := hid hb0
                            go_loopg [19, 111] l4 (fun q d v W => ∃ (t4 : Nat) (hd : Bool), t4 + q = l4 ∧ v = .int .i64 (t4 : Int) ∧ d = .bool hd ∧ Hid (hd = (b0 || decide (p3 ∈ s2.dirt.take t4))) ∧ Hid (Below wk.heap.size wk W))
                            case atStart => exact ⟨0, b0, by omega, by simp, by rw [HB0.out], hid (by simp), hid (Below.refl _ _)⟩
                            case round =>
                              obtain ⟨t4, hd, htq, rfl, rfl, HHD4, HB4⟩ := hrel
                              by_cases ht4 : t4 < l4
                              · obtain ⟨qb, qo, rfl, hcell⟩ := (RQ.out.keep HB4.out).2 (by omega)
                                have y4 := hcell t4 ht4
                                have htl : t4 < s2.dirt.length := by rw [← HL4.out]; exact ht4
                                obtain ⟨q4, hq4⟩ : ∃ k, k = s2.dirt[t4] := ⟨_, rfl⟩
                                rw [show s2.dirt.getD t4 0 = q4 by rw [hq4]; simp [List.getD, List.getElem?_eq_getElem htl]] at y4
                                have ht41 : (t4 : Int) < (l4 : Int) := by omega
                                have hnext : Hid (decide (p3 ∈ s2.dirt.take (t4 + 1)) = (decide (p3 ∈ s2.dirt.take t4) || (p3 == q4))) := hid (by rw [hq4]; exact mem_take_succ htl p3)
                                clear hcell htl hq4
                                cases hd with
                                | true =>
                                  go_wp2
                                  go_roundg (l4 - t4 - 1)
                                  case measure => omega
                                  case rel => exact ⟨t4 + 1, true, by omega, by simp, rfl, hid (by rw [hnext.out, ← Bool.or_assoc, ← HHD4.out]; rfl), HB4⟩
                                | false =>
                                  go_wp2
                                  go_roundg (l4 - t4 - 1)
                                  case measure => omega
                                  case rel => exact ⟨t4 + 1, p3 == q4, by omega, by simp, rfl, hid (by rw [hnext.out, ← Bool.or_assoc, ← HHD4.out]; rfl), HB4⟩
                              · have ht41 : ¬ (t4 : Int) < (l4 : Int) := by omega
                                obtain rfl : hd = true := by
                                  rw [HHD4.out]
                                  rcases HH0.out with h9 | h9
                                  · rw [h9]; rfl
                                  · rw [List.take_of_length_le (by rw [← HL4.out]; omega)]; simp [h9]
                                go_wp2
                                go_roundg (l3 - j3 - 1)
                                case measure => omega
                                case rel => exact ⟨j3 + 1, by omega, by simp, hid (gt HBi.out (gt HBk.out HB4.out))⟩
                          · have hp1 : ¬ (0 : Int) < (pn : Int) := by omega
                            go_wp2_with (first
                              | (go_at_call 15; refine K15.out.mono ?_; rintro e wx ⟨rfl, hwx⟩; obtain rfl := hwx.symm)
                              | (go_at_call 13; refine K13.out.mono ?_; rintro e wk ⟨aQ, kQ, rfl, ho, hb⟩; have RQ := hid (rdI_own ho); have hkq := own_cap ho; have HBk := hid hb; clear ho hb))
                            obtain ⟨b0, hb0⟩ : ∃ b0, b0 = (p3 == (X i).p) := ⟨_, rfl⟩
                            have HH0 := hid (show b0 = true ∨ p3 ∈ s2.dirt from by rcases HHE.out with h9 | h9 | h9; exact Or.inl (by rw [hb0]; simpa using h9); omega; exact Or.inr h9)
                            have HB0 := hid hb0
                            go_loopg [19, 111] l4 (fun q d v W => ∃ (t4 : Nat) (hd : Bool), t4 + q = l4 ∧ v = .int .i64 (t4 : Int) ∧ d = .bool hd ∧ Hid (hd = (b0 || decide (p3 ∈ s2.dirt.take t4))) ∧ Hid (Below wk.heap.size wk W))
                            case atStart => exact ⟨0, b0, by omega, by simp, by rw [HB0.out], hid (by simp), hid (Below.refl _ _)⟩
                            case round =>
                              obtain ⟨t4, hd, htq, rfl, rfl, HHD4, HB4⟩ := hrel
                              by_cases ht4 : t4 < l4
                              · obtain ⟨qb, qo, rfl, hcell⟩ := (RQ.out.keep HB4.out).2 (by omega)
                                have y4 := hcell t4 ht4
                                have htl : t4 < s2.dirt.length := by rw [← HL4.out]; exact ht4
                                obtain ⟨q4, hq4⟩ : ∃ k, k = s2.dirt[t4] := ⟨_, rfl⟩
                                rw [show s2.dirt.getD t4 0 = q4 by rw [hq4]; simp [List.getD, List.getElem?_eq_getElem htl]] at y4
                                have ht41 : (t4 : Int) < (l4 : Int) := by omega
                                have hnext : Hid (decide (p3 ∈ s2.dirt.take (t4 + 1)) = (decide (p3 ∈ s2.dirt.take t4) || (p3 == q4))) := hid (by rw [hq4]; exact mem_take_succ htl p3)
                                clear hcell htl hq4
                                cases hd with
                                | true =>
                                  go_wp2
                                  go_roundg (l4 - t4 - 1)
                                  case measure => omega
                                  case rel => exact ⟨t4 + 1, true, by omega, by simp, rfl, hid (by rw [hnext.out, ← Bool.or_assoc, ← HHD4.out]; rfl), HB4⟩
                                | false =>
                                  go_wp2
                                  go_roundg (l4 - t4 - 1)
                                  case measure => omega
                                  case rel => exact ⟨t4 + 1, p3 == q4, by omega, by simp, rfl, hid (by rw [hnext.out, ← Bool.or_assoc, ← HHD4.out]; rfl), HB4⟩
                              · have ht41 : ¬ (t4 : Int) < (l4 : Int) := by omega
                                obtain rfl : hd = true := by
                                  rw [HHD4.out]
                                  rcases HH0.out with h9 | h9
                                  · rw [h9]; rfl
                                  · rw [List.take_of_length_le (by rw [← HL4.out]; omega)]; simp [h9]
                                go_wp2
                                go_roundg (l3 - j3 - 1)
                                case measure => omega
                                case rel => exact ⟨j3 + 1, by omega, by simp, hid (gt HBi.out (gt HBk.out HB4.out))⟩
                        · have hj31 : ¬ (j3 : Int) < (l3 : Int) := by omega
                          go_wp2
                          go_roundg (L - i - 1)
                          case measure => omega
                          case rel => exact ⟨i + 1, s.did (X i), by omega, by simp, hid (by rw [HD2.out]; exact ⟨C8, CPi.out.later HBi.out, CN9.out, gt BLi.out HBi.out⟩), hid (HOK.out.did (X i)), hid (by rw [did_room]; exact HRM.out)⟩
                    · have hbig' : ¬ (n : Int) < (l2 : Int) := by omega
                      go_wp2_with (go_at_call 19; refine K19.out.mono ?_; rintro e wx ⟨rfl, hwx⟩; obtain rfl := hwx.symm)
                      go_roundg (L - i - 1)
                      case measure => omega
                      case rel => exact ⟨i + 1, s.did (X i), by omega, by simp, hid (by rw [HD2.out]; exact ⟨C8, CP9.out, CN9.out, BL9.out⟩), hid (HOK.out.did (X i)), hid (by rw [did_room]; exact HRM.out)⟩
          · have hk2 : ((X i).k != 0) = true := by simpa using hk
            go_wp2
            refine wp_region_K (S := Box wq.heap.size (X i)) (fun _ => false) (by kernel_rfl) BX3.out (fun hHeld => ?_)
            obtain ⟨W9, hW9⟩ : ∃ W9, W9 = wc.drew := ⟨_, rfl⟩
            rw [← hW9] at hHeld ⊢
            have hb9 : Below wc.heap.size wc W9 := by rw [hW9]; exact (Below.refl _ _).drew
            have CP4 := hid (CP3.out.later hb9); have BL4 := hid (gt BL3.out hb9); have OD4 := hid (own4_later OD3.out hb9); have OP4 := hid (own4_later OP3.out hb9)
            have X4 := hid hHeld
            have hR := hHeld
            have HZX := hid (show W0.heap.size ≤ W9.heap.size from Nat.le_trans HZ3.out hb9.size)
            clear hW9 hb9 CP3 BL3 OD3 OP3
            refine wpAnyK_pure (i := 0) (v := ?_) (op_at _ 0 _ rfl) (by kernel_rfl) (by kernel_rfl) (by kernel_rfl) (by kernel_rfl) (fun _ _ _ h => h) (Or.inl ⟨by rfl, ?_⟩) (Or.inl (by assumption)) ?_
            rotate_left 1
            focus (intro W hSw; go_simp; first | done | with_reducible rfl)
            (try simp only [Act.put, List.setIfInBounds_toArray, List.set_cons_zero, List.set_cons_succ])
            refine wpAnyK_take (i := 2) (v := ?_) (op_at _ 2 _ rfl) (by kernel_rfl) (by kernel_rfl) (by kernel_rfl) (by kernel_rfl) (fun _ _ _ h => h) (Or.inl ⟨by rfl, ?_⟩) (by assumption) ?_
            rotate_left 1
            focus (intro W hSw; obtain ⟨q0, q1, q2, q3⟩ := Box.cells hSw; go_simp; first | done | with_reducible rfl)
            (try simp only [Act.put, List.setIfInBounds_toArray, List.set_cons_zero, List.set_cons_succ])
            refine wpAnyK_ready (rs := [1]) (by kernel_rfl) (by simp) ?_
            refine AllReadyK.cons (op_at _ 1 _ rfl) (fun K hK => ?_) AllReadyK.nil
            go_simp
            go_at_call 10; refine (rnew_yes 1 W9 (by omega) (by omega)).mono ?_; rintro e wd ⟨m, rfl, R1, hr1, hn1', hb, _⟩; have B5 := hid (show Both w wd c m C0 R1 s ⟨1, [], 0, 0⟩ from ⟨CP4.out.later hb, hr1, CN0.out, fun k hk => by have := hn1' k (Or.inl hk); have := BL4.out.size; omega, gt BL4.out hb⟩); have X5 := hid (X4.out.later hb); have hR := X5.out; clear hr1 hn1' hb
            refine hK.out _ _ hR (fun hHeld => ?_)
            clear hK K
            (try simp only [Act.put, List.setIfInBounds_toArray, List.set_cons_zero, List.set_cons_succ])
            refine wpAnyK_ready (rs := [3]) (by kernel_rfl) (by simp) ?_
            refine AllReadyK.cons (op_at _ 3 _ rfl) (fun K hK => ?_) AllReadyK.nil
            go_simp
            go_at_call 11; refine (act_any w wd c m C0 R1 s ⟨1, [], 0, 0⟩ (X i) B5.out (by simp) (HOK.out.up (by omega)) ((ok_new 1).up (by omega)) OK.out).mono ?_; rintro e we ⟨v, rfl, _, C5, R5, hb5, kb5⟩; have B6 := hid hb5; have hR := kb5 _ _ X5.out; clear hb5 kb5
            refine hK.out _ _ hR (fun hHeld => ?_)
            clear hK K
            (try simp only [Act.put, List.setIfInBounds_toArray, List.set_cons_zero, List.set_cons_succ])
            refine wpAnyK_done (by kernel_rfl) ?_ _
            go_wp2
            go_roundg (L - i - 1)
            case measure => omega
            case rel => exact ⟨i + 1, s.did (X i), by omega, by simp, hid ⟨C5, B6.out.cp, B6.out.cn, B6.out.bl⟩, hid (HOK.out.did (X i)), hid (by rw [did_room]; exact HRM.out)⟩
    · have hiL' : ¬ ((i : Int) < (L : Int)) := by omega
      go_wp2_with (go_at_call 8; refine (lives_any _).mono ?_; rintro e w3 ⟨rfl, hb3⟩; replace hb3 := hid hb3)
      go_ret
      exact ⟨rfl, gt HO.out.bl hb3.out⟩

theorem keeps_any (r : Nat) (lo : Option Addr) (L C : Nat) (X : Nat → Av) (w : World) (hr : r < 256) (h : ActsV w lo L X) :
    Calls Try.prog 4 #[.int .u8 (r : Int), .slice lo L C] w fun e w' => e = .returned (.bool true) ∧ Below w.heap.size w w' := by
  rcases Nat.lt_or_ge 150 L with hL | hL
  · exact keeps_long r lo L C w hL
  · exact keeps_short r lo L C X w hr h hL

end Go.Proofs.Ytebjjibgkjgpgaa
