/- What the document's own function Parse returns for every string; no statement of the seat is proved here. -/
import Derived.Test.YtfjepmhlkelinaaRi
import Derived.Deep.DeepCutAuto
namespace Go.Proofs.Ytfjepmhlkelinaa
open Go.RowKit

def Ten (W : World) (b : Nat) : Prop := W.cell? ⟨b, 0, none⟩ = some (.int .u64 10)
theorem Ten.grown {W W' : World} {b : Nat} (h : Ten W b) (hb : Below W.heap.size W W') : Ten W' b := cell_later hb h
theorem Ten.far {W : World} {b : Nat} (h : Ten W b) (c j : Nat) (v : Value) (hc : c ≠ b) : Ten (W.setCell ⟨c, j, none⟩ v) b := by
  unfold Ten
  rw [World.cell?_setCell_other _ _ _ _ (fun e => hc (Addr.mk.inj e).1)]; exact h
theorem Ten.lt {W : World} {b : Nat} (h : Ten W b) : b < W.heap.size := World.block_lt_of_cell? W ⟨b, 0, none⟩ h

theorem cellsOf {W : World} {b n : Nat} (h : Has W b n) : Cells W b n := h.1
theorem cellsSet {W : World} {a m c : Nat} {u v x : Value} (h : Cells W a m) (h1 : ¬ c = a) : Cells (((W.setCell ⟨c, 0, none⟩ u).setCell ⟨c, 1, none⟩ v).setCell ⟨c, 2, none⟩ x) a m :=
  ((h.far _ _ _ h1).far _ _ _ h1).far _ _ _ h1

set_option maxHeartbeats 1500000 in
set_option maxRecDepth 100000 in
theorem rparse_loop (s : ByteArray) (w : World) (R : Option Nat) (V : Value) (hV : Hid (V = answer R)) (hR : Hid (pf s.data.toList 0 = R)) (hpos : 1 ≤ s.size) (h60 : s.size ≤ 60) (h0 : s[0].toNat = 48 → s.size = 1) :
    Calls Try.prog 24 #[.string s] w fun e w' => e = .returned V ∧ Below w.heap.size w w' := by
  have g1 : ¬ (s.size : Int) < 1 := by omega
  have g2 : ¬ (60 : Int) < (s.size : Int) := by omega
  have g1' : ¬ s.size < 1 := by omega
  have g2' : ¬ 60 < s.size := by omega
  go_enter Try.func24, Try.ntmps24
  go_wp2
  go_loopw [6] (fun i W => ∃ k n : Nat, k ≤ s.size ∧ i = .int .i64 k ∧ n < 6277101735386680763835789423207666416102355444464034512896 ∧ Has W w.heap.size 0 ∧ Has W (w.heap.size + 1) n ∧ Ten W (w.heap.size + 1 + 1) ∧ Below w.heap.size w W ∧ Hid (pf (s.data.toList.drop k) n = R)) (fun i W => s.size - (intOf i).toNat)
  case atStart =>
    refine ⟨0, 0, by omega, rfl, by omega, ?_, ?_, ?_, (by repeat (first | with_reducible exact Below.refl _ _ | with_reducible assumption | with_reducible refine Below.drew ?_ | with_reducible refine below_drewN ?_ _ | with_reducible refine Below.alloc ?_ (by simp <;> omega) _ | with_reducible refine Below.setCell ?_ (by simp <;> omega) _)), by rw [List.drop_zero]; exact hR⟩
    · exact ((Has.new w 0 _ 23 rfl).alloc _).alloc _
    · exact (Has.new _ 0 _ 23 (by simp)).alloc _
    · unfold Ten; rw [World.cell?_alloc_at _ _ _ _ (by simp)]; rfl
  case round =>
    obtain ⟨k, n, hk, rfl, hn, hr, ho, ht, hB, HR⟩ := hrel
    obtain ⟨wo, rfl⟩ : ∃ wo : World, wo = wr := ⟨_, rfl⟩
    have lr := hr.lt; have lo := ho.lt; have lt := ht.lt
    have KR := hid hr; have KO := hid ho; have KT := hid ht; have GB := hid hB; have HN := hid hn
    generalize h2 : w.heap.size + 1 + 1 = p5 at *
    generalize h1 : w.heap.size + 1 = p4 at *
    have d45 : ¬ p4 = p5 := by omega
    have d54 : ¬ p5 = p4 := by omega
    have d40 : ¬ p4 = w.heap.size := by omega
    have d04 : ¬ w.heap.size = p4 := by omega
    have d05 : ¬ w.heap.size = p5 := by omega
    have d50 : ¬ p5 = w.heap.size := by omega
    have P4 : Hid (w.heap.size ≤ p4) := by unfold Hid; omega
    clear h1 h2
    by_cases hkk : k < s.size
    · have hst := hid (pf_step s k n hkk)
      have hki : (k : Int) < (s.size : Int) := by omega
      have h0' : k = 0 → s[k].toNat = 48 → s.size = 1 := by intro e; subst e; exact h0
      have cb : s[k].toNat < 256 := s[k].toNat_lt
      obtain ⟨c, hc⟩ : ∃ c, s[k].toNat = c := ⟨_, rfl⟩
      rw [hc] at h0' cb
      have HST := hid hst.out
      rw [hc] at HST
      have hcI : ((s[k].toNat : Nat) : Int) = (c : Int) := by rw [hc]
      have HC := hid hc
      clear hst h0 hc
      by_cases c1 : c < 48
      · have hlt : (c : Int) < 48 := by omega
        have hv := hV.out
        rw [← HR.out, HST.out, if_pos (Or.inl c1), answer] at hv
        subst hv
        obtain ⟨⟨r0, r1, r2⟩, fr⟩ := hr
        clear hB ht ho hV HR hn HST h0'
        go_wp2
        exact bodyPost_ret (v := .tuple #[.agg #[.int .u64 0, .int .u64 0, .int .u64 0], .bool false]) (by simp [results, Try.results24, go_sem, *]) rfl ⟨rfl, ((GB.out.setCell (by simp) _).setCell (by simp) _).setCell (by simp) _⟩
      · by_cases c2 : 57 < c
        · have hlt : ¬ (c : Int) < 48 := by omega
          have hgt : (57 : Int) < (c : Int) := by omega
          have hv := hV.out
          rw [← HR.out, HST.out, if_pos (Or.inr c2), answer] at hv
          subst hv
          obtain ⟨⟨r0, r1, r2⟩, fr⟩ := hr
          clear hB ht ho hV HR hn HST h0'
          go_wp2
          exact bodyPost_ret (v := .tuple #[.agg #[.int .u64 0, .int .u64 0, .int .u64 0], .bool false]) (by simp [results, Try.results24, go_sem, *]) rfl ⟨rfl, ((GB.out.setCell (by simp) _).setCell (by simp) _).setCell (by simp) _⟩
        · have hlt : ¬ (c : Int) < 48 := by omega
          have hgt : ¬ (57 : Int) < (c : Int) := by omega
          clear hB ht ho hr hn
          go_upto_region 8 with fail
          go_cut [50] (fun s50 W => s50 = .bool false ∧ W = wo)
          case first =>
            by_cases k0 : k = 0
            · have q0 : ((k : Int) == 0) = true := by simp; omega
              by_cases c48 : c = 48
              · have hsz := h0' k0 c48
                have q1 : ((c : Int) == 48) = true := by simp; omega
                have q2 : ¬ (1 : Int) < (s.size : Int) := by omega
                clear hsz c48 k0 h0'
                go_wp2
                go_meet
                case rel => exact ⟨rfl, rfl⟩
              · have q1 : ((c : Int) == 48) = false := by simp; omega
                clear c48 k0 h0'
                go_wp2
                go_meet
                case rel => exact ⟨rfl, rfl⟩
            · have q1 : ((k : Int) == 0) = false := by simp; omega
              clear k0 h0'
              go_wp2
              go_meet
              case rel => exact ⟨rfl, rfl⟩
          case rest =>
            obtain ⟨rfl, rfl⟩ := hcut
            go_wp2
            have hv1 := hid (show ¬ n * 10 + (c - 48) < 6277101735386680763835789423207666416102355444464034512896 → R = none from fun hx => by rw [← HR.out, HST.out, if_neg (by omega), if_neg hx])
            have hv2 := hid (show n * 10 + (c - 48) < 6277101735386680763835789423207666416102355444464034512896 → pf (s.data.toList.drop (k + 1)) (n * 10 + (c - 48)) = R from fun hx => by rw [← HR.out, HST.out, if_neg (by omega), if_pos hx])
            have c3 : c ≤ 57 := by omega
            have c4 : 48 ≤ c := by omega
            have kr := KR.out.alloc (.cells #[.int .u64 0, .int .u64 0, .int .u64 0] 23)
            have ko := KO.out.alloc (.cells #[.int .u64 0, .int .u64 0, .int .u64 0] 23)
            have kt := KT.out.grown ((Below.refl _ _).alloc (Nat.le_refl _) (.cells #[.int .u64 0, .int .u64 0, .int .u64 0] 23))
            have kB := GB.out.alloc GB.out.size (.cells #[.int .u64 0, .int .u64 0, .int .u64 0] 23)
            have ks := Has.new wc 0 _ 23 rfl
            have ls := GB.out.size
            clear HR HST h0' c1 c2 KR KO KT GB hR
            go_loopw [8, 9] (fun okv tv W => ∃ t : Nat, t ≤ 10 ∧ tv = .int .u64 t ∧ Has W w.heap.size 0 ∧ Has W p4 n ∧ Ten W p5 ∧ Below w.heap.size w W ∧ ((okv = .bool true ∧ Has W wc.heap.size (n * t) ∧ n * t < 6277101735386680763835789423207666416102355444464034512896) ∨ (okv = .bool false ∧ ¬ n * 10 < 6277101735386680763835789423207666416102355444464034512896))) (fun _ tv W => 10 - (intOf tv).toNat)
            case atStart => exact ⟨0, by omega, rfl, kr, ko, kt, kB, Or.inl ⟨rfl, by rw [Nat.mul_zero]; exact ks, by omega⟩⟩
            case round =>
              clear kr ko kt kB ks
              obtain ⟨t, ht10, rfl, jr, jo, jt, jB, hcase⟩ := hrel
              generalize wc.heap.size = p7 at *
              have lr' := jr.lt; have lo' := jo.lt; have lt' := jt.lt
              have KR := hid jr; have KO := hid jo; have KT := hid jt; have GW := hid jB
              have P7 : Hid (w.heap.size ≤ p7) := ls
              have d47 : ¬ p4 = p7 := by omega
              have d74 : ¬ p7 = p4 := by omega
              have d57 : ¬ p5 = p7 := by omega
              have d75 : ¬ p7 = p5 := by omega
              have d07 : ¬ w.heap.size = p7 := by omega
              have d70 : ¬ p7 = w.heap.size := by omega
              rcases hcase with ⟨rfl, js, hfit⟩ | ⟨rfl, hno⟩
              · by_cases h10 : t < 10
                · have h10' : (t : Int) < 10 := by omega
                  have KS := hid js
                  obtain ⟨⟨o0, o1, o2⟩, fo⟩ := jo
                  obtain ⟨⟨s0, s1, s2⟩, fs⟩ := js
                  have t0 : wr.cell? ⟨p5, 0, none⟩ = some (.int .u64 10) := jt
                  by_cases hadd : n * t + n < 6277101735386680763835789423207666416102355444464034512896
                  · have c9 := fun w => radd_any (n * t) n hfit HN.out w hadd
                    obtain ⟨q, hq⟩ : ∃ q, n * t + n = q := ⟨_, rfl⟩
                    rw [hq] at c9 hadd
                    have HQ := hid (show n * (t + 1) = q from by rw [Nat.mul_add, Nat.mul_one]; exact hq)
                    have HA := hid hadd
                    have C9 := hid c9
                    clear jr jt jB hfit hadd hq c9
                    go_wp2_with (go_at_call 9; refine (C9.out _).mono ?_; rintro e w1 ⟨rfl, hb1⟩; obtain ⟨bc1, bf1⟩ := bcell hb1; have lk := (KS.out.lt))
                    refine ⟨⟨t + 1, by omega, by go_num, ?_, ?_, ?_, ?_, Or.inl ⟨rfl, ?_, ?_⟩⟩, by simp [intOf]; omega⟩
                    · exact (((KR.out.grown hb1).far _ _ _ (by omega)).far _ _ _ (by omega)).far _ _ _ (by omega)
                    · exact (((KO.out.grown hb1).far _ _ _ (by omega)).far _ _ _ (by omega)).far _ _ _ (by omega)
                    · exact (((KT.out.grown hb1).far _ _ _ (by omega)).far _ _ _ (by omega)).far _ _ _ (by omega)
                    · exact (((gt GW.out hb1).setCell (by show w.heap.size ≤ p7; omega) _).setCell (by show w.heap.size ≤ p7; omega) _).setCell (by show w.heap.size ≤ p7; omega) _
                    · rw [HQ.out]; exact (KS.out.grown hb1).set _
                    · rw [HQ.out]; exact HA.out
                  · have c9 := hid (fun w => radd_over (n * t) n hfit HN.out w hadd)
                    have hno : ¬ n * 10 < 6277101735386680763835789423207666416102355444464034512896 := by
                      have := Nat.mul_le_mul_left n (show t + 1 ≤ 10 by omega)
                      rw [Nat.mul_add, Nat.mul_one] at this
                      omega
                    have HNO := hid hno
                    clear jr jt jB hfit hadd hno
                    go_wp2_with (go_at_call 9; refine (c9.out _).mono ?_; rintro e w1 ⟨rfl, hb1⟩; obtain ⟨bc1, bf1⟩ := bcell hb1; have lk := (KS.out.lt))
                    refine ⟨⟨t + 1, by omega, by go_num, ?_, ?_, ?_, ?_, Or.inr ⟨rfl, HNO.out⟩⟩, by simp [intOf]; omega⟩
                    · exact (((KR.out.grown hb1).far _ _ _ (by omega)).far _ _ _ (by omega)).far _ _ _ (by omega)
                    · exact (((KO.out.grown hb1).far _ _ _ (by omega)).far _ _ _ (by omega)).far _ _ _ (by omega)
                    · exact (((KT.out.grown hb1).far _ _ _ (by omega)).far _ _ _ (by omega)).far _ _ _ (by omega)
                    · exact (((gt GW.out hb1).setCell (by show w.heap.size ≤ p7; omega) _).setCell (by show w.heap.size ≤ p7; omega) _).setCell (by show w.heap.size ≤ p7; omega) _
                · obtain rfl : t = 10 := by omega
                  have e48 : ((c - 48 : Nat) : Int) = IntKind.u64.wrap (IntKind.u8.wrap ((c : Int) - 48)) := by rw [u64w, IntKind.wrap_u8]; omega
                  obtain ⟨u0, u1, u2⟩ := W_small (c - 48) (by omega)
                  have KS := hid js
                  have i1 : Below wr.heap.size wr wr.drew := (Below.refl _ _).drew
                  have t0 : wr.cell? ⟨p5, 0, none⟩ = some (.int .u64 10) := jt
                  have C := hid (cellsOf js)
                  have f48 : ¬ (c : Int) < 48 := by omega
                  have g48 : (48 : Int) ≤ c := by omega
                  have g57 : (c : Int) ≤ 57 := by omega
                  obtain ⟨⟨o0, o1, o2⟩, fo⟩ := jo
                  by_cases hx : n * 10 + (c - 48) < 6277101735386680763835789423207666416102355444464034512896
                  · have c9 := fun w => radd_any (n * 10) (c - 48) hfit (by omega) w hx
                    rw [u0, u1, u2, e48] at c9
                    have E2 := hid (hv2.out hx)
                    have HX := hid hx
                    generalize n * 10 + (c - 48) = q at *
                    generalize n * 10 = q0 at *
                    have C9 := hid c9
                    clear jr jt jB hfit hx c9 hv1 hv2 js u0 u1 u2 e48
                    go_wp2
                    go_region_held3 (fun W => Cells W p7 q0) (first | with_reducible exact Cells.keep C.out i1 | with_reducible exact Cells.keep (by assumption) hb1 | with_reducible exact cellsSet (by assumption) d47) (first | (go_at_call 9; refine (C9.out _).mono ?_; rintro e w1 ⟨rfl, hb1⟩; obtain ⟨bc1, bf1⟩ := bcell (undrew hb1)))
                    go_wp2
                    have g := undrew hb1
                    refine ⟨⟨k + 1, q, by omega, by go_num, HX.out, ?_, ?_, ?_, ?_, E2⟩, by simp [intOf]; omega⟩
                    · exact (((KR.out.grown g).far _ _ _ (by omega)).far _ _ _ (by omega)).far _ _ _ (by omega)
                    · exact (KO.out.grown g).set _
                    · exact (((KT.out.grown g).far _ _ _ (by omega)).far _ _ _ (by omega)).far _ _ _ (by omega)
                    · exact (((gt GW.out g).setCell (by have := P4.out; show w.heap.size ≤ p4; omega) _).setCell (by have := P4.out; show w.heap.size ≤ p4; omega) _).setCell (by have := P4.out; show w.heap.size ≤ p4; omega) _
                  · have c9 := fun w => radd_over (n * 10) (c - 48) hfit (by omega) w hx
                    rw [u0, u1, u2, e48] at c9
                    have hv := hV.out
                    rw [hv1.out hx, answer] at hv
                    subst hv
                    generalize n * 10 = q0 at *
                    have C9 := hid c9
                    obtain ⟨⟨r0, r1, r2⟩, fr⟩ := jr
                    clear jt jB hfit hx c9 hv1 hv2 js u0 u1 u2 e48 hV
                    go_wp2
                    go_region_held3 (fun W => Cells W p7 q0) (first | with_reducible exact Cells.keep C.out i1 | with_reducible exact Cells.keep (by assumption) hb1 | with_reducible exact cellsSet (by assumption) d47) (first | (go_at_call 9; refine (C9.out _).mono ?_; rintro e w1 ⟨rfl, hb1⟩; obtain ⟨bc1, bf1⟩ := bcell (undrew hb1)))
                    go_wp2
                    have g := undrew hb1
                    exact bodyPost_ret (v := .tuple #[.agg #[.int .u64 0, .int .u64 0, .int .u64 0], .bool false]) (by simp [results, Try.results24, go_sem, *]) rfl ⟨rfl, ((((((gt GW.out g).setCell (by have := P4.out; show w.heap.size ≤ p4; omega) _).setCell (by have := P4.out; show w.heap.size ≤ p4; omega) _).setCell (by have := P4.out; show w.heap.size ≤ p4; omega) _).setCell (by simp) _).setCell (by simp) _).setCell (by simp) _⟩
              · have hx : ¬ n * 10 + (c - 48) < 6277101735386680763835789423207666416102355444464034512896 := by omega
                have hv := hV.out
                rw [hv1.out hx, answer] at hv
                subst hv
                obtain ⟨⟨r0, r1, r2⟩, fr⟩ := jr
                have t0 : wr.cell? ⟨p5, 0, none⟩ = some (.int .u64 10) := jt
                clear jt jB jo hx hv1 hv2 hV hno
                by_cases h10 : t < 10
                · have h10' : (t : Int) < 10 := by omega
                  go_wp2
                  exact bodyPost_ret (v := .tuple #[.agg #[.int .u64 0, .int .u64 0, .int .u64 0], .bool false]) (by simp [results, Try.results24, go_sem, *]) rfl ⟨rfl, (((GW.out).setCell (by simp) _).setCell (by simp) _).setCell (by simp) _⟩
                · have h10' : ¬ (t : Int) < 10 := by omega
                  go_wp2
                  exact bodyPost_ret (v := .tuple #[.agg #[.int .u64 0, .int .u64 0, .int .u64 0], .bool false]) (by simp [results, Try.results24, go_sem, *]) rfl ⟨rfl, (((GW.out).setCell (by simp) _).setCell (by simp) _).setCell (by simp) _⟩
    · obtain rfl : k = s.size := by omega
      have hv := hV.out
      rw [← HR.out, pf_end s s.size n (by omega), answer] at hv
      subst hv
      obtain ⟨⟨r0, r1, r2⟩, fr⟩ := hr
      obtain ⟨⟨o0, o1, o2⟩, fo⟩ := ho
      clear hB ht hV HR hn
      go_wp2
      exact bodyPost_ret (v := .tuple #[.agg #[.int .u64 (W0 (n)), .int .u64 (W1 (n)), .int .u64 (W2 (n))], .bool true]) (by simp [results, Try.results24, go_sem, *]) rfl ⟨rfl, ((GB.out.setCell (by simp) _).setCell (by simp) _).setCell (by simp) _⟩

theorem pf_long : ∀ (l : List UInt8) (n : Nat), n < 6277101735386680763835789423207666416102355444464034512896 → ¬ n * 10 ^ l.length < 6277101735386680763835789423207666416102355444464034512896 → pf l n = none
  | [], n, h, h' => absurd (by simpa using h) h'
  | c :: l, n, h, h' => by
    rw [pf]
    by_cases hc : c.toNat < 48 ∨ 57 < c.toNat
    · rw [if_pos hc]
    · rw [if_neg hc]
      by_cases hx : n * 10 + (c.toNat - 48) < 6277101735386680763835789423207666416102355444464034512896
      · rw [if_pos hx]
        refine pf_long l _ hx ?_
        rw [List.length_cons, Nat.pow_succ, Nat.mul_comm (10 ^ l.length), ← Nat.mul_assoc] at h'
        rw [Nat.add_mul]
        omega
      · rw [if_neg hx]

theorem parse_long (l : List UInt8) (h : 60 < l.length) : parseL l = none := by
  cases l with
  | nil => rfl
  | cons c r =>
    rw [parseL]
    by_cases hc : c = 48
    · rw [if_pos hc, if_neg (by intro e; rw [e] at h; simp at h)]
    · rw [if_neg hc, pf]
      have hn : c.toNat ≠ 48 := fun k => hc (UInt8.toNat_inj.1 k)
      have hb := c.toNat_lt
      by_cases hd : c.toNat < 48 ∨ 57 < c.toNat
      · rw [if_pos hd]
      · rw [if_neg hd, if_pos (by omega)]
        refine pf_long r _ (by omega) ?_
        have h1 : 10 ^ 60 ≤ 10 ^ r.length := Nat.pow_le_pow_right (by omega) (by simp at h; omega)
        have h2 : 1 * 10 ^ r.length ≤ (0 * 10 + (c.toNat - 48)) * 10 ^ r.length := Nat.mul_le_mul_right _ (by omega)
        have h3 : 6277101735386680763835789423207666416102355444464034512896 ≤ 10 ^ 60 := by decide
        omega

set_option maxHeartbeats 400000 in
theorem rparse_short (s : ByteArray) (w : World) (h : s.size < 1) :
    Calls Try.prog 24 #[.string s] w fun e w' => e = .returned (.tuple #[.agg #[.int .u64 0, .int .u64 0, .int .u64 0], .bool false]) ∧ Below w.heap.size w w' := by
  have g1 : (s.size : Int) < 1 := by omega
  go_enter Try.func24, Try.ntmps24
  go_wp2
  exact bodyPost_ret (v := .tuple #[.agg #[.int .u64 0, .int .u64 0, .int .u64 0], .bool false]) (by simp [results, Try.results24, go_sem]) rfl ⟨rfl, (by repeat (first | with_reducible exact Below.refl _ _ | with_reducible assumption | with_reducible refine Below.drew ?_ | with_reducible refine below_drewN ?_ _ | with_reducible refine Below.alloc ?_ (by simp <;> omega) _ | with_reducible refine Below.setCell ?_ (by simp <;> omega) _))⟩

set_option maxHeartbeats 400000 in
theorem rparse_long (s : ByteArray) (w : World) (h : 60 < s.size) :
    Calls Try.prog 24 #[.string s] w fun e w' => e = .returned (.tuple #[.agg #[.int .u64 0, .int .u64 0, .int .u64 0], .bool false]) ∧ Below w.heap.size w w' := by
  have g1 : ¬ (s.size : Int) < 1 := by omega
  have g2 : (60 : Int) < (s.size : Int) := by omega
  go_enter Try.func24, Try.ntmps24
  go_wp2
  exact bodyPost_ret (v := .tuple #[.agg #[.int .u64 0, .int .u64 0, .int .u64 0], .bool false]) (by simp [results, Try.results24, go_sem]) rfl ⟨rfl, (by repeat (first | with_reducible exact Below.refl _ _ | with_reducible assumption | with_reducible refine Below.drew ?_ | with_reducible refine below_drewN ?_ _ | with_reducible refine Below.alloc ?_ (by simp <;> omega) _ | with_reducible refine Below.setCell ?_ (by simp <;> omega) _))⟩

set_option maxHeartbeats 1000000 in
set_option maxRecDepth 100000 in
theorem rparse_lead (s : ByteArray) (w : World) (hp : 0 < s.size) (h1 : 1 < s.size) (h60 : s.size ≤ 60) (h0 : s[0].toNat = 48) :
    Calls Try.prog 24 #[.string s] w fun e w' => e = .returned (.tuple #[.agg #[.int .u64 0, .int .u64 0, .int .u64 0], .bool false]) ∧ Below w.heap.size w w' := by
  have g1 : ¬ (s.size : Int) < 1 := by omega
  have g2 : ¬ (60 : Int) < (s.size : Int) := by omega
  have g3 : (1 : Int) < (s.size : Int) := by omega
  have g4 : (0 : Int) < (s.size : Int) := by omega
  have e0 : ((s[0].toNat : Nat) : Int) = 48 := by rw [h0]; rfl
  clear h0
  go_enter Try.func24, Try.ntmps24
  go_wp2
  refine wp_loop_rounds 1 ?_
  rw [rounds_succ]
  go_wp2
  exact bodyPost_ret (v := .tuple #[.agg #[.int .u64 0, .int .u64 0, .int .u64 0], .bool false]) (by simp [results, Try.results24, go_sem]) rfl ⟨rfl, (by repeat (first | with_reducible exact Below.refl _ _ | with_reducible assumption | with_reducible refine Below.drew ?_ | with_reducible refine below_drewN ?_ _ | with_reducible refine Below.alloc ?_ (by simp <;> omega) _ | with_reducible refine Below.setCell ?_ (by simp <;> omega) _))⟩

theorem rparse_any (s : ByteArray) (w : World) :
    Calls Try.prog 24 #[.string s] w fun e w' => e = .returned (answer (parseL s.data.toList)) ∧ Below w.heap.size w w' := by
  have hz : s.size = s.data.toList.length := by simp
  by_cases hs : s.size < 1
  · rw [show parseL s.data.toList = none by rw [List.eq_nil_of_length_eq_zero (show s.data.toList.length = 0 by omega)]; rfl, answer]
    exact rparse_short s w hs
  · by_cases hl : 60 < s.size
    · rw [parse_long _ (by omega), answer]
      exact rparse_long s w hl
    · have hpos : 0 < s.size := by omega
      by_cases h0 : s[0].toNat = 48 ∧ 1 < s.size
      · cases he : s.data.toList with
        | nil => exact absurd (show s.size = 0 by rw [hz, he]; rfl) (by omega)
        | cons c r =>
          have hc : s[0] = c := by
            have h1 : s[0] = s.data.toList[0]'(by rw [he]; simp) := rfl
            rw [h1]
            simp only [he, List.getElem_cons_zero]
          have hc48 : c = 48 := by rw [hc] at h0; exact UInt8.toNat_inj.1 h0.1
          rw [parseL, if_pos hc48, if_neg (by intro e; rw [he, e] at hz; simp at hz; omega), answer]
          exact rparse_lead s w hpos h0.2 (by omega) h0.1
      · refine rparse_loop s w _ _ rfl ?_ (by omega) (by omega) (fun k => by omega)
        unfold Hid
        cases he : s.data.toList with
        | nil => exact absurd (show s.size = 0 by rw [hz, he]; rfl) (by omega)
        | cons c r =>
          have hc : s[0] = c := by
            have h1 : s[0] = s.data.toList[0]'(by rw [he]; simp) := rfl
            rw [h1]
            simp only [he, List.getElem_cons_zero]
          rw [parseL]
          by_cases hc48 : c = 48
          · have hr : r = [] := by
              have h2 : s[0].toNat = 48 := by rw [hc, hc48]; rfl
              have h3 : s.size = r.length + 1 := by rw [hz, he]; simp
              exact List.eq_nil_of_length_eq_zero (by omega)
            rw [if_pos hc48, if_pos hr, hr, hc48]
            rfl
          · rw [if_neg hc48]

end Go.Proofs.Ytfjepmhlkelinaa
