/- The law DiskArmed returns true and turns nothing that was there; the walk alone. -/
import Derived.Test.YtkgenmooepfhjaaDe
namespace Go.Proofs.Ytkgenmooepfhjaa
open Go.RowKit Go.Maps

theorem pairOf {α β : Type} (x : α × β) : ∃ a b, x = (a, b) := ⟨_, _, rfl⟩

/-- What an act's variable holds. -/
def RdAct5 (xb : Nat) (x : Av) (W : World) : Prop := W.cell? ⟨xb, 0, none⟩ = some (.int .i64 x.k) ∧ W.cell? ⟨xb, 1, none⟩ = some (.int .i64 x.f) ∧ W.cell? ⟨xb, 2, none⟩ = some (.int .i64 x.a) ∧ W.cell? ⟨xb, 3, none⟩ = some (.int .i64 x.n) ∧ W.cell? ⟨xb, 4, none⟩ = some (.int .u8 (x.s : Int))
theorem RdAct5.keep {xb : Nat} {x : Av} {W W' : World} (h : RdAct5 xb x W) (hb : W'.heap[xb]? = W.heap[xb]?) : RdAct5 xb x W' := ⟨(World.cell?_of_block hb).trans h.1, (World.cell?_of_block hb).trans h.2.1, (World.cell?_of_block hb).trans h.2.2.1, (World.cell?_of_block hb).trans h.2.2.2.1, (World.cell?_of_block hb).trans h.2.2.2.2⟩
theorem RdAct5.lt {xb : Nat} {x : Av} {W : World} (h : RdAct5 xb x W) : xb < W.heap.size := lt_cell h.1

theorem read_none (d : DS) : readD d 0 0 0 = ([], if d.off then 4 else 0) := by
  unfold readD
  cases d.off
  · simp [known]
  · simp

set_option maxHeartbeats 1000000 in
theorem armed_long (lo : Option Addr) (L C : Nat) (X : Nat → Av) (seed : Nat) (ko : Option Addr) (kn kc : Nat) (t : Int) (w : World) (h : ActsV w lo L X) (hk : 100 < kn) :
    Calls Try.prog 5 #[.slice lo L C, .int .u8 (seed : Int), .agg #[.slice ko kn kc, .int .i64 t]] w fun e w' => e = .returned (.bool true) ∧ Below w.heap.size w w' := by
  obtain ⟨w1, hw1⟩ : ∃ w1, w1 = w.alloc (.cells #[.slice ko kn kc, .int .i64 t] 32) := ⟨_, rfl⟩
  have hb1 : Below w.heap.size w w1 := by rw [hw1]; exact (Below.refl _ _).alloc (Nat.le_refl _) _
  have k0 : w1.cell? ⟨w.heap.size, 0, none⟩ = some (.slice ko kn kc) := by rw [hw1, World.cell?_alloc_at _ _ _ _ rfl]; rfl
  have cl := hid (light_any lo L C X w1 (h.keep hb1))
  have HB1 := hid hb1; have HW1 := hid hw1; have HK0 := hid k0
  have hk' : (100 : Int) < (kn : Int) := by omega
  clear h hb1 hw1 k0
  go_enter Try.func5, Try.ntmps5
  go_wp2_with (go_at_call 8; rw [← HW1.out]; refine cl.out.mono ?_; rintro e w2 ⟨r, rfl, _, hb2⟩; have k2 := keep_old hb2 HK0.out; replace hb2 := hid hb2; clear cl; cases r)
  all_goals
    go_wp2_with (go_at_call 9; refine (lives_any _).mono ?_; rintro e w3 ⟨rfl, hb3⟩; replace hb3 := hid hb3)
    go_ret
    exact ⟨rfl, gt (gt HB1.out hb2.out) hb3.out⟩

set_option maxHeartbeats 8000000 in
set_option maxRecDepth 20000 in
theorem armed_short (lo : Option Addr) (L C : Nat) (X : Nat → Av) (n : Nat) (hn : n < 256) (ko : Option Addr) (kc : Nat) (keep : List Bool) (t : Int) (w : World) (h : ActsV w lo L X) (hk : keep.length ≤ 100) (hrd : RdB w ko keep) (ht : I64 t) :
    Calls Try.prog 5 #[.slice lo L C, .int .u8 (n : Int), .agg #[.slice ko keep.length kc, .int .i64 t]] w fun e w' => e = .returned (.bool true) ∧ Below w.heap.size w w' := by
  obtain ⟨kn, hkn⟩ : ∃ kn, kn = keep.length := ⟨_, rfl⟩
  rw [← hkn] at hk ⊢
  have HKN := hid hkn
  clear hkn
  obtain ⟨w1, hw1⟩ : ∃ w1, w1 = w.alloc (.cells #[.slice ko kn kc, .int .i64 t] 32) := ⟨_, rfl⟩
  have hb1 : Below w.heap.size w w1 := by rw [hw1]; exact (Below.refl _ _).alloc (Nat.le_refl _) _
  have k0 : w1.cell? ⟨w.heap.size, 0, none⟩ = some (.slice ko kn kc) := by rw [hw1, World.cell?_alloc_at _ _ _ _ rfl]; rfl
  have k1 : w1.cell? ⟨w.heap.size, 1, none⟩ = some (.int .i64 t) := by rw [hw1, World.cell?_alloc_at _ _ _ _ rfl]; rfl
  have z1 : w1.heap.size = w.heap.size + 1 := by rw [hw1]; simp
  have h1 := h.keep hb1
  have cl := hid (light_any lo L C X w1 h1)
  have hkb := fun hp => rdB_lt hrd hp
  have H1 := hid h1; have HB1 := hid hb1; have HW1 := hid hw1; have HK0 := hid k0; have HK1 := hid k1; have Z1 := hid z1; have HRD := hid hrd; have HT := hid ht; have HKB := hid hkb
  have hk' : ¬ ((100 : Int) < (kn : Int)) := by omega
  clear h h1 hb1 hw1 k0 k1 z1 hrd ht hkb
  obtain ⟨kk, hkk⟩ : ∃ kk, kk = n % 20 := ⟨_, rfl⟩
  have hkm : (n : Int).tmod 20 = (kk : Int) := by rw [Int.tmod_eq_emod_of_nonneg (by omega), hkk]; omega
  have hk20 : (kk : Int) < 20 := by omega
  have hk0 : (0 : Int) ≤ (kk : Int) := by omega
  clear hkk
  go_enter Try.func5, Try.ntmps5
  go_wp2_with (go_at_call 8; rw [← HW1.out]; refine cl.out.mono ?_; rintro e w2 ⟨r, rfl, hlt, hb2⟩; have k2 := keep_old hb2 HK0.out; replace hb2 := hid hb2; replace hlt := hid hlt; clear cl; cases r)
  · go_wp2_with (go_at_call 9; refine (lives_any _).mono ?_; rintro e w3 ⟨rfl, hb3⟩; replace hb3 := hid hb3)
    go_ret
    exact ⟨rfl, gt (gt HB1.out hb2.out) hb3.out⟩
  · obtain ⟨p, hp⟩ : ∃ p, p = w2.heap.size := ⟨_, rfl⟩
    have c10 := hid (new_yes 300 w2 (by omega) (by omega))
    rw [← hp] at c10
    have HP : Hid (w1.heap.size ≤ p) := hid (by rw [hp]; exact hb2.out.size)
    have HPE := hid hp
    clear hp
    go_wp2_with (first
      | (go_at_call 10; refine c10.out.mono ?_; rintro e w3 ⟨rfl, ⟨P3, hd3, ha3⟩, hb3⟩; clear c10; have HZ3 : Hid (p < w3.heap.size) := hid (p_lt hd3); obtain ⟨q, hq⟩ : ∃ q, q = w3.heap.size := ⟨_, rfl⟩; have c10b := new_yes 300 w3 (by omega) (by omega); rw [← hq] at c10b; replace c10b := hid c10b; replace hd3 := hid hd3; replace ha3 := hid ha3; replace hb3 := hid hb3; replace hq := hid hq)
      | (go_at_call 10; refine c10b.out.mono ?_; rintro e w4 ⟨rfl, ⟨P4, hd4, ha4⟩, hb4⟩; clear c10b; have zq := hq.out; have zp := HZ3.out; have zw := HP.out; have hpr : Pair w1 w4 p q P3 P4 (newD 300) (newD 300) := ⟨hd3.out.later (by rw [← zq]; exact hb4), hd4, by omega, fun h => (by have := all_lt hd3.out h; omega), fun h => (by have := ha4 _ h; omega), fun k h1 h2 => (by have := all_lt hd3.out h1; have := ha4 _ h2; omega), fun k hk => (by have := ha3.out k hk; omega), fun k hk => (by have := ha4 k hk; omega), zw, by omega, (hb2.out.trans (hb3.out.mono zw)).trans (hb4.mono (by omega))⟩; have x0 := keep_old hpr.bw HK0.out; have x1 := keep_old hpr.bw HK1.out; replace hpr := hid hpr; clear hd3 ha3 hb3 hd4 ha4 hb4 zq zp zw HZ3)
      | (go_at_call 24; have zw := HP.out; have zb := HB1.out.size; have ca := arm_call p P3 (newD 300) (1 + (kk : Int)) ko kc keep t w4 hpr.out.hd (by omega) (rdB_stay HRD.out (fun hp a ha hl => (hpr.out.bw.block _ (by have := Z1.out; omega)).trans (HB1.out.block _ hl))) (by rw [← HKN.out]; exact hk) HT.out (fun hp a ha => by have := HKB.out hp a ha; omega); rw [← HKN.out, if_neg (by omega)] at ca; refine ca.mono ?_; rintro e w5 ⟨rfl, ⟨P5, hd5, hg5⟩, hf5⟩; have hpr5 := hid (hpr.out.left hd5 hg5 hf5); clear ca hd5 hg5 hf5 hpr zw zb x0 x1))
    have HTW0 : Hid (Twin (1 + kk) keep t (armD (newD 300) (1 + (kk : Int)) keep t) (newD 300)) := hid (by have := twin_start (1 + kk) (by omega) keep t 300; rwa [show ((1 + kk : Nat) : Int) = 1 + (kk : Int) by omega] at this)
    go_loopw [43] (fun c W => ∃ (i : Nat) (P Q : Parts) (d e : DS), i ≤ L ∧ c = .int .i64 (i : Int) ∧ Hid (Pair w1 W p q P Q d e) ∧ Hid (Twin (1 + kk) keep t d e)) (fun c _ => L - (intOf c).toNat)
    case atStart => exact ⟨0, _, _, _, _, Nat.zero_le _, rfl, hpr5, HTW0⟩
    case round =>
      clear hpr5 HTW0
      obtain ⟨i, P, Q, d, e, hi, rfl, HPR, HTW⟩ := hrel
      by_cases hiL : i < L
      · obtain ⟨b, off, rfl, hacts⟩ := H1.out (by omega)
        have hiL' : (i : Int) < (L : Int) := by omega
        obtain ⟨c0, c1, c2, c3, c4, c5, c6, ok⟩ := (hacts.keep HPR.out.bw) i hiL
        have hbl : b < wr.heap.size := lt_cell c0
        have hbl' : ¬ b = wr.heap.size := by omega
        have OK := hid ok
        have hL100 := (hlt.out trivial).1
        clear ok hacts
        obtain ⟨W0, hW0⟩ : ∃ W0, W0 = wr.alloc (.cells #[.int .i64 (X i).k, .int .i64 (X i).f, .int .i64 (X i).a, .int .i64 (X i).n, .int .u8 ((X i).s : Int), .slice (X i).ko (X i).keep.length (X i).kc, .int .i64 (X i).t] 34) := ⟨_, rfl⟩
        have hb0 : Below wr.heap.size wr W0 := by rw [hW0]; exact (Below.refl _ _).alloc (Nat.le_refl _) _
        have HR0 : Hid (RdAct5 wr.heap.size (X i) W0) := hid (by rw [hW0]; refine ⟨?_, ?_, ?_, ?_, ?_⟩ <;> (rw [World.cell?_alloc_at _ _ _ _ rfl]; rfl))
        have HXP : Hid (wr.heap.size ≠ p ∧ wr.heap.size ≠ q) := hid ⟨by have := p_lt HPR.out.hd; omega, by have := p_lt HPR.out.he; omega⟩
        have HXA : Hid ((¬ P.all wr.heap.size) ∧ ¬ Q.all wr.heap.size) := hid ⟨fun h => by have := all_lt HPR.out.hd h; omega, fun h => by have := all_lt HPR.out.he h; omega⟩
        have HPR0 := hid (HPR.out.later hb0)
        have HW0 := hid hW0
        clear hW0 hb0 HPR
        by_cases hk0 : (X i).k = 0
        · have hk0' : ((X i).k == 0) = true := by simp [hk0]
          clear hk0
          obtain ⟨f1, d1, hs1⟩ := pairOf (writeD d (X i).f (X i).a (secB (cntN (X i).n) (X i).s))
          obtain ⟨g1, e1, hs2⟩ := pairOf (writeD e (X i).f (X i).a (secB (cntN (X i).n) (X i).s))
          have HST : Hid (Step (1 + kk) keep t f1 d1 g1 e1) := hid (by have := HTW.out.write (X i).f (X i).a (secB (cntN (X i).n) (X i).s); rw [hs1, hs2] at this; exact this)
          have hd1' : (writeD d (X i).f (X i).a (secB (cntN (X i).n) (X i).s)).1 = f1 ∧ (writeD d (X i).f (X i).a (secB (cntN (X i).n) (X i).s)).2 = d1 := by rw [hs1]; exact ⟨rfl, rfl⟩
          have he1' : (writeD e (X i).f (X i).a (secB (cntN (X i).n) (X i).s)).1 = g1 ∧ (writeD e (X i).f (X i).a (secB (cntN (X i).n) (X i).s)).2 = e1 := by rw [hs2]; exact ⟨rfl, rfl⟩
          have HS1 := hid hd1'; have HS2 := hid he1'
          clear hs1 hs2 hd1' he1'
          have HOD : Hid (d.ops < 1000000000) := hid (by rw [HTW.out.eq]; have := HTW.out.lt; show e.ops < _; omega)
          have HOE : Hid (e.ops < 1000000000) := hid (by have := HTW.out.lt; omega)
          go_wp2_with fail
          rw [← HW0.out]
          have hR : RdAct5 wr.heap.size (X i) W0.drew := HR0.out
          have HPR := hid HPR0.out.drew
          clear HPR0
          refine wp_region_held_drew (S := RdAct5 wr.heap.size (X i)) (by kernel_rfl) hR (fun hHeld => ?_)
          refine wpAnyH_take (i := 0) (v := ?_) (op_at _ 0 _ rfl) (by kernel_rfl) (by kernel_rfl) (by kernel_rfl) (fun _ _ _ h => h) (Or.inl ⟨by rfl, ?_⟩) (by assumption) ?_
          rotate_left 1
          focus (intro W hSw; obtain ⟨q0, q1, q2, q3, q4⟩ := hSw; go_simp; first | done | with_reducible rfl)
          (try simp only [Act.put, List.setIfInBounds_toArray, List.set_cons_zero, List.set_cons_succ])
          refine wpAnyH_take (i := 1) (v := ?_) (op_at _ 1 _ rfl) (by kernel_rfl) (by kernel_rfl) (by kernel_rfl) (fun _ _ _ h => h) (Or.inl ⟨by rfl, ?_⟩) (by assumption) ?_
          rotate_left 1
          focus (intro W hSw; obtain ⟨q0, q1, q2, q3, q4⟩ := hSw; go_simp; first | done | with_reducible rfl)
          (try simp only [Act.put, List.setIfInBounds_toArray, List.set_cons_zero, List.set_cons_succ])
          refine wpAnyH_take (i := 2) (v := ?_) (op_at _ 2 _ rfl) (by kernel_rfl) (by kernel_rfl) (by kernel_rfl) (fun _ _ _ h => h) (Or.inl ⟨by rfl, ?_⟩) (by assumption) ?_
          rotate_left 1
          focus (intro W hSw; obtain ⟨q0, q1, q2, q3, q4⟩ := hSw; go_simp; first | done | with_reducible rfl)
          (try simp only [Act.put, List.setIfInBounds_toArray, List.set_cons_zero, List.set_cons_succ])
          refine wpAnyH_take (i := 3) (v := ?_) (op_at _ 3 _ rfl) (by kernel_rfl) (by kernel_rfl) (by kernel_rfl) (fun _ _ _ h => h) (Or.inl ⟨by rfl, ?_⟩) (by assumption) ?_
          rotate_left 1
          focus (intro W hSw; obtain ⟨q0, q1, q2, q3, q4⟩ := hSw; go_simp; first | done | with_reducible rfl)
          (try simp only [Act.put, List.setIfInBounds_toArray, List.set_cons_zero, List.set_cons_succ])
          refine wpAnyH_take (i := 4) (v := ?_) (op_at _ 4 _ rfl) (by kernel_rfl) (by kernel_rfl) (by kernel_rfl) (fun _ _ _ h => h) (Or.inl ⟨by rfl, ?_⟩) (by assumption) ?_
          rotate_left 1
          focus (intro W hSw; obtain ⟨q0, q1, q2, q3, q4⟩ := hSw; go_simp; first | done | with_reducible rfl)
          (try simp only [Act.put, List.setIfInBounds_toArray, List.set_cons_zero, List.set_cons_succ])
          refine wpAnyH_take (i := 5) (v := ?_) (op_at _ 5 _ rfl) (by kernel_rfl) (by kernel_rfl) (by kernel_rfl) (fun _ _ _ h => h) (Or.inl ⟨by rfl, ?_⟩) (by assumption) ?_
          rotate_left 1
          focus (intro W hSw; obtain ⟨q0, q1, q2, q3, q4⟩ := hSw; go_simp; first | done | with_reducible rfl)
          (try simp only [Act.put, List.setIfInBounds_toArray, List.set_cons_zero, List.set_cons_succ])
          refine wpAnyH_take (i := 6) (v := ?_) (op_at _ 6 _ rfl) (by kernel_rfl) (by kernel_rfl) (by kernel_rfl) (fun _ _ _ h => h) (Or.inl ⟨by rfl, ?_⟩) (by assumption) ?_
          rotate_left 1
          focus (intro W hSw; obtain ⟨q0, q1, q2, q3, q4⟩ := hSw; go_simp; first | done | with_reducible rfl)
          (try simp only [Act.put, List.setIfInBounds_toArray, List.set_cons_zero, List.set_cons_succ])
          refine wpAnyH_take (i := 7) (v := ?_) (op_at _ 7 _ rfl) (by kernel_rfl) (by kernel_rfl) (by kernel_rfl) (fun _ _ _ h => h) (Or.inl ⟨by rfl, ?_⟩) (by assumption) ?_
          rotate_left 1
          focus (intro W hSw; obtain ⟨q0, q1, q2, q3, q4⟩ := hSw; go_simp; first | done | with_reducible rfl)
          (try simp only [Act.put, List.setIfInBounds_toArray, List.set_cons_zero, List.set_cons_succ])
          refine wpAnyH_take (i := 8) (v := ?_) (op_at _ 8 _ rfl) (by kernel_rfl) (by kernel_rfl) (by kernel_rfl) (fun _ _ _ h => h) (Or.inl ⟨by rfl, ?_⟩) (by assumption) ?_
          rotate_left 1
          focus (intro W hSw; obtain ⟨q0, q1, q2, q3, q4⟩ := hSw; go_simp; first | done | with_reducible rfl)
          (try simp only [Act.put, List.setIfInBounds_toArray, List.set_cons_zero, List.set_cons_succ])
          refine wpAnyH_take (i := 11) (v := ?_) (op_at _ 11 _ rfl) (by kernel_rfl) (by kernel_rfl) (by kernel_rfl) (fun _ _ _ h => h) (Or.inl ⟨by rfl, ?_⟩) (by assumption) ?_
          rotate_left 1
          focus (intro W hSw; obtain ⟨q0, q1, q2, q3, q4⟩ := hSw; go_simp; first | done | with_reducible rfl)
          (try simp only [Act.put, List.setIfInBounds_toArray, List.set_cons_zero, List.set_cons_succ])
          refine wpAnyH_take (i := 12) (v := ?_) (op_at _ 12 _ rfl) (by kernel_rfl) (by kernel_rfl) (by kernel_rfl) (fun _ _ _ h => h) (Or.inl ⟨by rfl, ?_⟩) (by assumption) ?_
          rotate_left 1
          focus (intro W hSw; obtain ⟨q0, q1, q2, q3, q4⟩ := hSw; go_simp; first | done | with_reducible rfl)
          (try simp only [Act.put, List.setIfInBounds_toArray, List.set_cons_zero, List.set_cons_succ])
          refine wpAnyH_take (i := 13) (v := ?_) (op_at _ 13 _ rfl) (by kernel_rfl) (by kernel_rfl) (by kernel_rfl) (fun _ _ _ h => h) (Or.inl ⟨by rfl, ?_⟩) (by assumption) ?_
          rotate_left 1
          focus (intro W hSw; obtain ⟨q0, q1, q2, q3, q4⟩ := hSw; go_simp; first | done | with_reducible rfl)
          (try simp only [Act.put, List.setIfInBounds_toArray, List.set_cons_zero, List.set_cons_succ])
          refine wpAnyH_take (i := 14) (v := ?_) (op_at _ 14 _ rfl) (by kernel_rfl) (by kernel_rfl) (by kernel_rfl) (fun _ _ _ h => h) (Or.inl ⟨by rfl, ?_⟩) (by assumption) ?_
          rotate_left 1
          focus (intro W hSw; obtain ⟨q0, q1, q2, q3, q4⟩ := hSw; go_simp; first | done | with_reducible rfl)
          (try simp only [Act.put, List.setIfInBounds_toArray, List.set_cons_zero, List.set_cons_succ])
          refine wpAnyH_take (i := 15) (v := ?_) (op_at _ 15 _ rfl) (by kernel_rfl) (by kernel_rfl) (by kernel_rfl) (fun _ _ _ h => h) (Or.inl ⟨by rfl, ?_⟩) (by assumption) ?_
          rotate_left 1
          focus (intro W hSw; obtain ⟨q0, q1, q2, q3, q4⟩ := hSw; go_simp; first | done | with_reducible rfl)
          (try simp only [Act.put, List.setIfInBounds_toArray, List.set_cons_zero, List.set_cons_succ])
          refine wpAnyH_take (i := 16) (v := ?_) (op_at _ 16 _ rfl) (by kernel_rfl) (by kernel_rfl) (by kernel_rfl) (fun _ _ _ h => h) (Or.inl ⟨by rfl, ?_⟩) (by assumption) ?_
          rotate_left 1
          focus (intro W hSw; obtain ⟨q0, q1, q2, q3, q4⟩ := hSw; go_simp; first | done | with_reducible rfl)
          (try simp only [Act.put, List.setIfInBounds_toArray, List.set_cons_zero, List.set_cons_succ])
          refine wpAnyH_take (i := 17) (v := ?_) (op_at _ 17 _ rfl) (by kernel_rfl) (by kernel_rfl) (by kernel_rfl) (fun _ _ _ h => h) (Or.inl ⟨by rfl, ?_⟩) (by assumption) ?_
          rotate_left 1
          focus (intro W hSw; obtain ⟨q0, q1, q2, q3, q4⟩ := hSw; go_simp; first | done | with_reducible rfl)
          (try simp only [Act.put, List.setIfInBounds_toArray, List.set_cons_zero, List.set_cons_succ])
          refine wpAnyH_take (i := 18) (v := ?_) (op_at _ 18 _ rfl) (by kernel_rfl) (by kernel_rfl) (by kernel_rfl) (fun _ _ _ h => h) (Or.inl ⟨by rfl, ?_⟩) (by assumption) ?_
          rotate_left 1
          focus (intro W hSw; obtain ⟨q0, q1, q2, q3, q4⟩ := hSw; go_simp; first | done | with_reducible rfl)
          (try simp only [Act.put, List.setIfInBounds_toArray, List.set_cons_zero, List.set_cons_succ])
          refine wpAnyH_take (i := 19) (v := ?_) (op_at _ 19 _ rfl) (by kernel_rfl) (by kernel_rfl) (by kernel_rfl) (fun _ _ _ h => h) (Or.inl ⟨by rfl, ?_⟩) (by assumption) ?_
          rotate_left 1
          focus (intro W hSw; obtain ⟨q0, q1, q2, q3, q4⟩ := hSw; go_simp; first | done | with_reducible rfl)
          (try simp only [Act.put, List.setIfInBounds_toArray, List.set_cons_zero, List.set_cons_succ])
          refine wpAnyH_ready (rs := [9]) (by kernel_rfl) (by simp) ?_
          refine AllReadyH.cons (op_at _ 9 _ rfl) (fun K hK => ?_) AllReadyH.nil
          go_simp
          refine (sectors_any (X i).n (X i).s _ OK.out.n).mono ?_; rintro e y1 ⟨rfl, ho, hy⟩; have hRy : RdAct5 wr.heap.size (X i) y1 := hR.keep (hy.block _ hR.lt); have HO := hid ho; have hgl := hy.size; replace hR := hRy; have HPRs := HPR; replace HPR := hid (HPR.out.later hy); clear ho hRy
          refine hK.out _ _ hR (fun hHeld => ?_)
          clear hK K
          (try simp only [Act.put, List.setIfInBounds_toArray, List.set_cons_zero, List.set_cons_succ])
          refine wpAnyH_ready (rs := [10]) (by kernel_rfl) (by simp) ?_
          refine AllReadyH.cons (op_at _ 10 _ rfl) (fun K hK => ?_) AllReadyH.nil
          go_simp
          have cw := write_secs p P d (X i).f (X i).a (cntN (X i).n) (X i).s _ _ _ HPR.out.hd HOD.out (cnt_le _) HO.out (fun h => Nat.lt_irrefl _ (all_lt HPRs.out.hd h)) (Nat.ne_of_gt (p_lt HPRs.out.hd)); rw [HS1.out.1, HS1.out.2] at cw; refine cw.mono ?_; rintro ee y2 ⟨rfl, ⟨P2, hdx, hgx⟩, hfx⟩; clear cw; have hRy : RdAct5 wr.heap.size (X i) y2 := hR.keep (hfx.block _ hR.lt HXP.out.1 HXA.out.1); replace hR := hRy; replace HPR := hid (HPR.out.left hdx hgx hfx); clear hRy hdx hgx hfx
          refine hK.out _ _ hR (fun hHeld => ?_)
          clear hK K
          (try simp only [Act.put, List.setIfInBounds_toArray, List.set_cons_zero, List.set_cons_succ])
          clear HO hgl HPRs hy
          refine wpAnyH_ready (rs := [20]) (by kernel_rfl) (by simp) ?_
          refine AllReadyH.cons (op_at _ 20 _ rfl) (fun K hK => ?_) AllReadyH.nil
          go_simp
          refine (sectors_any (X i).n (X i).s _ OK.out.n).mono ?_; rintro e y3 ⟨rfl, ho, hy⟩; have hRy : RdAct5 wr.heap.size (X i) y3 := hR.keep (hy.block _ hR.lt); have HO := hid ho; have hgl := hy.size; replace hR := hRy; have HPRs := HPR; replace HPR := hid (HPR.out.later hy); clear ho hRy
          refine hK.out _ _ hR (fun hHeld => ?_)
          clear hK K
          (try simp only [Act.put, List.setIfInBounds_toArray, List.set_cons_zero, List.set_cons_succ])
          refine wpAnyH_ready (rs := [21]) (by kernel_rfl) (by simp) ?_
          refine AllReadyH.cons (op_at _ 21 _ rfl) (fun K hK => ?_) AllReadyH.nil
          go_simp
          have cw := write_secs q Q e (X i).f (X i).a (cntN (X i).n) (X i).s _ _ _ HPR.out.he HOE.out (cnt_le _) HO.out (fun h => Nat.lt_irrefl _ (all_lt HPRs.out.he h)) (Nat.ne_of_gt (p_lt HPRs.out.he)); rw [HS2.out.1, HS2.out.2] at cw; refine cw.mono ?_; rintro ee y4 ⟨rfl, ⟨Q2, hdx, hgx⟩, hfx⟩; clear cw; have hRy : RdAct5 wr.heap.size (X i) y4 := hR.keep (hfx.block _ hR.lt HXP.out.2 HXA.out.2); replace hR := hRy; replace HPR := hid (HPR.out.right hdx hgx hfx); clear hRy hdx hgx hfx
          refine hK.out _ _ hR (fun hHeld => ?_)
          clear hK K
          (try simp only [Act.put, List.setIfInBounds_toArray, List.set_cons_zero, List.set_cons_succ])
          clear HO hgl HPRs hy
          refine wpAnyH_take (i := 22) (v := ?_) (op_at _ 22 _ rfl) (by kernel_rfl) (by kernel_rfl) (by kernel_rfl) (fun _ _ _ h => h) (Or.inl ⟨by rfl, ?_⟩) (by assumption) ?_
          rotate_left 1
          focus (intro W hSw; obtain ⟨q0, q1, q2, q3, q4⟩ := hSw; go_simp; first | done | with_reducible rfl)
          (try simp only [Act.put, List.setIfInBounds_toArray, List.set_cons_zero, List.set_cons_succ])
          refine wpAnyH_take (i := 23) (v := ?_) (op_at _ 23 _ rfl) (by kernel_rfl) (by kernel_rfl) (by kernel_rfl) (fun _ _ _ h => h) (Or.inl ⟨by rfl, ?_⟩) (by assumption) ?_
          rotate_left 1
          focus (intro W hSw; obtain ⟨q0, q1, q2, q3, q4⟩ := hSw; go_simp; first | done | with_reducible rfl)
          (try simp only [Act.put, List.setIfInBounds_toArray, List.set_cons_zero, List.set_cons_succ])
          refine wpAnyH_done (by kernel_rfl) ?_ _
          have HOPS := hid (ops_any q Q2 e1 y4 HPR.out.he)
          have HON := on_any p P2 d1 y4 HPR.out.hd
          rcases HST.out with ⟨hlo, hfg, htw⟩ | ⟨hge, hf4, hdo⟩
          · subst hfg
            have hoff : (d1).off = false := by rw [htw.eq]; exact htw.off
            rw [hoff] at HON
            replace HON := hid HON
            have hnk : ¬ (1 + (kk : Int) ≤ ((e1).ops : Int)) := by omega
            have hnk' : decide (1 + (kk : Int) ≤ ((e1).ops : Int)) = false := by simp; omega
            have HTW2 := hid htw
            clear htw hoff HST
            go_wp2_with (first
              | (go_at_call 26; refine HOPS.out.mono ?_; rintro e wx ⟨rfl, hwx⟩; obtain rfl := hwx.symm; clear HOPS)
              | (go_at_call 27; refine HON.out.mono ?_; rintro e wx ⟨rfl, hwx⟩; obtain rfl := hwx.symm; clear HON))
            exact ⟨⟨i + 1, _, _, _, _, by omega, by simp, HPR, HTW2⟩, by simp [intOf]; omega⟩
          · subst hf4
            rw [hdo] at HON
            replace HON := hid HON
            have hyk : 1 + (kk : Int) ≤ ((e1).ops : Int) := by omega
            clear HST
            go_wp2_with (first
              | (go_at_call 26; refine HOPS.out.mono ?_; rintro e wx ⟨rfl, hwx⟩; obtain rfl := hwx.symm; clear HOPS)
              | (go_at_call 27; refine HON.out.mono ?_; rintro e wx ⟨rfl, hwx⟩; obtain rfl := hwx.symm; clear HON))
            have CR := hid (read_call p P2 d1 0 0 0 y4 HPR.out.hd (by omega) (by omega))
            rw [read_none, hdo] at CR
            simp only [List.length_nil] at CR
            go_wp2_with (first
              | (go_at_call 14; refine CR.out.mono ?_; rintro e z1 ⟨ro, rc, rfl, _, _, hbz⟩; clear CR; have hpr1 := hid (HPR.out.later hbz); clear HPR hbz)
              | (go_at_call 27; have con := on_any p P2 d1 z1 hpr1.out.hd; rw [hdo] at con; refine con.mono ?_; rintro e wx ⟨rfl, hwx⟩; obtain rfl := hwx.symm; clear con)
              | (go_at_call 22; refine (start_any p P2 d1 z1 hpr1.out.hd).mono ?_; rintro e z2 ⟨rfl, ⟨P9, hd9, hg9⟩, hf9⟩; have hpr2 := hid (hpr1.out.left hd9 hg9 (hf9.imp (fun _ _ h => h.elim))); clear hpr1 hd9 hg9 hf9)
              | (go_at_call 27; refine (on_any p P9 _ z2 hpr2.out.hd).mono ?_; rintro e wx ⟨rfl, hwx⟩; obtain rfl := hwx.symm; simp only [startD, Bool.not_false])
              | (go_at_call 9; refine (lives_any _).mono ?_; rintro e z3 ⟨rfl, hbz⟩; have hpr3 := hid (hpr2.out.later hbz); clear hpr2 hbz))
            go_ret
            exact ⟨rfl, gt HB1.out hpr3.out.bw⟩
        · have hk0' : ((X i).k == 0) = false := by simp [hk0]
          by_cases hk1 : (X i).k = 1
          · have hk1' : ((X i).k == 1) = true := by simp [hk1]
            clear hk1 hk0
            obtain ⟨f1, d1, hs1⟩ := pairOf (syncD d (X i).f)
            obtain ⟨g1, e1, hs2⟩ := pairOf (syncD e (X i).f)
            have HST : Hid (Step (1 + kk) keep t f1 d1 g1 e1) := hid (by have := HTW.out.sync (X i).f; rw [hs1, hs2] at this; exact this)
            have hd1' : (syncD d (X i).f).1 = f1 ∧ (syncD d (X i).f).2 = d1 := by rw [hs1]; exact ⟨rfl, rfl⟩
            have he1' : (syncD e (X i).f).1 = g1 ∧ (syncD e (X i).f).2 = e1 := by rw [hs2]; exact ⟨rfl, rfl⟩
            have HS1 := hid hd1'; have HS2 := hid he1'
            clear hs1 hs2 hd1' he1'
            have HOD : Hid (d.ops < 1000000000) := hid (by rw [HTW.out.eq]; have := HTW.out.lt; show e.ops < _; omega)
            have HOE : Hid (e.ops < 1000000000) := hid (by have := HTW.out.lt; omega)
            go_wp2_with fail
            rw [← HW0.out]
            have hR : RdAct5 wr.heap.size (X i) W0.drew := HR0.out
            have HPR := hid HPR0.out.drew
            clear HPR0
            refine wp_region_held_drew (S := RdAct5 wr.heap.size (X i)) (by kernel_rfl) hR (fun hHeld => ?_)
            refine wpAnyH_take (i := 0) (v := ?_) (op_at _ 0 _ rfl) (by kernel_rfl) (by kernel_rfl) (by kernel_rfl) (fun _ _ _ h => h) (Or.inl ⟨by rfl, ?_⟩) (by assumption) ?_
            rotate_left 1
            focus (intro W hSw; obtain ⟨q0, q1, q2, q3, q4⟩ := hSw; go_simp; first | done | with_reducible rfl)
            (try simp only [Act.put, List.setIfInBounds_toArray, List.set_cons_zero, List.set_cons_succ])
            refine wpAnyH_take (i := 1) (v := ?_) (op_at _ 1 _ rfl) (by kernel_rfl) (by kernel_rfl) (by kernel_rfl) (fun _ _ _ h => h) (Or.inl ⟨by rfl, ?_⟩) (by assumption) ?_
            rotate_left 1
            focus (intro W hSw; obtain ⟨q0, q1, q2, q3, q4⟩ := hSw; go_simp; first | done | with_reducible rfl)
            (try simp only [Act.put, List.setIfInBounds_toArray, List.set_cons_zero, List.set_cons_succ])
            refine wpAnyH_take (i := 2) (v := ?_) (op_at _ 2 _ rfl) (by kernel_rfl) (by kernel_rfl) (by kernel_rfl) (fun _ _ _ h => h) (Or.inl ⟨by rfl, ?_⟩) (by assumption) ?_
            rotate_left 1
            focus (intro W hSw; obtain ⟨q0, q1, q2, q3, q4⟩ := hSw; go_simp; first | done | with_reducible rfl)
            (try simp only [Act.put, List.setIfInBounds_toArray, List.set_cons_zero, List.set_cons_succ])
            refine wpAnyH_take (i := 4) (v := ?_) (op_at _ 4 _ rfl) (by kernel_rfl) (by kernel_rfl) (by kernel_rfl) (fun _ _ _ h => h) (Or.inl ⟨by rfl, ?_⟩) (by assumption) ?_
            rotate_left 1
            focus (intro W hSw; obtain ⟨q0, q1, q2, q3, q4⟩ := hSw; go_simp; first | done | with_reducible rfl)
            (try simp only [Act.put, List.setIfInBounds_toArray, List.set_cons_zero, List.set_cons_succ])
            refine wpAnyH_take (i := 5) (v := ?_) (op_at _ 5 _ rfl) (by kernel_rfl) (by kernel_rfl) (by kernel_rfl) (fun _ _ _ h => h) (Or.inl ⟨by rfl, ?_⟩) (by assumption) ?_
            rotate_left 1
            focus (intro W hSw; obtain ⟨q0, q1, q2, q3, q4⟩ := hSw; go_simp; first | done | with_reducible rfl)
            (try simp only [Act.put, List.setIfInBounds_toArray, List.set_cons_zero, List.set_cons_succ])
            refine wpAnyH_take (i := 6) (v := ?_) (op_at _ 6 _ rfl) (by kernel_rfl) (by kernel_rfl) (by kernel_rfl) (fun _ _ _ h => h) (Or.inl ⟨by rfl, ?_⟩) (by assumption) ?_
            rotate_left 1
            focus (intro W hSw; obtain ⟨q0, q1, q2, q3, q4⟩ := hSw; go_simp; first | done | with_reducible rfl)
            (try simp only [Act.put, List.setIfInBounds_toArray, List.set_cons_zero, List.set_cons_succ])
            refine wpAnyH_ready (rs := [3]) (by kernel_rfl) (by simp) ?_
            refine AllReadyH.cons (op_at _ 3 _ rfl) (fun K hK => ?_) AllReadyH.nil
            go_simp
            have cw := sync_call p P d (X i).f _ HPR.out.hd HOD.out; rw [HS1.out.1, HS1.out.2] at cw; refine cw.mono ?_; rintro ee y2 ⟨rfl, ⟨P2, hdx, hgx⟩, hfx⟩; clear cw; have hRy : RdAct5 wr.heap.size (X i) y2 := hR.keep (hfx.block _ hR.lt HXP.out.1 HXA.out.1); replace hR := hRy; replace HPR := hid (HPR.out.left hdx hgx hfx); clear hRy hdx hgx hfx
            refine hK.out _ _ hR (fun hHeld => ?_)
            clear hK K
            (try simp only [Act.put, List.setIfInBounds_toArray, List.set_cons_zero, List.set_cons_succ])
            refine wpAnyH_ready (rs := [7]) (by kernel_rfl) (by simp) ?_
            refine AllReadyH.cons (op_at _ 7 _ rfl) (fun K hK => ?_) AllReadyH.nil
            go_simp
            have cw := sync_call q Q e (X i).f _ HPR.out.he HOE.out; rw [HS2.out.1, HS2.out.2] at cw; refine cw.mono ?_; rintro ee y4 ⟨rfl, ⟨Q2, hdx, hgx⟩, hfx⟩; clear cw; have hRy : RdAct5 wr.heap.size (X i) y4 := hR.keep (hfx.block _ hR.lt HXP.out.2 HXA.out.2); replace hR := hRy; replace HPR := hid (HPR.out.right hdx hgx hfx); clear hRy hdx hgx hfx
            refine hK.out _ _ hR (fun hHeld => ?_)
            clear hK K
            (try simp only [Act.put, List.setIfInBounds_toArray, List.set_cons_zero, List.set_cons_succ])
            refine wpAnyH_take (i := 8) (v := ?_) (op_at _ 8 _ rfl) (by kernel_rfl) (by kernel_rfl) (by kernel_rfl) (fun _ _ _ h => h) (Or.inl ⟨by rfl, ?_⟩) (by assumption) ?_
            rotate_left 1
            focus (intro W hSw; obtain ⟨q0, q1, q2, q3, q4⟩ := hSw; go_simp; first | done | with_reducible rfl)
            (try simp only [Act.put, List.setIfInBounds_toArray, List.set_cons_zero, List.set_cons_succ])
            refine wpAnyH_take (i := 9) (v := ?_) (op_at _ 9 _ rfl) (by kernel_rfl) (by kernel_rfl) (by kernel_rfl) (fun _ _ _ h => h) (Or.inl ⟨by rfl, ?_⟩) (by assumption) ?_
            rotate_left 1
            focus (intro W hSw; obtain ⟨q0, q1, q2, q3, q4⟩ := hSw; go_simp; first | done | with_reducible rfl)
            (try simp only [Act.put, List.setIfInBounds_toArray, List.set_cons_zero, List.set_cons_succ])
            refine wpAnyH_done (by kernel_rfl) ?_ _
            have HOPS := hid (ops_any q Q2 e1 y4 HPR.out.he)
            have HON := on_any p P2 d1 y4 HPR.out.hd
            rcases HST.out with ⟨hlo, hfg, htw⟩ | ⟨hge, hf4, hdo⟩
            · subst hfg
              have hoff : (d1).off = false := by rw [htw.eq]; exact htw.off
              rw [hoff] at HON
              replace HON := hid HON
              have hnk : ¬ (1 + (kk : Int) ≤ ((e1).ops : Int)) := by omega
              have hnk' : decide (1 + (kk : Int) ≤ ((e1).ops : Int)) = false := by simp; omega
              have HTW2 := hid htw
              clear htw hoff HST
              go_wp2_with (first
                | (go_at_call 26; refine HOPS.out.mono ?_; rintro e wx ⟨rfl, hwx⟩; obtain rfl := hwx.symm; clear HOPS)
                | (go_at_call 27; refine HON.out.mono ?_; rintro e wx ⟨rfl, hwx⟩; obtain rfl := hwx.symm; clear HON))
              exact ⟨⟨i + 1, _, _, _, _, by omega, by simp, HPR, HTW2⟩, by simp [intOf]; omega⟩
            · subst hf4
              rw [hdo] at HON
              replace HON := hid HON
              have hyk : 1 + (kk : Int) ≤ ((e1).ops : Int) := by omega
              clear HST
              go_wp2_with (first
                | (go_at_call 26; refine HOPS.out.mono ?_; rintro e wx ⟨rfl, hwx⟩; obtain rfl := hwx.symm; clear HOPS)
                | (go_at_call 27; refine HON.out.mono ?_; rintro e wx ⟨rfl, hwx⟩; obtain rfl := hwx.symm; clear HON))
              have CR := hid (read_call p P2 d1 0 0 0 y4 HPR.out.hd (by omega) (by omega))
              rw [read_none, hdo] at CR
              simp only [List.length_nil] at CR
              go_wp2_with (first
                | (go_at_call 14; refine CR.out.mono ?_; rintro e z1 ⟨ro, rc, rfl, _, _, hbz⟩; clear CR; have hpr1 := hid (HPR.out.later hbz); clear HPR hbz)
                | (go_at_call 27; have con := on_any p P2 d1 z1 hpr1.out.hd; rw [hdo] at con; refine con.mono ?_; rintro e wx ⟨rfl, hwx⟩; obtain rfl := hwx.symm; clear con)
                | (go_at_call 22; refine (start_any p P2 d1 z1 hpr1.out.hd).mono ?_; rintro e z2 ⟨rfl, ⟨P9, hd9, hg9⟩, hf9⟩; have hpr2 := hid (hpr1.out.left hd9 hg9 (hf9.imp (fun _ _ h => h.elim))); clear hpr1 hd9 hg9 hf9)
                | (go_at_call 27; refine (on_any p P9 _ z2 hpr2.out.hd).mono ?_; rintro e wx ⟨rfl, hwx⟩; obtain rfl := hwx.symm; simp only [startD, Bool.not_false])
                | (go_at_call 9; refine (lives_any _).mono ?_; rintro e z3 ⟨rfl, hbz⟩; have hpr3 := hid (hpr2.out.later hbz); clear hpr2 hbz))
              go_ret
              exact ⟨rfl, gt HB1.out hpr3.out.bw⟩
          · have hk1' : ((X i).k == 1) = false := by simp [hk1]
            by_cases hk2 : (X i).k = 2
            · have hk2' : ((X i).k == 2) = true := by simp [hk2]
              clear hk1 hk0 hk2
              obtain ⟨f1, d1, hs1⟩ := pairOf (cutD d (X i).f (X i).a)
              obtain ⟨g1, e1, hs2⟩ := pairOf (cutD e (X i).f (X i).a)
              have HST : Hid (Step (1 + kk) keep t f1 d1 g1 e1) := hid (by have := HTW.out.cut (X i).f (X i).a; rw [hs1, hs2] at this; exact this)
              have hd1' : (cutD d (X i).f (X i).a).1 = f1 ∧ (cutD d (X i).f (X i).a).2 = d1 := by rw [hs1]; exact ⟨rfl, rfl⟩
              have he1' : (cutD e (X i).f (X i).a).1 = g1 ∧ (cutD e (X i).f (X i).a).2 = e1 := by rw [hs2]; exact ⟨rfl, rfl⟩
              have HS1 := hid hd1'; have HS2 := hid he1'
              clear hs1 hs2 hd1' he1'
              have HOD : Hid (d.ops < 1000000000) := hid (by rw [HTW.out.eq]; have := HTW.out.lt; show e.ops < _; omega)
              have HOE : Hid (e.ops < 1000000000) := hid (by have := HTW.out.lt; omega)
              go_wp2_with fail
              rw [← HW0.out]
              have hR : RdAct5 wr.heap.size (X i) W0.drew := HR0.out
              have HPR := hid HPR0.out.drew
              clear HPR0
              refine wp_region_held_drew (S := RdAct5 wr.heap.size (X i)) (by kernel_rfl) hR (fun hHeld => ?_)
              refine wpAnyH_take (i := 0) (v := ?_) (op_at _ 0 _ rfl) (by kernel_rfl) (by kernel_rfl) (by kernel_rfl) (fun _ _ _ h => h) (Or.inl ⟨by rfl, ?_⟩) (by assumption) ?_
              rotate_left 1
              focus (intro W hSw; obtain ⟨q0, q1, q2, q3, q4⟩ := hSw; go_simp; first | done | with_reducible rfl)
              (try simp only [Act.put, List.setIfInBounds_toArray, List.set_cons_zero, List.set_cons_succ])
              refine wpAnyH_take (i := 1) (v := ?_) (op_at _ 1 _ rfl) (by kernel_rfl) (by kernel_rfl) (by kernel_rfl) (fun _ _ _ h => h) (Or.inl ⟨by rfl, ?_⟩) (by assumption) ?_
              rotate_left 1
              focus (intro W hSw; obtain ⟨q0, q1, q2, q3, q4⟩ := hSw; go_simp; first | done | with_reducible rfl)
              (try simp only [Act.put, List.setIfInBounds_toArray, List.set_cons_zero, List.set_cons_succ])
              refine wpAnyH_take (i := 2) (v := ?_) (op_at _ 2 _ rfl) (by kernel_rfl) (by kernel_rfl) (by kernel_rfl) (fun _ _ _ h => h) (Or.inl ⟨by rfl, ?_⟩) (by assumption) ?_
              rotate_left 1
              focus (intro W hSw; obtain ⟨q0, q1, q2, q3, q4⟩ := hSw; go_simp; first | done | with_reducible rfl)
              (try simp only [Act.put, List.setIfInBounds_toArray, List.set_cons_zero, List.set_cons_succ])
              refine wpAnyH_take (i := 3) (v := ?_) (op_at _ 3 _ rfl) (by kernel_rfl) (by kernel_rfl) (by kernel_rfl) (fun _ _ _ h => h) (Or.inl ⟨by rfl, ?_⟩) (by assumption) ?_
              rotate_left 1
              focus (intro W hSw; obtain ⟨q0, q1, q2, q3, q4⟩ := hSw; go_simp; first | done | with_reducible rfl)
              (try simp only [Act.put, List.setIfInBounds_toArray, List.set_cons_zero, List.set_cons_succ])
              refine wpAnyH_take (i := 4) (v := ?_) (op_at _ 4 _ rfl) (by kernel_rfl) (by kernel_rfl) (by kernel_rfl) (fun _ _ _ h => h) (Or.inl ⟨by rfl, ?_⟩) (by assumption) ?_
              rotate_left 1
              focus (intro W hSw; obtain ⟨q0, q1, q2, q3, q4⟩ := hSw; go_simp; first | done | with_reducible rfl)
              (try simp only [Act.put, List.setIfInBounds_toArray, List.set_cons_zero, List.set_cons_succ])
              refine wpAnyH_take (i := 6) (v := ?_) (op_at _ 6 _ rfl) (by kernel_rfl) (by kernel_rfl) (by kernel_rfl) (fun _ _ _ h => h) (Or.inl ⟨by rfl, ?_⟩) (by assumption) ?_
              rotate_left 1
              focus (intro W hSw; obtain ⟨q0, q1, q2, q3, q4⟩ := hSw; go_simp; first | done | with_reducible rfl)
              (try simp only [Act.put, List.setIfInBounds_toArray, List.set_cons_zero, List.set_cons_succ])
              refine wpAnyH_take (i := 7) (v := ?_) (op_at _ 7 _ rfl) (by kernel_rfl) (by kernel_rfl) (by kernel_rfl) (fun _ _ _ h => h) (Or.inl ⟨by rfl, ?_⟩) (by assumption) ?_
              rotate_left 1
              focus (intro W hSw; obtain ⟨q0, q1, q2, q3, q4⟩ := hSw; go_simp; first | done | with_reducible rfl)
              (try simp only [Act.put, List.setIfInBounds_toArray, List.set_cons_zero, List.set_cons_succ])
              refine wpAnyH_take (i := 8) (v := ?_) (op_at _ 8 _ rfl) (by kernel_rfl) (by kernel_rfl) (by kernel_rfl) (fun _ _ _ h => h) (Or.inl ⟨by rfl, ?_⟩) (by assumption) ?_
              rotate_left 1
              focus (intro W hSw; obtain ⟨q0, q1, q2, q3, q4⟩ := hSw; go_simp; first | done | with_reducible rfl)
              (try simp only [Act.put, List.setIfInBounds_toArray, List.set_cons_zero, List.set_cons_succ])
              refine wpAnyH_take (i := 9) (v := ?_) (op_at _ 9 _ rfl) (by kernel_rfl) (by kernel_rfl) (by kernel_rfl) (fun _ _ _ h => h) (Or.inl ⟨by rfl, ?_⟩) (by assumption) ?_
              rotate_left 1
              focus (intro W hSw; obtain ⟨q0, q1, q2, q3, q4⟩ := hSw; go_simp; first | done | with_reducible rfl)
              (try simp only [Act.put, List.setIfInBounds_toArray, List.set_cons_zero, List.set_cons_succ])
              refine wpAnyH_take (i := 10) (v := ?_) (op_at _ 10 _ rfl) (by kernel_rfl) (by kernel_rfl) (by kernel_rfl) (fun _ _ _ h => h) (Or.inl ⟨by rfl, ?_⟩) (by assumption) ?_
              rotate_left 1
              focus (intro W hSw; obtain ⟨q0, q1, q2, q3, q4⟩ := hSw; go_simp; first | done | with_reducible rfl)
              (try simp only [Act.put, List.setIfInBounds_toArray, List.set_cons_zero, List.set_cons_succ])
              refine wpAnyH_ready (rs := [5]) (by kernel_rfl) (by simp) ?_
              refine AllReadyH.cons (op_at _ 5 _ rfl) (fun K hK => ?_) AllReadyH.nil
              go_simp
              have cw := cut_call p P d (X i).f (X i).a _ HPR.out.hd HOD.out; rw [HS1.out.1, HS1.out.2] at cw; refine cw.mono ?_; rintro ee y2 ⟨rfl, ⟨P2, hdx, hgx⟩, hfx⟩; clear cw; have hRy : RdAct5 wr.heap.size (X i) y2 := hR.keep (hfx.block _ hR.lt HXP.out.1 HXA.out.1); replace hR := hRy; replace HPR := hid (HPR.out.left hdx hgx hfx); clear hRy hdx hgx hfx
              refine hK.out _ _ hR (fun hHeld => ?_)
              clear hK K
              (try simp only [Act.put, List.setIfInBounds_toArray, List.set_cons_zero, List.set_cons_succ])
              refine wpAnyH_ready (rs := [11]) (by kernel_rfl) (by simp) ?_
              refine AllReadyH.cons (op_at _ 11 _ rfl) (fun K hK => ?_) AllReadyH.nil
              go_simp
              have cw := cut_call q Q e (X i).f (X i).a _ HPR.out.he HOE.out; rw [HS2.out.1, HS2.out.2] at cw; refine cw.mono ?_; rintro ee y4 ⟨rfl, ⟨Q2, hdx, hgx⟩, hfx⟩; clear cw; have hRy : RdAct5 wr.heap.size (X i) y4 := hR.keep (hfx.block _ hR.lt HXP.out.2 HXA.out.2); replace hR := hRy; replace HPR := hid (HPR.out.right hdx hgx hfx); clear hRy hdx hgx hfx
              refine hK.out _ _ hR (fun hHeld => ?_)
              clear hK K
              (try simp only [Act.put, List.setIfInBounds_toArray, List.set_cons_zero, List.set_cons_succ])
              refine wpAnyH_take (i := 12) (v := ?_) (op_at _ 12 _ rfl) (by kernel_rfl) (by kernel_rfl) (by kernel_rfl) (fun _ _ _ h => h) (Or.inl ⟨by rfl, ?_⟩) (by assumption) ?_
              rotate_left 1
              focus (intro W hSw; obtain ⟨q0, q1, q2, q3, q4⟩ := hSw; go_simp; first | done | with_reducible rfl)
              (try simp only [Act.put, List.setIfInBounds_toArray, List.set_cons_zero, List.set_cons_succ])
              refine wpAnyH_take (i := 13) (v := ?_) (op_at _ 13 _ rfl) (by kernel_rfl) (by kernel_rfl) (by kernel_rfl) (fun _ _ _ h => h) (Or.inl ⟨by rfl, ?_⟩) (by assumption) ?_
              rotate_left 1
              focus (intro W hSw; obtain ⟨q0, q1, q2, q3, q4⟩ := hSw; go_simp; first | done | with_reducible rfl)
              (try simp only [Act.put, List.setIfInBounds_toArray, List.set_cons_zero, List.set_cons_succ])
              refine wpAnyH_done (by kernel_rfl) ?_ _
              have HOPS := hid (ops_any q Q2 e1 y4 HPR.out.he)
              have HON := on_any p P2 d1 y4 HPR.out.hd
              rcases HST.out with ⟨hlo, hfg, htw⟩ | ⟨hge, hf4, hdo⟩
              · subst hfg
                have hoff : (d1).off = false := by rw [htw.eq]; exact htw.off
                rw [hoff] at HON
                replace HON := hid HON
                have hnk : ¬ (1 + (kk : Int) ≤ ((e1).ops : Int)) := by omega
                have hnk' : decide (1 + (kk : Int) ≤ ((e1).ops : Int)) = false := by simp; omega
                have HTW2 := hid htw
                clear htw hoff HST
                go_wp2_with (first
                  | (go_at_call 26; refine HOPS.out.mono ?_; rintro e wx ⟨rfl, hwx⟩; obtain rfl := hwx.symm; clear HOPS)
                  | (go_at_call 27; refine HON.out.mono ?_; rintro e wx ⟨rfl, hwx⟩; obtain rfl := hwx.symm; clear HON))
                exact ⟨⟨i + 1, _, _, _, _, by omega, by simp, HPR, HTW2⟩, by simp [intOf]; omega⟩
              · subst hf4
                rw [hdo] at HON
                replace HON := hid HON
                have hyk : 1 + (kk : Int) ≤ ((e1).ops : Int) := by omega
                clear HST
                go_wp2_with (first
                  | (go_at_call 26; refine HOPS.out.mono ?_; rintro e wx ⟨rfl, hwx⟩; obtain rfl := hwx.symm; clear HOPS)
                  | (go_at_call 27; refine HON.out.mono ?_; rintro e wx ⟨rfl, hwx⟩; obtain rfl := hwx.symm; clear HON))
                have CR := hid (read_call p P2 d1 0 0 0 y4 HPR.out.hd (by omega) (by omega))
                rw [read_none, hdo] at CR
                simp only [List.length_nil] at CR
                go_wp2_with (first
                  | (go_at_call 14; refine CR.out.mono ?_; rintro e z1 ⟨ro, rc, rfl, _, _, hbz⟩; clear CR; have hpr1 := hid (HPR.out.later hbz); clear HPR hbz)
                  | (go_at_call 27; have con := on_any p P2 d1 z1 hpr1.out.hd; rw [hdo] at con; refine con.mono ?_; rintro e wx ⟨rfl, hwx⟩; obtain rfl := hwx.symm; clear con)
                  | (go_at_call 22; refine (start_any p P2 d1 z1 hpr1.out.hd).mono ?_; rintro e z2 ⟨rfl, ⟨P9, hd9, hg9⟩, hf9⟩; have hpr2 := hid (hpr1.out.left hd9 hg9 (hf9.imp (fun _ _ h => h.elim))); clear hpr1 hd9 hg9 hf9)
                  | (go_at_call 27; refine (on_any p P9 _ z2 hpr2.out.hd).mono ?_; rintro e wx ⟨rfl, hwx⟩; obtain rfl := hwx.symm; simp only [startD, Bool.not_false])
                  | (go_at_call 9; refine (lives_any _).mono ?_; rintro e z3 ⟨rfl, hbz⟩; have hpr3 := hid (hpr2.out.later hbz); clear hpr2 hbz))
                go_ret
                exact ⟨rfl, gt HB1.out hpr3.out.bw⟩
            · have hk2' : ((X i).k == 2) = false := by simp [hk2]
              clear hk1 hk0 hk2
              have HST : Hid (Step (1 + kk) keep t 0 d 0 e) := hid (HTW.out.same 0)
              have HPR := HPR0
              clear HPR0
              have HOPS := hid (ops_any q Q e W0 HPR.out.he)
              have HON := on_any p P d W0 HPR.out.hd
              have hoff : d.off = false := by rw [HTW.out.eq]; exact HTW.out.off
              rw [hoff] at HON
              replace HON := hid HON
              have hlo := HTW.out.lt
              have hnk : ¬ (1 + (kk : Int) ≤ (e.ops : Int)) := by omega
              clear HST hoff
              go_wp2_with (first
                | (go_at_call 26; rw [← HW0.out]; refine HOPS.out.mono ?_; rintro e wx ⟨rfl, hwx⟩; obtain rfl := hwx.symm; clear HOPS)
                | (go_at_call 27; refine HON.out.mono ?_; rintro e wx ⟨rfl, hwx⟩; obtain rfl := hwx.symm; clear HON))
              exact ⟨⟨i + 1, _, _, _, _, by omega, by simp, HPR, HTW⟩, by simp [intOf]; omega⟩
      · have hiE : i = L := by omega
        subst hiE
        have hlast : ¬ ((i : Int) < (i : Int)) := by omega
        have hdo : d.off = false := by rw [HTW.out.eq]; exact HTW.out.off
        have CR := hid (read_call p P d 0 0 0 wr HPR.out.hd (by omega) (by omega))
        rw [read_none, hdo] at CR
        simp only [List.length_nil] at CR
        go_wp2_with (first
          | (go_at_call 14; refine CR.out.mono ?_; rintro e z1 ⟨ro, rc, rfl, _, _, hbz⟩; clear CR; have hpr1 := hid (HPR.out.later hbz); clear HPR hbz)
          | (go_at_call 27; have con := on_any p P d z1 hpr1.out.hd; rw [hdo] at con; refine con.mono ?_; rintro e wx ⟨rfl, hwx⟩; obtain rfl := hwx.symm; clear con)
          | (go_at_call 22; refine (start_any p P d z1 hpr1.out.hd).mono ?_; rintro e z2 ⟨rfl, ⟨P9, hd9, hg9⟩, hf9⟩; have hpr2 := hid (hpr1.out.left hd9 hg9 (hf9.imp (fun _ _ h => h.elim))); clear hpr1 hd9 hg9 hf9)
          | (go_at_call 27; refine (on_any p P9 _ z2 hpr2.out.hd).mono ?_; rintro e wx ⟨rfl, hwx⟩; obtain rfl := hwx.symm; simp only [startD, Bool.not_false])
          | (go_at_call 9; refine (lives_any _).mono ?_; rintro e z3 ⟨rfl, hbz⟩; have hpr3 := hid (hpr2.out.later hbz); clear hpr2 hbz))
        go_ret
        exact ⟨rfl, gt HB1.out hpr3.out.bw⟩
end Go.Proofs.Ytkgenmooepfhjaa
