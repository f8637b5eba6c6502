/- Points, orders and Kinds that a reader reads; no statement of the seat is proved here. -/
import Derived.Test.YtjieegnmofimkaaDoorFb
namespace Go.Proofs.YtjieegnmofimkaaDoor
open Go.RowKit Go.Maps

theorem Fr.low {S : Nat → Prop} {w a b : World} (f : Fr S w a) (h : Below w.heap.size a b) : Fr S w b := ⟨h.os.trans f.os, h.tape.trans f.tape, h.output.trans f.output, Nat.le_trans f.size h.size, fun k hk hn => (h.block k hk).trans (f.blk k hk hn)⟩
theorem Fr.al {S : Nat → Prop} {w a : World} (f : Fr S w a) (o : Obj) : Fr S w (a.alloc o) := f.low ((Below.refl _ _).alloc f.size _)
theorem Fr.st {S : Nat → Prop} {w a : World} (f : Fr S w a) {q i : Nat} {v : Value} (hq : w.heap.size ≤ q) : Fr S w (a.setCell ⟨q, i, none⟩ v) := f.low ((Below.refl _ _).setCell hq _)
theorem Fr.bo {N rb pb qb : Nat} {w a : World} {s : St} (f : Fr (Cg rb pb qb) w a) (h : RdAt N rb pb qb w s) {q : Nat} {cs : Array Value} {t : TypeId} (hb : Bo w q cs t) (hq : N ≤ q) : Bo a q cs t :=
  (f.blk q hb.lt fun e => by have := h.lo; rcases e with e | e | e <;> omega).trans hb
theorem RdAt.al {N rb pb qb : Nat} {W : World} {s : St} (h : RdAt N rb pb qb W s) (o : Obj) : RdAt N rb pb qb (W.alloc o) s := h.keep (ext1 o)
theorem RdAt.st {N rb pb qb : Nat} {W : World} {s : St} (h : RdAt N rb pb qb W s) {q i : Nat} {v : Value} (hq : N ≤ q) : RdAt N rb pb qb (W.setCell ⟨q, i, none⟩ v) s := h.keepN ((Below.refl _ _).setCell hq _)
theorem ret_pt2 {fn : Func} {p u : Tmp} (h : fn.results = #[.cell p 56, .tmp u]) {tmps : Array Value} {W : World} {q : Nat} {t' : TypeId} {a b : Value}
    (hp : tmps.getD p undef = .pointer (some ⟨q, 0, none⟩)) (hb : W.heap[q]? = some (.cells #[a, b] t')) : (results fn tmps).run Tryd.prog W = .ok (.tuple #[.agg #[a, b], tmps.getD u undef]) W := by
  rw [results_cell_tmp h, hp]
  simp [asAddr, load2 Tryd.isAgg56 Tryd.sizeOf56 hb]
def PZ : Obj := .cells #[.int .i64 0, .int .i64 0] 56

set_option maxRecDepth 100000 in
set_option maxHeartbeats 2000000 in
theorem point_bad {N rb pb qb : Nat} {W : World} {s : St} (h : RdAt N rb pb qb W s) (l : Bool) (e : Nat) (hd : pointD l s = .bad e) :
    Calls Tryd.prog 77 #[.pointer (some ⟨rb, 0, none⟩), .bool l] W fun x W' => (x = .returned (.tuple #[.agg #[.int .i64 0, .int .i64 0], .int .i64 8]) ∧ e = 8) ∧ Fr (Cg rb pb qb) W W' := by
  have hN := h.sz
  have BZ := hid (Bo.new W #[.int .i64 0, .int .i64 0] 56)
  rcases bad_inv hd with hd | ⟨v, s1, hn, hd⟩
  · have C := hid (number_bad (h.al (.cells #[.int .i64 0, .int .i64 0] 56)) 8 (by omega) l e hd)
    clear h hd
    go_enter Tryd.func77, Tryd.ntmps77
    go_wp2_with (go_at_call 76; refine C.out.mono ?_; rintro x w1 ⟨⟨rfl, rfl⟩, b1⟩; have H1 := hid b1; have X1 := hid (BZ.out.keep b1); have c0 := X1.out.cell 0 (.int .i64 0) rfl; have c1 := X1.out.cell 1 (.int .i64 0) rfl; have f0 := X1.out.fz 0; have f1 := X1.out.fz 1; clear b1)
    refine bodyPost_ret (ret_pt2 rfl rfl ((X1.out.set 0 _).set 1 _)) rfl ?_
    exact ⟨rfl, (((Fr.alloc _ _ _).low (H1.out.mono (by simp))).st (Nat.le_refl _)).st (Nat.le_refl _)⟩
  · have C := hid (number_ok (h.al (.cells #[.int .i64 0, .int .i64 0] 56)) 8 (by omega) l v s1 hn)
    have HA := hid (h.al (.cells #[.int .i64 0, .int .i64 0] 56))
    rcases bad_inv hd with hd | ⟨y, s2, _, hd⟩
    · have C2 := hid (fun w1 (h1 : RdAt N rb pb qb w1 s1) => number_bad h1 8 (by omega) l e hd)
      have t1 := hid True.intro
      clear h hn hd
      generalize I v = z at *
      go_enter Tryd.func77, Tryd.ntmps77
      go_wp2_with (first
        | (go_at_call 76; clear t1; refine C.out.mono ?_; rintro x w1 ⟨rfl, f1, r1⟩; have F1 := hid f1; have R1 := hid r1; have X1 := hid (f1.bo HA.out BZ.out hN); clear f1 r1 C)
        | (go_at_call 76; refine (C2.out _ R1.out).mono ?_; rintro x w2 ⟨⟨rfl, rfl⟩, b2⟩; have H2 := hid b2; have X2 := hid (X1.out.keep b2); have c0 := X2.out.cell 0 (.int .i64 0) rfl; have c1 := X2.out.cell 1 (.int .i64 0) rfl; have g0 := X2.out.fz 0; have g1 := X2.out.fz 1; clear b2))
      refine bodyPost_ret (ret_pt2 rfl rfl ((X2.out.set 0 _).set 1 _)) rfl ?_
      exact ⟨rfl, ((((Fr.alloc _ _ _).trans F1.out).trans (Fr.cg H2.out)).st (Nat.le_refl _)).st (Nat.le_refl _)⟩
    · cases hd
set_option maxRecDepth 100000 in
set_option maxHeartbeats 2000000 in
theorem point_ok {N rb pb qb : Nat} {W : World} {s : St} (h : RdAt N rb pb qb W s) (l : Bool) (p : Int × Int) (s' : St) (hd : pointD l s = .ok p s') :
    Calls Tryd.prog 77 #[.pointer (some ⟨rb, 0, none⟩), .bool l] W fun x W' => x = .returned (.tuple #[.agg #[.int .i64 p.1, .int .i64 p.2], .int .i64 0]) ∧ Fr (Cg rb pb qb) W W' ∧ RdAt N rb pb qb W' s' := by
  have hN := h.sz
  have BZ := hid (Bo.new W #[.int .i64 0, .int .i64 0] 56)
  obtain ⟨a, s1, hn, hd⟩ := bind_inv hd
  obtain ⟨b, s2, hn2, hd⟩ := bind_inv hd
  injection hd with hd1 hd2
  subst hd1 hd2
  have C := hid (number_ok (h.al (.cells #[.int .i64 0, .int .i64 0] 56)) 8 (by omega) l a s1 hn)
  have HA := hid (h.al (.cells #[.int .i64 0, .int .i64 0] 56))
  have C2 := hid (fun w1 (h1 : RdAt N rb pb qb w1 s1) => number_ok h1 8 (by omega) l b s2 hn2)
  have t1 := hid True.intro
  clear h hn hn2
  simp only
  generalize I a = z at *
  generalize I b = y at *
  go_enter Tryd.func77, Tryd.ntmps77
  go_wp2_with (first
    | (go_at_call 76; clear t1; refine C.out.mono ?_; rintro x w1 ⟨rfl, f1, r1⟩; have F1 := hid f1; have R1 := hid r1; have X1 := hid (f1.bo HA.out BZ.out hN); clear f1 r1 C)
    | (go_at_call 76; refine (C2.out _ R1.out).mono ?_; rintro x w2 ⟨rfl, f2, r2⟩; have F2 := hid f2; have R2 := hid r2; have X2 := hid (f2.bo R1.out X1.out hN); have c0 := X2.out.cell 0 (.int .i64 0) rfl; have c1 := X2.out.cell 1 (.int .i64 0) rfl; have g0 := X2.out.fz 0; have g1 := X2.out.fz 1; clear f2 r2))
  refine bodyPost_ret (ret_pt2 rfl rfl ((X2.out.set 0 _).set 1 _)) rfl ?_
  exact ⟨rfl, ((((Fr.alloc _ _ _).trans F1.out).trans F2.out).st (Nat.le_refl _)).st (Nat.le_refl _), (R2.out.st hN).st hN⟩

def ordV (xs : List Nat) : Bool × Bool := match xs with
  | [] => (false, false)
  | b :: _ => if 1 < b then (false, false) else (b == 1, true)
set_option maxRecDepth 100000 in
set_option maxHeartbeats 2000000 in
theorem Order_call (o : Option Addr) (n c : Nat) (xs : List Nat) (w : World) (h : Rd w o n c xs) (hx : ∀ x ∈ xs, x < 256) (hn : n ≤ 1000000000) : Calls Tryd.prog 17 #[.slice o n c] w fun e w' => e = .returned (.tuple #[.bool (ordV xs).1, .bool (ordV xs).2]) ∧ w' = w := by
  cases xs with
  | nil =>
    obtain rfl : n = 0 := by simpa using h.1.symm
    clear h
    go_enter Tryd.func17, Tryd.ntmps17
    go_wp2
    go_ret2
    exact ⟨rfl, rfl⟩
  | cons b r =>
    have hb := hx b (by simp)
    have hn1 : 0 < n := by have := h.1; simp at this; omega
    obtain ⟨g, off, rfl, hc⟩ := h.2.2.2 hn1
    have c0 := hc 0 hn1
    simp only [Nat.add_zero, List.getD_cons_zero] at c0
    have z1 : ((n : Int) == 0) = false := by simp; omega
    have hcap := h.2.1
    clear h hx hc
    by_cases h1 : 1 < b
    · rw [show ordV (b :: r) = (false, false) by simp [ordV, h1]]
      have h1' : (1 : Int) < (b : Int) := by omega
      go_enter Tryd.func17, Tryd.ntmps17
      go_wp2
      go_ret2
      exact ⟨rfl, rfl⟩
    · rw [show ordV (b :: r) = (b == 1, true) by simp [ordV, h1]]
      have h1' : ¬ (1 : Int) < (b : Int) := by omega
      have e : ((b : Int) == 1) = (b == 1) := by rw [Bool.eq_iff_iff]; simp; omega
      go_enter Tryd.func17, Tryd.ntmps17
      go_wp2
      go_ret2
      exact ⟨rfl, rfl⟩

set_option maxRecDepth 100000 in
set_option maxHeartbeats 2000000 in
theorem order_bad {N rb pb qb : Nat} {W : World} {s : St} (h : RdAt N rb pb qb W s) (d : Nat) (hd20 : d ≤ 20) (e : Nat) (hd : orderD (decide (16 < d)) s = .bad e) :
    Calls Tryd.prog 52 #[.pointer (some ⟨rb, 0, none⟩), .int .i64 (d : Int)] W fun x W' => x = .returned (.tuple #[.bool false, .int .i64 (e : Int)]) ∧ (1 ≤ e ∧ e ≤ 20) ∧ Below W.heap.size W W' := by
  obtain ⟨o, n, c, h1, h2, h3⟩ := h.bx
  have r0 := h1.cell 0 (.slice o n c) rfl
  have OC := hid (Order_call o n c s.xs W h2 h.by8 (by have := h.len; have := h2.1; omega))
  have hl := h2.1
  unfold orderD at hd
  cases hx : s.xs with
  | nil =>
    rw [hx] at hd hl
    injection hd with hd
    subst hd
    obtain rfl : n = 0 := by simpa using hl.symm
    rw [hx] at OC
    rw [show ordV [] = (false, false) from rfl] at OC
    clear h h1 h2 h3 hx hl
    go_enter Tryd.func52, Tryd.ntmps52
    go_wp2_with (go_at_call 17; refine OC.out.mono ?_; rintro x w1 ⟨rfl, hw⟩; obtain rfl := hw.symm)
    go_ret2
    exact ⟨rfl, by omega, Below.refl _ _⟩
  | cons b r =>
    rw [hx] at hd hl
    have hn1 : 0 < n := by simp at hl; omega
    have z1 : ((n : Int) == 0) = false := by simp; omega
    simp only at hd
    rw [hx] at OC
    by_cases hb : 1 < b
    · rw [if_pos hb] at hd
      injection hd with hd
      subst hd
      rw [show ordV (b :: r) = (false, false) by simp [ordV, hb]] at OC
      clear h h1 h2 h3 hx hl
      go_enter Tryd.func52, Tryd.ntmps52
      go_wp2_with (go_at_call 17; refine OC.out.mono ?_; rintro x w1 ⟨rfl, hw⟩; obtain rfl := hw.symm)
      go_ret2
      exact ⟨rfl, by omega, Below.refl _ _⟩
    · rw [if_neg hb] at hd
      rw [show ordV (b :: r) = (b == 1, true) by simp [ordV, hb]] at OC
      split at hd
      · rename_i h16
        injection hd with hd
        subst hd
        have h16' : (16 : Int) < (d : Int) := by simp at h16; omega
        generalize (b == 1) = bb at *
        clear h h1 h2 h3 hx hl h16
        go_enter Tryd.func52, Tryd.ntmps52
        go_wp2_with (go_at_call 17; refine OC.out.mono ?_; rintro x w1 ⟨rfl, hw⟩; obtain rfl := hw.symm)
        go_ret2
        exact ⟨rfl, by omega, Below.refl _ _⟩
      · cases hd
set_option maxRecDepth 100000 in
set_option maxHeartbeats 2000000 in
theorem order_ok {N rb pb qb : Nat} {W : World} {s : St} (h : RdAt N rb pb qb W s) (d : Nat) (hd20 : d ≤ 20) (l : Bool) (s' : St) (hd : orderD (decide (16 < d)) s = .ok l s') :
    Calls Tryd.prog 52 #[.pointer (some ⟨rb, 0, none⟩), .int .i64 (d : Int)] W fun x W' => x = .returned (.tuple #[.bool l, .int .i64 0]) ∧ Fr (Cg rb pb qb) W W' ∧ RdAt N rb pb qb W' s' := by
  obtain ⟨o, n, c, h1, h2, h3⟩ := h.bx
  have r0 := h1.cell 0 (.slice o n c) rfl
  have f0 := h1.fz 0
  have OC := hid (Order_call o n c s.xs W h2 h.by8 (by have := h.len; have := h2.1; omega))
  have hl := h2.1
  unfold orderD at hd
  cases hx : s.xs with
  | nil => rw [hx] at hd; cases hd
  | cons b r =>
    rw [hx] at hd hl
    have hn1 : 0 < n := by simp at hl; omega
    have hn1' : (1 : Int) ≤ (n : Int) := by omega
    have z1 : ((n : Int) == 0) = false := by simp; omega
    simp only at hd
    rw [hx] at OC
    by_cases hb : 1 < b
    · rw [if_pos hb] at hd; cases hd
    · rw [if_neg hb] at hd
      rw [show ordV (b :: r) = (b == 1, true) by simp [ordV, hb]] at OC
      split at hd
      · cases hd
      · rename_i h16
        injection hd with hd1 hd2
        rw [hd1] at OC
        have h16' : ¬ (16 : Int) < (d : Int) := by simp at h16; omega
        obtain ⟨b', off, rfl, -⟩ := h2.2.2.2 hn1
        have HH := hid h
        have R2 := hid h2
        have L3 := hid h3
        have HS := hid hd2
        have HX := hid hx
        have hcn := h2.2.1
        have hnl : n ≤ 1000000000 := by have := h.len; rw [hx] at this; omega
        clear h h1 h2 h3 hx hl h16 hd1 hd2 hb
        by_cases hc1 : c = 1
        · subst hc1
          obtain rfl : n = 1 := by omega
          go_enter Tryd.func52, Tryd.ntmps52
          go_wp2_with (go_at_call 17; refine OC.out.mono ?_; rintro x w1 ⟨rfl, hw⟩; obtain rfl := hw.symm)
          go_ret2
          have D := (R2.out.dropk 1 (Nat.le_refl _)).1 rfl
          rw [HX.out] at D
          refine ⟨rfl, (Fr.set _ _ _ _).mono fun _ _ e => .inl e, ?_⟩
          rw [← HS.out]
          exact HH.out.step D (fun b' off' e h0 => by omega) (fun x hx => HH.out.by8 x (by rw [HX.out]; exact List.mem_cons_of_mem _ hx)) (by have := HH.out.len; rw [HX.out] at this; simp at this; omega)
        · go_enter Tryd.func52, Tryd.ntmps52
          go_wp2_with (go_at_call 17; refine OC.out.mono ?_; rintro x w1 ⟨rfl, hw⟩; obtain rfl := hw.symm)
          go_ret2
          have D := (R2.out.dropk 1 (by omega)).2 hc1 b' off rfl
          rw [HX.out] at D
          refine ⟨rfl, (Fr.set _ _ _ _).mono fun _ _ e => .inl e, ?_⟩
          rw [← HS.out]
          exact HH.out.step D (fun b2 off' e h0 => by simp at e; rw [← e.1]; exact L3.out b' off rfl hn1) (fun x hx => HH.out.by8 x (by rw [HX.out]; exact List.mem_cons_of_mem _ hx)) (by have := HH.out.len; rw [HX.out] at this; simp at this; omega)

set_option maxRecDepth 100000 in
set_option maxHeartbeats 2000000 in
theorem kind_bad {N rb pb qb : Nat} {W : World} {s : St} (h : RdAt N rb pb qb W s) (want : Int) (l : Bool) (e : Nat) (hd : kindD want l s = .bad e) :
    Calls Tryd.prog 53 #[.pointer (some ⟨rb, 0, none⟩), .int .i64 want, .bool l] W fun x W' => x = .returned (.tuple #[.int .i64 0, .int .i64 (e : Int)]) ∧ (1 ≤ e ∧ e ≤ 20) ∧ Fr (Cg rb pb qb) W W' := by
  rcases bad_inv hd with hd | ⟨v, s1, hn, hd⟩
  · have C := hid (number_bad h 4 (by omega) l e hd)
    clear h hd
    go_enter Tryd.func53, Tryd.ntmps53
    go_wp2_with (go_at_call 76; refine C.out.mono ?_; rintro x w1 ⟨⟨rfl, rfl⟩, b1⟩; have B1 := hid b1; clear b1)
    go_ret2
    exact ⟨rfl, by omega, Fr.cg B1.out⟩
  · have hv := num4_lt h.by8 hn
    have C := hid (number_ok h 4 (by omega) l v s1 hn)
    rw [I_small (by omega)] at C
    clear h hn
    split at hd
    · rename_i h17
      injection hd with hd
      subst hd
      by_cases h1 : v < 1
      · have h1' : (v : Int) < 1 := by omega
        go_enter Tryd.func53, Tryd.ntmps53
        go_wp2_with (go_at_call 76; refine C.out.mono ?_; rintro x w1 ⟨rfl, f1, -⟩; have F1 := hid f1; clear f1)
        go_ret2
        exact ⟨rfl, by omega, F1.out⟩
      · have h1' : ¬ (v : Int) < 1 := by omega
        have h7' : (7 : Int) < (v : Int) := by omega
        go_enter Tryd.func53, Tryd.ntmps53
        go_wp2_with (go_at_call 76; refine C.out.mono ?_; rintro x w1 ⟨rfl, f1, -⟩; have F1 := hid f1; clear f1)
        go_ret2
        exact ⟨rfl, by omega, F1.out⟩
    · rename_i h17
      have h1' : ¬ (v : Int) < 1 := by omega
      have h7' : ¬ (7 : Int) < (v : Int) := by omega
      split at hd
      · rename_i hw
        injection hd with hd
        subst hd
        have w1' : (want != -1) = true := by simp [hw.1]
        have w2' : ((v : Int) != want) = true := by simp [hw.2]
        clear hw
        go_enter Tryd.func53, Tryd.ntmps53
        go_wp2_with (go_at_call 76; refine C.out.mono ?_; rintro x w1 ⟨rfl, f1, -⟩; have F1 := hid f1; clear f1)
        go_ret2
        exact ⟨rfl, by omega, F1.out⟩
      · cases hd
set_option maxRecDepth 100000 in
set_option maxHeartbeats 2000000 in
theorem kind_ok {N rb pb qb : Nat} {W : World} {s : St} (h : RdAt N rb pb qb W s) (want : Int) (l : Bool) (k : Int) (s' : St) (hd : kindD want l s = .ok k s') :
    Calls Tryd.prog 53 #[.pointer (some ⟨rb, 0, none⟩), .int .i64 want, .bool l] W fun x W' => x = .returned (.tuple #[.int .i64 k, .int .i64 0]) ∧ Fr (Cg rb pb qb) W W' ∧ RdAt N rb pb qb W' s' := by
  obtain ⟨v, s1, hn, hd⟩ := bind_inv hd
  have hv := num4_lt h.by8 hn
  have C := hid (number_ok h 4 (by omega) l v s1 hn)
  rw [I_small (by omega)] at C
  clear h hn
  split at hd
  · cases hd
  · rename_i h17
    have h1' : ¬ (v : Int) < 1 := by omega
    have h7' : ¬ (7 : Int) < (v : Int) := by omega
    split at hd
    · cases hd
    · rename_i hw
      injection hd with hd1 hd2
      subst hd1 hd2
      by_cases hm : want = -1
      · subst hm
        go_enter Tryd.func53, Tryd.ntmps53
        go_wp2_with (go_at_call 76; refine C.out.mono ?_; rintro x w1 ⟨rfl, f1, r1⟩; have F1 := hid f1; have R1 := hid r1; clear f1 r1)
        go_ret2
        exact ⟨rfl, F1.out, R1.out⟩
      · obtain rfl : (v : Int) = want := by
          rcases Int.decEq (v : Int) want with h | h
          · exact absurd ⟨hm, h⟩ hw
          · exact h
        have w1' : ((v : Int) != -1) = true := by simp
        clear hw hm
        go_enter Tryd.func53, Tryd.ntmps53
        go_wp2_with (go_at_call 76; refine C.out.mono ?_; rintro x w1 ⟨rfl, f1, r1⟩; have F1 := hid f1; have R1 := hid r1; clear f1 r1)
        go_ret2
        exact ⟨rfl, F1.out, R1.out⟩
end Go.Proofs.YtjieegnmofimkaaDoor
