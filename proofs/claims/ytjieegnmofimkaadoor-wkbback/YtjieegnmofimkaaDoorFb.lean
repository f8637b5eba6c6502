/- What a reader counts, and points, orders and Kinds that it reads; no statement of the seat is proved here. -/
import Derived.Test.YtjieegnmofimkaaDoorFa
namespace Go.Proofs.YtjieegnmofimkaaDoor
open Go.RowKit Go.Maps

theorem bad_inv {α β : Type} {m : Re α} {g : α → St → Re β} {e : Nat} (h : m.bind g = .bad e) : m = .bad e ∨ ∃ a s1, m = .ok a s1 ∧ g a s1 = .bad e := by
  cases m with
  | ok a s1 => exact .inr ⟨a, s1, rfl, h⟩
  | bad e' => exact .inl (by injection h with h; rw [h])
theorem psum4_lt (xs : List Nat) (l : Bool) (hx : ∀ x ∈ xs, x < 256) (h : 4 ≤ xs.length) : psum xs 4 l 4 < 4294967296 := by
  cases l with
  | true => exact psum_little xs 4 hx h 4 (Nat.le_refl _)
  | false =>
    obtain ⟨q, hq, e⟩ := psum_big xs 4 hx h 4 (Nat.le_refl _)
    rw [e]; simp; omega
theorem num4_lt {l : Bool} {s s' : St} {v : Nat} (hx : ∀ x ∈ s.xs, x < 256) (h : numD l 4 s = .ok v s') : v < 4294967296 := by
  unfold numD at h
  split at h
  · injection h with h1 h2
    rw [← h1]; exact psum4_lt s.xs l hx (by assumption)
  · cases h
theorem I_small {v : Nat} (h : v < 9223372036854775808) : I v = (v : Int) := by unfold I; rw [IntKind.wrap_i64]; omega
def tq (pb qb : Nat) (parts : Bool) : Nat := if parts then qb else pb
set_option maxRecDepth 100000 in
set_option maxHeartbeats 1000000 in
theorem tally_bad {N rb pb qb : Nat} {W : World} {s : St} (h : RdAt N rb pb qb W s) (parts : Bool) (n : Nat) (e : Nat) (hd : tallyD parts n s = .bad e) :
    Calls Tryd.prog 75 #[.int .i64 (n : Int), .pointer (some ⟨tq pb qb parts, 0, none⟩)] W fun x W' => (x = .returned (.bool false) ∧ e = 12) ∧ Below W.heap.size W W' := by
  unfold tallyD at hd
  by_cases hc : n ≤ (if parts then s.Q else s.P)
  · rw [if_pos hc] at hd; cases hd
  · rw [if_neg hc] at hd
    injection hd with hd
    subst hd
    have c0 : W.cell? ⟨tq pb qb parts, 0, none⟩ = some (.int .i64 (((if parts then s.Q else s.P) : Nat) : Int)) := by
      cases parts
      · exact h.pp.cell 0 _ rfl
      · exact h.qq.cell 0 _ rfl
    generalize (if parts then s.Q else s.P) = z at *
    generalize tq pb qb parts = q at *
    have hlt : (z : Int) < (n : Int) := by omega
    clear h
    go_enter Tryd.func75, Tryd.ntmps75
    go_wp2
    go_ret
    exact ⟨⟨rfl, trivial⟩, Below.refl _ _⟩
set_option maxRecDepth 100000 in
set_option maxHeartbeats 1000000 in
theorem tally_ok {N rb pb qb : Nat} {W : World} {s : St} (h : RdAt N rb pb qb W s) (parts : Bool) (n : Nat) (s' : St) (hd : tallyD parts n s = .ok () s') :
    Calls Tryd.prog 75 #[.int .i64 (n : Int), .pointer (some ⟨tq pb qb parts, 0, none⟩)] W fun x W' => x = .returned (.bool true) ∧ Fr (Cg rb pb qb) W W' ∧ RdAt N rb pb qb W' s' := by
  unfold tallyD at hd
  by_cases hc : n ≤ (if parts then s.Q else s.P)
  · rw [if_pos hc] at hd
    injection hd with _ hd
    have B : Bo W (tq pb qb parts) #[.int .i64 (((if parts then s.Q else s.P) : Nat) : Int)] 3 := by
      cases parts
      · exact h.pp
      · exact h.qq
    have c0 := B.cell 0 (.int .i64 (((if parts then s.Q else s.P) : Nat) : Int)) rfl
    have f0 := B.fz 0
    have hz : (if parts then s.Q else s.P) ≤ 4000 := by have := h.lim; split <;> omega
    have EE : Hid (∀ v : Nat, v = (if parts then s.Q else s.P) - n → RdAt N rb pb qb (W.setCell ⟨tq pb qb parts, 0, none⟩ (.int .i64 (v : Int))) s' ∧ Fr (Cg rb pb qb) W (W.setCell ⟨tq pb qb parts, 0, none⟩ (.int .i64 (v : Int)))) := hid (by
      rintro v rfl
      obtain ⟨o, m, c, h1, h2, h3⟩ := h.bx
      rw [← hd]
      cases parts
      · refine ⟨⟨h.lo, by simpa using h.sz, ⟨o, m, c, h1.other h.lo.2.2.2.1, h2.set fun b off e hn => h2.ne h.pp (i64_no _) e hn, h3⟩, h.pp.set 0 _, h.qq.other (Ne.symm h.lo.2.2.2.2.2), h.by8, h.len, by have := h.lim; simp; omega⟩, (Fr.set _ _ _ _).mono fun _ _ e => .inr (.inl e)⟩
      · refine ⟨⟨h.lo, by simpa using h.sz, ⟨o, m, c, h1.other h.lo.2.2.2.2.1, h2.set fun b off e hn => h2.ne h.qq (i64_no _) e hn, h3⟩, h.pp.other h.lo.2.2.2.2.2, h.qq.set 0 _, h.by8, h.len, by have := h.lim; simp; omega⟩, (Fr.set _ _ _ _).mono fun _ _ e => .inr (.inr e)⟩)
    generalize (if parts then s.Q else s.P) = z at *
    generalize tq pb qb parts = q at *
    have hle : ¬ (z : Int) < (n : Int) := by omega
    have ev := hid (show ((z - n : Nat) : Int) = (z : Int) - (n : Int) by omega)
    clear h hd B
    go_enter Tryd.func75, Tryd.ntmps75
    go_wp2
    go_ret
    have := EE.out (z - n) rfl
    rw [ev.out] at this
    exact ⟨rfl, this.2, this.1⟩
  · rw [if_neg hc] at hd; cases hd

theorem div_ex (n few : Nat) : ∃ D : Nat, D = n / few ∧ (n : Int) / (few : Int) = (D : Int) ∧ D ≤ n := ⟨n / few, rfl, by simp, Nat.div_le_self _ _⟩
set_option maxRecDepth 100000 in
set_option maxHeartbeats 2000000 in
theorem count_bad {N rb pb qb : Nat} {W : World} {s : St} (h : RdAt N rb pb qb W s) (parts : Bool) (few : Nat) (hf : 0 < few ∧ few ≤ 100) (l : Bool) (e : Nat) (hd : countD parts few l s = .bad e) :
    Calls Tryd.prog 78 #[.pointer (some ⟨rb, 0, none⟩), .func (.func 75) #[] #[.pointer (some ⟨tq pb qb parts, 0, none⟩)], .int .i64 (few : Int), .bool l] W fun x W' => x = .returned (.tuple #[.int .i64 0, .int .i64 (e : Int)]) ∧ (1 ≤ e ∧ e ≤ 20) ∧ Fr (Cg rb pb qb) W W' := by
  rcases bad_inv hd with hd | ⟨v, s1, hn, hd⟩
  · have C := hid (number_bad h 4 (by omega) l e hd)
    clear h hd
    go_enter Tryd.func78, Tryd.ntmps78
    go_wp2_with (go_at_call 76; refine C.out.mono ?_; rintro x w1 ⟨⟨rfl, rfl⟩, b1⟩; have B1 := hid b1; clear b1)
    go_ret2
    exact ⟨rfl, by omega, Fr.cg B1.out⟩
  · have hv := num4_lt h.by8 hn
    have C := hid (number_ok h 4 (by omega) l v s1 hn)
    rw [I_small (by omega)] at C
    rcases bad_inv hd with hd | ⟨u, s2, ht, hd⟩
    · have CT := hid (fun w1 (h1 : RdAt N rb pb qb w1 s1) => tally_bad h1 parts v e hd)
      clear h hn hd
      go_enter Tryd.func78, Tryd.ntmps78
      go_wp2_with (first
        | (go_at_call 76; refine C.out.mono ?_; rintro x w1 ⟨rfl, f1, r1⟩; have F1 := hid f1; have R1 := hid r1; clear f1 r1)
        | (go_at_call 75; refine (CT.out _ R1.out).mono ?_; rintro x w2 ⟨⟨rfl, rfl⟩, b2⟩; have B2 := hid b2; clear b2))
      go_ret2
      exact ⟨rfl, by omega, F1.out.trans (Fr.cg B2.out)⟩
    · have CT := hid (fun w1 (h1 : RdAt N rb pb qb w1 s1) => tally_ok h1 parts v s2 ht)
      split at hd
      · rename_i hlt
        injection hd with hd
        subst hd
        have LV := hid (fun w1 (h1 : RdAt N rb pb qb w1 s2) => h1.bx)
        have HDV := hid (fun n : Nat => div_ex n few)
        have HL := hid hlt
        have hf0 := hf.1
        clear h hn ht hlt
        go_enter Tryd.func78, Tryd.ntmps78
        go_wp2_with (first
          | (go_at_call 76; refine C.out.mono ?_; rintro x w1 ⟨rfl, f1, r1⟩; have F1 := hid f1; have R1 := hid r1; clear f1 r1)
          | (go_at_call 75; refine (CT.out _ R1.out).mono ?_; rintro x w2 ⟨rfl, f2, r2⟩; have F2 := hid f2; obtain ⟨o, m, c, h1, h2, -⟩ := r2.bx; have r0 := h1.cell 0 (.slice o m c) rfl; have hm := h2.1; obtain ⟨D, hD, dv, hDm⟩ := HDV.out m; have hml := r2.len; have hlt : (D : Int) < (v : Int) := (by have := HL.out; rw [hm, ← hD] at this; omega); have hDl : D ≤ 1000000000 := (by omega); clear f2 r2 h1 h2 hm hD hDm hml))
        go_ret2
        exact ⟨rfl, by omega, F1.out.trans F2.out⟩
      · cases hd
set_option maxRecDepth 100000 in
set_option maxHeartbeats 2000000 in
theorem count_ok {N rb pb qb : Nat} {W : World} {s : St} (h : RdAt N rb pb qb W s) (parts : Bool) (few : Nat) (hf : 0 < few ∧ few ≤ 100) (l : Bool) (v : Nat) (s' : St) (hd : countD parts few l s = .ok v s') :
    Calls Tryd.prog 78 #[.pointer (some ⟨rb, 0, none⟩), .func (.func 75) #[] #[.pointer (some ⟨tq pb qb parts, 0, none⟩)], .int .i64 (few : Int), .bool l] W fun x W' => x = .returned (.tuple #[.int .i64 (v : Int), .int .i64 0]) ∧ v ≤ 1000000000 ∧ Fr (Cg rb pb qb) W W' ∧ RdAt N rb pb qb W' s' := by
  obtain ⟨v', s1, hn, hd⟩ := bind_inv hd
  obtain ⟨u, s2, ht, hd⟩ := bind_inv hd
  split at hd
  · cases hd
  · rename_i hlt
    injection hd with hd1 hd2
    subst hd1 hd2
    have hv := num4_lt h.by8 hn
    have C := hid (number_ok h 4 (by omega) l v' s1 hn)
    rw [I_small (by omega)] at C
    have CT := hid (fun w1 (h1 : RdAt N rb pb qb w1 s1) => tally_ok h1 parts v' s2 ht)
    have HDV := hid (fun n : Nat => div_ex n few)
    have HL := hid hlt
    have hf0 := hf.1
    clear h hn ht hlt
    go_enter Tryd.func78, Tryd.ntmps78
    go_wp2_with (first
      | (go_at_call 76; refine C.out.mono ?_; rintro x w1 ⟨rfl, f1, r1⟩; have F1 := hid f1; have R1 := hid r1; clear f1 r1)
      | (go_at_call 75; refine (CT.out _ R1.out).mono ?_; rintro x w2 ⟨rfl, f2, r2⟩; have F2 := hid f2; have R2 := hid r2; obtain ⟨o, m, c, h1, h2, -⟩ := r2.bx; have r0 := h1.cell 0 (.slice o m c) rfl; have hm := h2.1; obtain ⟨D, hD, dv, hDm⟩ := HDV.out m; have hml := r2.len; have hlt : ¬ (D : Int) < (v' : Int) := (by have := HL.out; rw [hm, ← hD] at this; omega); have hDl : D ≤ 1000000000 := (by omega); clear f2 r2 h1 h2 hm hD hDm hml))
    go_ret2
    exact ⟨rfl, by omega, F1.out.trans F2.out, R2.out⟩
end Go.Proofs.YtjieegnmofimkaaDoor
