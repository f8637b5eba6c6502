/- A reader in memory, and the numbers that it reads; no statement of the seat is proved here. -/
import Derived.Test.YtpmfedimjjifaaaGreatDoorJ11
namespace Go.Proofs.YtpmfedimjjifaaaGreatDoor
open Go.RowKit Go.Maps

/-- The blocks that a reader changes. -/
def Cg (rb pb qb : Nat) : Nat → Prop := fun i => i = rb ∨ i = pb ∨ i = qb
def rdrV (o : Option Addr) (n c pb qb : Nat) : Array Value := #[.slice o n c, .func (.func 126) #[] #[.pointer (some ⟨pb, 0, none⟩)], .func (.func 126) #[] #[.pointer (some ⟨qb, 0, none⟩)]]
/-- A reader in memory, all of it below N. -/
structure RdAt (N rb pb qb : Nat) (W : World) (s : St) : Prop where
  lo : rb < N ∧ pb < N ∧ qb < N ∧ rb ≠ pb ∧ rb ≠ qb ∧ pb ≠ qb
  sz : N ≤ W.heap.size
  bx : ∃ o n c, Bo W rb (rdrV o n c pb qb) 138 ∧ Rd W o n c s.xs ∧ (∀ b off, o = some ⟨b, off, none⟩ → 0 < n → b < N)
  pp : Bo W pb #[.int .i64 (s.P : Int)] 3
  qq : Bo W qb #[.int .i64 (s.Q : Int)] 3
  by8 : ∀ x ∈ s.xs, x < 256
  len : s.xs.length ≤ 1000000000
  lim : s.P ≤ 4000 ∧ s.Q ≤ 1000
set_option maxRecDepth 100000 in
theorem RdAt.keepN {N rb pb qb : Nat} {W W' : World} {s : St} (h : RdAt N rb pb qb W s) (hb : Below N W W') : RdAt N rb pb qb W' s := by
  obtain ⟨o, n, c, h1, h2, h3⟩ := h.bx
  refine ⟨h.lo, Nat.le_trans h.sz hb.size, ⟨o, n, c, (hb.block _ h.lo.1).trans h1, ⟨h2.1, h2.2.1, h2.2.2.1, fun hn => ?_⟩, h3⟩, (hb.block _ h.lo.2.1).trans h.pp, (hb.block _ h.lo.2.2.1).trans h.qq, h.by8, h.len, h.lim⟩
  obtain ⟨b, off, e, hc⟩ := h2.2.2.2 hn
  exact ⟨b, off, e, fun t ht => keep_cell hb (hc t ht) (h3 b off e hn)⟩
set_option maxRecDepth 100000 in
theorem RdAt.keep {N rb pb qb : Nat} {W W' : World} {s : St} (h : RdAt N rb pb qb W s) (hb : Below W.heap.size W W') : RdAt N rb pb qb W' s := h.keepN (hb.mono h.sz)
set_option maxRecDepth 100000 in
theorem Fr.cg {rb pb qb : Nat} {W W' : World} (h : Below W.heap.size W W') : Fr (Cg rb pb qb) W W' := Fr.of_below h
set_option maxRecDepth 100000 in
/-- What is not the bytes' block. -/
theorem Rd.ne {W : World} {o : Option Addr} {n c : Nat} {xs : List Nat} (h : Rd W o n c xs) {b off q : Nat} {cs : Array Value} {t : TypeId} (hb : Bo W q cs t) (hcs : ∀ (i : Nat) (x : Int), cs[i]? ≠ some (Value.int .u8 x)) (ho : o = some ⟨b, off, none⟩) (hn : 0 < n) : b ≠ q := by
  rintro rfl
  obtain ⟨b', off', e, hc⟩ := h.2.2.2 hn
  rw [ho] at e
  simp only [Option.some.injEq, Addr.mk.injEq, and_true] at e
  obtain ⟨rfl, rfl⟩ := e
  have := hc 0 hn
  unfold Bo at hb
  simp [World.cell?, hb] at this
  exact hcs _ _ this
set_option maxRecDepth 100000 in
theorem rdr_no (o : Option Addr) (n c pb qb : Nat) : ∀ (i : Nat) (x : Int), (rdrV o n c pb qb)[i]? ≠ some (Value.int .u8 x) := by
  intro i x h
  unfold rdrV at h
  rcases i with _ | _ | _ | i <;> simp at h
set_option maxRecDepth 100000 in
theorem i64_no (z : Int) : ∀ (i : Nat) (x : Int), (#[Value.int .i64 z] : Array Value)[i]? ≠ some (Value.int .u8 x) := by
  intro i x h
  rcases i with _ | i <;> simp at h
set_option maxRecDepth 100000 in
theorem Rd.set {W : World} {o : Option Addr} {n c q i : Nat} {xs : List Nat} {v : Value} (h : Rd W o n c xs) (hne : ∀ b off, o = some ⟨b, off, none⟩ → 0 < n → b ≠ q) : Rd (W.setCell ⟨q, i, none⟩ v) o n c xs := by
  refine ⟨h.1, h.2.1, h.2.2.1, fun hn => ?_⟩
  obtain ⟨b, off, e, hc⟩ := h.2.2.2 hn
  refine ⟨b, off, e, fun t ht => ?_⟩
  rw [World.cell?_of_block (heap_setCell_other W ⟨q, i, none⟩ b v (hne b off e hn))]
  exact hc t ht
set_option maxRecDepth 100000 in
theorem Rd.dropk {W : World} {o : Option Addr} {n c : Nat} {xs : List Nat} (h : Rd W o n c xs) (k : Nat) (hk : k ≤ n) : (c = k → Rd W o (n - k) (c - k) (xs.drop k)) ∧ (¬ c = k → ∀ b off, o = some ⟨b, off, none⟩ → Rd W (some ⟨b, off + k, none⟩) (n - k) (c - k) (xs.drop k)) := by
  obtain ⟨hl, hc, hno, hat⟩ := h
  constructor
  · intro h1
    refine ⟨by simp; omega, by omega, fun h => by have := hno h; omega, fun hp => by omega⟩
  · rintro h1 b off rfl
    refine ⟨by simp; omega, by omega, (fun h => by cases h), fun hp => ⟨b, off + k, rfl, fun t ht => ?_⟩⟩
    obtain ⟨b', off', e, hcell⟩ := hat (by omega)
    simp only [Option.some.injEq, Addr.mk.injEq, and_true] at e
    obtain ⟨rfl, rfl⟩ := e
    have := hcell (k + t) (by omega)
    rw [show off + k + t = off + (k + t) by omega, this]
    simp [List.getD]
set_option maxRecDepth 100000 in
/-- What is left is stored. -/
theorem RdAt.step {N rb pb qb : Nat} {W : World} {s : St} (h : RdAt N rb pb qb W s) {o : Option Addr} {n c : Nat} {xs : List Nat} (hr : Rd W o n c xs) (hN : ∀ b off, o = some ⟨b, off, none⟩ → 0 < n → b < N) (hx : ∀ x ∈ xs, x < 256) (hl : xs.length ≤ 1000000000) :
    RdAt N rb pb qb (W.setCell ⟨rb, 0, none⟩ (.slice o n c)) ⟨xs, s.P, s.Q⟩ := by
  obtain ⟨o0, n0, c0, h1, h2, h3⟩ := h.bx
  refine ⟨h.lo, by simpa using h.sz, ⟨o, n, c, h1.set 0 (.slice o n c), hr.set fun b off e hn => hr.ne h1 (rdr_no _ _ _ _ _) e hn, hN⟩, h.pp.other (Ne.symm h.lo.2.2.2.1), h.qq.other (Ne.symm h.lo.2.2.2.2.1), hx, hl, h.lim⟩

set_option maxRecDepth 100000 in
set_option maxHeartbeats 1000000 in
theorem number_bad {N rb pb qb : Nat} {W : World} {s : St} (h : RdAt N rb pb qb W s) (k : Nat) (_ : 1 ≤ k ∧ k ≤ 8) (l : Bool) (e : Nat) (hd : numD l k s = .bad e) :
    Calls Tryz.prog 127 #[.pointer (some ⟨rb, 0, none⟩), .int .i64 (k : Int), .bool l] W fun x W' => (x = .returned (.tuple #[.int .i64 0, .int .i64 (e : Int)]) ∧ e = 8) ∧ Below W.heap.size W W' := by
  unfold numD at hd
  by_cases hc : k ≤ s.xs.length
  · rw [if_pos hc] at hd; cases hd
  · rw [if_neg hc] at hd
    injection hd with hd
    subst hd
    obtain ⟨o, n, c, h1, h2, h3⟩ := h.bx
    have G := hid (fun W' (hb : Below W.heap.size W W') => get_any o n c s.xs (k : Int) l W' (h2.keep hb) h.by8 (by have := h.len; have := h2.1; omega))
    rw [show getV s.xs (k : Int) l = (0, false) by unfold getV; rw [if_neg (by omega)]] at G
    have r0 := h1.cell 0 (.slice o n c) rfl
    clear h h1 h2 h3
    go_enter Tryz.func127, Tryz.ntmps127
    go_wp2_with (go_at_call 130; refine (G.out _ (Below.refl _ _)).mono ?_; rintro e w1 ⟨rfl, b1⟩; have B1 := hid b1; clear b1)
    go_ret2
    exact ⟨⟨rfl, trivial⟩, B1.out⟩
set_option maxRecDepth 100000 in
set_option maxHeartbeats 1000000 in
theorem number_ok {N rb pb qb : Nat} {W : World} {s : St} (h : RdAt N rb pb qb W s) (k : Nat) (hk : 1 ≤ k ∧ k ≤ 8) (l : Bool) (v : Nat) (s' : St) (hd : numD l k s = .ok v s') :
    Calls Tryz.prog 127 #[.pointer (some ⟨rb, 0, none⟩), .int .i64 (k : Int), .bool l] W fun x W' => x = .returned (.tuple #[.int .i64 (I v), .int .i64 0]) ∧ Fr (Cg rb pb qb) W W' ∧ RdAt N rb pb qb W' s' := by
  unfold numD at hd
  by_cases hc : k ≤ s.xs.length
  · rw [if_pos hc] at hd
    injection hd with hd1 hd2
    obtain ⟨o, n, c, h1, h2, h3⟩ := h.bx
    have G := hid (fun W' (hb : Below W.heap.size W W') => get_any o n c s.xs (k : Int) l W' (h2.keep hb) h.by8 (by have := h.len; have := h2.1; omega))
    rw [show getV s.xs (k : Int) l = (v, true) by unfold getV; rw [if_pos (by omega), Int.toNat_natCast, hd1]] at G
    have r0 := h1.cell 0 (.slice o n c) rfl
    have HH := hid h
    have R2 := hid h2
    have L3 := hid h3
    have B1 := hid h1
    have hn : n = s.xs.length := h2.1.symm
    have hcn := h2.2.1
    obtain ⟨b, off, rfl, -⟩ := h2.2.2.2 (by omega)
    have iv : IntKind.i64.wrap (v : Int) = I v := rfl
    have HS := hid hd2
    have hk1 := hk.1
    have hkn : k ≤ n := by omega
    have hnl : n ≤ 1000000000 := by rw [hn]; exact h.len
    clear h h1 h2 h3 hd1 hd2 hc hk hn
    have t1 := hid True.intro
    by_cases hck : c = k
    · subst hck
      obtain rfl : n = c := by omega
      go_enter Tryz.func127, Tryz.ntmps127
      go_wp2_with (go_at_call 130; refine (G.out _ (Below.refl _ _)).mono ?_; rintro e w1 ⟨rfl, b1⟩; have H1 := hid b1; have X1 := hid (B1.out.keep b1); have r0 := X1.out.cell 0 (.slice (some ⟨b, off, none⟩) n n) rfl; have f0 := X1.out.fz 0; clear b1)
      go_ret2
      have R3 := HH.out.keep H1.out
      have D := ((R2.out.keep H1.out).dropk n (Nat.le_refl _)).1 rfl
      refine ⟨rfl, (Fr.cg H1.out).trans ((Fr.set _ _ _ _).mono fun _ _ e => .inl e), ?_⟩
      rw [← HS.out]
      exact R3.step (by simpa using D) (fun b' off' e h0 => by omega) (fun x hx => HH.out.by8 x (List.mem_of_mem_drop hx)) (by have := HH.out.len; simp; omega)
    · go_enter Tryz.func127, Tryz.ntmps127
      go_wp2_with (go_at_call 130; refine (G.out _ (Below.refl _ _)).mono ?_; rintro e w1 ⟨rfl, b1⟩; have H1 := hid b1; have X1 := hid (B1.out.keep b1); have r0 := X1.out.cell 0 (.slice (some ⟨b, off, none⟩) n c) rfl; have f0 := X1.out.fz 0; clear b1)
      go_ret2
      have R3 := HH.out.keep H1.out
      have D := ((R2.out.keep H1.out).dropk k hkn).2 hck b off rfl
      refine ⟨rfl, (Fr.cg H1.out).trans ((Fr.set _ _ _ _).mono fun _ _ e => .inl e), ?_⟩
      rw [← HS.out]
      exact R3.step D (fun b' off' e h0 => by simp at e; rw [← e.1]; exact L3.out b off rfl (by omega)) (fun x hx => HH.out.by8 x (List.mem_of_mem_drop hx)) (by have := HH.out.len; simp; omega)
  · rw [if_neg hc] at hd; cases hd
end Go.Proofs.YtpmfedimjjifaaaGreatDoor

/- What a reader counts, and points, orders and Kinds that it reads; no statement of the seat is proved here. -/
namespace Go.Proofs.YtpmfedimjjifaaaGreatDoor
open Go.RowKit Go.Maps

set_option maxRecDepth 100000 in
theorem bad_inv {α β : Type} {m : Re α} {g : α → St → Re β} {e : Nat} (h : m.bind g = .bad e) : m = .bad e ∨ ∃ a s1, m = .ok a s1 ∧ g a s1 = .bad e := by
  cases m with
  | ok a s1 => exact .inr ⟨a, s1, rfl, h⟩
  | bad e' => exact .inl (by injection h with h; rw [h])
set_option maxRecDepth 100000 in
theorem psum4_lt (xs : List Nat) (l : Bool) (hx : ∀ x ∈ xs, x < 256) (h : 4 ≤ xs.length) : psum xs 4 l 4 < 4294967296 := by
  cases l with
  | true => exact psum_little xs 4 hx h 4 (Nat.le_refl _)
  | false =>
    obtain ⟨q, hq, e⟩ := psum_big xs 4 hx h 4 (Nat.le_refl _)
    rw [e]; simp; omega
set_option maxRecDepth 100000 in
theorem num4_lt {l : Bool} {s s' : St} {v : Nat} (hx : ∀ x ∈ s.xs, x < 256) (h : numD l 4 s = .ok v s') : v < 4294967296 := by
  unfold numD at h
  split at h
  · injection h with h1 h2
    rw [← h1]; exact psum4_lt s.xs l hx (by assumption)
  · cases h
set_option maxRecDepth 100000 in
theorem I_small {v : Nat} (h : v < 9223372036854775808) : I v = (v : Int) := by unfold I; rw [IntKind.wrap_i64]; omega
def tq (pb qb : Nat) (parts : Bool) : Nat := if parts then qb else pb
set_option maxRecDepth 100000 in
set_option maxHeartbeats 1000000 in
theorem tally_bad {N rb pb qb : Nat} {W : World} {s : St} (h : RdAt N rb pb qb W s) (parts : Bool) (n : Nat) (e : Nat) (hd : tallyD parts n s = .bad e) :
    Calls Tryz.prog 126 #[.int .i64 (n : Int), .pointer (some ⟨tq pb qb parts, 0, none⟩)] W fun x W' => (x = .returned (.bool false) ∧ e = 12) ∧ Below W.heap.size W W' := by
  unfold tallyD at hd
  by_cases hc : n ≤ (if parts then s.Q else s.P)
  · rw [if_pos hc] at hd; cases hd
  · rw [if_neg hc] at hd
    injection hd with hd
    subst hd
    have c0 : W.cell? ⟨tq pb qb parts, 0, none⟩ = some (.int .i64 (((if parts then s.Q else s.P) : Nat) : Int)) := by
      cases parts
      · exact h.pp.cell 0 _ rfl
      · exact h.qq.cell 0 _ rfl
    generalize (if parts then s.Q else s.P) = z at *
    generalize tq pb qb parts = q at *
    have hlt : (z : Int) < (n : Int) := by omega
    clear h
    go_enter Tryz.func126, Tryz.ntmps126
    go_wp2
    go_ret
    exact ⟨⟨rfl, trivial⟩, Below.refl _ _⟩
set_option maxRecDepth 100000 in
set_option maxHeartbeats 1000000 in
theorem tally_ok {N rb pb qb : Nat} {W : World} {s : St} (h : RdAt N rb pb qb W s) (parts : Bool) (n : Nat) (s' : St) (hd : tallyD parts n s = .ok () s') :
    Calls Tryz.prog 126 #[.int .i64 (n : Int), .pointer (some ⟨tq pb qb parts, 0, none⟩)] W fun x W' => x = .returned (.bool true) ∧ Fr (Cg rb pb qb) W W' ∧ RdAt N rb pb qb W' s' := by
  unfold tallyD at hd
  by_cases hc : n ≤ (if parts then s.Q else s.P)
  · rw [if_pos hc] at hd
    injection hd with _ hd
    have B : Bo W (tq pb qb parts) #[.int .i64 (((if parts then s.Q else s.P) : Nat) : Int)] 3 := by
      cases parts
      · exact h.pp
      · exact h.qq
    have c0 := B.cell 0 (.int .i64 (((if parts then s.Q else s.P) : Nat) : Int)) rfl
    have f0 := B.fz 0
    have hz : (if parts then s.Q else s.P) ≤ 4000 := by have := h.lim; split <;> omega
    have EE : Hid (∀ v : Nat, v = (if parts then s.Q else s.P) - n → RdAt N rb pb qb (W.setCell ⟨tq pb qb parts, 0, none⟩ (.int .i64 (v : Int))) s' ∧ Fr (Cg rb pb qb) W (W.setCell ⟨tq pb qb parts, 0, none⟩ (.int .i64 (v : Int)))) := hid (by
      rintro v rfl
      obtain ⟨o, m, c, h1, h2, h3⟩ := h.bx
      rw [← hd]
      cases parts
      · refine ⟨⟨h.lo, by simpa using h.sz, ⟨o, m, c, h1.other h.lo.2.2.2.1, h2.set fun b off e hn => h2.ne h.pp (i64_no _) e hn, h3⟩, h.pp.set 0 _, h.qq.other (Ne.symm h.lo.2.2.2.2.2), h.by8, h.len, by have := h.lim; simp; omega⟩, (Fr.set _ _ _ _).mono fun _ _ e => .inr (.inl e)⟩
      · refine ⟨⟨h.lo, by simpa using h.sz, ⟨o, m, c, h1.other h.lo.2.2.2.2.1, h2.set fun b off e hn => h2.ne h.qq (i64_no _) e hn, h3⟩, h.pp.other h.lo.2.2.2.2.2, h.qq.set 0 _, h.by8, h.len, by have := h.lim; simp; omega⟩, (Fr.set _ _ _ _).mono fun _ _ e => .inr (.inr e)⟩)
    generalize (if parts then s.Q else s.P) = z at *
    generalize tq pb qb parts = q at *
    have hle : ¬ (z : Int) < (n : Int) := by omega
    have ev := hid (show ((z - n : Nat) : Int) = (z : Int) - (n : Int) by omega)
    clear h hd B
    go_enter Tryz.func126, Tryz.ntmps126
    go_wp2
    go_ret
    have := EE.out (z - n) rfl
    rw [ev.out] at this
    exact ⟨rfl, this.2, this.1⟩
  · rw [if_neg hc] at hd; cases hd

set_option maxRecDepth 100000 in
theorem div_ex (n few : Nat) : ∃ D : Nat, D = n / few ∧ (n : Int) / (few : Int) = (D : Int) ∧ D ≤ n := ⟨n / few, rfl, by simp, Nat.div_le_self _ _⟩
set_option maxRecDepth 100000 in
set_option maxHeartbeats 2000000 in
theorem count_bad {N rb pb qb : Nat} {W : World} {s : St} (h : RdAt N rb pb qb W s) (parts : Bool) (few : Nat) (hf : 0 < few ∧ few ≤ 100) (l : Bool) (e : Nat) (hd : countD parts few l s = .bad e) :
    Calls Tryz.prog 129 #[.pointer (some ⟨rb, 0, none⟩), .func (.func 126) #[] #[.pointer (some ⟨tq pb qb parts, 0, none⟩)], .int .i64 (few : Int), .bool l] W fun x W' => x = .returned (.tuple #[.int .i64 0, .int .i64 (e : Int)]) ∧ (1 ≤ e ∧ e ≤ 20) ∧ Fr (Cg rb pb qb) W W' := by
  rcases bad_inv hd with hd | ⟨v, s1, hn, hd⟩
  · have C := hid (number_bad h 4 (by omega) l e hd)
    clear h hd
    go_enter Tryz.func129, Tryz.ntmps129
    go_wp2_with (go_at_call 127; refine C.out.mono ?_; rintro x w1 ⟨⟨rfl, rfl⟩, b1⟩; have B1 := hid b1; clear b1)
    go_ret2
    exact ⟨rfl, by omega, Fr.cg B1.out⟩
  · have hv := num4_lt h.by8 hn
    have C := hid (number_ok h 4 (by omega) l v s1 hn)
    rw [I_small (by omega)] at C
    rcases bad_inv hd with hd | ⟨u, s2, ht, hd⟩
    · have CT := hid (fun w1 (h1 : RdAt N rb pb qb w1 s1) => tally_bad h1 parts v e hd)
      clear h hn hd
      go_enter Tryz.func129, Tryz.ntmps129
      go_wp2_with (first
        | (go_at_call 127; refine C.out.mono ?_; rintro x w1 ⟨rfl, f1, r1⟩; have F1 := hid f1; have R1 := hid r1; clear f1 r1)
        | (go_at_call 126; refine (CT.out _ R1.out).mono ?_; rintro x w2 ⟨⟨rfl, rfl⟩, b2⟩; have B2 := hid b2; clear b2))
      go_ret2
      exact ⟨rfl, by omega, F1.out.trans (Fr.cg B2.out)⟩
    · have CT := hid (fun w1 (h1 : RdAt N rb pb qb w1 s1) => tally_ok h1 parts v s2 ht)
      split at hd
      · rename_i hlt
        injection hd with hd
        subst hd
        have LV := hid (fun w1 (h1 : RdAt N rb pb qb w1 s2) => h1.bx)
        have HDV := hid (fun n : Nat => div_ex n few)
        have HL := hid hlt
        have hf0 := hf.1
        clear h hn ht hlt
        go_enter Tryz.func129, Tryz.ntmps129
        go_wp2_with (first
          | (go_at_call 127; refine C.out.mono ?_; rintro x w1 ⟨rfl, f1, r1⟩; have F1 := hid f1; have R1 := hid r1; clear f1 r1)
          | (go_at_call 126; refine (CT.out _ R1.out).mono ?_; rintro x w2 ⟨rfl, f2, r2⟩; have F2 := hid f2; obtain ⟨o, m, c, h1, h2, -⟩ := r2.bx; have r0 := h1.cell 0 (.slice o m c) rfl; have hm := h2.1; obtain ⟨D, hD, dv, hDm⟩ := HDV.out m; have hml := r2.len; have hlt : (D : Int) < (v : Int) := (by have := HL.out; rw [hm, ← hD] at this; omega); have hDl : D ≤ 1000000000 := (by omega); clear f2 r2 h1 h2 hm hD hDm hml))
        go_ret2
        exact ⟨rfl, by omega, F1.out.trans F2.out⟩
      · cases hd
set_option maxRecDepth 100000 in
set_option maxHeartbeats 2000000 in
theorem count_ok {N rb pb qb : Nat} {W : World} {s : St} (h : RdAt N rb pb qb W s) (parts : Bool) (few : Nat) (hf : 0 < few ∧ few ≤ 100) (l : Bool) (v : Nat) (s' : St) (hd : countD parts few l s = .ok v s') :
    Calls Tryz.prog 129 #[.pointer (some ⟨rb, 0, none⟩), .func (.func 126) #[] #[.pointer (some ⟨tq pb qb parts, 0, none⟩)], .int .i64 (few : Int), .bool l] W fun x W' => x = .returned (.tuple #[.int .i64 (v : Int), .int .i64 0]) ∧ v ≤ 1000000000 ∧ Fr (Cg rb pb qb) W W' ∧ RdAt N rb pb qb W' s' := by
  obtain ⟨v', s1, hn, hd⟩ := bind_inv hd
  obtain ⟨u, s2, ht, hd⟩ := bind_inv hd
  split at hd
  · cases hd
  · rename_i hlt
    injection hd with hd1 hd2
    subst hd1 hd2
    have hv := num4_lt h.by8 hn
    have C := hid (number_ok h 4 (by omega) l v' s1 hn)
    rw [I_small (by omega)] at C
    have CT := hid (fun w1 (h1 : RdAt N rb pb qb w1 s1) => tally_ok h1 parts v' s2 ht)
    have HDV := hid (fun n : Nat => div_ex n few)
    have HL := hid hlt
    have hf0 := hf.1
    clear h hn ht hlt
    go_enter Tryz.func129, Tryz.ntmps129
    go_wp2_with (first
      | (go_at_call 127; refine C.out.mono ?_; rintro x w1 ⟨rfl, f1, r1⟩; have F1 := hid f1; have R1 := hid r1; clear f1 r1)
      | (go_at_call 126; refine (CT.out _ R1.out).mono ?_; rintro x w2 ⟨rfl, f2, r2⟩; have F2 := hid f2; have R2 := hid r2; obtain ⟨o, m, c, h1, h2, -⟩ := r2.bx; have r0 := h1.cell 0 (.slice o m c) rfl; have hm := h2.1; obtain ⟨D, hD, dv, hDm⟩ := HDV.out m; have hml := r2.len; have hlt : ¬ (D : Int) < (v' : Int) := (by have := HL.out; rw [hm, ← hD] at this; omega); have hDl : D ≤ 1000000000 := (by omega); clear f2 r2 h1 h2 hm hD hDm hml))
    go_ret2
    exact ⟨rfl, by omega, F1.out.trans F2.out, R2.out⟩
end Go.Proofs.YtpmfedimjjifaaaGreatDoor

/- Points, orders and Kinds that a reader reads; no statement of the seat is proved here. -/
namespace Go.Proofs.YtpmfedimjjifaaaGreatDoor
open Go.RowKit Go.Maps

set_option maxRecDepth 100000 in
theorem Fr.low {S : Nat → Prop} {w a b : World} (f : Fr S w a) (h : Below w.heap.size a b) : Fr S w b := ⟨h.os.trans f.os, h.tape.trans f.tape, h.output.trans f.output, Nat.le_trans f.size h.size, fun k hk hn => (h.block k hk).trans (f.blk k hk hn)⟩
set_option maxRecDepth 100000 in
theorem Fr.al {S : Nat → Prop} {w a : World} (f : Fr S w a) (o : Obj) : Fr S w (a.alloc o) := f.low ((Below.refl _ _).alloc f.size _)
set_option maxRecDepth 100000 in
theorem Fr.st {S : Nat → Prop} {w a : World} (f : Fr S w a) {q i : Nat} {v : Value} (hq : w.heap.size ≤ q) : Fr S w (a.setCell ⟨q, i, none⟩ v) := f.low ((Below.refl _ _).setCell hq _)
set_option maxRecDepth 100000 in
theorem Fr.bo {N rb pb qb : Nat} {w a : World} {s : St} (f : Fr (Cg rb pb qb) w a) (h : RdAt N rb pb qb w s) {q : Nat} {cs : Array Value} {t : TypeId} (hb : Bo w q cs t) (hq : N ≤ q) : Bo a q cs t :=
  (f.blk q hb.lt fun e => by have := h.lo; rcases e with e | e | e <;> omega).trans hb
set_option maxRecDepth 100000 in
theorem RdAt.al {N rb pb qb : Nat} {W : World} {s : St} (h : RdAt N rb pb qb W s) (o : Obj) : RdAt N rb pb qb (W.alloc o) s := h.keep (ext1 o)
set_option maxRecDepth 100000 in
theorem RdAt.st {N rb pb qb : Nat} {W : World} {s : St} (h : RdAt N rb pb qb W s) {q i : Nat} {v : Value} (hq : N ≤ q) : RdAt N rb pb qb (W.setCell ⟨q, i, none⟩ v) s := h.keepN ((Below.refl _ _).setCell hq _)
set_option maxRecDepth 100000 in
theorem ret_pt2 {fn : Func} {p u : Tmp} (h : fn.results = #[.cell p 25, .tmp u]) {tmps : Array Value} {W : World} {q : Nat} {t' : TypeId} {a b : Value}
    (hp : tmps.getD p undef = .pointer (some ⟨q, 0, none⟩)) (hb : W.heap[q]? = some (.cells #[a, b] t')) : (results fn tmps).run Tryz.prog W = .ok (.tuple #[.agg #[a, b], tmps.getD u undef]) W := by
  rw [results_cell_tmp h, hp]
  simp [asAddr, load2 Tryz.isAgg25 Tryz.sizeOf25 hb]
def PZ : Obj := .cells #[.int .i64 0, .int .i64 0] 25

set_option maxRecDepth 100000 in
set_option maxHeartbeats 2000000 in
theorem point_bad {N rb pb qb : Nat} {W : World} {s : St} (h : RdAt N rb pb qb W s) (l : Bool) (e : Nat) (hd : pointD l s = .bad e) :
    Calls Tryz.prog 128 #[.pointer (some ⟨rb, 0, none⟩), .bool l] W fun x W' => (x = .returned (.tuple #[.agg #[.int .i64 0, .int .i64 0], .int .i64 8]) ∧ e = 8) ∧ Fr (Cg rb pb qb) W W' := by
  have hN := h.sz
  have BZ := hid (Bo.new W #[.int .i64 0, .int .i64 0] 25)
  rcases bad_inv hd with hd | ⟨v, s1, hn, hd⟩
  · have C := hid (number_bad (h.al (.cells #[.int .i64 0, .int .i64 0] 25)) 8 (by omega) l e hd)
    clear h hd
    go_enter Tryz.func128, Tryz.ntmps128
    go_wp2_with (go_at_call 127; refine C.out.mono ?_; rintro x w1 ⟨⟨rfl, rfl⟩, b1⟩; have H1 := hid b1; have X1 := hid (BZ.out.keep b1); have c0 := X1.out.cell 0 (.int .i64 0) rfl; have c1 := X1.out.cell 1 (.int .i64 0) rfl; have f0 := X1.out.fz 0; have f1 := X1.out.fz 1; clear b1)
    refine bodyPost_ret (ret_pt2 rfl rfl ((X1.out.set 0 _).set 1 _)) rfl ?_
    exact ⟨rfl, (((Fr.alloc _ _ _).low (H1.out.mono (by simp))).st (Nat.le_refl _)).st (Nat.le_refl _)⟩
  · have C := hid (number_ok (h.al (.cells #[.int .i64 0, .int .i64 0] 25)) 8 (by omega) l v s1 hn)
    have HA := hid (h.al (.cells #[.int .i64 0, .int .i64 0] 25))
    rcases bad_inv hd with hd | ⟨y, s2, _, hd⟩
    · have C2 := hid (fun w1 (h1 : RdAt N rb pb qb w1 s1) => number_bad h1 8 (by omega) l e hd)
      have t1 := hid True.intro
      clear h hn hd
      generalize I v = z at *
      go_enter Tryz.func128, Tryz.ntmps128
      go_wp2_with (first
        | (go_at_call 127; clear t1; refine C.out.mono ?_; rintro x w1 ⟨rfl, f1, r1⟩; have F1 := hid f1; have R1 := hid r1; have X1 := hid (f1.bo HA.out BZ.out hN); clear f1 r1 C)
        | (go_at_call 127; refine (C2.out _ R1.out).mono ?_; rintro x w2 ⟨⟨rfl, rfl⟩, b2⟩; have H2 := hid b2; have X2 := hid (X1.out.keep b2); have c0 := X2.out.cell 0 (.int .i64 0) rfl; have c1 := X2.out.cell 1 (.int .i64 0) rfl; have g0 := X2.out.fz 0; have g1 := X2.out.fz 1; clear b2))
      refine bodyPost_ret (ret_pt2 rfl rfl ((X2.out.set 0 _).set 1 _)) rfl ?_
      exact ⟨rfl, ((((Fr.alloc _ _ _).trans F1.out).trans (Fr.cg H2.out)).st (Nat.le_refl _)).st (Nat.le_refl _)⟩
    · cases hd
set_option maxRecDepth 100000 in
set_option maxHeartbeats 2000000 in
theorem point_ok {N rb pb qb : Nat} {W : World} {s : St} (h : RdAt N rb pb qb W s) (l : Bool) (p : Int × Int) (s' : St) (hd : pointD l s = .ok p s') :
    Calls Tryz.prog 128 #[.pointer (some ⟨rb, 0, none⟩), .bool l] W fun x W' => x = .returned (.tuple #[.agg #[.int .i64 p.1, .int .i64 p.2], .int .i64 0]) ∧ Fr (Cg rb pb qb) W W' ∧ RdAt N rb pb qb W' s' := by
  have hN := h.sz
  have BZ := hid (Bo.new W #[.int .i64 0, .int .i64 0] 25)
  obtain ⟨a, s1, hn, hd⟩ := bind_inv hd
  obtain ⟨b, s2, hn2, hd⟩ := bind_inv hd
  injection hd with hd1 hd2
  subst hd1 hd2
  have C := hid (number_ok (h.al (.cells #[.int .i64 0, .int .i64 0] 25)) 8 (by omega) l a s1 hn)
  have HA := hid (h.al (.cells #[.int .i64 0, .int .i64 0] 25))
  have C2 := hid (fun w1 (h1 : RdAt N rb pb qb w1 s1) => number_ok h1 8 (by omega) l b s2 hn2)
  have t1 := hid True.intro
  clear h hn hn2
  simp only
  generalize I a = z at *
  generalize I b = y at *
  go_enter Tryz.func128, Tryz.ntmps128
  go_wp2_with (first
    | (go_at_call 127; clear t1; refine C.out.mono ?_; rintro x w1 ⟨rfl, f1, r1⟩; have F1 := hid f1; have R1 := hid r1; have X1 := hid (f1.bo HA.out BZ.out hN); clear f1 r1 C)
    | (go_at_call 127; refine (C2.out _ R1.out).mono ?_; rintro x w2 ⟨rfl, f2, r2⟩; have F2 := hid f2; have R2 := hid r2; have X2 := hid (f2.bo R1.out X1.out hN); have c0 := X2.out.cell 0 (.int .i64 0) rfl; have c1 := X2.out.cell 1 (.int .i64 0) rfl; have g0 := X2.out.fz 0; have g1 := X2.out.fz 1; clear f2 r2))
  refine bodyPost_ret (ret_pt2 rfl rfl ((X2.out.set 0 _).set 1 _)) rfl ?_
  exact ⟨rfl, ((((Fr.alloc _ _ _).trans F1.out).trans F2.out).st (Nat.le_refl _)).st (Nat.le_refl _), (R2.out.st hN).st hN⟩

def ordV (xs : List Nat) : Bool × Bool := match xs with
  | [] => (false, false)
  | b :: _ => if 1 < b then (false, false) else (b == 1, true)
set_option maxRecDepth 100000 in
set_option maxHeartbeats 2000000 in
theorem Order_call (o : Option Addr) (n c : Nat) (xs : List Nat) (w : World) (h : Rd w o n c xs) (hx : ∀ x ∈ xs, x < 256) (hn : n ≤ 1000000000) : Calls Tryz.prog 29 #[.slice o n c] w fun e w' => e = .returned (.tuple #[.bool (ordV xs).1, .bool (ordV xs).2]) ∧ w' = w := by
  cases xs with
  | nil =>
    obtain rfl : n = 0 := by simpa using h.1.symm
    clear h
    go_enter Tryz.func29, Tryz.ntmps29
    go_wp2
    go_ret2
    exact ⟨rfl, rfl⟩
  | cons b r =>
    have hb := hx b (by simp)
    have hn1 : 0 < n := by have := h.1; simp at this; omega
    obtain ⟨g, off, rfl, hc⟩ := h.2.2.2 hn1
    have c0 := hc 0 hn1
    simp only [Nat.add_zero, List.getD_cons_zero] at c0
    have z1 : ((n : Int) == 0) = false := by simp; omega
    have hcap := h.2.1
    clear h hx hc
    by_cases h1 : 1 < b
    · rw [show ordV (b :: r) = (false, false) by simp [ordV, h1]]
      have h1' : (1 : Int) < (b : Int) := by omega
      go_enter Tryz.func29, Tryz.ntmps29
      go_wp2
      go_ret2
      exact ⟨rfl, rfl⟩
    · rw [show ordV (b :: r) = (b == 1, true) by simp [ordV, h1]]
      have h1' : ¬ (1 : Int) < (b : Int) := by omega
      have e : ((b : Int) == 1) = (b == 1) := by rw [Bool.eq_iff_iff]; simp; omega
      go_enter Tryz.func29, Tryz.ntmps29
      go_wp2
      go_ret2
      exact ⟨rfl, rfl⟩

set_option maxRecDepth 100000 in
set_option maxHeartbeats 2000000 in
theorem order_bad {N rb pb qb : Nat} {W : World} {s : St} (h : RdAt N rb pb qb W s) (d : Nat) (hd20 : d ≤ 20) (e : Nat) (hd : orderD (decide (16 < d)) s = .bad e) :
    Calls Tryz.prog 106 #[.pointer (some ⟨rb, 0, none⟩), .int .i64 (d : Int)] W fun x W' => x = .returned (.tuple #[.bool false, .int .i64 (e : Int)]) ∧ (1 ≤ e ∧ e ≤ 20) ∧ Below W.heap.size W W' := by
  obtain ⟨o, n, c, h1, h2, h3⟩ := h.bx
  have r0 := h1.cell 0 (.slice o n c) rfl
  have OC := hid (Order_call o n c s.xs W h2 h.by8 (by have := h.len; have := h2.1; omega))
  have hl := h2.1
  unfold orderD at hd
  cases hx : s.xs with
  | nil =>
    rw [hx] at hd hl
    injection hd with hd
    subst hd
    obtain rfl : n = 0 := by simpa using hl.symm
    rw [hx] at OC
    rw [show ordV [] = (false, false) from rfl] at OC
    clear h h1 h2 h3 hx hl
    go_enter Tryz.func106, Tryz.ntmps106
    go_wp2_with (go_at_call 29; refine OC.out.mono ?_; rintro x w1 ⟨rfl, hw⟩; obtain rfl := hw.symm)
    go_ret2
    exact ⟨rfl, by omega, Below.refl _ _⟩
  | cons b r =>
    rw [hx] at hd hl
    have hn1 : 0 < n := by simp at hl; omega
    have z1 : ((n : Int) == 0) = false := by simp; omega
    simp only at hd
    rw [hx] at OC
    by_cases hb : 1 < b
    · rw [if_pos hb] at hd
      injection hd with hd
      subst hd
      rw [show ordV (b :: r) = (false, false) by simp [ordV, hb]] at OC
      clear h h1 h2 h3 hx hl
      go_enter Tryz.func106, Tryz.ntmps106
      go_wp2_with (go_at_call 29; refine OC.out.mono ?_; rintro x w1 ⟨rfl, hw⟩; obtain rfl := hw.symm)
      go_ret2
      exact ⟨rfl, by omega, Below.refl _ _⟩
    · rw [if_neg hb] at hd
      rw [show ordV (b :: r) = (b == 1, true) by simp [ordV, hb]] at OC
      split at hd
      · rename_i h16
        injection hd with hd
        subst hd
        have h16' : (16 : Int) < (d : Int) := by simp at h16; omega
        generalize (b == 1) = bb at *
        clear h h1 h2 h3 hx hl h16
        go_enter Tryz.func106, Tryz.ntmps106
        go_wp2_with (go_at_call 29; refine OC.out.mono ?_; rintro x w1 ⟨rfl, hw⟩; obtain rfl := hw.symm)
        go_ret2
        exact ⟨rfl, by omega, Below.refl _ _⟩
      · cases hd
set_option maxRecDepth 100000 in
set_option maxHeartbeats 2000000 in
theorem order_ok {N rb pb qb : Nat} {W : World} {s : St} (h : RdAt N rb pb qb W s) (d : Nat) (hd20 : d ≤ 20) (l : Bool) (s' : St) (hd : orderD (decide (16 < d)) s = .ok l s') :
    Calls Tryz.prog 106 #[.pointer (some ⟨rb, 0, none⟩), .int .i64 (d : Int)] W fun x W' => x = .returned (.tuple #[.bool l, .int .i64 0]) ∧ Fr (Cg rb pb qb) W W' ∧ RdAt N rb pb qb W' s' := by
  obtain ⟨o, n, c, h1, h2, h3⟩ := h.bx
  have r0 := h1.cell 0 (.slice o n c) rfl
  have f0 := h1.fz 0
  have OC := hid (Order_call o n c s.xs W h2 h.by8 (by have := h.len; have := h2.1; omega))
  have hl := h2.1
  unfold orderD at hd
  cases hx : s.xs with
  | nil => rw [hx] at hd; cases hd
  | cons b r =>
    rw [hx] at hd hl
    have hn1 : 0 < n := by simp at hl; omega
    have hn1' : (1 : Int) ≤ (n : Int) := by omega
    have z1 : ((n : Int) == 0) = false := by simp; omega
    simp only at hd
    rw [hx] at OC
    by_cases hb : 1 < b
    · rw [if_pos hb] at hd; cases hd
    · rw [if_neg hb] at hd
      rw [show ordV (b :: r) = (b == 1, true) by simp [ordV, hb]] at OC
      split at hd
      · cases hd
      · rename_i h16
        injection hd with hd1 hd2
        rw [hd1] at OC
        have h16' : ¬ (16 : Int) < (d : Int) := by simp at h16; omega
        obtain ⟨b', off, rfl, -⟩ := h2.2.2.2 hn1
        have HH := hid h
        have R2 := hid h2
        have L3 := hid h3
        have HS := hid hd2
        have HX := hid hx
        have hcn := h2.2.1
        have hnl : n ≤ 1000000000 := by have := h.len; rw [hx] at this; omega
        clear h h1 h2 h3 hx hl h16 hd1 hd2 hb
        by_cases hc1 : c = 1
        · subst hc1
          obtain rfl : n = 1 := by omega
          go_enter Tryz.func106, Tryz.ntmps106
          go_wp2_with (go_at_call 29; refine OC.out.mono ?_; rintro x w1 ⟨rfl, hw⟩; obtain rfl := hw.symm)
          go_ret2
          have D := (R2.out.dropk 1 (Nat.le_refl _)).1 rfl
          rw [HX.out] at D
          refine ⟨rfl, (Fr.set _ _ _ _).mono fun _ _ e => .inl e, ?_⟩
          rw [← HS.out]
          exact HH.out.step D (fun b' off' e h0 => by omega) (fun x hx => HH.out.by8 x (by rw [HX.out]; exact List.mem_cons_of_mem _ hx)) (by have := HH.out.len; rw [HX.out] at this; simp at this; omega)
        · go_enter Tryz.func106, Tryz.ntmps106
          go_wp2_with (go_at_call 29; refine OC.out.mono ?_; rintro x w1 ⟨rfl, hw⟩; obtain rfl := hw.symm)
          go_ret2
          have D := (R2.out.dropk 1 (by omega)).2 hc1 b' off rfl
          rw [HX.out] at D
          refine ⟨rfl, (Fr.set _ _ _ _).mono fun _ _ e => .inl e, ?_⟩
          rw [← HS.out]
          exact HH.out.step D (fun b2 off' e h0 => by simp at e; rw [← e.1]; exact L3.out b' off rfl hn1) (fun x hx => HH.out.by8 x (by rw [HX.out]; exact List.mem_cons_of_mem _ hx)) (by have := HH.out.len; rw [HX.out] at this; simp at this; omega)

set_option maxRecDepth 100000 in
set_option maxHeartbeats 2000000 in
theorem kind_bad {N rb pb qb : Nat} {W : World} {s : St} (h : RdAt N rb pb qb W s) (want : Int) (l : Bool) (e : Nat) (hd : kindD want l s = .bad e) :
    Calls Tryz.prog 107 #[.pointer (some ⟨rb, 0, none⟩), .int .i64 want, .bool l] W fun x W' => x = .returned (.tuple #[.int .i64 0, .int .i64 (e : Int)]) ∧ (1 ≤ e ∧ e ≤ 20) ∧ Fr (Cg rb pb qb) W W' := by
  rcases bad_inv hd with hd | ⟨v, s1, hn, hd⟩
  · have C := hid (number_bad h 4 (by omega) l e hd)
    clear h hd
    go_enter Tryz.func107, Tryz.ntmps107
    go_wp2_with (go_at_call 127; refine C.out.mono ?_; rintro x w1 ⟨⟨rfl, rfl⟩, b1⟩; have B1 := hid b1; clear b1)
    go_ret2
    exact ⟨rfl, by omega, Fr.cg B1.out⟩
  · have hv := num4_lt h.by8 hn
    have C := hid (number_ok h 4 (by omega) l v s1 hn)
    rw [I_small (by omega)] at C
    clear h hn
    split at hd
    · rename_i h17
      injection hd with hd
      subst hd
      by_cases h1 : v < 1
      · have h1' : (v : Int) < 1 := by omega
        go_enter Tryz.func107, Tryz.ntmps107
        go_wp2_with (go_at_call 127; refine C.out.mono ?_; rintro x w1 ⟨rfl, f1, -⟩; have F1 := hid f1; clear f1)
        go_ret2
        exact ⟨rfl, by omega, F1.out⟩
      · have h1' : ¬ (v : Int) < 1 := by omega
        have h7' : (7 : Int) < (v : Int) := by omega
        go_enter Tryz.func107, Tryz.ntmps107
        go_wp2_with (go_at_call 127; refine C.out.mono ?_; rintro x w1 ⟨rfl, f1, -⟩; have F1 := hid f1; clear f1)
        go_ret2
        exact ⟨rfl, by omega, F1.out⟩
    · rename_i h17
      have h1' : ¬ (v : Int) < 1 := by omega
      have h7' : ¬ (7 : Int) < (v : Int) := by omega
      split at hd
      · rename_i hw
        injection hd with hd
        subst hd
        have w1' : (want != -1) = true := by simp [hw.1]
        have w2' : ((v : Int) != want) = true := by simp [hw.2]
        clear hw
        go_enter Tryz.func107, Tryz.ntmps107
        go_wp2_with (go_at_call 127; refine C.out.mono ?_; rintro x w1 ⟨rfl, f1, -⟩; have F1 := hid f1; clear f1)
        go_ret2
        exact ⟨rfl, by omega, F1.out⟩
      · cases hd
set_option maxRecDepth 100000 in
set_option maxHeartbeats 2000000 in
theorem kind_ok {N rb pb qb : Nat} {W : World} {s : St} (h : RdAt N rb pb qb W s) (want : Int) (l : Bool) (k : Int) (s' : St) (hd : kindD want l s = .ok k s') :
    Calls Tryz.prog 107 #[.pointer (some ⟨rb, 0, none⟩), .int .i64 want, .bool l] W fun x W' => x = .returned (.tuple #[.int .i64 k, .int .i64 0]) ∧ Fr (Cg rb pb qb) W W' ∧ RdAt N rb pb qb W' s' := by
  obtain ⟨v, s1, hn, hd⟩ := bind_inv hd
  have hv := num4_lt h.by8 hn
  have C := hid (number_ok h 4 (by omega) l v s1 hn)
  rw [I_small (by omega)] at C
  clear h hn
  split at hd
  · cases hd
  · rename_i h17
    have h1' : ¬ (v : Int) < 1 := by omega
    have h7' : ¬ (7 : Int) < (v : Int) := by omega
    split at hd
    · cases hd
    · rename_i hw
      injection hd with hd1 hd2
      subst hd1 hd2
      by_cases hm : want = -1
      · subst hm
        go_enter Tryz.func107, Tryz.ntmps107
        go_wp2_with (go_at_call 127; refine C.out.mono ?_; rintro x w1 ⟨rfl, f1, r1⟩; have F1 := hid f1; have R1 := hid r1; clear f1 r1)
        go_ret2
        exact ⟨rfl, F1.out, R1.out⟩
      · obtain rfl : (v : Int) = want := by
          rcases Int.decEq (v : Int) want with h | h
          · exact absurd ⟨hm, h⟩ hw
          · exact h
        have w1' : ((v : Int) != -1) = true := by simp
        clear hw hm
        go_enter Tryz.func107, Tryz.ntmps107
        go_wp2_with (go_at_call 127; refine C.out.mono ?_; rintro x w1 ⟨rfl, f1, r1⟩; have F1 := hid f1; have R1 := hid r1; clear f1 r1)
        go_ret2
        exact ⟨rfl, F1.out, R1.out⟩
end Go.Proofs.YtpmfedimjjifaaaGreatDoor
