/- A reader in memory, and the numbers that it reads; no statement of the seat is proved here. -/
import Derived.Test.YtjieegnmofimkaaDoorEa
namespace Go.Proofs.YtjieegnmofimkaaDoor
open Go.RowKit Go.Maps

/-- The blocks that a reader changes. -/
def Cg (rb pb qb : Nat) : Nat → Prop := fun i => i = rb ∨ i = pb ∨ i = qb
def rdrV (o : Option Addr) (n c pb qb : Nat) : Array Value := #[.slice o n c, .func (.func 75) #[] #[.pointer (some ⟨pb, 0, none⟩)], .func (.func 75) #[] #[.pointer (some ⟨qb, 0, none⟩)]]
/-- A reader in memory, all of it below N. -/
structure RdAt (N rb pb qb : Nat) (W : World) (s : St) : Prop where
  lo : rb < N ∧ pb < N ∧ qb < N ∧ rb ≠ pb ∧ rb ≠ qb ∧ pb ≠ qb
  sz : N ≤ W.heap.size
  bx : ∃ o n c, Bo W rb (rdrV o n c pb qb) 65 ∧ Rd W o n c s.xs ∧ (∀ b off, o = some ⟨b, off, none⟩ → 0 < n → b < N)
  pp : Bo W pb #[.int .i64 (s.P : Int)] 3
  qq : Bo W qb #[.int .i64 (s.Q : Int)] 3
  by8 : ∀ x ∈ s.xs, x < 256
  len : s.xs.length ≤ 1000000000
  lim : s.P ≤ 4000 ∧ s.Q ≤ 1000
theorem RdAt.keepN {N rb pb qb : Nat} {W W' : World} {s : St} (h : RdAt N rb pb qb W s) (hb : Below N W W') : RdAt N rb pb qb W' s := by
  obtain ⟨o, n, c, h1, h2, h3⟩ := h.bx
  refine ⟨h.lo, Nat.le_trans h.sz hb.size, ⟨o, n, c, (hb.block _ h.lo.1).trans h1, ⟨h2.1, h2.2.1, h2.2.2.1, fun hn => ?_⟩, h3⟩, (hb.block _ h.lo.2.1).trans h.pp, (hb.block _ h.lo.2.2.1).trans h.qq, h.by8, h.len, h.lim⟩
  obtain ⟨b, off, e, hc⟩ := h2.2.2.2 hn
  exact ⟨b, off, e, fun t ht => keep_cell hb (hc t ht) (h3 b off e hn)⟩
theorem RdAt.keep {N rb pb qb : Nat} {W W' : World} {s : St} (h : RdAt N rb pb qb W s) (hb : Below W.heap.size W W') : RdAt N rb pb qb W' s := h.keepN (hb.mono h.sz)
theorem Fr.cg {rb pb qb : Nat} {W W' : World} (h : Below W.heap.size W W') : Fr (Cg rb pb qb) W W' := Fr.of_below h
/-- What is not the bytes' block. -/
theorem Rd.ne {W : World} {o : Option Addr} {n c : Nat} {xs : List Nat} (h : Rd W o n c xs) {b off q : Nat} {cs : Array Value} {t : TypeId} (hb : Bo W q cs t) (hcs : ∀ (i : Nat) (x : Int), cs[i]? ≠ some (Value.int .u8 x)) (ho : o = some ⟨b, off, none⟩) (hn : 0 < n) : b ≠ q := by
  rintro rfl
  obtain ⟨b', off', e, hc⟩ := h.2.2.2 hn
  rw [ho] at e
  simp only [Option.some.injEq, Addr.mk.injEq, and_true] at e
  obtain ⟨rfl, rfl⟩ := e
  have := hc 0 hn
  unfold Bo at hb
  simp [World.cell?, hb] at this
  exact hcs _ _ this
theorem rdr_no (o : Option Addr) (n c pb qb : Nat) : ∀ (i : Nat) (x : Int), (rdrV o n c pb qb)[i]? ≠ some (Value.int .u8 x) := by
  intro i x h
  unfold rdrV at h
  rcases i with _ | _ | _ | i <;> simp at h
theorem i64_no (z : Int) : ∀ (i : Nat) (x : Int), (#[Value.int .i64 z] : Array Value)[i]? ≠ some (Value.int .u8 x) := by
  intro i x h
  rcases i with _ | i <;> simp at h
theorem Rd.set {W : World} {o : Option Addr} {n c q i : Nat} {xs : List Nat} {v : Value} (h : Rd W o n c xs) (hne : ∀ b off, o = some ⟨b, off, none⟩ → 0 < n → b ≠ q) : Rd (W.setCell ⟨q, i, none⟩ v) o n c xs := by
  refine ⟨h.1, h.2.1, h.2.2.1, fun hn => ?_⟩
  obtain ⟨b, off, e, hc⟩ := h.2.2.2 hn
  refine ⟨b, off, e, fun t ht => ?_⟩
  rw [World.cell?_of_block (heap_setCell_other W ⟨q, i, none⟩ b v (hne b off e hn))]
  exact hc t ht
theorem Rd.dropk {W : World} {o : Option Addr} {n c : Nat} {xs : List Nat} (h : Rd W o n c xs) (k : Nat) (hk : k ≤ n) : (c = k → Rd W o (n - k) (c - k) (xs.drop k)) ∧ (¬ c = k → ∀ b off, o = some ⟨b, off, none⟩ → Rd W (some ⟨b, off + k, none⟩) (n - k) (c - k) (xs.drop k)) := by
  obtain ⟨hl, hc, hno, hat⟩ := h
  constructor
  · intro h1
    refine ⟨by simp; omega, by omega, fun h => by have := hno h; omega, fun hp => by omega⟩
  · rintro h1 b off rfl
    refine ⟨by simp; omega, by omega, (fun h => by cases h), fun hp => ⟨b, off + k, rfl, fun t ht => ?_⟩⟩
    obtain ⟨b', off', e, hcell⟩ := hat (by omega)
    simp only [Option.some.injEq, Addr.mk.injEq, and_true] at e
    obtain ⟨rfl, rfl⟩ := e
    have := hcell (k + t) (by omega)
    rw [show off + k + t = off + (k + t) by omega, this]
    simp [List.getD]
/-- What is left is stored. -/
theorem RdAt.step {N rb pb qb : Nat} {W : World} {s : St} (h : RdAt N rb pb qb W s) {o : Option Addr} {n c : Nat} {xs : List Nat} (hr : Rd W o n c xs) (hN : ∀ b off, o = some ⟨b, off, none⟩ → 0 < n → b < N) (hx : ∀ x ∈ xs, x < 256) (hl : xs.length ≤ 1000000000) :
    RdAt N rb pb qb (W.setCell ⟨rb, 0, none⟩ (.slice o n c)) ⟨xs, s.P, s.Q⟩ := by
  obtain ⟨o0, n0, c0, h1, h2, h3⟩ := h.bx
  refine ⟨h.lo, by simpa using h.sz, ⟨o, n, c, h1.set 0 (.slice o n c), hr.set fun b off e hn => hr.ne h1 (rdr_no _ _ _ _ _) e hn, hN⟩, h.pp.other (Ne.symm h.lo.2.2.2.1), h.qq.other (Ne.symm h.lo.2.2.2.2.1), hx, hl, h.lim⟩

set_option maxRecDepth 100000 in
set_option maxHeartbeats 1000000 in
theorem number_bad {N rb pb qb : Nat} {W : World} {s : St} (h : RdAt N rb pb qb W s) (k : Nat) (_ : 1 ≤ k ∧ k ≤ 8) (l : Bool) (e : Nat) (hd : numD l k s = .bad e) :
    Calls Tryd.prog 76 #[.pointer (some ⟨rb, 0, none⟩), .int .i64 (k : Int), .bool l] W fun x W' => (x = .returned (.tuple #[.int .i64 0, .int .i64 (e : Int)]) ∧ e = 8) ∧ Below W.heap.size W W' := by
  unfold numD at hd
  by_cases hc : k ≤ s.xs.length
  · rw [if_pos hc] at hd; cases hd
  · rw [if_neg hc] at hd
    injection hd with hd
    subst hd
    obtain ⟨o, n, c, h1, h2, h3⟩ := h.bx
    have G := hid (fun W' (hb : Below W.heap.size W W') => get_any o n c s.xs (k : Int) l W' (h2.keep hb) h.by8 (by have := h.len; have := h2.1; omega))
    rw [show getV s.xs (k : Int) l = (0, false) by unfold getV; rw [if_neg (by omega)]] at G
    have r0 := h1.cell 0 (.slice o n c) rfl
    clear h h1 h2 h3
    go_enter Tryd.func76, Tryd.ntmps76
    go_wp2_with (go_at_call 88; refine (G.out _ (Below.refl _ _)).mono ?_; rintro e w1 ⟨rfl, b1⟩; have B1 := hid b1; clear b1)
    go_ret2
    exact ⟨⟨rfl, trivial⟩, B1.out⟩
set_option maxRecDepth 100000 in
set_option maxHeartbeats 1000000 in
theorem number_ok {N rb pb qb : Nat} {W : World} {s : St} (h : RdAt N rb pb qb W s) (k : Nat) (hk : 1 ≤ k ∧ k ≤ 8) (l : Bool) (v : Nat) (s' : St) (hd : numD l k s = .ok v s') :
    Calls Tryd.prog 76 #[.pointer (some ⟨rb, 0, none⟩), .int .i64 (k : Int), .bool l] W fun x W' => x = .returned (.tuple #[.int .i64 (I v), .int .i64 0]) ∧ Fr (Cg rb pb qb) W W' ∧ RdAt N rb pb qb W' s' := by
  unfold numD at hd
  by_cases hc : k ≤ s.xs.length
  · rw [if_pos hc] at hd
    injection hd with hd1 hd2
    obtain ⟨o, n, c, h1, h2, h3⟩ := h.bx
    have G := hid (fun W' (hb : Below W.heap.size W W') => get_any o n c s.xs (k : Int) l W' (h2.keep hb) h.by8 (by have := h.len; have := h2.1; omega))
    rw [show getV s.xs (k : Int) l = (v, true) by unfold getV; rw [if_pos (by omega), Int.toNat_natCast, hd1]] at G
    have r0 := h1.cell 0 (.slice o n c) rfl
    have HH := hid h
    have R2 := hid h2
    have L3 := hid h3
    have B1 := hid h1
    have hn : n = s.xs.length := h2.1.symm
    have hcn := h2.2.1
    obtain ⟨b, off, rfl, -⟩ := h2.2.2.2 (by omega)
    have iv : IntKind.i64.wrap (v : Int) = I v := rfl
    have HS := hid hd2
    have hk1 := hk.1
    have hkn : k ≤ n := by omega
    have hnl : n ≤ 1000000000 := by rw [hn]; exact h.len
    clear h h1 h2 h3 hd1 hd2 hc hk hn
    have t1 := hid True.intro
    by_cases hck : c = k
    · subst hck
      obtain rfl : n = c := by omega
      go_enter Tryd.func76, Tryd.ntmps76
      go_wp2_with (go_at_call 88; refine (G.out _ (Below.refl _ _)).mono ?_; rintro e w1 ⟨rfl, b1⟩; have H1 := hid b1; have X1 := hid (B1.out.keep b1); have r0 := X1.out.cell 0 (.slice (some ⟨b, off, none⟩) n n) rfl; have f0 := X1.out.fz 0; clear b1)
      go_ret2
      have R3 := HH.out.keep H1.out
      have D := ((R2.out.keep H1.out).dropk n (Nat.le_refl _)).1 rfl
      refine ⟨rfl, (Fr.cg H1.out).trans ((Fr.set _ _ _ _).mono fun _ _ e => .inl e), ?_⟩
      rw [← HS.out]
      exact R3.step (by simpa using D) (fun b' off' e h0 => by omega) (fun x hx => HH.out.by8 x (List.mem_of_mem_drop hx)) (by have := HH.out.len; simp; omega)
    · go_enter Tryd.func76, Tryd.ntmps76
      go_wp2_with (go_at_call 88; refine (G.out _ (Below.refl _ _)).mono ?_; rintro e w1 ⟨rfl, b1⟩; have H1 := hid b1; have X1 := hid (B1.out.keep b1); have r0 := X1.out.cell 0 (.slice (some ⟨b, off, none⟩) n c) rfl; have f0 := X1.out.fz 0; clear b1)
      go_ret2
      have R3 := HH.out.keep H1.out
      have D := ((R2.out.keep H1.out).dropk k hkn).2 hck b off rfl
      refine ⟨rfl, (Fr.cg H1.out).trans ((Fr.set _ _ _ _).mono fun _ _ e => .inl e), ?_⟩
      rw [← HS.out]
      exact R3.step D (fun b' off' e h0 => by simp at e; rw [← e.1]; exact L3.out b off rfl (by omega)) (fun x hx => HH.out.by8 x (List.mem_of_mem_drop hx)) (by have := HH.out.len; simp; omega)
  · rw [if_neg hc] at hd; cases hd
end Go.Proofs.YtjieegnmofimkaaDoor
