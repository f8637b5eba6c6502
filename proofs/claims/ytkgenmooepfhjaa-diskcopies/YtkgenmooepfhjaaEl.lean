/- Copy of the document's disk; no statement of the seat is proved here. -/
import Derived.Test.YtkgenmooepfhjaaEk
namespace Go.Proofs.Ytkgenmooepfhjaa
open Go.RowKit Go.Maps

theorem ix69 (x0 x1 x2 x3 x4 x5 : Value) (W : World) : (Instr.index 69 (.agg #[x0, x1, x2, x3, x4, x5]) (.int .i64 0)).run Try.prog W = .ok (.agg #[x0, x1, x2]) W ∧ (Instr.index 69 (.agg #[x0, x1, x2, x3, x4, x5]) (.int .i64 1)).run Try.prog W = .ok (.agg #[x3, x4, x5]) W := ⟨by kernel_rfl, by kernel_rfl⟩

theorem alloc_is {W W' : World} {o : Obj} (h : W' = W.alloc o) : Below W.heap.size W W' ∧ W'.heap.size = W.heap.size + 1 := by rw [h]; exact ⟨(Below.refl _ _).alloc (Nat.le_refl _) _, by simp⟩
def Rd3 (b : Nat) (u v x : Value) (W : World) : Prop := W.cell? ⟨b, 0, none⟩ = some u ∧ W.cell? ⟨b, 1, none⟩ = some v ∧ W.cell? ⟨b, 2, none⟩ = some x
theorem Rd3.blk {b : Nat} {u v x : Value} {W W' : World} (h : Rd3 b u v x W) (hb : W'.heap[b]? = W.heap[b]?) : Rd3 b u v x W' := ⟨(World.cell?_of_block hb).trans h.1, (World.cell?_of_block hb).trans h.2.1, (World.cell?_of_block hb).trans h.2.2⟩

/-- Three cells of one block turn. -/
def set3 (W : World) (q o : Nat) (x y z : Value) : World := ((W.setCell ⟨q, o, none⟩ x).setCell ⟨q, o + 1, none⟩ y).setCell ⟨q, o + 2, none⟩ z
theorem set3_heap (W : World) (q o k : Nat) (x y z : Value) (h : k ≠ q) : (set3 W q o x y z).heap[k]? = W.heap[k]? := by rw [set3, set_heap _ _ _ _ _ h, set_heap _ _ _ _ _ h, set_heap _ _ _ _ _ h]
theorem set3_off (W : World) (q o j : Nat) (x y z : Value) (h : j < o ∨ o + 2 < j) : (set3 W q o x y z).cell? ⟨q, j, none⟩ = W.cell? ⟨q, j, none⟩ := by rw [set3, set_off _ _ _ (by omega), set_off _ _ _ (by omega), set_off _ _ _ (by omega)]
theorem set3_size (W : World) (q o : Nat) (x y z : Value) : (set3 W q o x y z).heap.size = W.heap.size := by simp [set3]
theorem set3_fz (W : World) (q o j : Nat) (x y z : Value) : (set3 W q o x y z).frozen? ⟨q, j, none⟩ = W.frozen? ⟨q, j, none⟩ := by rw [set3, World.frozen?_setCell, World.frozen?_setCell, World.frozen?_setCell]
theorem set3_at {W : World} {q o : Nat} {u v z : Value} (x y t : Value) (h0 : W.cell? ⟨q, o, none⟩ = some u) (h1 : W.cell? ⟨q, o + 1, none⟩ = some v) (h2 : W.cell? ⟨q, o + 2, none⟩ = some z) :
    (set3 W q o x y t).cell? ⟨q, o, none⟩ = some x ∧ (set3 W q o x y t).cell? ⟨q, o + 1, none⟩ = some y ∧ (set3 W q o x y t).cell? ⟨q, o + 2, none⟩ = some t :=
  ⟨by rw [set3, set_off _ _ _ (by omega), set_off _ _ _ (by omega)]; exact set_same h0, by rw [set3, set_off _ _ _ (by omega)]; exact set_same ((set_off _ _ _ (by omega)).trans h1), by rw [set3]; exact set_same ((set_off _ _ _ (by omega)).trans ((set_off _ _ _ (by omega)).trans h2))⟩

/-- A file's copy. -/
theorem copy_file {Wn W : World} {r q o : Nat} {S : Nat → Prop} {B : RP} {F : FS} (hF : RefF Wn r o S B F) (hS : ∀ k, S k → k < Wn.heap.size ∧ k ≠ q) (hq : q < Wn.heap.size) (hb : Below Wn.heap.size Wn W) (hc : ∀ j, o ≤ j → j ≤ o + 2 → ∃ v, Wn.cell? ⟨q, j, none⟩ = some v)
    {a1 a2 a3 : Option Addr} {c1 c2 c3 LN LO LD : Nat} (eN : LN = F.now.length) (eO : LO = F.old.length) (eD : LD = F.dirt.length) (r1 : W.ownsRow 0 37 1 (.slice a1 LN c1) LN B.vs) (r2 : W.ownsRow 0 37 1 (.slice a2 LO c2) LO B.us) (r3 : W.ownsRow 0 4 1 (.slice a3 LD c3) LD (vb F.dirt))
    (h1 : ∀ a, a1 = some a → Wn.heap.size ≤ a.block) (h2 : ∀ a, a2 = some a → Wn.heap.size ≤ a.block) (h3 : ∀ a, a3 = some a → Wn.heap.size ≤ a.block) (hne : ∀ a b, a1 = some a → a2 = some b → a.block ≠ b.block) :
    RefF (set3 W q o (.slice a1 LN c1) (.slice a2 LO c2) (.slice a3 LD c3)) q o (fun k => S k ∨ (Wn.heap.size ≤ k ∧ k < W.heap.size)) ⟨a1, c1, B.vs, a2, c2, B.us, a3, c3⟩ F := by
  subst eN; subst eO; subst eD
  obtain ⟨u0, hu0⟩ := hc o (by omega) (by omega)
  obtain ⟨u1, hu1⟩ := hc (o + 1) (by omega) (by omega)
  obtain ⟨u2, hu2⟩ := hc (o + 2) (by omega) (by omega)
  have h := set3_at (.slice a1 F.now.length c1) (.slice a2 F.old.length c2) (.slice a3 F.dirt.length c3) (keep_old hb hu0) (keep_old hb hu1) (keep_old hb hu2)
  have hrow : ∀ {ao : Option Addr} {e : TypeId} {n c : Nat} {xs : List Value}, W.ownsRow 0 e 1 (.slice ao n c) n xs → (∀ a, ao = some a → Wn.heap.size ≤ a.block) → (set3 W q o (.slice a1 F.now.length c1) (.slice a2 F.old.length c2) (.slice a3 F.dirt.length c3)).ownsRow 0 e 1 (.slice ao n c) n xs := fun hr hl => own_stay hr (fun k hk => by
    obtain ⟨a, ha, rfl⟩ := slice_own hk
    exact set3_heap _ _ _ _ _ _ _ (by have := hl a ha; omega))
  have hsec : ∀ v x, SecAt Wn S v x → SecAt (set3 W q o (.slice a1 F.now.length c1) (.slice a2 F.old.length c2) (.slice a3 F.dirt.length c3)) (fun k => S k ∨ (Wn.heap.size ≤ k ∧ k < W.heap.size)) v x := fun v x hs => hs.stay (fun k hk => (set3_heap _ _ _ _ _ _ _ (hS k (hs.2 k hk)).2).trans (hb.block k (hS k (hs.2 k hk)).1)) (fun k hk => Or.inl hk)
  exact ⟨h.1, h.2.1, h.2.2, hrow r1 h1, hrow r2 h2, hrow r3 h3, ⟨hF.an.len, fun i v x hv hx => hsec v x (hF.an.at_ i v x hv hx)⟩, ⟨hF.ao.len, fun i v x hv hx => hsec v x (hF.ao.at_ i v x hv hx)⟩,
    fun hn => by rcases hn with hn | hn; exact (hS q hn).2 rfl; omega, fun a ha => Or.inr ⟨h1 a ha, row_lt1 r1 ha⟩, fun a ha => Or.inr ⟨h2 a ha, row_lt1 r2 ha⟩, fun a ha => Or.inr ⟨h3 a ha, row_lt1 r3 ha⟩, hne⟩

/-- How far a copy has come. -/
structure CpI (w1 : World) (q : Nat) (R : RParts) (d : DS) (i M : Nat) (B0 B1 : RP) (W : World) : Prop where
  hd : DFrame w1 W q (fun _ => False)
  c : ∀ j, j < 1 ∨ 6 < j → W.cell? ⟨q, j, none⟩ = w1.cell? ⟨q, j, none⟩
  ce : ∀ j, 1 ≤ j → j ≤ 6 → ∃ v, W.cell? ⟨q, j, none⟩ = some v
  fz : ∀ j, W.frozen? ⟨q, j, none⟩ = false
  f0 : 1 ≤ i → RefF W q 1 (fun k => R.S0 k ∨ (w1.heap.size ≤ k ∧ k < M)) B0 d.f0 ∧ M ≤ W.heap.size ∧ w1.heap.size ≤ M
  f1 : 2 ≤ i → RefF W q 4 (fun k => R.S1 k ∨ (M ≤ k ∧ k < W.heap.size)) B1 d.f1
  m0 : 1 ≤ i → ∀ k, Mut B0 k → w1.heap.size ≤ k
  m1 : 2 ≤ i → ∀ k, Mut B1 k → w1.heap.size ≤ k

section
variable {w1 wr W : World} {q r : Nat} {R : RParts} {d : DS} {M : Nat} {B0 B1 : RP} {a1 a2 a3 : Option Addr} {c1 c2 c3 LN LO LD : Nat}
theorem CpI.frame (h : DFrame w1 wr q (fun _ => False)) (hb : Below wr.heap.size wr W) (o : Nat) (x y z : Value) : DFrame w1 (set3 W q o x y z) q (fun _ => False) :=
  ⟨hb.os.trans h.os, hb.tape.trans h.tape, hb.output.trans h.output, by rw [set3_size]; exact Nat.le_trans h.size hb.size, fun k hk hkq hf => (set3_heap _ _ _ _ _ _ _ hkq).trans ((hb.block k (Nat.lt_of_lt_of_le hk h.size)).trans (h.block k hk hkq hf))⟩

theorem cp_0 (hI : CpI w1 q R d 0 M B0 B1 wr) (hr : RefP w1 r R d) (hq : q < w1.heap.size) (hRq : ¬ R.all q) (hrq : r ≠ q) (hb : Below wr.heap.size wr W) (e1 : LN = d.f0.now.length) (e2 : LO = d.f0.old.length) (e3 : LD = d.f0.dirt.length)
    (r1 : W.ownsRow 0 37 1 (.slice a1 LN c1) LN R.B0.vs) (r2 : W.ownsRow 0 37 1 (.slice a2 LO c2) LO R.B0.us) (r3 : W.ownsRow 0 4 1 (.slice a3 LD c3) LD (vb d.f0.dirt))
    (h1 : ∀ a, a1 = some a → wr.heap.size ≤ a.block) (h2 : ∀ a, a2 = some a → wr.heap.size ≤ a.block) (h3 : ∀ a, a3 = some a → wr.heap.size ≤ a.block) (hne : ∀ a b, a1 = some a → a2 = some b → a.block ≠ b.block) :
    CpI w1 q R d 1 W.heap.size ⟨a1, c1, R.B0.vs, a2, c2, R.B0.us, a3, c3⟩ B1 (set3 W q 1 (.slice a1 LN c1) (.slice a2 LO c2) (.slice a3 LD c3)) := by
  have hz := hI.hd.size
  have hqr : q < wr.heap.size := by omega
  have hRr : RefP wr r R d := hr.stay hz (fun k hk hx => hI.hd.block k hk (fun e => by rcases hx with h | h; exact hRq (e ▸ h); exact hrq (h ▸ e)) (fun h => h))
  have hf := copy_file (q := q) hRr.f0 (fun k hk => ⟨hRr.b0 k hk, fun e => hRq (Or.inl (e ▸ hk))⟩) hqr hb (fun j h1 h2 => hI.ce j h1 (by omega)) e1 e2 e3 r1 r2 r3 h1 h2 h3 hne
  have hbq : W.heap[q]? = wr.heap[q]? := hb.block q hqr
  refine ⟨CpI.frame hI.hd hb 1 _ _ _, fun j hj => (set3_off _ _ _ _ _ _ _ (by omega)).trans ((World.cell?_of_block hbq).trans (hI.c j hj)), fun j hj1 hj2 => ?_, fun j => (set3_fz _ _ _ _ _ _ _).trans ((World.frozen?_of_block hbq).trans (hI.fz j)), fun _ => ⟨?_, by rw [set3_size]; exact Nat.le_refl _, Nat.le_trans hz hb.size⟩, fun h => by omega, fun _ k hk => ?_, fun h => by omega⟩
  · rcases Nat.lt_or_ge j 4 with h | h
    · rcases (by omega : j = 1 ∨ j = 2 ∨ j = 3) with rfl | rfl | rfl
      · exact ⟨_, hf.c0⟩
      · exact ⟨_, hf.c1⟩
      · exact ⟨_, hf.c2⟩
    · obtain ⟨v, hv⟩ := hI.ce j hj1 hj2
      exact ⟨v, (set3_off _ _ _ _ _ _ _ (by omega)).trans ((World.cell?_of_block hbq).trans hv)⟩
  · refine hf.imp (fun k _ hk => ?_) (fun hk => ?_)
    · rcases hk with hk | hk
      · exact Or.inl hk
      · exact Or.inr ⟨by omega, hk.2⟩
    · rcases hk with hk | hk
      · exact hRq (Or.inl hk)
      · omega
  · rcases hk with ⟨a, ha, rfl⟩ | ⟨a, ha, rfl⟩
    · have := h1 a ha; omega
    · have := h3 a ha; omega

theorem cp_1 (hI : CpI w1 q R d 1 M B0 B1 wr) (hr : RefP w1 r R d) (hq : q < w1.heap.size) (hRq : ¬ R.all q) (hrq : r ≠ q) (hb : Below wr.heap.size wr W) (e1 : LN = d.f1.now.length) (e2 : LO = d.f1.old.length) (e3 : LD = d.f1.dirt.length)
    (r1 : W.ownsRow 0 37 1 (.slice a1 LN c1) LN R.B1.vs) (r2 : W.ownsRow 0 37 1 (.slice a2 LO c2) LO R.B1.us) (r3 : W.ownsRow 0 4 1 (.slice a3 LD c3) LD (vb d.f1.dirt))
    (h1 : ∀ a, a1 = some a → wr.heap.size ≤ a.block) (h2 : ∀ a, a2 = some a → wr.heap.size ≤ a.block) (h3 : ∀ a, a3 = some a → wr.heap.size ≤ a.block) (hne : ∀ a b, a1 = some a → a2 = some b → a.block ≠ b.block) :
    CpI w1 q R d 2 M B0 ⟨a1, c1, R.B1.vs, a2, c2, R.B1.us, a3, c3⟩ (set3 W q 4 (.slice a1 LN c1) (.slice a2 LO c2) (.slice a3 LD c3)) := by
  have hz := hI.hd.size
  have hqr : q < wr.heap.size := by omega
  have hRr : RefP wr r R d := hr.stay hz (fun k hk hx => hI.hd.block k hk (fun e => by rcases hx with h | h; exact hRq (e ▸ h); exact hrq (h ▸ e)) (fun h => h))
  have hf := copy_file (q := q) hRr.f1 (fun k hk => ⟨hRr.b1 k hk, fun e => hRq (Or.inr (Or.inl (e ▸ hk)))⟩) hqr hb (fun j h1 h2 => hI.ce j (by omega) (by omega)) e1 e2 e3 r1 r2 r3 h1 h2 h3 hne
  have hbq : W.heap[q]? = wr.heap[q]? := hb.block q hqr
  obtain ⟨g0, gM, gM'⟩ := hI.f0 (by omega)
  refine ⟨CpI.frame hI.hd hb 4 _ _ _, fun j hj => (set3_off _ _ _ _ _ _ _ (by omega)).trans ((World.cell?_of_block hbq).trans (hI.c j hj)), fun j hj1 hj2 => ?_, fun j => (set3_fz _ _ _ _ _ _ _).trans ((World.frozen?_of_block hbq).trans (hI.fz j)), fun _ => ⟨?_, by rw [set3_size]; exact Nat.le_trans gM hb.size, gM'⟩, fun _ => ?_, fun _ => hI.m0 (by omega), fun _ k hk => ?_⟩
  · rcases Nat.lt_or_ge j 4 with h | h
    · obtain ⟨v, hv⟩ := hI.ce j hj1 hj2
      exact ⟨v, (set3_off _ _ _ _ _ _ _ (by omega)).trans ((World.cell?_of_block hbq).trans hv)⟩
    · rcases (by omega : j = 4 ∨ j = 5 ∨ j = 6) with rfl | rfl | rfl
      · exact ⟨_, hf.c0⟩
      · exact ⟨_, hf.c1⟩
      · exact ⟨_, hf.c2⟩
  · refine g0.stay (fun k hk hS => ?_) (fun j hj1 hj2 => (set3_off _ _ _ _ _ _ _ (by omega)).trans (World.cell?_of_block hbq))
    exact (set3_heap _ _ _ _ _ _ _ (fun e => by rcases hS with hS | hS; exact hRq (Or.inl (e ▸ hS)); omega)).trans (hb.block k hk)
  · refine hf.imp (fun k _ hk => ?_) (fun hk => ?_)
    · rw [set3_size]
      rcases hk with hk | hk
      · exact Or.inl hk
      · exact Or.inr ⟨by omega, hk.2⟩
    · rcases hk with hk | hk
      · exact hRq (Or.inr (Or.inl hk))
      · omega
  · rcases hk with ⟨a, ha, rfl⟩ | ⟨a, ha, rfl⟩
    · have := h1 a ha; omega
    · have := h3 a ha; omega

theorem CpI.cells {i o : Nat} (hI : CpI w1 q R d i M B0 B1 wr) (hb : Below wr.heap.size wr W) (hq : q < wr.heap.size) (h1 : 1 ≤ o) (h2 : o + 2 ≤ 6) :
    ∃ v0 v1 v2, W.cell? ⟨q, o, none⟩ = some v0 ∧ W.cell? ⟨q, o + 1, none⟩ = some v1 ∧ W.cell? ⟨q, o + 2, none⟩ = some v2 ∧ W.frozen? ⟨q, o, none⟩ = false ∧ W.frozen? ⟨q, o + 1, none⟩ = false ∧ W.frozen? ⟨q, o + 2, none⟩ = false := by
  obtain ⟨v0, h0⟩ := hI.ce o (by omega) (by omega)
  obtain ⟨v1, h1⟩ := hI.ce (o + 1) (by omega) (by omega)
  obtain ⟨v2, h2⟩ := hI.ce (o + 2) (by omega) (by omega)
  exact ⟨v0, v1, v2, keep_old hb h0, keep_old hb h1, keep_old hb h2, (keep_frozen hb hq).trans (hI.fz _), (keep_frozen hb hq).trans (hI.fz _), (keep_frozen hb hq).trans (hI.fz _)⟩

/-- The copy. -/
theorem cp_2 {w : World} (hI : CpI w1 q R d 2 M B0 B1 wr) (hr : RefP w r R d) (hb1 : Below w.heap.size w w1) (hqe : q = w.heap.size) (hq : q < w1.heap.size) (hc : w1.cell? ⟨q, 0, none⟩ = some (.int .i64 (d.room : Int)) ∧ w1.cell? ⟨q, 7, none⟩ = some (.bool d.off) ∧ w1.cell? ⟨q, 8, none⟩ = some (.int .i64 (d.ops : Int)) ∧ w1.cell? ⟨q, 9, none⟩ = some (.int .i64 (d.left : Int)) ∧ w1.cell? ⟨q, 10, none⟩ = some (.slice R.ko R.kn R.kc) ∧ w1.cell? ⟨q, 11, none⟩ = some (.int .i64 R.t)) :
    ∃ R', RefP wr q R' d ∧ (∀ k, R'.all k → R.all k ∨ w.heap.size ≤ k) ∧ (∀ k, R'.mut k → w.heap.size ≤ k) ∧ Below w.heap.size w wr := by
  obtain ⟨g0, gM, gM'⟩ := hI.f0 (by omega)
  have g1 := hI.f1 (by omega)
  obtain ⟨y0, y7, y8, y9, y10, y11⟩ := hc
  have hz := hb1.size; have hz' := hI.hd.size
  have hbw : Below w.heap.size w wr := ⟨hI.hd.os.trans hb1.os, hI.hd.tape.trans hb1.tape, hI.hd.output.trans hb1.output, Nat.le_trans hz hz', fun k hk => (hI.hd.block k (by omega) (by omega) (fun h => h)).trans (hb1.block k hk)⟩
  refine ⟨⟨fun k => R.S0 k ∨ (w1.heap.size ≤ k ∧ k < M), fun k => R.S1 k ∨ (M ≤ k ∧ k < wr.heap.size), R.SK, B0, B1, R.ko, R.kn, R.kc, R.t⟩, ⟨(hI.c 0 (by omega)).trans y0, (hI.c 7 (by omega)).trans y7, (hI.c 8 (by omega)).trans y8, (hI.c 9 (by omega)).trans y9, (hI.c 10 (by omega)).trans y10, (hI.c 11 (by omega)).trans y11, hI.fz, g0, g1, ?_, ?_, ?_, ?_, ?_, ?_, hr.ok⟩, ?_, ?_, hbw⟩
  · exact hr.rk_stay (fun k hk _ => hbw.block k hk)
  · rintro k (h0 | h0) (h1 | h1)
    · exact hr.d01 k h0 h1
    · have := hr.b0 k h0; omega
    · have := hr.b1 k h1; omega
    · omega
  · intro k hk
    have := hr.bk k hk
    refine ⟨?_, ?_, by omega⟩
    · rintro (h0 | h0)
      · exact (hr.dk k hk).1 h0
      · omega
    · rintro (h0 | h0)
      · exact (hr.dk k hk).2.1 h0
      · omega
  · rintro k (h0 | h0)
    · have := hr.b0 k h0; omega
    · omega
  · rintro k (h0 | h0)
    · have := hr.b1 k h0; omega
    · exact h0.2
  · intro k hk; have := hr.bk k hk; omega
  · rintro k ((h0 | h0) | (h0 | h0) | h0)
    · exact Or.inl (Or.inl h0)
    · exact Or.inr (by omega)
    · exact Or.inl (Or.inr (Or.inl h0))
    · exact Or.inr (by omega)
    · exact Or.inl (Or.inr (Or.inr h0))
  · rintro k (h0 | h0)
    · have := hI.m0 (by omega) k h0; omega
    · have := hI.m1 (by omega) k h0; omega
end

set_option maxHeartbeats 16000000 in
set_option maxRecDepth 20000 in
theorem rcopy_call (r : Nat) (R : RParts) (d : DS) (w : World) (h : RefP w r R d) :
    Calls Try.prog 28 #[.pointer (some ⟨r, 0, none⟩)] w fun e w' => ∃ q R', e = .returned (.pointer (some ⟨q, 0, none⟩)) ∧ RefP w' q R' d ∧ (∀ k, R'.all k → R.all k ∨ w.heap.size ≤ k) ∧ (∀ k, R'.mut k → w.heap.size ≤ k) ∧ w.heap.size ≤ q ∧ Below w.heap.size w w' := by
  have c0 := h.c0; have c7 := h.c7; have c8 := h.c8; have c9 := h.c9; have c10 := h.c10; have c11 := h.c11
  have e0 := h.f0.c0; have e1 := h.f0.c1; have e2 := h.f0.c2; have g0 := h.f1.c0; have g1 := h.f1.c1; have g2 := h.f1.c2
  have q69 := fun x0 x1 x2 x3 x4 x5 W => (ix69 x0 x1 x2 x3 x4 x5 W).1
  have p69 := fun x0 x1 x2 x3 x4 x5 W => (ix69 x0 x1 x2 x3 x4 x5 W).2
  have hrl := h.rlt
  have H := hid h
  obtain ⟨LN0, hLN0⟩ : ∃ x, x = d.f0.now.length := ⟨_, rfl⟩
  obtain ⟨LO0, hLO0⟩ : ∃ x, x = d.f0.old.length := ⟨_, rfl⟩
  obtain ⟨LD0, hLD0⟩ : ∃ x, x = d.f0.dirt.length := ⟨_, rfl⟩
  obtain ⟨LN1, hLN1⟩ : ∃ x, x = d.f1.now.length := ⟨_, rfl⟩
  obtain ⟨LO1, hLO1⟩ : ∃ x, x = d.f1.old.length := ⟨_, rfl⟩
  obtain ⟨LD1, hLD1⟩ : ∃ x, x = d.f1.dirt.length := ⟨_, rfl⟩
  rw [← hLN0] at e0; rw [← hLO0] at e1; rw [← hLD0] at e2; rw [← hLN1] at g0; rw [← hLO1] at g1; rw [← hLD1] at g2
  have HBN : Hid (LN0 ≤ 32768 ∧ LO0 ≤ 32768 ∧ LD0 ≤ 32768 ∧ LN1 ≤ 32768 ∧ LO1 ≤ 32768 ∧ LD1 ≤ 32768) := hid (by
    have := h.ok.sum; have := h.ok.r2; have := h.ok.ok0.lo; have := h.ok.ok0.ld; have := h.ok.ok1.lo; have := h.ok.ok1.ld
    refine ⟨by omega, by omega, by omega, by omega, by omega, by omega⟩)
  have ELN0 := hid hLN0; have ELO0 := hid hLO0; have ELD0 := hid hLD0; have ELN1 := hid hLN1; have ELO1 := hid hLO1; have ELD1 := hid hLD1
  obtain ⟨q, hq⟩ : ∃ q, q = w.heap.size := ⟨_, rfl⟩
  obtain ⟨w1, hw1⟩ : ∃ w1, w1 = (w.alloc (.cells #[.int .i64 (d.room : Int), .slice none 0 0, .slice none 0 0, .slice none 0 0, .slice none 0 0, .slice none 0 0, .slice none 0 0, .bool d.off, .int .i64 (d.ops : Int), .int .i64 (d.left : Int), .slice R.ko R.kn R.kc, .int .i64 R.t] 72)).drew := ⟨_, rfl⟩
  have hcell : ∀ i, w1.cell? ⟨q, i, none⟩ = #[.int .i64 (d.room : Int), .slice none 0 0, .slice none 0 0, .slice none 0 0, .slice none 0 0, .slice none 0 0, .slice none 0 0, .bool d.off, .int .i64 (d.ops : Int), .int .i64 (d.left : Int), .slice R.ko R.kn R.kc, .int .i64 R.t][i]? := fun i => by rw [hw1, hq]; exact World.cell?_alloc_at _ _ _ _ rfl
  have hfz : ∀ i, w1.frozen? ⟨q, i, none⟩ = false := fun i => by rw [hw1, hq]; exact World.frozen?_alloc_at _ _ _ _ rfl
  have HB1 : Hid (Below w.heap.size w w1) := hid (by rw [hw1]; exact ((Below.refl _ _).alloc (Nat.le_refl _) _).drew)
  have hq1 : q < w1.heap.size := by rw [hw1, hq]; show _ < (w.alloc _).heap.size; simp
  have HR1 := hid (h.later HB1.out)
  have HRQ : Hid (¬ R.all q ∧ r ≠ q) := hid ⟨fun hk => by have := h.lt hk; omega, by omega⟩
  have HC : Hid (w1.cell? ⟨q, 0, none⟩ = some (.int .i64 (d.room : Int)) ∧ w1.cell? ⟨q, 7, none⟩ = some (.bool d.off) ∧ w1.cell? ⟨q, 8, none⟩ = some (.int .i64 (d.ops : Int)) ∧ w1.cell? ⟨q, 9, none⟩ = some (.int .i64 (d.left : Int)) ∧ w1.cell? ⟨q, 10, none⟩ = some (.slice R.ko R.kn R.kc) ∧ w1.cell? ⟨q, 11, none⟩ = some (.int .i64 R.t)) := hid ⟨hcell 0, hcell 7, hcell 8, hcell 9, hcell 10, hcell 11⟩
  have HI0 : Hid (CpI w1 q R d 0 0 R.B0 R.B1 w1) := hid ⟨DFrame.refl _ _ _, fun _ _ => rfl, fun j h1 h2 => ⟨.slice none 0 0, by
      rw [hcell]
      rcases (by omega : j = 1 ∨ j = 2 ∨ j = 3 ∨ j = 4 ∨ j = 5 ∨ j = 6) with rfl | rfl | rfl | rfl | rfl | rfl <;> rfl⟩, hfz, fun h => by omega, fun h => by omega, fun h => by omega, fun h => by omega⟩
  have HW1 := hid hw1; have HQE := hid hq
  clear h hLN0 hLO0 hLD0 hLN1 hLO1 hLD1 hw1 hcell hfz hq
  go_enter Try.func28, Try.ntmps28
  go_wp2_with fail
  go_region
  rw [← HW1.out, ← HQE.out]
  go_upto_region 2 with fail
  go_cut [31, 32] from 6 to 30 (fun a c W => W = w1 ∧ a = .agg #[.slice R.B0.aN LN0 R.B0.cN, .slice R.B0.aS LO0 R.B0.cS, .slice R.B0.aD LD0 R.B0.cD, .slice R.B1.aN LN1 R.B1.cN, .slice R.B1.aS LO1 R.B1.cS, .slice R.B1.aD LD1 R.B1.cD] ∧ c = .int .i64 0)
  case first =>
    have e0' := keep_old HB1.out e0; have e1' := keep_old HB1.out e1; have e2' := keep_old HB1.out e2; have g0' := keep_old HB1.out g0; have g1' := keep_old HB1.out g1; have g2' := keep_old HB1.out g2
    go_wp2
    go_meet
    case rel => exact ⟨rfl, rfl, rfl⟩
  case rest =>
  obtain ⟨hwc, rfl, rfl⟩ := hcut
  obtain rfl := hwc.symm
  go_wp2_with fail
  go_loopg [32] 2 (fun k c W => ∃ (i M : Nat) (B0 B1 : RP), i + k = 2 ∧ c = .int .i64 (i : Int) ∧ Hid (CpI w1 q R d i M B0 B1 W))
  case atStart => exact ⟨0, _, _, _, rfl, rfl, HI0⟩
  case round =>
    clear HI0 c0 c7 c8 c9 c10 c11 e0 e1 e2 g0 g1 g2
    obtain ⟨i, M, B0, B1, hik, rfl, hI⟩ := hrel
    rcases (by omega : i = 0 ∨ i = 1 ∨ i = 2) with rfl | rfl | rfl
    · obtain rfl : gk = 2 := by omega
      clear hik
      as_aux_lemma =>
        have hRr : RefP wr r R d := HR1.out.stay hI.out.hd.size (fun k hk hx => hI.out.hd.block k hk (fun e => by rcases hx with h | h; exact HRQ.out.1 (e ▸ h); exact HRQ.out.2 (h ▸ e)) (fun h => h))
        have RN := hid hRr.f0.rn; have RS := hid hRr.f0.rs; have RD := hid hRr.f0.rd
        rw [← ELN0.out] at RN; rw [← ELO0.out] at RS; rw [← ELD0.out] at RD
        have hbN : LN0 ≤ 32768 := HBN.out.1
        have hbO : LO0 ≤ 32768 := HBN.out.2.1
        have hbD : LD0 ≤ 32768 := HBN.out.2.2.1
        have HVS := hid hRr.f0.an.one; have HUS := hid hRr.f0.ao.one
        have hqr : q < wr.heap.size := by have := hI.out.hd.size; omega
        obtain ⟨fb, hfb⟩ : ∃ fb, fb = wr.heap.size := ⟨_, rfl⟩
        have hfq : fb ≠ q := by omega
        have HFB := hid hfb
        clear hRr hfb
        go_wp2_with fail
        obtain ⟨wf, hwf⟩ : ∃ wf, wf = wr.alloc (.cells #[.slice R.B0.aN LN0 R.B0.cN, .slice R.B0.aS LO0 R.B0.cS, .slice R.B0.aD LD0 R.B0.cD] 68) := ⟨_, rfl⟩
        rw [← hwf, ← HFB.out]
        have hRf : Rd3 fb (.slice R.B0.aN LN0 R.B0.cN) (.slice R.B0.aS LO0 R.B0.cS) (.slice R.B0.aD LD0 R.B0.cD) wf := by rw [hwf, HFB.out]; refine ⟨?_, ?_, ?_⟩ <;> (rw [World.cell?_alloc_at _ _ _ _ rfl]; rfl)
        refine wp_region_K (S := Rd3 fb (.slice R.B0.aN LN0 R.B0.cN) (.slice R.B0.aS LO0 R.B0.cS) (.slice R.B0.aD LD0 R.B0.cD)) (fun _ => false) (by kernel_rfl) hRf (fun hHeld => ?_)
        obtain ⟨W0, hW0⟩ : ∃ W0, W0 = wf.drew := ⟨_, rfl⟩
        rw [← hW0] at hHeld ⊢
        have hR := hHeld
        have hBW : Below wr.heap.size wr W0 := by rw [hW0, hwf]; exact ((Below.refl _ _).alloc (Nat.le_refl _) _).drew
        have HFL : Hid (fb < W0.heap.size) := hid (by rw [hW0]; exact lt_cell hRf.1)
        clear hW0 hwf hRf
        refine wpAnyK_pure (i := 0) (v := ?_) (op_at _ 0 _ rfl) (by kernel_rfl) (by kernel_rfl) (by kernel_rfl) (by kernel_rfl) (fun _ _ _ h => h) (Or.inl ⟨by rfl, ?_⟩) (Or.inl (by assumption)) ?_
        rotate_left 1
        focus (intro W hSw; go_simp; first | done | with_reducible rfl)
        (try simp only [Act.put, List.setIfInBounds_toArray, List.set_cons_zero, List.set_cons_succ])
        refine wpAnyK_pure (i := 1) (v := ?_) (op_at _ 1 _ rfl) (by kernel_rfl) (by kernel_rfl) (by kernel_rfl) (by kernel_rfl) (fun _ _ _ h => h) (Or.inl ⟨by rfl, ?_⟩) (Or.inl (by assumption)) ?_
        rotate_left 1
        focus (intro W hSw; go_simp; first | done | with_reducible rfl)
        (try simp only [Act.put, List.setIfInBounds_toArray, List.set_cons_zero, List.set_cons_succ])
        refine wpAnyK_pure (i := 3) (v := ?_) (op_at _ 3 _ rfl) (by kernel_rfl) (by kernel_rfl) (by kernel_rfl) (by kernel_rfl) (fun _ _ _ h => h) (Or.inl ⟨by rfl, ?_⟩) (Or.inl (by assumption)) ?_
        rotate_left 1
        focus (intro W hSw; go_simp; first | done | with_reducible rfl)
        (try simp only [Act.put, List.setIfInBounds_toArray, List.set_cons_zero, List.set_cons_succ])
        refine wpAnyK_take (i := 4) (v := ?_) (op_at _ 4 _ rfl) (by kernel_rfl) (by kernel_rfl) (by kernel_rfl) (by kernel_rfl) (fun _ _ _ h => h) (Or.inl ⟨by rfl, ?_⟩) (by assumption) ?_
        rotate_left 1
        focus (intro W hSw; obtain ⟨q0, q1, q2⟩ := hSw; go_simp; first | done | with_reducible rfl)
        (try simp only [Act.put, List.setIfInBounds_toArray, List.set_cons_zero, List.set_cons_succ])
        refine wpAnyK_pure (i := 7) (v := ?_) (op_at _ 7 _ rfl) (by kernel_rfl) (by kernel_rfl) (by kernel_rfl) (by kernel_rfl) (fun _ _ _ h => h) (Or.inl ⟨by rfl, ?_⟩) (Or.inl (by assumption)) ?_
        rotate_left 1
        focus (intro W hSw; go_simp; first | done | with_reducible rfl)
        (try simp only [Act.put, List.setIfInBounds_toArray, List.set_cons_zero, List.set_cons_succ])
        refine wpAnyK_take (i := 8) (v := ?_) (op_at _ 8 _ rfl) (by kernel_rfl) (by kernel_rfl) (by kernel_rfl) (by kernel_rfl) (fun _ _ _ h => h) (Or.inl ⟨by rfl, ?_⟩) (by assumption) ?_
        rotate_left 1
        focus (intro W hSw; obtain ⟨q0, q1, q2⟩ := hSw; go_simp; first | done | with_reducible rfl)
        (try simp only [Act.put, List.setIfInBounds_toArray, List.set_cons_zero, List.set_cons_succ])
        refine wpAnyK_pure (i := 11) (v := ?_) (op_at _ 11 _ rfl) (by kernel_rfl) (by kernel_rfl) (by kernel_rfl) (by kernel_rfl) (fun _ _ _ h => h) (Or.inl ⟨by rfl, ?_⟩) (Or.inl (by assumption)) ?_
        rotate_left 1
        focus (intro W hSw; go_simp; first | done | with_reducible rfl)
        (try simp only [Act.put, List.setIfInBounds_toArray, List.set_cons_zero, List.set_cons_succ])
        refine wpAnyK_take (i := 12) (v := ?_) (op_at _ 12 _ rfl) (by kernel_rfl) (by kernel_rfl) (by kernel_rfl) (by kernel_rfl) (fun _ _ _ h => h) (Or.inl ⟨by rfl, ?_⟩) (by assumption) ?_
        rotate_left 1
        focus (intro W hSw; obtain ⟨q0, q1, q2⟩ := hSw; go_simp; first | done | with_reducible rfl)
        (try simp only [Act.put, List.setIfInBounds_toArray, List.set_cons_zero, List.set_cons_succ])
        refine wpAnyK_pure (i := 15) (v := ?_) (op_at _ 15 _ rfl) (by kernel_rfl) (by kernel_rfl) (by kernel_rfl) (by kernel_rfl) (fun _ _ _ h => h) (Or.inl ⟨by rfl, ?_⟩) (Or.inl (by assumption)) ?_
        rotate_left 1
        focus (intro W hSw; go_simp; first | done | with_reducible rfl)
        (try simp only [Act.put, List.setIfInBounds_toArray, List.set_cons_zero, List.set_cons_succ])
        refine wpAnyK_pure (i := 16) (v := ?_) (op_at _ 16 _ rfl) (by kernel_rfl) (by kernel_rfl) (by kernel_rfl) (by kernel_rfl) (fun _ _ _ h => h) (Or.inl ⟨by rfl, ?_⟩) (Or.inl (by assumption)) ?_
        rotate_left 1
        focus (intro W hSw; go_simp; first | done | with_reducible rfl)
        (try simp only [Act.put, List.setIfInBounds_toArray, List.set_cons_zero, List.set_cons_succ])
        refine wpAnyK_ready (rs := [2, 6, 10]) (by kernel_rfl) (by simp) ?_
        refine AllReadyK.cons (op_at _ 2 _ rfl) (fun K hK => ?_) ?_
        · as_aux_lemma =>
          go_simp
          obtain ⟨W1, hW1⟩ : ∃ W', W' = W0.alloc (.cells #[] 37) := ⟨_, rfl⟩; rw [← hW1]; have hbW1 := (alloc_is hW1).1; have hlW1 := hBW.size; have HSW1 := hid (alloc_is hW1).2; have hA : W1.ownsRow 0 37 1 (.slice (some ⟨W0.heap.size, 0, none⟩) 0 0) 0 [] := (by rw [hW1]; exact World.ownsRow_made W0 #[] 0 (Nat.zero_le _) (by decide) rfl); have HGhA : Hid (fb < W0.heap.size) := hid HFL.out; replace hR := hR.blk (hbW1.block fb HFL.out); replace hBW := hBW.trans (hbW1.mono hBW.size); replace HFL : Hid (fb < W1.heap.size) := hid (by have h1 := HFL.out; have h2 := HSW1.out; omega); clear hW1
          refine hK.out _ _ hR (fun hHeld => ?_)
          clear hK K
          (try simp only [Act.put, List.setIfInBounds_toArray, List.set_cons_zero, List.set_cons_succ])
          refine wpAnyK_ready (rs := [5, 6, 10]) (by kernel_rfl) (by simp) ?_
          refine AllReadyK.cons (op_at _ 5 _ rfl) (fun K hK => ?_) ?_
          · as_aux_lemma =>
            refine step_app rfl (.tmp 38) (.tmp 40) el66 rfl (.slice (some ⟨W0.heap.size, 0, none⟩) 0 0) 0 [] rfl hA R.B0.aN LN0 R.B0.cN R.B0.vs rfl (src_row (own_later RN.out hBW) HVS.out) (by omega) ?_; simp only [Nat.zero_add, List.nil_append]; intro a5 c5 W2 ho5 hg5 hat5; have hll5 := hBW.size; have hgl5 := hlW1; have ha5 : ∀ a, a5 = some a → wr.heap.size ≤ a.block := (fun a ha => by rcases hat5 a ha with h | h; simp only [Value.ownBlock, Option.some.injEq] at h; omega; omega); replace hR := hR.blk (hg5.block fb HFL.out (fun e => by simp only [Value.ownBlock, Option.some.injEq] at e; have h1 := HGhA.out; omega)); have HZ5 : Hid (W1.heap.size ≤ W2.heap.size) := hid hg5.size; replace HFL : Hid (fb < W2.heap.size) := hid (Nat.lt_of_lt_of_le HFL.out HZ5.out); replace hBW := hBW.grown hg5 hBW.size (fun k hk => by simp only [Value.ownBlock, Option.some.injEq] at hk; omega); clear hat5 hg5 hA HGhA
            refine hK.out _ _ hR (fun hHeld => ?_)
            clear hK K
            (try simp only [Act.put, List.setIfInBounds_toArray, List.set_cons_zero, List.set_cons_succ])
            refine wpAnyK_ready (rs := [6, 10]) (by kernel_rfl) (by simp) ?_
            refine AllReadyK.cons (op_at _ 6 _ rfl) (fun K hK => ?_) ?_
            · as_aux_lemma =>
              go_simp
              obtain ⟨W3, hW3⟩ : ∃ W', W' = W2.alloc (.cells #[] 37) := ⟨_, rfl⟩; rw [← hW3]; have hbW3 := (alloc_is hW3).1; have hlW3 := hBW.size; have HSW3 := hid (alloc_is hW3).2; have HNE : Hid (∀ i j, (Value.ownBlock (.slice a5 LN0 c5)) = some i → (Value.ownBlock (.slice (some ⟨W2.heap.size, 0, none⟩) 0 0)) = some j → i ≠ j) := hid (fun i j hi hj e => by have h1 := own_lt ho5 hi; simp only [Value.ownBlock, Option.some.injEq] at hj; omega); replace ho5 := own_later ho5 hbW3; have hB : W3.ownsRow 0 37 1 (.slice (some ⟨W2.heap.size, 0, none⟩) 0 0) 0 [] := (by rw [hW3]; exact World.ownsRow_made W2 #[] 0 (Nat.zero_le _) (by decide) rfl); have HGhB : Hid (fb < W2.heap.size) := hid HFL.out; replace hR := hR.blk (hbW3.block fb HFL.out); replace hBW := hBW.trans (hbW3.mono hBW.size); replace HFL : Hid (fb < W3.heap.size) := hid (by have h1 := HFL.out; have h2 := HSW3.out; omega); clear hW3
              refine hK.out _ _ hR (fun hHeld => ?_)
              clear hK K
              (try simp only [Act.put, List.setIfInBounds_toArray, List.set_cons_zero, List.set_cons_succ])
              refine wpAnyK_ready (rs := [9, 10]) (by kernel_rfl) (by simp) ?_
              refine AllReadyK.cons (op_at _ 9 _ rfl) (fun K hK => ?_) ?_
              · as_aux_lemma =>
                refine step_app rfl (.tmp 42) (.tmp 44) el66 rfl (.slice (some ⟨W2.heap.size, 0, none⟩) 0 0) 0 [] rfl hB R.B0.aS LO0 R.B0.cS R.B0.us rfl (src_row (own_later RS.out hBW) HUS.out) (by omega) ?_; simp only [Nat.zero_add, List.nil_append]; intro a9 c9 W4 ho9 hg9 hat9; have hll9 := hBW.size; have hgl9 := hlW3; have ha9 : ∀ a, a9 = some a → wr.heap.size ≤ a.block := (fun a ha => by rcases hat9 a ha with h | h; simp only [Value.ownBlock, Option.some.injEq] at h; omega; omega); have HNE2 : Hid (∀ i j, (Value.ownBlock (.slice a5 LN0 c5)) = some i → (Value.ownBlock (.slice a9 LO0 c9)) = some j → i ≠ j) := hid (fun i j hi hj e => by obtain ⟨y, hy, rfl⟩ := slice_own hj; rcases hat9 y hy with h | h; exact HNE.out _ _ hi h e; have h1 := own_lt ho5 hi; omega); replace ho5 := own_beside ho5 hg9 (fun k hk e => HNE.out _ _ hk e.symm rfl); replace HNE := HNE2; clear HNE2; replace hR := hR.blk (hg9.block fb HFL.out (fun e => by simp only [Value.ownBlock, Option.some.injEq] at e; have h1 := HGhB.out; omega)); have HZ9 : Hid (W3.heap.size ≤ W4.heap.size) := hid hg9.size; replace HFL : Hid (fb < W4.heap.size) := hid (Nat.lt_of_lt_of_le HFL.out HZ9.out); replace hBW := hBW.grown hg9 hBW.size (fun k hk => by simp only [Value.ownBlock, Option.some.injEq] at hk; omega); clear hat9 hg9 hB HGhB
                refine hK.out _ _ hR (fun hHeld => ?_)
                clear hK K
                (try simp only [Act.put, List.setIfInBounds_toArray, List.set_cons_zero, List.set_cons_succ])
                refine wpAnyK_ready (rs := [10]) (by kernel_rfl) (by simp) ?_
                refine AllReadyK.cons (op_at _ 10 _ rfl) (fun K hK => ?_) AllReadyK.nil
                go_simp
                obtain ⟨W5, hW5⟩ : ∃ W', W' = W4.alloc (.cells #[] 4) := ⟨_, rfl⟩; rw [← hW5]; have hbW5 := (alloc_is hW5).1; have hlW5 := hBW.size; have HSW5 := hid (alloc_is hW5).2; replace ho5 := own_later ho5 hbW5; replace ho9 := own_later ho9 hbW5; have hC : W5.ownsRow 0 4 1 (.slice (some ⟨W4.heap.size, 0, none⟩) 0 0) 0 [] := (by rw [hW5]; exact World.ownsRow_made W4 #[] 0 (Nat.zero_le _) (by decide) rfl); have HGhC : Hid (fb < W4.heap.size) := hid HFL.out; replace hR := hR.blk (hbW5.block fb HFL.out); replace hBW := hBW.trans (hbW5.mono hBW.size); replace HFL : Hid (fb < W5.heap.size) := hid (by have h1 := HFL.out; have h2 := HSW5.out; omega); clear hW5
                refine hK.out _ _ hR (fun hHeld => ?_)
                clear hK K
                (try simp only [Act.put, List.setIfInBounds_toArray, List.set_cons_zero, List.set_cons_succ])
                refine wpAnyK_ready (rs := [13]) (by kernel_rfl) (by simp) ?_
                refine AllReadyK.cons (op_at _ 13 _ rfl) (fun K hK => ?_) AllReadyK.nil
                refine step_app rfl (.tmp 46) (.tmp 48) el30 rfl (.slice (some ⟨W4.heap.size, 0, none⟩) 0 0) 0 [] rfl hC R.B0.aD LD0 R.B0.cD (vb d.f0.dirt) rfl (src_row (own_later RD.out hBW) (vb_one _)) (by omega) ?_; simp only [Nat.zero_add, List.nil_append]; intro a13 c13 W6 ho13 hg13 hat13; have hll13 := hBW.size; have hgl13 := hlW5; have ha13 : ∀ a, a13 = some a → wr.heap.size ≤ a.block := (fun a ha => by rcases hat13 a ha with h | h; simp only [Value.ownBlock, Option.some.injEq] at h; omega; omega); replace ho5 := own_beside ho5 hg13 (fun k hk e => own_ne ho5 hC (by decide) hk e.symm rfl); replace ho9 := own_beside ho9 hg13 (fun k hk e => own_ne ho9 hC (by decide) hk e.symm rfl); replace hR := hR.blk (hg13.block fb HFL.out (fun e => by simp only [Value.ownBlock, Option.some.injEq] at e; have h1 := HGhC.out; omega)); have HZ13 : Hid (W5.heap.size ≤ W6.heap.size) := hid hg13.size; replace HFL : Hid (fb < W6.heap.size) := hid (Nat.lt_of_lt_of_le HFL.out HZ13.out); replace hBW := hBW.grown hg13 hBW.size (fun k hk => by simp only [Value.ownBlock, Option.some.injEq] at hk; omega); clear hat13 hg13 hC HGhC
                refine hK.out _ _ hR (fun hHeld => ?_)
                clear hK K
                (try simp only [Act.put, List.setIfInBounds_toArray, List.set_cons_zero, List.set_cons_succ])
                refine wpAnyK_pure (i := 14) (v := ?_) (op_at _ 14 _ rfl) (by kernel_rfl) (by kernel_rfl) (by kernel_rfl) (by kernel_rfl) (fun _ _ _ h => h) (Or.inl ⟨by rfl, ?_⟩) (Or.inl (by assumption)) ?_
                rotate_left 1
                focus (intro W hSw; go_simp; first | done | with_reducible rfl)
                (try simp only [Act.put, List.setIfInBounds_toArray, List.set_cons_zero, List.set_cons_succ])
                refine wpAnyK_pure (i := 17) (v := ?_) (op_at _ 17 _ rfl) (by kernel_rfl) (by kernel_rfl) (by kernel_rfl) (by kernel_rfl) (fun _ _ _ h => h) (Or.inl ⟨by rfl, ?_⟩) (Or.inl (by assumption)) ?_
                rotate_left 1
                focus (intro W hSw; go_simp; first | done | with_reducible rfl)
                (try simp only [Act.put, List.setIfInBounds_toArray, List.set_cons_zero, List.set_cons_succ])
                obtain ⟨v0, v1, v2, y0, y1, y2, z0, z1, z2⟩ := hI.out.cells (o := 1) hBW hqr (by omega) (by omega)
                refine wpAnyK_ready (rs := [18]) (by kernel_rfl) (by simp) ?_
                refine AllReadyK.cons (op_at _ 18 _ rfl) (fun K hK => ?_) AllReadyK.nil
                go_simp
                have hR2 : Rd3 fb (.slice R.B0.aN LN0 R.B0.cN) (.slice R.B0.aS LO0 R.B0.cS) (.slice R.B0.aD LD0 R.B0.cD) ((((W6).setCell ⟨q, 1, none⟩ (.slice a5 LN0 c5)).setCell ⟨q, 1 + 1, none⟩ (.slice a9 LO0 c9)).setCell ⟨q, 1 + 2, none⟩ (.slice a13 LD0 c13)) := hR.blk (set3_heap _ _ _ _ _ _ _ hfq); replace hR := hR2; clear hR2
                refine hK.out _ _ hR (fun hHeld => ?_)
                clear hK K
                (try simp only [Act.put, List.setIfInBounds_toArray, List.set_cons_zero, List.set_cons_succ])
                refine wpAnyK_done (by kernel_rfl) ?_ _
                go_wp2
                go_roundg 1
                case measure => omega
                case rel => exact ⟨1, _, _, _, rfl, rfl, hid (cp_0 hI.out HR1.out hq1 HRQ.out.1 HRQ.out.2 hBW ELN0.out ELO0.out ELD0.out ho5 ho9 ho13 ha5 ha9 ha13 (fun a b ha hb => HNE.out _ _ (by rw [ha]; rfl) (by rw [hb]; rfl)))⟩
              refine AllReadyK.cons (op_at _ 10 _ rfl) (fun K hK => ?_) ?_
              · as_aux_lemma =>
                go_simp
                obtain ⟨W4, hW4⟩ : ∃ W', W' = W3.alloc (.cells #[] 4) := ⟨_, rfl⟩; rw [← hW4]; have hbW4 := (alloc_is hW4).1; have hlW4 := hBW.size; have HSW4 := hid (alloc_is hW4).2; replace ho5 := own_later ho5 hbW4; replace hB := own_later hB hbW4; have hC : W4.ownsRow 0 4 1 (.slice (some ⟨W3.heap.size, 0, none⟩) 0 0) 0 [] := (by rw [hW4]; exact World.ownsRow_made W3 #[] 0 (Nat.zero_le _) (by decide) rfl); have HGhC : Hid (fb < W3.heap.size) := hid HFL.out; replace hR := hR.blk (hbW4.block fb HFL.out); replace hBW := hBW.trans (hbW4.mono hBW.size); replace HFL : Hid (fb < W4.heap.size) := hid (by have h1 := HFL.out; have h2 := HSW4.out; omega); clear hW4
                refine hK.out _ _ hR (fun hHeld => ?_)
                clear hK K
                (try simp only [Act.put, List.setIfInBounds_toArray, List.set_cons_zero, List.set_cons_succ])
                refine wpAnyK_ready (rs := [9]) (by kernel_rfl) (by simp) ?_
                refine AllReadyK.cons (op_at _ 9 _ rfl) (fun K hK => ?_) AllReadyK.nil
                refine step_app rfl (.tmp 42) (.tmp 44) el66 rfl (.slice (some ⟨W2.heap.size, 0, none⟩) 0 0) 0 [] rfl hB R.B0.aS LO0 R.B0.cS R.B0.us rfl (src_row (own_later RS.out hBW) HUS.out) (by omega) ?_; simp only [Nat.zero_add, List.nil_append]; intro a9 c9 W5 ho9 hg9 hat9; have hll9 := hBW.size; have hgl9 := hlW3; have ha9 : ∀ a, a9 = some a → wr.heap.size ≤ a.block := (fun a ha => by rcases hat9 a ha with h | h; simp only [Value.ownBlock, Option.some.injEq] at h; omega; omega); have HNE2 : Hid (∀ i j, (Value.ownBlock (.slice a5 LN0 c5)) = some i → (Value.ownBlock (.slice a9 LO0 c9)) = some j → i ≠ j) := hid (fun i j hi hj e => by obtain ⟨y, hy, rfl⟩ := slice_own hj; rcases hat9 y hy with h | h; exact HNE.out _ _ hi h e; have h1 := own_lt ho5 hi; omega); replace ho5 := own_beside ho5 hg9 (fun k hk e => HNE.out _ _ hk e.symm rfl); replace hC := own_beside hC hg9 (fun k hk e => own_ne hC hB (by decide) hk e.symm rfl); replace HNE := HNE2; clear HNE2; replace hR := hR.blk (hg9.block fb HFL.out (fun e => by simp only [Value.ownBlock, Option.some.injEq] at e; have h1 := HGhB.out; omega)); have HZ9 : Hid (W4.heap.size ≤ W5.heap.size) := hid hg9.size; replace HFL : Hid (fb < W5.heap.size) := hid (Nat.lt_of_lt_of_le HFL.out HZ9.out); replace hBW := hBW.grown hg9 hBW.size (fun k hk => by simp only [Value.ownBlock, Option.some.injEq] at hk; omega); clear hat9 hg9 hB HGhB
                refine hK.out _ _ hR (fun hHeld => ?_)
                clear hK K
                (try simp only [Act.put, List.setIfInBounds_toArray, List.set_cons_zero, List.set_cons_succ])
                refine wpAnyK_ready (rs := [13]) (by kernel_rfl) (by simp) ?_
                refine AllReadyK.cons (op_at _ 13 _ rfl) (fun K hK => ?_) AllReadyK.nil
                refine step_app rfl (.tmp 46) (.tmp 48) el30 rfl (.slice (some ⟨W3.heap.size, 0, none⟩) 0 0) 0 [] rfl hC R.B0.aD LD0 R.B0.cD (vb d.f0.dirt) rfl (src_row (own_later RD.out hBW) (vb_one _)) (by omega) ?_; simp only [Nat.zero_add, List.nil_append]; intro a13 c13 W6 ho13 hg13 hat13; have hll13 := hBW.size; have hgl13 := hlW4; have ha13 : ∀ a, a13 = some a → wr.heap.size ≤ a.block := (fun a ha => by rcases hat13 a ha with h | h; simp only [Value.ownBlock, Option.some.injEq] at h; omega; omega); replace ho5 := own_beside ho5 hg13 (fun k hk e => own_ne ho5 hC (by decide) hk e.symm rfl); replace ho9 := own_beside ho9 hg13 (fun k hk e => own_ne ho9 hC (by decide) hk e.symm rfl); replace hR := hR.blk (hg13.block fb HFL.out (fun e => by simp only [Value.ownBlock, Option.some.injEq] at e; have h1 := HGhC.out; omega)); have HZ13 : Hid (W5.heap.size ≤ W6.heap.size) := hid hg13.size; replace HFL : Hid (fb < W6.heap.size) := hid (Nat.lt_of_lt_of_le HFL.out HZ13.out); replace hBW := hBW.grown hg13 hBW.size (fun k hk => by simp only [Value.ownBlock, Option.some.injEq] at hk; omega); clear hat13 hg13 hC HGhC
                refine hK.out _ _ hR (fun hHeld => ?_)
                clear hK K
                (try simp only [Act.put, List.setIfInBounds_toArray, List.set_cons_zero, List.set_cons_succ])
                refine wpAnyK_pure (i := 14) (v := ?_) (op_at _ 14 _ rfl) (by kernel_rfl) (by kernel_rfl) (by kernel_rfl) (by kernel_rfl) (fun _ _ _ h => h) (Or.inl ⟨by rfl, ?_⟩) (Or.inl (by assumption)) ?_
                rotate_left 1
                focus (intro W hSw; go_simp; first | done | with_reducible rfl)
                (try simp only [Act.put, List.setIfInBounds_toArray, List.set_cons_zero, List.set_cons_succ])
                refine wpAnyK_pure (i := 17) (v := ?_) (op_at _ 17 _ rfl) (by kernel_rfl) (by kernel_rfl) (by kernel_rfl) (by kernel_rfl) (fun _ _ _ h => h) (Or.inl ⟨by rfl, ?_⟩) (Or.inl (by assumption)) ?_
                rotate_left 1
                focus (intro W hSw; go_simp; first | done | with_reducible rfl)
                (try simp only [Act.put, List.setIfInBounds_toArray, List.set_cons_zero, List.set_cons_succ])
                obtain ⟨v0, v1, v2, y0, y1, y2, z0, z1, z2⟩ := hI.out.cells (o := 1) hBW hqr (by omega) (by omega)
                refine wpAnyK_ready (rs := [18]) (by kernel_rfl) (by simp) ?_
                refine AllReadyK.cons (op_at _ 18 _ rfl) (fun K hK => ?_) AllReadyK.nil
                go_simp
                have hR2 : Rd3 fb (.slice R.B0.aN LN0 R.B0.cN) (.slice R.B0.aS LO0 R.B0.cS) (.slice R.B0.aD LD0 R.B0.cD) ((((W6).setCell ⟨q, 1, none⟩ (.slice a5 LN0 c5)).setCell ⟨q, 1 + 1, none⟩ (.slice a9 LO0 c9)).setCell ⟨q, 1 + 2, none⟩ (.slice a13 LD0 c13)) := hR.blk (set3_heap _ _ _ _ _ _ _ hfq); replace hR := hR2; clear hR2
                refine hK.out _ _ hR (fun hHeld => ?_)
                clear hK K
                (try simp only [Act.put, List.setIfInBounds_toArray, List.set_cons_zero, List.set_cons_succ])
                refine wpAnyK_done (by kernel_rfl) ?_ _
                go_wp2
                go_roundg 1
                case measure => omega
                case rel => exact ⟨1, _, _, _, rfl, rfl, hid (cp_0 hI.out HR1.out hq1 HRQ.out.1 HRQ.out.2 hBW ELN0.out ELO0.out ELD0.out ho5 ho9 ho13 ha5 ha9 ha13 (fun a b ha hb => HNE.out _ _ (by rw [ha]; rfl) (by rw [hb]; rfl)))⟩
              exact AllReadyK.nil
            refine AllReadyK.cons (op_at _ 10 _ rfl) (fun K hK => ?_) ?_
            · as_aux_lemma =>
              go_simp
              obtain ⟨W3, hW3⟩ : ∃ W', W' = W2.alloc (.cells #[] 4) := ⟨_, rfl⟩; rw [← hW3]; have hbW3 := (alloc_is hW3).1; have hlW3 := hBW.size; have HSW3 := hid (alloc_is hW3).2; replace ho5 := own_later ho5 hbW3; have hC : W3.ownsRow 0 4 1 (.slice (some ⟨W2.heap.size, 0, none⟩) 0 0) 0 [] := (by rw [hW3]; exact World.ownsRow_made W2 #[] 0 (Nat.zero_le _) (by decide) rfl); have HGhC : Hid (fb < W2.heap.size) := hid HFL.out; replace hR := hR.blk (hbW3.block fb HFL.out); replace hBW := hBW.trans (hbW3.mono hBW.size); replace HFL : Hid (fb < W3.heap.size) := hid (by have h1 := HFL.out; have h2 := HSW3.out; omega); clear hW3
              refine hK.out _ _ hR (fun hHeld => ?_)
              clear hK K
              (try simp only [Act.put, List.setIfInBounds_toArray, List.set_cons_zero, List.set_cons_succ])
              refine wpAnyK_ready (rs := [6]) (by kernel_rfl) (by simp) ?_
              refine AllReadyK.cons (op_at _ 6 _ rfl) (fun K hK => ?_) AllReadyK.nil
              go_simp
              obtain ⟨W4, hW4⟩ : ∃ W', W' = W3.alloc (.cells #[] 37) := ⟨_, rfl⟩; rw [← hW4]; have hbW4 := (alloc_is hW4).1; have hlW4 := hBW.size; have HSW4 := hid (alloc_is hW4).2; have HNE : Hid (∀ i j, (Value.ownBlock (.slice a5 LN0 c5)) = some i → (Value.ownBlock (.slice (some ⟨W3.heap.size, 0, none⟩) 0 0)) = some j → i ≠ j) := hid (fun i j hi hj e => by have h1 := own_lt ho5 hi; simp only [Value.ownBlock, Option.some.injEq] at hj; omega); replace ho5 := own_later ho5 hbW4; replace hC := own_later hC hbW4; have hB : W4.ownsRow 0 37 1 (.slice (some ⟨W3.heap.size, 0, none⟩) 0 0) 0 [] := (by rw [hW4]; exact World.ownsRow_made W3 #[] 0 (Nat.zero_le _) (by decide) rfl); have HGhB : Hid (fb < W3.heap.size) := hid HFL.out; replace hR := hR.blk (hbW4.block fb HFL.out); replace hBW := hBW.trans (hbW4.mono hBW.size); replace HFL : Hid (fb < W4.heap.size) := hid (by have h1 := HFL.out; have h2 := HSW4.out; omega); clear hW4
              refine hK.out _ _ hR (fun hHeld => ?_)
              clear hK K
              (try simp only [Act.put, List.setIfInBounds_toArray, List.set_cons_zero, List.set_cons_succ])
              refine wpAnyK_ready (rs := [9]) (by kernel_rfl) (by simp) ?_
              refine AllReadyK.cons (op_at _ 9 _ rfl) (fun K hK => ?_) AllReadyK.nil
              refine step_app rfl (.tmp 42) (.tmp 44) el66 rfl (.slice (some ⟨W3.heap.size, 0, none⟩) 0 0) 0 [] rfl hB R.B0.aS LO0 R.B0.cS R.B0.us rfl (src_row (own_later RS.out hBW) HUS.out) (by omega) ?_; simp only [Nat.zero_add, List.nil_append]; intro a9 c9 W5 ho9 hg9 hat9; have hll9 := hBW.size; have hgl9 := hlW4; have ha9 : ∀ a, a9 = some a → wr.heap.size ≤ a.block := (fun a ha => by rcases hat9 a ha with h | h; simp only [Value.ownBlock, Option.some.injEq] at h; omega; omega); have HNE2 : Hid (∀ i j, (Value.ownBlock (.slice a5 LN0 c5)) = some i → (Value.ownBlock (.slice a9 LO0 c9)) = some j → i ≠ j) := hid (fun i j hi hj e => by obtain ⟨y, hy, rfl⟩ := slice_own hj; rcases hat9 y hy with h | h; exact HNE.out _ _ hi h e; have h1 := own_lt ho5 hi; omega); replace ho5 := own_beside ho5 hg9 (fun k hk e => HNE.out _ _ hk e.symm rfl); replace hC := own_beside hC hg9 (fun k hk e => own_ne hC hB (by decide) hk e.symm rfl); replace HNE := HNE2; clear HNE2; replace hR := hR.blk (hg9.block fb HFL.out (fun e => by simp only [Value.ownBlock, Option.some.injEq] at e; have h1 := HGhB.out; omega)); have HZ9 : Hid (W4.heap.size ≤ W5.heap.size) := hid hg9.size; replace HFL : Hid (fb < W5.heap.size) := hid (Nat.lt_of_lt_of_le HFL.out HZ9.out); replace hBW := hBW.grown hg9 hBW.size (fun k hk => by simp only [Value.ownBlock, Option.some.injEq] at hk; omega); clear hat9 hg9 hB HGhB
              refine hK.out _ _ hR (fun hHeld => ?_)
              clear hK K
              (try simp only [Act.put, List.setIfInBounds_toArray, List.set_cons_zero, List.set_cons_succ])
              refine wpAnyK_ready (rs := [13]) (by kernel_rfl) (by simp) ?_
              refine AllReadyK.cons (op_at _ 13 _ rfl) (fun K hK => ?_) AllReadyK.nil
              refine step_app rfl (.tmp 46) (.tmp 48) el30 rfl (.slice (some ⟨W2.heap.size, 0, none⟩) 0 0) 0 [] rfl hC R.B0.aD LD0 R.B0.cD (vb d.f0.dirt) rfl (src_row (own_later RD.out hBW) (vb_one _)) (by omega) ?_; simp only [Nat.zero_add, List.nil_append]; intro a13 c13 W6 ho13 hg13 hat13; have hll13 := hBW.size; have hgl13 := hlW3; have ha13 : ∀ a, a13 = some a → wr.heap.size ≤ a.block := (fun a ha => by rcases hat13 a ha with h | h; simp only [Value.ownBlock, Option.some.injEq] at h; omega; omega); replace ho5 := own_beside ho5 hg13 (fun k hk e => own_ne ho5 hC (by decide) hk e.symm rfl); replace ho9 := own_beside ho9 hg13 (fun k hk e => own_ne ho9 hC (by decide) hk e.symm rfl); replace hR := hR.blk (hg13.block fb HFL.out (fun e => by simp only [Value.ownBlock, Option.some.injEq] at e; have h1 := HGhC.out; omega)); have HZ13 : Hid (W5.heap.size ≤ W6.heap.size) := hid hg13.size; replace HFL : Hid (fb < W6.heap.size) := hid (Nat.lt_of_lt_of_le HFL.out HZ13.out); replace hBW := hBW.grown hg13 hBW.size (fun k hk => by simp only [Value.ownBlock, Option.some.injEq] at hk; omega); clear hat13 hg13 hC HGhC
              refine hK.out _ _ hR (fun hHeld => ?_)
              clear hK K
              (try simp only [Act.put, List.setIfInBounds_toArray, List.set_cons_zero, List.set_cons_succ])
              refine wpAnyK_pure (i := 14) (v := ?_) (op_at _ 14 _ rfl) (by kernel_rfl) (by kernel_rfl) (by kernel_rfl) (by kernel_rfl) (fun _ _ _ h => h) (Or.inl ⟨by rfl, ?_⟩) (Or.inl (by assumption)) ?_
              rotate_left 1
              focus (intro W hSw; go_simp; first | done | with_reducible rfl)
              (try simp only [Act.put, List.setIfInBounds_toArray, List.set_cons_zero, List.set_cons_succ])
              refine wpAnyK_pure (i := 17) (v := ?_) (op_at _ 17 _ rfl) (by kernel_rfl) (by kernel_rfl) (by kernel_rfl) (by kernel_rfl) (fun _ _ _ h => h) (Or.inl ⟨by rfl, ?_⟩) (Or.inl (by assumption)) ?_
              rotate_left 1
              focus (intro W hSw; go_simp; first | done | with_reducible rfl)
              (try simp only [Act.put, List.setIfInBounds_toArray, List.set_cons_zero, List.set_cons_succ])
              obtain ⟨v0, v1, v2, y0, y1, y2, z0, z1, z2⟩ := hI.out.cells (o := 1) hBW hqr (by omega) (by omega)
              refine wpAnyK_ready (rs := [18]) (by kernel_rfl) (by simp) ?_
              refine AllReadyK.cons (op_at _ 18 _ rfl) (fun K hK => ?_) AllReadyK.nil
              go_simp
              have hR2 : Rd3 fb (.slice R.B0.aN LN0 R.B0.cN) (.slice R.B0.aS LO0 R.B0.cS) (.slice R.B0.aD LD0 R.B0.cD) ((((W6).setCell ⟨q, 1, none⟩ (.slice a5 LN0 c5)).setCell ⟨q, 1 + 1, none⟩ (.slice a9 LO0 c9)).setCell ⟨q, 1 + 2, none⟩ (.slice a13 LD0 c13)) := hR.blk (set3_heap _ _ _ _ _ _ _ hfq); replace hR := hR2; clear hR2
              refine hK.out _ _ hR (fun hHeld => ?_)
              clear hK K
              (try simp only [Act.put, List.setIfInBounds_toArray, List.set_cons_zero, List.set_cons_succ])
              refine wpAnyK_done (by kernel_rfl) ?_ _
              go_wp2
              go_roundg 1
              case measure => omega
              case rel => exact ⟨1, _, _, _, rfl, rfl, hid (cp_0 hI.out HR1.out hq1 HRQ.out.1 HRQ.out.2 hBW ELN0.out ELO0.out ELD0.out ho5 ho9 ho13 ha5 ha9 ha13 (fun a b ha hb => HNE.out _ _ (by rw [ha]; rfl) (by rw [hb]; rfl)))⟩
            exact AllReadyK.nil
          refine AllReadyK.cons (op_at _ 6 _ rfl) (fun K hK => ?_) ?_
          · as_aux_lemma =>
            go_simp
            obtain ⟨W2, hW2⟩ : ∃ W', W' = W1.alloc (.cells #[] 37) := ⟨_, rfl⟩; rw [← hW2]; have hbW2 := (alloc_is hW2).1; have hlW2 := hBW.size; have HSW2 := hid (alloc_is hW2).2; have HNE : Hid (∀ i j, (Value.ownBlock (.slice (some ⟨W0.heap.size, 0, none⟩) 0 0)) = some i → (Value.ownBlock (.slice (some ⟨W1.heap.size, 0, none⟩) 0 0)) = some j → i ≠ j) := hid (fun i j hi hj e => by have h1 := own_lt hA hi; simp only [Value.ownBlock, Option.some.injEq] at hj; omega); replace hA := own_later hA hbW2; have hB : W2.ownsRow 0 37 1 (.slice (some ⟨W1.heap.size, 0, none⟩) 0 0) 0 [] := (by rw [hW2]; exact World.ownsRow_made W1 #[] 0 (Nat.zero_le _) (by decide) rfl); have HGhB : Hid (fb < W1.heap.size) := hid HFL.out; replace hR := hR.blk (hbW2.block fb HFL.out); replace hBW := hBW.trans (hbW2.mono hBW.size); replace HFL : Hid (fb < W2.heap.size) := hid (by have h1 := HFL.out; have h2 := HSW2.out; omega); clear hW2
            refine hK.out _ _ hR (fun hHeld => ?_)
            clear hK K
            (try simp only [Act.put, List.setIfInBounds_toArray, List.set_cons_zero, List.set_cons_succ])
            refine wpAnyK_ready (rs := [5, 10]) (by kernel_rfl) (by simp) ?_
            refine AllReadyK.cons (op_at _ 5 _ rfl) (fun K hK => ?_) ?_
            · as_aux_lemma =>
              refine step_app rfl (.tmp 38) (.tmp 40) el66 rfl (.slice (some ⟨W0.heap.size, 0, none⟩) 0 0) 0 [] rfl hA R.B0.aN LN0 R.B0.cN R.B0.vs rfl (src_row (own_later RN.out hBW) HVS.out) (by omega) ?_; simp only [Nat.zero_add, List.nil_append]; intro a5 c5 W3 ho5 hg5 hat5; have hll5 := hBW.size; have hgl5 := hlW1; have ha5 : ∀ a, a5 = some a → wr.heap.size ≤ a.block := (fun a ha => by rcases hat5 a ha with h | h; simp only [Value.ownBlock, Option.some.injEq] at h; omega; omega); have HNE2 : Hid (∀ i j, (Value.ownBlock (.slice a5 LN0 c5)) = some i → (Value.ownBlock (.slice (some ⟨W1.heap.size, 0, none⟩) 0 0)) = some j → i ≠ j) := hid (fun i j hi hj e => by obtain ⟨y, hy, rfl⟩ := slice_own hi; rcases hat5 y hy with h | h; exact HNE.out _ _ h hj e; have h1 := own_lt hB hj; omega); replace hB := own_beside hB hg5 (fun k hk e => HNE.out _ _ e.symm hk rfl); replace HNE := HNE2; clear HNE2; replace hR := hR.blk (hg5.block fb HFL.out (fun e => by simp only [Value.ownBlock, Option.some.injEq] at e; have h1 := HGhA.out; omega)); have HZ5 : Hid (W2.heap.size ≤ W3.heap.size) := hid hg5.size; replace HFL : Hid (fb < W3.heap.size) := hid (Nat.lt_of_lt_of_le HFL.out HZ5.out); replace hBW := hBW.grown hg5 hBW.size (fun k hk => by simp only [Value.ownBlock, Option.some.injEq] at hk; omega); clear hat5 hg5 hA HGhA
              refine hK.out _ _ hR (fun hHeld => ?_)
              clear hK K
              (try simp only [Act.put, List.setIfInBounds_toArray, List.set_cons_zero, List.set_cons_succ])
              refine wpAnyK_ready (rs := [9, 10]) (by kernel_rfl) (by simp) ?_
              refine AllReadyK.cons (op_at _ 9 _ rfl) (fun K hK => ?_) ?_
              · as_aux_lemma =>
                refine step_app rfl (.tmp 42) (.tmp 44) el66 rfl (.slice (some ⟨W1.heap.size, 0, none⟩) 0 0) 0 [] rfl hB R.B0.aS LO0 R.B0.cS R.B0.us rfl (src_row (own_later RS.out hBW) HUS.out) (by omega) ?_; simp only [Nat.zero_add, List.nil_append]; intro a9 c9 W4 ho9 hg9 hat9; have hll9 := hBW.size; have hgl9 := hlW2; have ha9 : ∀ a, a9 = some a → wr.heap.size ≤ a.block := (fun a ha => by rcases hat9 a ha with h | h; simp only [Value.ownBlock, Option.some.injEq] at h; omega; omega); have HNE2 : Hid (∀ i j, (Value.ownBlock (.slice a5 LN0 c5)) = some i → (Value.ownBlock (.slice a9 LO0 c9)) = some j → i ≠ j) := hid (fun i j hi hj e => by obtain ⟨y, hy, rfl⟩ := slice_own hj; rcases hat9 y hy with h | h; exact HNE.out _ _ hi h e; have h1 := own_lt ho5 hi; omega); replace ho5 := own_beside ho5 hg9 (fun k hk e => HNE.out _ _ hk e.symm rfl); replace HNE := HNE2; clear HNE2; replace hR := hR.blk (hg9.block fb HFL.out (fun e => by simp only [Value.ownBlock, Option.some.injEq] at e; have h1 := HGhB.out; omega)); have HZ9 : Hid (W3.heap.size ≤ W4.heap.size) := hid hg9.size; replace HFL : Hid (fb < W4.heap.size) := hid (Nat.lt_of_lt_of_le HFL.out HZ9.out); replace hBW := hBW.grown hg9 hBW.size (fun k hk => by simp only [Value.ownBlock, Option.some.injEq] at hk; omega); clear hat9 hg9 hB HGhB
                refine hK.out _ _ hR (fun hHeld => ?_)
                clear hK K
                (try simp only [Act.put, List.setIfInBounds_toArray, List.set_cons_zero, List.set_cons_succ])
                refine wpAnyK_ready (rs := [10]) (by kernel_rfl) (by simp) ?_
                refine AllReadyK.cons (op_at _ 10 _ rfl) (fun K hK => ?_) AllReadyK.nil
                go_simp
                obtain ⟨W5, hW5⟩ : ∃ W', W' = W4.alloc (.cells #[] 4) := ⟨_, rfl⟩; rw [← hW5]; have hbW5 := (alloc_is hW5).1; have hlW5 := hBW.size; have HSW5 := hid (alloc_is hW5).2; replace ho5 := own_later ho5 hbW5; replace ho9 := own_later ho9 hbW5; have hC : W5.ownsRow 0 4 1 (.slice (some ⟨W4.heap.size, 0, none⟩) 0 0) 0 [] := (by rw [hW5]; exact World.ownsRow_made W4 #[] 0 (Nat.zero_le _) (by decide) rfl); have HGhC : Hid (fb < W4.heap.size) := hid HFL.out; replace hR := hR.blk (hbW5.block fb HFL.out); replace hBW := hBW.trans (hbW5.mono hBW.size); replace HFL : Hid (fb < W5.heap.size) := hid (by have h1 := HFL.out; have h2 := HSW5.out; omega); clear hW5
                refine hK.out _ _ hR (fun hHeld => ?_)
                clear hK K
                (try simp only [Act.put, List.setIfInBounds_toArray, List.set_cons_zero, List.set_cons_succ])
                refine wpAnyK_ready (rs := [13]) (by kernel_rfl) (by simp) ?_
                refine AllReadyK.cons (op_at _ 13 _ rfl) (fun K hK => ?_) AllReadyK.nil
                refine step_app rfl (.tmp 46) (.tmp 48) el30 rfl (.slice (some ⟨W4.heap.size, 0, none⟩) 0 0) 0 [] rfl hC R.B0.aD LD0 R.B0.cD (vb d.f0.dirt) rfl (src_row (own_later RD.out hBW) (vb_one _)) (by omega) ?_; simp only [Nat.zero_add, List.nil_append]; intro a13 c13 W6 ho13 hg13 hat13; have hll13 := hBW.size; have hgl13 := hlW5; have ha13 : ∀ a, a13 = some a → wr.heap.size ≤ a.block := (fun a ha => by rcases hat13 a ha with h | h; simp only [Value.ownBlock, Option.some.injEq] at h; omega; omega); replace ho5 := own_beside ho5 hg13 (fun k hk e => own_ne ho5 hC (by decide) hk e.symm rfl); replace ho9 := own_beside ho9 hg13 (fun k hk e => own_ne ho9 hC (by decide) hk e.symm rfl); replace hR := hR.blk (hg13.block fb HFL.out (fun e => by simp only [Value.ownBlock, Option.some.injEq] at e; have h1 := HGhC.out; omega)); have HZ13 : Hid (W5.heap.size ≤ W6.heap.size) := hid hg13.size; replace HFL : Hid (fb < W6.heap.size) := hid (Nat.lt_of_lt_of_le HFL.out HZ13.out); replace hBW := hBW.grown hg13 hBW.size (fun k hk => by simp only [Value.ownBlock, Option.some.injEq] at hk; omega); clear hat13 hg13 hC HGhC
                refine hK.out _ _ hR (fun hHeld => ?_)
                clear hK K
                (try simp only [Act.put, List.setIfInBounds_toArray, List.set_cons_zero, List.set_cons_succ])
                refine wpAnyK_pure (i := 14) (v := ?_) (op_at _ 14 _ rfl) (by kernel_rfl) (by kernel_rfl) (by kernel_rfl) (by kernel_rfl) (fun _ _ _ h => h) (Or.inl ⟨by rfl, ?_⟩) (Or.inl (by assumption)) ?_
                rotate_left 1
                focus (intro W hSw; go_simp; first | done | with_reducible rfl)
                (try simp only [Act.put, List.setIfInBounds_toArray, List.set_cons_zero, List.set_cons_succ])
                refine wpAnyK_pure (i := 17) (v := ?_) (op_at _ 17 _ rfl) (by kernel_rfl) (by kernel_rfl) (by kernel_rfl) (by kernel_rfl) (fun _ _ _ h => h) (Or.inl ⟨by rfl, ?_⟩) (Or.inl (by assumption)) ?_
                rotate_left 1
                focus (intro W hSw; go_simp; first | done | with_reducible rfl)
                (try simp only [Act.put, List.setIfInBounds_toArray, List.set_cons_zero, List.set_cons_succ])
                obtain ⟨v0, v1, v2, y0, y1, y2, z0, z1, z2⟩ := hI.out.cells (o := 1) hBW hqr (by omega) (by omega)
                refine wpAnyK_ready (rs := [18]) (by kernel_rfl) (by simp) ?_
                refine AllReadyK.cons (op_at _ 18 _ rfl) (fun K hK => ?_) AllReadyK.nil
                go_simp
                have hR2 : Rd3 fb (.slice R.B0.aN LN0 R.B0.cN) (.slice R.B0.aS LO0 R.B0.cS) (.slice R.B0.aD LD0 R.B0.cD) ((((W6).setCell ⟨q, 1, none⟩ (.slice a5 LN0 c5)).setCell ⟨q, 1 + 1, none⟩ (.slice a9 LO0 c9)).setCell ⟨q, 1 + 2, none⟩ (.slice a13 LD0 c13)) := hR.blk (set3_heap _ _ _ _ _ _ _ hfq); replace hR := hR2; clear hR2
                refine hK.out _ _ hR (fun hHeld => ?_)
                clear hK K
                (try simp only [Act.put, List.setIfInBounds_toArray, List.set_cons_zero, List.set_cons_succ])
                refine wpAnyK_done (by kernel_rfl) ?_ _
                go_wp2
                go_roundg 1
                case measure => omega
                case rel => exact ⟨1, _, _, _, rfl, rfl, hid (cp_0 hI.out HR1.out hq1 HRQ.out.1 HRQ.out.2 hBW ELN0.out ELO0.out ELD0.out ho5 ho9 ho13 ha5 ha9 ha13 (fun a b ha hb => HNE.out _ _ (by rw [ha]; rfl) (by rw [hb]; rfl)))⟩
              refine AllReadyK.cons (op_at _ 10 _ rfl) (fun K hK => ?_) ?_
              · as_aux_lemma =>
                go_simp
                obtain ⟨W4, hW4⟩ : ∃ W', W' = W3.alloc (.cells #[] 4) := ⟨_, rfl⟩; rw [← hW4]; have hbW4 := (alloc_is hW4).1; have hlW4 := hBW.size; have HSW4 := hid (alloc_is hW4).2; replace hB := own_later hB hbW4; replace ho5 := own_later ho5 hbW4; have hC : W4.ownsRow 0 4 1 (.slice (some ⟨W3.heap.size, 0, none⟩) 0 0) 0 [] := (by rw [hW4]; exact World.ownsRow_made W3 #[] 0 (Nat.zero_le _) (by decide) rfl); have HGhC : Hid (fb < W3.heap.size) := hid HFL.out; replace hR := hR.blk (hbW4.block fb HFL.out); replace hBW := hBW.trans (hbW4.mono hBW.size); replace HFL : Hid (fb < W4.heap.size) := hid (by have h1 := HFL.out; have h2 := HSW4.out; omega); clear hW4
                refine hK.out _ _ hR (fun hHeld => ?_)
                clear hK K
                (try simp only [Act.put, List.setIfInBounds_toArray, List.set_cons_zero, List.set_cons_succ])
                refine wpAnyK_ready (rs := [9]) (by kernel_rfl) (by simp) ?_
                refine AllReadyK.cons (op_at _ 9 _ rfl) (fun K hK => ?_) AllReadyK.nil
                refine step_app rfl (.tmp 42) (.tmp 44) el66 rfl (.slice (some ⟨W1.heap.size, 0, none⟩) 0 0) 0 [] rfl hB R.B0.aS LO0 R.B0.cS R.B0.us rfl (src_row (own_later RS.out hBW) HUS.out) (by omega) ?_; simp only [Nat.zero_add, List.nil_append]; intro a9 c9 W5 ho9 hg9 hat9; have hll9 := hBW.size; have hgl9 := hlW2; have ha9 : ∀ a, a9 = some a → wr.heap.size ≤ a.block := (fun a ha => by rcases hat9 a ha with h | h; simp only [Value.ownBlock, Option.some.injEq] at h; omega; omega); have HNE2 : Hid (∀ i j, (Value.ownBlock (.slice a5 LN0 c5)) = some i → (Value.ownBlock (.slice a9 LO0 c9)) = some j → i ≠ j) := hid (fun i j hi hj e => by obtain ⟨y, hy, rfl⟩ := slice_own hj; rcases hat9 y hy with h | h; exact HNE.out _ _ hi h e; have h1 := own_lt ho5 hi; omega); replace ho5 := own_beside ho5 hg9 (fun k hk e => HNE.out _ _ hk e.symm rfl); replace hC := own_beside hC hg9 (fun k hk e => own_ne hC hB (by decide) hk e.symm rfl); replace HNE := HNE2; clear HNE2; replace hR := hR.blk (hg9.block fb HFL.out (fun e => by simp only [Value.ownBlock, Option.some.injEq] at e; have h1 := HGhB.out; omega)); have HZ9 : Hid (W4.heap.size ≤ W5.heap.size) := hid hg9.size; replace HFL : Hid (fb < W5.heap.size) := hid (Nat.lt_of_lt_of_le HFL.out HZ9.out); replace hBW := hBW.grown hg9 hBW.size (fun k hk => by simp only [Value.ownBlock, Option.some.injEq] at hk; omega); clear hat9 hg9 hB HGhB
                refine hK.out _ _ hR (fun hHeld => ?_)
                clear hK K
                (try simp only [Act.put, List.setIfInBounds_toArray, List.set_cons_zero, List.set_cons_succ])
                refine wpAnyK_ready (rs := [13]) (by kernel_rfl) (by simp) ?_
                refine AllReadyK.cons (op_at _ 13 _ rfl) (fun K hK => ?_) AllReadyK.nil
                refine step_app rfl (.tmp 46) (.tmp 48) el30 rfl (.slice (some ⟨W3.heap.size, 0, none⟩) 0 0) 0 [] rfl hC R.B0.aD LD0 R.B0.cD (vb d.f0.dirt) rfl (src_row (own_later RD.out hBW) (vb_one _)) (by omega) ?_; simp only [Nat.zero_add, List.nil_append]; intro a13 c13 W6 ho13 hg13 hat13; have hll13 := hBW.size; have hgl13 := hlW4; have ha13 : ∀ a, a13 = some a → wr.heap.size ≤ a.block := (fun a ha => by rcases hat13 a ha with h | h; simp only [Value.ownBlock, Option.some.injEq] at h; omega; omega); replace ho5 := own_beside ho5 hg13 (fun k hk e => own_ne ho5 hC (by decide) hk e.symm rfl); replace ho9 := own_beside ho9 hg13 (fun k hk e => own_ne ho9 hC (by decide) hk e.symm rfl); replace hR := hR.blk (hg13.block fb HFL.out (fun e => by simp only [Value.ownBlock, Option.some.injEq] at e; have h1 := HGhC.out; omega)); have HZ13 : Hid (W5.heap.size ≤ W6.heap.size) := hid hg13.size; replace HFL : Hid (fb < W6.heap.size) := hid (Nat.lt_of_lt_of_le HFL.out HZ13.out); replace hBW := hBW.grown hg13 hBW.size (fun k hk => by simp only [Value.ownBlock, Option.some.injEq] at hk; omega); clear hat13 hg13 hC HGhC
                refine hK.out _ _ hR (fun hHeld => ?_)
                clear hK K
                (try simp only [Act.put, List.setIfInBounds_toArray, List.set_cons_zero, List.set_cons_succ])
                refine wpAnyK_pure (i := 14) (v := ?_) (op_at _ 14 _ rfl) (by kernel_rfl) (by kernel_rfl) (by kernel_rfl) (by kernel_rfl) (fun _ _ _ h => h) (Or.inl ⟨by rfl, ?_⟩) (Or.inl (by assumption)) ?_
                rotate_left 1
                focus (intro W hSw; go_simp; first | done | with_reducible rfl)
                (try simp only [Act.put, List.setIfInBounds_toArray, List.set_cons_zero, List.set_cons_succ])
                refine wpAnyK_pure (i := 17) (v := ?_) (op_at _ 17 _ rfl) (by kernel_rfl) (by kernel_rfl) (by kernel_rfl) (by kernel_rfl) (fun _ _ _ h => h) (Or.inl ⟨by rfl, ?_⟩) (Or.inl (by assumption)) ?_
                rotate_left 1
                focus (intro W hSw; go_simp; first | done | with_reducible rfl)
                (try simp only [Act.put, List.setIfInBounds_toArray, List.set_cons_zero, List.set_cons_succ])
                obtain ⟨v0, v1, v2, y0, y1, y2, z0, z1, z2⟩ := hI.out.cells (o := 1) hBW hqr (by omega) (by omega)
                refine wpAnyK_ready (rs := [18]) (by kernel_rfl) (by simp) ?_
                refine AllReadyK.cons (op_at _ 18 _ rfl) (fun K hK => ?_) AllReadyK.nil
                go_simp
                have hR2 : Rd3 fb (.slice R.B0.aN LN0 R.B0.cN) (.slice R.B0.aS LO0 R.B0.cS) (.slice R.B0.aD LD0 R.B0.cD) ((((W6).setCell ⟨q, 1, none⟩ (.slice a5 LN0 c5)).setCell ⟨q, 1 + 1, none⟩ (.slice a9 LO0 c9)).setCell ⟨q, 1 + 2, none⟩ (.slice a13 LD0 c13)) := hR.blk (set3_heap _ _ _ _ _ _ _ hfq); replace hR := hR2; clear hR2
                refine hK.out _ _ hR (fun hHeld => ?_)
                clear hK K
                (try simp only [Act.put, List.setIfInBounds_toArray, List.set_cons_zero, List.set_cons_succ])
                refine wpAnyK_done (by kernel_rfl) ?_ _
                go_wp2
                go_roundg 1
                case measure => omega
                case rel => exact ⟨1, _, _, _, rfl, rfl, hid (cp_0 hI.out HR1.out hq1 HRQ.out.1 HRQ.out.2 hBW ELN0.out ELO0.out ELD0.out ho5 ho9 ho13 ha5 ha9 ha13 (fun a b ha hb => HNE.out _ _ (by rw [ha]; rfl) (by rw [hb]; rfl)))⟩
              exact AllReadyK.nil
            refine AllReadyK.cons (op_at _ 10 _ rfl) (fun K hK => ?_) ?_
            · as_aux_lemma =>
              go_simp
              obtain ⟨W3, hW3⟩ : ∃ W', W' = W2.alloc (.cells #[] 4) := ⟨_, rfl⟩; rw [← hW3]; have hbW3 := (alloc_is hW3).1; have hlW3 := hBW.size; have HSW3 := hid (alloc_is hW3).2; replace hA := own_later hA hbW3; replace hB := own_later hB hbW3; have hC : W3.ownsRow 0 4 1 (.slice (some ⟨W2.heap.size, 0, none⟩) 0 0) 0 [] := (by rw [hW3]; exact World.ownsRow_made W2 #[] 0 (Nat.zero_le _) (by decide) rfl); have HGhC : Hid (fb < W2.heap.size) := hid HFL.out; replace hR := hR.blk (hbW3.block fb HFL.out); replace hBW := hBW.trans (hbW3.mono hBW.size); replace HFL : Hid (fb < W3.heap.size) := hid (by have h1 := HFL.out; have h2 := HSW3.out; omega); clear hW3
              refine hK.out _ _ hR (fun hHeld => ?_)
              clear hK K
              (try simp only [Act.put, List.setIfInBounds_toArray, List.set_cons_zero, List.set_cons_succ])
              refine wpAnyK_ready (rs := [5]) (by kernel_rfl) (by simp) ?_
              refine AllReadyK.cons (op_at _ 5 _ rfl) (fun K hK => ?_) AllReadyK.nil
              refine step_app rfl (.tmp 38) (.tmp 40) el66 rfl (.slice (some ⟨W0.heap.size, 0, none⟩) 0 0) 0 [] rfl hA R.B0.aN LN0 R.B0.cN R.B0.vs rfl (src_row (own_later RN.out hBW) HVS.out) (by omega) ?_; simp only [Nat.zero_add, List.nil_append]; intro a5 c5 W4 ho5 hg5 hat5; have hll5 := hBW.size; have hgl5 := hlW1; have ha5 : ∀ a, a5 = some a → wr.heap.size ≤ a.block := (fun a ha => by rcases hat5 a ha with h | h; simp only [Value.ownBlock, Option.some.injEq] at h; omega; omega); have HNE2 : Hid (∀ i j, (Value.ownBlock (.slice a5 LN0 c5)) = some i → (Value.ownBlock (.slice (some ⟨W1.heap.size, 0, none⟩) 0 0)) = some j → i ≠ j) := hid (fun i j hi hj e => by obtain ⟨y, hy, rfl⟩ := slice_own hi; rcases hat5 y hy with h | h; exact HNE.out _ _ h hj e; have h1 := own_lt hB hj; omega); replace hB := own_beside hB hg5 (fun k hk e => HNE.out _ _ e.symm hk rfl); replace hC := own_beside hC hg5 (fun k hk e => own_ne hC hA (by decide) hk e.symm rfl); replace HNE := HNE2; clear HNE2; replace hR := hR.blk (hg5.block fb HFL.out (fun e => by simp only [Value.ownBlock, Option.some.injEq] at e; have h1 := HGhA.out; omega)); have HZ5 : Hid (W3.heap.size ≤ W4.heap.size) := hid hg5.size; replace HFL : Hid (fb < W4.heap.size) := hid (Nat.lt_of_lt_of_le HFL.out HZ5.out); replace hBW := hBW.grown hg5 hBW.size (fun k hk => by simp only [Value.ownBlock, Option.some.injEq] at hk; omega); clear hat5 hg5 hA HGhA
              refine hK.out _ _ hR (fun hHeld => ?_)
              clear hK K
              (try simp only [Act.put, List.setIfInBounds_toArray, List.set_cons_zero, List.set_cons_succ])
              refine wpAnyK_ready (rs := [9]) (by kernel_rfl) (by simp) ?_
              refine AllReadyK.cons (op_at _ 9 _ rfl) (fun K hK => ?_) AllReadyK.nil
              refine step_app rfl (.tmp 42) (.tmp 44) el66 rfl (.slice (some ⟨W1.heap.size, 0, none⟩) 0 0) 0 [] rfl hB R.B0.aS LO0 R.B0.cS R.B0.us rfl (src_row (own_later RS.out hBW) HUS.out) (by omega) ?_; simp only [Nat.zero_add, List.nil_append]; intro a9 c9 W5 ho9 hg9 hat9; have hll9 := hBW.size; have hgl9 := hlW2; have ha9 : ∀ a, a9 = some a → wr.heap.size ≤ a.block := (fun a ha => by rcases hat9 a ha with h | h; simp only [Value.ownBlock, Option.some.injEq] at h; omega; omega); have HNE2 : Hid (∀ i j, (Value.ownBlock (.slice a5 LN0 c5)) = some i → (Value.ownBlock (.slice a9 LO0 c9)) = some j → i ≠ j) := hid (fun i j hi hj e => by obtain ⟨y, hy, rfl⟩ := slice_own hj; rcases hat9 y hy with h | h; exact HNE.out _ _ hi h e; have h1 := own_lt ho5 hi; omega); replace hC := own_beside hC hg9 (fun k hk e => own_ne hC hB (by decide) hk e.symm rfl); replace ho5 := own_beside ho5 hg9 (fun k hk e => HNE.out _ _ hk e.symm rfl); replace HNE := HNE2; clear HNE2; replace hR := hR.blk (hg9.block fb HFL.out (fun e => by simp only [Value.ownBlock, Option.some.injEq] at e; have h1 := HGhB.out; omega)); have HZ9 : Hid (W4.heap.size ≤ W5.heap.size) := hid hg9.size; replace HFL : Hid (fb < W5.heap.size) := hid (Nat.lt_of_lt_of_le HFL.out HZ9.out); replace hBW := hBW.grown hg9 hBW.size (fun k hk => by simp only [Value.ownBlock, Option.some.injEq] at hk; omega); clear hat9 hg9 hB HGhB
              refine hK.out _ _ hR (fun hHeld => ?_)
              clear hK K
              (try simp only [Act.put, List.setIfInBounds_toArray, List.set_cons_zero, List.set_cons_succ])
              refine wpAnyK_ready (rs := [13]) (by kernel_rfl) (by simp) ?_
              refine AllReadyK.cons (op_at _ 13 _ rfl) (fun K hK => ?_) AllReadyK.nil
              refine step_app rfl (.tmp 46) (.tmp 48) el30 rfl (.slice (some ⟨W2.heap.size, 0, none⟩) 0 0) 0 [] rfl hC R.B0.aD LD0 R.B0.cD (vb d.f0.dirt) rfl (src_row (own_later RD.out hBW) (vb_one _)) (by omega) ?_; simp only [Nat.zero_add, List.nil_append]; intro a13 c13 W6 ho13 hg13 hat13; have hll13 := hBW.size; have hgl13 := hlW3; have ha13 : ∀ a, a13 = some a → wr.heap.size ≤ a.block := (fun a ha => by rcases hat13 a ha with h | h; simp only [Value.ownBlock, Option.some.injEq] at h; omega; omega); replace ho5 := own_beside ho5 hg13 (fun k hk e => own_ne ho5 hC (by decide) hk e.symm rfl); replace ho9 := own_beside ho9 hg13 (fun k hk e => own_ne ho9 hC (by decide) hk e.symm rfl); replace hR := hR.blk (hg13.block fb HFL.out (fun e => by simp only [Value.ownBlock, Option.some.injEq] at e; have h1 := HGhC.out; omega)); have HZ13 : Hid (W5.heap.size ≤ W6.heap.size) := hid hg13.size; replace HFL : Hid (fb < W6.heap.size) := hid (Nat.lt_of_lt_of_le HFL.out HZ13.out); replace hBW := hBW.grown hg13 hBW.size (fun k hk => by simp only [Value.ownBlock, Option.some.injEq] at hk; omega); clear hat13 hg13 hC HGhC
              refine hK.out _ _ hR (fun hHeld => ?_)
              clear hK K
              (try simp only [Act.put, List.setIfInBounds_toArray, List.set_cons_zero, List.set_cons_succ])
              refine wpAnyK_pure (i := 14) (v := ?_) (op_at _ 14 _ rfl) (by kernel_rfl) (by kernel_rfl) (by kernel_rfl) (by kernel_rfl) (fun _ _ _ h => h) (Or.inl ⟨by rfl, ?_⟩) (Or.inl (by assumption)) ?_
              rotate_left 1
              focus (intro W hSw; go_simp; first | done | with_reducible rfl)
              (try simp only [Act.put, List.setIfInBounds_toArray, List.set_cons_zero, List.set_cons_succ])
              refine wpAnyK_pure (i := 17) (v := ?_) (op_at _ 17 _ rfl) (by kernel_rfl) (by kernel_rfl) (by kernel_rfl) (by kernel_rfl) (fun _ _ _ h => h) (Or.inl ⟨by rfl, ?_⟩) (Or.inl (by assumption)) ?_
              rotate_left 1
              focus (intro W hSw; go_simp; first | done | with_reducible rfl)
              (try simp only [Act.put, List.setIfInBounds_toArray, List.set_cons_zero, List.set_cons_succ])
              obtain ⟨v0, v1, v2, y0, y1, y2, z0, z1, z2⟩ := hI.out.cells (o := 1) hBW hqr (by omega) (by omega)
              refine wpAnyK_ready (rs := [18]) (by kernel_rfl) (by simp) ?_
              refine AllReadyK.cons (op_at _ 18 _ rfl) (fun K hK => ?_) AllReadyK.nil
              go_simp
              have hR2 : Rd3 fb (.slice R.B0.aN LN0 R.B0.cN) (.slice R.B0.aS LO0 R.B0.cS) (.slice R.B0.aD LD0 R.B0.cD) ((((W6).setCell ⟨q, 1, none⟩ (.slice a5 LN0 c5)).setCell ⟨q, 1 + 1, none⟩ (.slice a9 LO0 c9)).setCell ⟨q, 1 + 2, none⟩ (.slice a13 LD0 c13)) := hR.blk (set3_heap _ _ _ _ _ _ _ hfq); replace hR := hR2; clear hR2
              refine hK.out _ _ hR (fun hHeld => ?_)
              clear hK K
              (try simp only [Act.put, List.setIfInBounds_toArray, List.set_cons_zero, List.set_cons_succ])
              refine wpAnyK_done (by kernel_rfl) ?_ _
              go_wp2
              go_roundg 1
              case measure => omega
              case rel => exact ⟨1, _, _, _, rfl, rfl, hid (cp_0 hI.out HR1.out hq1 HRQ.out.1 HRQ.out.2 hBW ELN0.out ELO0.out ELD0.out ho5 ho9 ho13 ha5 ha9 ha13 (fun a b ha hb => HNE.out _ _ (by rw [ha]; rfl) (by rw [hb]; rfl)))⟩
            exact AllReadyK.nil
          refine AllReadyK.cons (op_at _ 10 _ rfl) (fun K hK => ?_) ?_
          · as_aux_lemma =>
            go_simp
            obtain ⟨W2, hW2⟩ : ∃ W', W' = W1.alloc (.cells #[] 4) := ⟨_, rfl⟩; rw [← hW2]; have hbW2 := (alloc_is hW2).1; have hlW2 := hBW.size; have HSW2 := hid (alloc_is hW2).2; replace hA := own_later hA hbW2; have hC : W2.ownsRow 0 4 1 (.slice (some ⟨W1.heap.size, 0, none⟩) 0 0) 0 [] := (by rw [hW2]; exact World.ownsRow_made W1 #[] 0 (Nat.zero_le _) (by decide) rfl); have HGhC : Hid (fb < W1.heap.size) := hid HFL.out; replace hR := hR.blk (hbW2.block fb HFL.out); replace hBW := hBW.trans (hbW2.mono hBW.size); replace HFL : Hid (fb < W2.heap.size) := hid (by have h1 := HFL.out; have h2 := HSW2.out; omega); clear hW2
            refine hK.out _ _ hR (fun hHeld => ?_)
            clear hK K
            (try simp only [Act.put, List.setIfInBounds_toArray, List.set_cons_zero, List.set_cons_succ])
            refine wpAnyK_ready (rs := [5, 6]) (by kernel_rfl) (by simp) ?_
            refine AllReadyK.cons (op_at _ 5 _ rfl) (fun K hK => ?_) ?_
            · as_aux_lemma =>
              refine step_app rfl (.tmp 38) (.tmp 40) el66 rfl (.slice (some ⟨W0.heap.size, 0, none⟩) 0 0) 0 [] rfl hA R.B0.aN LN0 R.B0.cN R.B0.vs rfl (src_row (own_later RN.out hBW) HVS.out) (by omega) ?_; simp only [Nat.zero_add, List.nil_append]; intro a5 c5 W3 ho5 hg5 hat5; have hll5 := hBW.size; have hgl5 := hlW1; have ha5 : ∀ a, a5 = some a → wr.heap.size ≤ a.block := (fun a ha => by rcases hat5 a ha with h | h; simp only [Value.ownBlock, Option.some.injEq] at h; omega; omega); replace hC := own_beside hC hg5 (fun k hk e => own_ne hC hA (by decide) hk e.symm rfl); replace hR := hR.blk (hg5.block fb HFL.out (fun e => by simp only [Value.ownBlock, Option.some.injEq] at e; have h1 := HGhA.out; omega)); have HZ5 : Hid (W2.heap.size ≤ W3.heap.size) := hid hg5.size; replace HFL : Hid (fb < W3.heap.size) := hid (Nat.lt_of_lt_of_le HFL.out HZ5.out); replace hBW := hBW.grown hg5 hBW.size (fun k hk => by simp only [Value.ownBlock, Option.some.injEq] at hk; omega); clear hat5 hg5 hA HGhA
              refine hK.out _ _ hR (fun hHeld => ?_)
              clear hK K
              (try simp only [Act.put, List.setIfInBounds_toArray, List.set_cons_zero, List.set_cons_succ])
              refine wpAnyK_ready (rs := [6]) (by kernel_rfl) (by simp) ?_
              refine AllReadyK.cons (op_at _ 6 _ rfl) (fun K hK => ?_) AllReadyK.nil
              go_simp
              obtain ⟨W4, hW4⟩ : ∃ W', W' = W3.alloc (.cells #[] 37) := ⟨_, rfl⟩; rw [← hW4]; have hbW4 := (alloc_is hW4).1; have hlW4 := hBW.size; have HSW4 := hid (alloc_is hW4).2; have HNE : Hid (∀ i j, (Value.ownBlock (.slice a5 LN0 c5)) = some i → (Value.ownBlock (.slice (some ⟨W3.heap.size, 0, none⟩) 0 0)) = some j → i ≠ j) := hid (fun i j hi hj e => by have h1 := own_lt ho5 hi; simp only [Value.ownBlock, Option.some.injEq] at hj; omega); replace hC := own_later hC hbW4; replace ho5 := own_later ho5 hbW4; have hB : W4.ownsRow 0 37 1 (.slice (some ⟨W3.heap.size, 0, none⟩) 0 0) 0 [] := (by rw [hW4]; exact World.ownsRow_made W3 #[] 0 (Nat.zero_le _) (by decide) rfl); have HGhB : Hid (fb < W3.heap.size) := hid HFL.out; replace hR := hR.blk (hbW4.block fb HFL.out); replace hBW := hBW.trans (hbW4.mono hBW.size); replace HFL : Hid (fb < W4.heap.size) := hid (by have h1 := HFL.out; have h2 := HSW4.out; omega); clear hW4
              refine hK.out _ _ hR (fun hHeld => ?_)
              clear hK K
              (try simp only [Act.put, List.setIfInBounds_toArray, List.set_cons_zero, List.set_cons_succ])
              refine wpAnyK_ready (rs := [9]) (by kernel_rfl) (by simp) ?_
              refine AllReadyK.cons (op_at _ 9 _ rfl) (fun K hK => ?_) AllReadyK.nil
              refine step_app rfl (.tmp 42) (.tmp 44) el66 rfl (.slice (some ⟨W3.heap.size, 0, none⟩) 0 0) 0 [] rfl hB R.B0.aS LO0 R.B0.cS R.B0.us rfl (src_row (own_later RS.out hBW) HUS.out) (by omega) ?_; simp only [Nat.zero_add, List.nil_append]; intro a9 c9 W5 ho9 hg9 hat9; have hll9 := hBW.size; have hgl9 := hlW4; have ha9 : ∀ a, a9 = some a → wr.heap.size ≤ a.block := (fun a ha => by rcases hat9 a ha with h | h; simp only [Value.ownBlock, Option.some.injEq] at h; omega; omega); have HNE2 : Hid (∀ i j, (Value.ownBlock (.slice a5 LN0 c5)) = some i → (Value.ownBlock (.slice a9 LO0 c9)) = some j → i ≠ j) := hid (fun i j hi hj e => by obtain ⟨y, hy, rfl⟩ := slice_own hj; rcases hat9 y hy with h | h; exact HNE.out _ _ hi h e; have h1 := own_lt ho5 hi; omega); replace hC := own_beside hC hg9 (fun k hk e => own_ne hC hB (by decide) hk e.symm rfl); replace ho5 := own_beside ho5 hg9 (fun k hk e => HNE.out _ _ hk e.symm rfl); replace HNE := HNE2; clear HNE2; replace hR := hR.blk (hg9.block fb HFL.out (fun e => by simp only [Value.ownBlock, Option.some.injEq] at e; have h1 := HGhB.out; omega)); have HZ9 : Hid (W4.heap.size ≤ W5.heap.size) := hid hg9.size; replace HFL : Hid (fb < W5.heap.size) := hid (Nat.lt_of_lt_of_le HFL.out HZ9.out); replace hBW := hBW.grown hg9 hBW.size (fun k hk => by simp only [Value.ownBlock, Option.some.injEq] at hk; omega); clear hat9 hg9 hB HGhB
              refine hK.out _ _ hR (fun hHeld => ?_)
              clear hK K
              (try simp only [Act.put, List.setIfInBounds_toArray, List.set_cons_zero, List.set_cons_succ])
              refine wpAnyK_ready (rs := [13]) (by kernel_rfl) (by simp) ?_
              refine AllReadyK.cons (op_at _ 13 _ rfl) (fun K hK => ?_) AllReadyK.nil
              refine step_app rfl (.tmp 46) (.tmp 48) el30 rfl (.slice (some ⟨W1.heap.size, 0, none⟩) 0 0) 0 [] rfl hC R.B0.aD LD0 R.B0.cD (vb d.f0.dirt) rfl (src_row (own_later RD.out hBW) (vb_one _)) (by omega) ?_; simp only [Nat.zero_add, List.nil_append]; intro a13 c13 W6 ho13 hg13 hat13; have hll13 := hBW.size; have hgl13 := hlW2; have ha13 : ∀ a, a13 = some a → wr.heap.size ≤ a.block := (fun a ha => by rcases hat13 a ha with h | h; simp only [Value.ownBlock, Option.some.injEq] at h; omega; omega); replace ho5 := own_beside ho5 hg13 (fun k hk e => own_ne ho5 hC (by decide) hk e.symm rfl); replace ho9 := own_beside ho9 hg13 (fun k hk e => own_ne ho9 hC (by decide) hk e.symm rfl); replace hR := hR.blk (hg13.block fb HFL.out (fun e => by simp only [Value.ownBlock, Option.some.injEq] at e; have h1 := HGhC.out; omega)); have HZ13 : Hid (W5.heap.size ≤ W6.heap.size) := hid hg13.size; replace HFL : Hid (fb < W6.heap.size) := hid (Nat.lt_of_lt_of_le HFL.out HZ13.out); replace hBW := hBW.grown hg13 hBW.size (fun k hk => by simp only [Value.ownBlock, Option.some.injEq] at hk; omega); clear hat13 hg13 hC HGhC
              refine hK.out _ _ hR (fun hHeld => ?_)
              clear hK K
              (try simp only [Act.put, List.setIfInBounds_toArray, List.set_cons_zero, List.set_cons_succ])
              refine wpAnyK_pure (i := 14) (v := ?_) (op_at _ 14 _ rfl) (by kernel_rfl) (by kernel_rfl) (by kernel_rfl) (by kernel_rfl) (fun _ _ _ h => h) (Or.inl ⟨by rfl, ?_⟩) (Or.inl (by assumption)) ?_
              rotate_left 1
              focus (intro W hSw; go_simp; first | done | with_reducible rfl)
              (try simp only [Act.put, List.setIfInBounds_toArray, List.set_cons_zero, List.set_cons_succ])
              refine wpAnyK_pure (i := 17) (v := ?_) (op_at _ 17 _ rfl) (by kernel_rfl) (by kernel_rfl) (by kernel_rfl) (by kernel_rfl) (fun _ _ _ h => h) (Or.inl ⟨by rfl, ?_⟩) (Or.inl (by assumption)) ?_
              rotate_left 1
              focus (intro W hSw; go_simp; first | done | with_reducible rfl)
              (try simp only [Act.put, List.setIfInBounds_toArray, List.set_cons_zero, List.set_cons_succ])
              obtain ⟨v0, v1, v2, y0, y1, y2, z0, z1, z2⟩ := hI.out.cells (o := 1) hBW hqr (by omega) (by omega)
              refine wpAnyK_ready (rs := [18]) (by kernel_rfl) (by simp) ?_
              refine AllReadyK.cons (op_at _ 18 _ rfl) (fun K hK => ?_) AllReadyK.nil
              go_simp
              have hR2 : Rd3 fb (.slice R.B0.aN LN0 R.B0.cN) (.slice R.B0.aS LO0 R.B0.cS) (.slice R.B0.aD LD0 R.B0.cD) ((((W6).setCell ⟨q, 1, none⟩ (.slice a5 LN0 c5)).setCell ⟨q, 1 + 1, none⟩ (.slice a9 LO0 c9)).setCell ⟨q, 1 + 2, none⟩ (.slice a13 LD0 c13)) := hR.blk (set3_heap _ _ _ _ _ _ _ hfq); replace hR := hR2; clear hR2
              refine hK.out _ _ hR (fun hHeld => ?_)
              clear hK K
              (try simp only [Act.put, List.setIfInBounds_toArray, List.set_cons_zero, List.set_cons_succ])
              refine wpAnyK_done (by kernel_rfl) ?_ _
              go_wp2
              go_roundg 1
              case measure => omega
              case rel => exact ⟨1, _, _, _, rfl, rfl, hid (cp_0 hI.out HR1.out hq1 HRQ.out.1 HRQ.out.2 hBW ELN0.out ELO0.out ELD0.out ho5 ho9 ho13 ha5 ha9 ha13 (fun a b ha hb => HNE.out _ _ (by rw [ha]; rfl) (by rw [hb]; rfl)))⟩
            refine AllReadyK.cons (op_at _ 6 _ rfl) (fun K hK => ?_) ?_
            · as_aux_lemma =>
              go_simp
              obtain ⟨W3, hW3⟩ : ∃ W', W' = W2.alloc (.cells #[] 37) := ⟨_, rfl⟩; rw [← hW3]; have hbW3 := (alloc_is hW3).1; have hlW3 := hBW.size; have HSW3 := hid (alloc_is hW3).2; have HNE : Hid (∀ i j, (Value.ownBlock (.slice (some ⟨W0.heap.size, 0, none⟩) 0 0)) = some i → (Value.ownBlock (.slice (some ⟨W2.heap.size, 0, none⟩) 0 0)) = some j → i ≠ j) := hid (fun i j hi hj e => by have h1 := own_lt hA hi; simp only [Value.ownBlock, Option.some.injEq] at hj; omega); replace hA := own_later hA hbW3; replace hC := own_later hC hbW3; have hB : W3.ownsRow 0 37 1 (.slice (some ⟨W2.heap.size, 0, none⟩) 0 0) 0 [] := (by rw [hW3]; exact World.ownsRow_made W2 #[] 0 (Nat.zero_le _) (by decide) rfl); have HGhB : Hid (fb < W2.heap.size) := hid HFL.out; replace hR := hR.blk (hbW3.block fb HFL.out); replace hBW := hBW.trans (hbW3.mono hBW.size); replace HFL : Hid (fb < W3.heap.size) := hid (by have h1 := HFL.out; have h2 := HSW3.out; omega); clear hW3
              refine hK.out _ _ hR (fun hHeld => ?_)
              clear hK K
              (try simp only [Act.put, List.setIfInBounds_toArray, List.set_cons_zero, List.set_cons_succ])
              refine wpAnyK_ready (rs := [5]) (by kernel_rfl) (by simp) ?_
              refine AllReadyK.cons (op_at _ 5 _ rfl) (fun K hK => ?_) AllReadyK.nil
              refine step_app rfl (.tmp 38) (.tmp 40) el66 rfl (.slice (some ⟨W0.heap.size, 0, none⟩) 0 0) 0 [] rfl hA R.B0.aN LN0 R.B0.cN R.B0.vs rfl (src_row (own_later RN.out hBW) HVS.out) (by omega) ?_; simp only [Nat.zero_add, List.nil_append]; intro a5 c5 W4 ho5 hg5 hat5; have hll5 := hBW.size; have hgl5 := hlW1; have ha5 : ∀ a, a5 = some a → wr.heap.size ≤ a.block := (fun a ha => by rcases hat5 a ha with h | h; simp only [Value.ownBlock, Option.some.injEq] at h; omega; omega); have HNE2 : Hid (∀ i j, (Value.ownBlock (.slice a5 LN0 c5)) = some i → (Value.ownBlock (.slice (some ⟨W2.heap.size, 0, none⟩) 0 0)) = some j → i ≠ j) := hid (fun i j hi hj e => by obtain ⟨y, hy, rfl⟩ := slice_own hi; rcases hat5 y hy with h | h; exact HNE.out _ _ h hj e; have h1 := own_lt hB hj; omega); replace hC := own_beside hC hg5 (fun k hk e => own_ne hC hA (by decide) hk e.symm rfl); replace hB := own_beside hB hg5 (fun k hk e => HNE.out _ _ e.symm hk rfl); replace HNE := HNE2; clear HNE2; replace hR := hR.blk (hg5.block fb HFL.out (fun e => by simp only [Value.ownBlock, Option.some.injEq] at e; have h1 := HGhA.out; omega)); have HZ5 : Hid (W3.heap.size ≤ W4.heap.size) := hid hg5.size; replace HFL : Hid (fb < W4.heap.size) := hid (Nat.lt_of_lt_of_le HFL.out HZ5.out); replace hBW := hBW.grown hg5 hBW.size (fun k hk => by simp only [Value.ownBlock, Option.some.injEq] at hk; omega); clear hat5 hg5 hA HGhA
              refine hK.out _ _ hR (fun hHeld => ?_)
              clear hK K
              (try simp only [Act.put, List.setIfInBounds_toArray, List.set_cons_zero, List.set_cons_succ])
              refine wpAnyK_ready (rs := [9]) (by kernel_rfl) (by simp) ?_
              refine AllReadyK.cons (op_at _ 9 _ rfl) (fun K hK => ?_) AllReadyK.nil
              refine step_app rfl (.tmp 42) (.tmp 44) el66 rfl (.slice (some ⟨W2.heap.size, 0, none⟩) 0 0) 0 [] rfl hB R.B0.aS LO0 R.B0.cS R.B0.us rfl (src_row (own_later RS.out hBW) HUS.out) (by omega) ?_; simp only [Nat.zero_add, List.nil_append]; intro a9 c9 W5 ho9 hg9 hat9; have hll9 := hBW.size; have hgl9 := hlW3; have ha9 : ∀ a, a9 = some a → wr.heap.size ≤ a.block := (fun a ha => by rcases hat9 a ha with h | h; simp only [Value.ownBlock, Option.some.injEq] at h; omega; omega); have HNE2 : Hid (∀ i j, (Value.ownBlock (.slice a5 LN0 c5)) = some i → (Value.ownBlock (.slice a9 LO0 c9)) = some j → i ≠ j) := hid (fun i j hi hj e => by obtain ⟨y, hy, rfl⟩ := slice_own hj; rcases hat9 y hy with h | h; exact HNE.out _ _ hi h e; have h1 := own_lt ho5 hi; omega); replace hC := own_beside hC hg9 (fun k hk e => own_ne hC hB (by decide) hk e.symm rfl); replace ho5 := own_beside ho5 hg9 (fun k hk e => HNE.out _ _ hk e.symm rfl); replace HNE := HNE2; clear HNE2; replace hR := hR.blk (hg9.block fb HFL.out (fun e => by simp only [Value.ownBlock, Option.some.injEq] at e; have h1 := HGhB.out; omega)); have HZ9 : Hid (W4.heap.size ≤ W5.heap.size) := hid hg9.size; replace HFL : Hid (fb < W5.heap.size) := hid (Nat.lt_of_lt_of_le HFL.out HZ9.out); replace hBW := hBW.grown hg9 hBW.size (fun k hk => by simp only [Value.ownBlock, Option.some.injEq] at hk; omega); clear hat9 hg9 hB HGhB
              refine hK.out _ _ hR (fun hHeld => ?_)
              clear hK K
              (try simp only [Act.put, List.setIfInBounds_toArray, List.set_cons_zero, List.set_cons_succ])
              refine wpAnyK_ready (rs := [13]) (by kernel_rfl) (by simp) ?_
              refine AllReadyK.cons (op_at _ 13 _ rfl) (fun K hK => ?_) AllReadyK.nil
              refine step_app rfl (.tmp 46) (.tmp 48) el30 rfl (.slice (some ⟨W1.heap.size, 0, none⟩) 0 0) 0 [] rfl hC R.B0.aD LD0 R.B0.cD (vb d.f0.dirt) rfl (src_row (own_later RD.out hBW) (vb_one _)) (by omega) ?_; simp only [Nat.zero_add, List.nil_append]; intro a13 c13 W6 ho13 hg13 hat13; have hll13 := hBW.size; have hgl13 := hlW2; have ha13 : ∀ a, a13 = some a → wr.heap.size ≤ a.block := (fun a ha => by rcases hat13 a ha with h | h; simp only [Value.ownBlock, Option.some.injEq] at h; omega; omega); replace ho5 := own_beside ho5 hg13 (fun k hk e => own_ne ho5 hC (by decide) hk e.symm rfl); replace ho9 := own_beside ho9 hg13 (fun k hk e => own_ne ho9 hC (by decide) hk e.symm rfl); replace hR := hR.blk (hg13.block fb HFL.out (fun e => by simp only [Value.ownBlock, Option.some.injEq] at e; have h1 := HGhC.out; omega)); have HZ13 : Hid (W5.heap.size ≤ W6.heap.size) := hid hg13.size; replace HFL : Hid (fb < W6.heap.size) := hid (Nat.lt_of_lt_of_le HFL.out HZ13.out); replace hBW := hBW.grown hg13 hBW.size (fun k hk => by simp only [Value.ownBlock, Option.some.injEq] at hk; omega); clear hat13 hg13 hC HGhC
              refine hK.out _ _ hR (fun hHeld => ?_)
              clear hK K
              (try simp only [Act.put, List.setIfInBounds_toArray, List.set_cons_zero, List.set_cons_succ])
              refine wpAnyK_pure (i := 14) (v := ?_) (op_at _ 14 _ rfl) (by kernel_rfl) (by kernel_rfl) (by kernel_rfl) (by kernel_rfl) (fun _ _ _ h => h) (Or.inl ⟨by rfl, ?_⟩) (Or.inl (by assumption)) ?_
              rotate_left 1
              focus (intro W hSw; go_simp; first | done | with_reducible rfl)
              (try simp only [Act.put, List.setIfInBounds_toArray, List.set_cons_zero, List.set_cons_succ])
              refine wpAnyK_pure (i := 17) (v := ?_) (op_at _ 17 _ rfl) (by kernel_rfl) (by kernel_rfl) (by kernel_rfl) (by kernel_rfl) (fun _ _ _ h => h) (Or.inl ⟨by rfl, ?_⟩) (Or.inl (by assumption)) ?_
              rotate_left 1
              focus (intro W hSw; go_simp; first | done | with_reducible rfl)
              (try simp only [Act.put, List.setIfInBounds_toArray, List.set_cons_zero, List.set_cons_succ])
              obtain ⟨v0, v1, v2, y0, y1, y2, z0, z1, z2⟩ := hI.out.cells (o := 1) hBW hqr (by omega) (by omega)
              refine wpAnyK_ready (rs := [18]) (by kernel_rfl) (by simp) ?_
              refine AllReadyK.cons (op_at _ 18 _ rfl) (fun K hK => ?_) AllReadyK.nil
              go_simp
              have hR2 : Rd3 fb (.slice R.B0.aN LN0 R.B0.cN) (.slice R.B0.aS LO0 R.B0.cS) (.slice R.B0.aD LD0 R.B0.cD) ((((W6).setCell ⟨q, 1, none⟩ (.slice a5 LN0 c5)).setCell ⟨q, 1 + 1, none⟩ (.slice a9 LO0 c9)).setCell ⟨q, 1 + 2, none⟩ (.slice a13 LD0 c13)) := hR.blk (set3_heap _ _ _ _ _ _ _ hfq); replace hR := hR2; clear hR2
              refine hK.out _ _ hR (fun hHeld => ?_)
              clear hK K
              (try simp only [Act.put, List.setIfInBounds_toArray, List.set_cons_zero, List.set_cons_succ])
              refine wpAnyK_done (by kernel_rfl) ?_ _
              go_wp2
              go_roundg 1
              case measure => omega
              case rel => exact ⟨1, _, _, _, rfl, rfl, hid (cp_0 hI.out HR1.out hq1 HRQ.out.1 HRQ.out.2 hBW ELN0.out ELO0.out ELD0.out ho5 ho9 ho13 ha5 ha9 ha13 (fun a b ha hb => HNE.out _ _ (by rw [ha]; rfl) (by rw [hb]; rfl)))⟩
            exact AllReadyK.nil
          exact AllReadyK.nil
        refine AllReadyK.cons (op_at _ 6 _ rfl) (fun K hK => ?_) ?_
        · as_aux_lemma =>
          go_simp
          obtain ⟨W1, hW1⟩ : ∃ W', W' = W0.alloc (.cells #[] 37) := ⟨_, rfl⟩; rw [← hW1]; have hbW1 := (alloc_is hW1).1; have hlW1 := hBW.size; have HSW1 := hid (alloc_is hW1).2; have hB : W1.ownsRow 0 37 1 (.slice (some ⟨W0.heap.size, 0, none⟩) 0 0) 0 [] := (by rw [hW1]; exact World.ownsRow_made W0 #[] 0 (Nat.zero_le _) (by decide) rfl); have HGhB : Hid (fb < W0.heap.size) := hid HFL.out; replace hR := hR.blk (hbW1.block fb HFL.out); replace hBW := hBW.trans (hbW1.mono hBW.size); replace HFL : Hid (fb < W1.heap.size) := hid (by have h1 := HFL.out; have h2 := HSW1.out; omega); clear hW1
          refine hK.out _ _ hR (fun hHeld => ?_)
          clear hK K
          (try simp only [Act.put, List.setIfInBounds_toArray, List.set_cons_zero, List.set_cons_succ])
          refine wpAnyK_ready (rs := [2, 10]) (by kernel_rfl) (by simp) ?_
          refine AllReadyK.cons (op_at _ 2 _ rfl) (fun K hK => ?_) ?_
          · as_aux_lemma =>
            go_simp
            obtain ⟨W2, hW2⟩ : ∃ W', W' = W1.alloc (.cells #[] 37) := ⟨_, rfl⟩; rw [← hW2]; have hbW2 := (alloc_is hW2).1; have hlW2 := hBW.size; have HSW2 := hid (alloc_is hW2).2; have HNE : Hid (∀ i j, (Value.ownBlock (.slice (some ⟨W1.heap.size, 0, none⟩) 0 0)) = some i → (Value.ownBlock (.slice (some ⟨W0.heap.size, 0, none⟩) 0 0)) = some j → i ≠ j) := hid (fun i j hi hj e => by have h1 := own_lt hB hj; simp only [Value.ownBlock, Option.some.injEq] at hi; omega); replace hB := own_later hB hbW2; have hA : W2.ownsRow 0 37 1 (.slice (some ⟨W1.heap.size, 0, none⟩) 0 0) 0 [] := (by rw [hW2]; exact World.ownsRow_made W1 #[] 0 (Nat.zero_le _) (by decide) rfl); have HGhA : Hid (fb < W1.heap.size) := hid HFL.out; replace hR := hR.blk (hbW2.block fb HFL.out); replace hBW := hBW.trans (hbW2.mono hBW.size); replace HFL : Hid (fb < W2.heap.size) := hid (by have h1 := HFL.out; have h2 := HSW2.out; omega); clear hW2
            refine hK.out _ _ hR (fun hHeld => ?_)
            clear hK K
            (try simp only [Act.put, List.setIfInBounds_toArray, List.set_cons_zero, List.set_cons_succ])
            refine wpAnyK_ready (rs := [5, 10]) (by kernel_rfl) (by simp) ?_
            refine AllReadyK.cons (op_at _ 5 _ rfl) (fun K hK => ?_) ?_
            · as_aux_lemma =>
              refine step_app rfl (.tmp 38) (.tmp 40) el66 rfl (.slice (some ⟨W1.heap.size, 0, none⟩) 0 0) 0 [] rfl hA R.B0.aN LN0 R.B0.cN R.B0.vs rfl (src_row (own_later RN.out hBW) HVS.out) (by omega) ?_; simp only [Nat.zero_add, List.nil_append]; intro a5 c5 W3 ho5 hg5 hat5; have hll5 := hBW.size; have hgl5 := hlW2; have ha5 : ∀ a, a5 = some a → wr.heap.size ≤ a.block := (fun a ha => by rcases hat5 a ha with h | h; simp only [Value.ownBlock, Option.some.injEq] at h; omega; omega); have HNE2 : Hid (∀ i j, (Value.ownBlock (.slice a5 LN0 c5)) = some i → (Value.ownBlock (.slice (some ⟨W0.heap.size, 0, none⟩) 0 0)) = some j → i ≠ j) := hid (fun i j hi hj e => by obtain ⟨y, hy, rfl⟩ := slice_own hi; rcases hat5 y hy with h | h; exact HNE.out _ _ h hj e; have h1 := own_lt hB hj; omega); replace hB := own_beside hB hg5 (fun k hk e => HNE.out _ _ e.symm hk rfl); replace HNE := HNE2; clear HNE2; replace hR := hR.blk (hg5.block fb HFL.out (fun e => by simp only [Value.ownBlock, Option.some.injEq] at e; have h1 := HGhA.out; omega)); have HZ5 : Hid (W2.heap.size ≤ W3.heap.size) := hid hg5.size; replace HFL : Hid (fb < W3.heap.size) := hid (Nat.lt_of_lt_of_le HFL.out HZ5.out); replace hBW := hBW.grown hg5 hBW.size (fun k hk => by simp only [Value.ownBlock, Option.some.injEq] at hk; omega); clear hat5 hg5 hA HGhA
              refine hK.out _ _ hR (fun hHeld => ?_)
              clear hK K
              (try simp only [Act.put, List.setIfInBounds_toArray, List.set_cons_zero, List.set_cons_succ])
              refine wpAnyK_ready (rs := [9, 10]) (by kernel_rfl) (by simp) ?_
              refine AllReadyK.cons (op_at _ 9 _ rfl) (fun K hK => ?_) ?_
              · as_aux_lemma =>
                refine step_app rfl (.tmp 42) (.tmp 44) el66 rfl (.slice (some ⟨W0.heap.size, 0, none⟩) 0 0) 0 [] rfl hB R.B0.aS LO0 R.B0.cS R.B0.us rfl (src_row (own_later RS.out hBW) HUS.out) (by omega) ?_; simp only [Nat.zero_add, List.nil_append]; intro a9 c9 W4 ho9 hg9 hat9; have hll9 := hBW.size; have hgl9 := hlW1; have ha9 : ∀ a, a9 = some a → wr.heap.size ≤ a.block := (fun a ha => by rcases hat9 a ha with h | h; simp only [Value.ownBlock, Option.some.injEq] at h; omega; omega); have HNE2 : Hid (∀ i j, (Value.ownBlock (.slice a5 LN0 c5)) = some i → (Value.ownBlock (.slice a9 LO0 c9)) = some j → i ≠ j) := hid (fun i j hi hj e => by obtain ⟨y, hy, rfl⟩ := slice_own hj; rcases hat9 y hy with h | h; exact HNE.out _ _ hi h e; have h1 := own_lt ho5 hi; omega); replace ho5 := own_beside ho5 hg9 (fun k hk e => HNE.out _ _ hk e.symm rfl); replace HNE := HNE2; clear HNE2; replace hR := hR.blk (hg9.block fb HFL.out (fun e => by simp only [Value.ownBlock, Option.some.injEq] at e; have h1 := HGhB.out; omega)); have HZ9 : Hid (W3.heap.size ≤ W4.heap.size) := hid hg9.size; replace HFL : Hid (fb < W4.heap.size) := hid (Nat.lt_of_lt_of_le HFL.out HZ9.out); replace hBW := hBW.grown hg9 hBW.size (fun k hk => by simp only [Value.ownBlock, Option.some.injEq] at hk; omega); clear hat9 hg9 hB HGhB
                refine hK.out _ _ hR (fun hHeld => ?_)
                clear hK K
                (try simp only [Act.put, List.setIfInBounds_toArray, List.set_cons_zero, List.set_cons_succ])
                refine wpAnyK_ready (rs := [10]) (by kernel_rfl) (by simp) ?_
                refine AllReadyK.cons (op_at _ 10 _ rfl) (fun K hK => ?_) AllReadyK.nil
                go_simp
                obtain ⟨W5, hW5⟩ : ∃ W', W' = W4.alloc (.cells #[] 4) := ⟨_, rfl⟩; rw [← hW5]; have hbW5 := (alloc_is hW5).1; have hlW5 := hBW.size; have HSW5 := hid (alloc_is hW5).2; replace ho5 := own_later ho5 hbW5; replace ho9 := own_later ho9 hbW5; have hC : W5.ownsRow 0 4 1 (.slice (some ⟨W4.heap.size, 0, none⟩) 0 0) 0 [] := (by rw [hW5]; exact World.ownsRow_made W4 #[] 0 (Nat.zero_le _) (by decide) rfl); have HGhC : Hid (fb < W4.heap.size) := hid HFL.out; replace hR := hR.blk (hbW5.block fb HFL.out); replace hBW := hBW.trans (hbW5.mono hBW.size); replace HFL : Hid (fb < W5.heap.size) := hid (by have h1 := HFL.out; have h2 := HSW5.out; omega); clear hW5
                refine hK.out _ _ hR (fun hHeld => ?_)
                clear hK K
                (try simp only [Act.put, List.setIfInBounds_toArray, List.set_cons_zero, List.set_cons_succ])
                refine wpAnyK_ready (rs := [13]) (by kernel_rfl) (by simp) ?_
                refine AllReadyK.cons (op_at _ 13 _ rfl) (fun K hK => ?_) AllReadyK.nil
                refine step_app rfl (.tmp 46) (.tmp 48) el30 rfl (.slice (some ⟨W4.heap.size, 0, none⟩) 0 0) 0 [] rfl hC R.B0.aD LD0 R.B0.cD (vb d.f0.dirt) rfl (src_row (own_later RD.out hBW) (vb_one _)) (by omega) ?_; simp only [Nat.zero_add, List.nil_append]; intro a13 c13 W6 ho13 hg13 hat13; have hll13 := hBW.size; have hgl13 := hlW5; have ha13 : ∀ a, a13 = some a → wr.heap.size ≤ a.block := (fun a ha => by rcases hat13 a ha with h | h; simp only [Value.ownBlock, Option.some.injEq] at h; omega; omega); replace ho5 := own_beside ho5 hg13 (fun k hk e => own_ne ho5 hC (by decide) hk e.symm rfl); replace ho9 := own_beside ho9 hg13 (fun k hk e => own_ne ho9 hC (by decide) hk e.symm rfl); replace hR := hR.blk (hg13.block fb HFL.out (fun e => by simp only [Value.ownBlock, Option.some.injEq] at e; have h1 := HGhC.out; omega)); have HZ13 : Hid (W5.heap.size ≤ W6.heap.size) := hid hg13.size; replace HFL : Hid (fb < W6.heap.size) := hid (Nat.lt_of_lt_of_le HFL.out HZ13.out); replace hBW := hBW.grown hg13 hBW.size (fun k hk => by simp only [Value.ownBlock, Option.some.injEq] at hk; omega); clear hat13 hg13 hC HGhC
                refine hK.out _ _ hR (fun hHeld => ?_)
                clear hK K
                (try simp only [Act.put, List.setIfInBounds_toArray, List.set_cons_zero, List.set_cons_succ])
                refine wpAnyK_pure (i := 14) (v := ?_) (op_at _ 14 _ rfl) (by kernel_rfl) (by kernel_rfl) (by kernel_rfl) (by kernel_rfl) (fun _ _ _ h => h) (Or.inl ⟨by rfl, ?_⟩) (Or.inl (by assumption)) ?_
                rotate_left 1
                focus (intro W hSw; go_simp; first | done | with_reducible rfl)
                (try simp only [Act.put, List.setIfInBounds_toArray, List.set_cons_zero, List.set_cons_succ])
                refine wpAnyK_pure (i := 17) (v := ?_) (op_at _ 17 _ rfl) (by kernel_rfl) (by kernel_rfl) (by kernel_rfl) (by kernel_rfl) (fun _ _ _ h => h) (Or.inl ⟨by rfl, ?_⟩) (Or.inl (by assumption)) ?_
                rotate_left 1
                focus (intro W hSw; go_simp; first | done | with_reducible rfl)
                (try simp only [Act.put, List.setIfInBounds_toArray, List.set_cons_zero, List.set_cons_succ])
                obtain ⟨v0, v1, v2, y0, y1, y2, z0, z1, z2⟩ := hI.out.cells (o := 1) hBW hqr (by omega) (by omega)
                refine wpAnyK_ready (rs := [18]) (by kernel_rfl) (by simp) ?_
                refine AllReadyK.cons (op_at _ 18 _ rfl) (fun K hK => ?_) AllReadyK.nil
                go_simp
                have hR2 : Rd3 fb (.slice R.B0.aN LN0 R.B0.cN) (.slice R.B0.aS LO0 R.B0.cS) (.slice R.B0.aD LD0 R.B0.cD) ((((W6).setCell ⟨q, 1, none⟩ (.slice a5 LN0 c5)).setCell ⟨q, 1 + 1, none⟩ (.slice a9 LO0 c9)).setCell ⟨q, 1 + 2, none⟩ (.slice a13 LD0 c13)) := hR.blk (set3_heap _ _ _ _ _ _ _ hfq); replace hR := hR2; clear hR2
                refine hK.out _ _ hR (fun hHeld => ?_)
                clear hK K
                (try simp only [Act.put, List.setIfInBounds_toArray, List.set_cons_zero, List.set_cons_succ])
                refine wpAnyK_done (by kernel_rfl) ?_ _
                go_wp2
                go_roundg 1
                case measure => omega
                case rel => exact ⟨1, _, _, _, rfl, rfl, hid (cp_0 hI.out HR1.out hq1 HRQ.out.1 HRQ.out.2 hBW ELN0.out ELO0.out ELD0.out ho5 ho9 ho13 ha5 ha9 ha13 (fun a b ha hb => HNE.out _ _ (by rw [ha]; rfl) (by rw [hb]; rfl)))⟩
              refine AllReadyK.cons (op_at _ 10 _ rfl) (fun K hK => ?_) ?_
              · as_aux_lemma =>
                go_simp
                obtain ⟨W4, hW4⟩ : ∃ W', W' = W3.alloc (.cells #[] 4) := ⟨_, rfl⟩; rw [← hW4]; have hbW4 := (alloc_is hW4).1; have hlW4 := hBW.size; have HSW4 := hid (alloc_is hW4).2; replace hB := own_later hB hbW4; replace ho5 := own_later ho5 hbW4; have hC : W4.ownsRow 0 4 1 (.slice (some ⟨W3.heap.size, 0, none⟩) 0 0) 0 [] := (by rw [hW4]; exact World.ownsRow_made W3 #[] 0 (Nat.zero_le _) (by decide) rfl); have HGhC : Hid (fb < W3.heap.size) := hid HFL.out; replace hR := hR.blk (hbW4.block fb HFL.out); replace hBW := hBW.trans (hbW4.mono hBW.size); replace HFL : Hid (fb < W4.heap.size) := hid (by have h1 := HFL.out; have h2 := HSW4.out; omega); clear hW4
                refine hK.out _ _ hR (fun hHeld => ?_)
                clear hK K
                (try simp only [Act.put, List.setIfInBounds_toArray, List.set_cons_zero, List.set_cons_succ])
                refine wpAnyK_ready (rs := [9]) (by kernel_rfl) (by simp) ?_
                refine AllReadyK.cons (op_at _ 9 _ rfl) (fun K hK => ?_) AllReadyK.nil
                refine step_app rfl (.tmp 42) (.tmp 44) el66 rfl (.slice (some ⟨W0.heap.size, 0, none⟩) 0 0) 0 [] rfl hB R.B0.aS LO0 R.B0.cS R.B0.us rfl (src_row (own_later RS.out hBW) HUS.out) (by omega) ?_; simp only [Nat.zero_add, List.nil_append]; intro a9 c9 W5 ho9 hg9 hat9; have hll9 := hBW.size; have hgl9 := hlW1; have ha9 : ∀ a, a9 = some a → wr.heap.size ≤ a.block := (fun a ha => by rcases hat9 a ha with h | h; simp only [Value.ownBlock, Option.some.injEq] at h; omega; omega); have HNE2 : Hid (∀ i j, (Value.ownBlock (.slice a5 LN0 c5)) = some i → (Value.ownBlock (.slice a9 LO0 c9)) = some j → i ≠ j) := hid (fun i j hi hj e => by obtain ⟨y, hy, rfl⟩ := slice_own hj; rcases hat9 y hy with h | h; exact HNE.out _ _ hi h e; have h1 := own_lt ho5 hi; omega); replace ho5 := own_beside ho5 hg9 (fun k hk e => HNE.out _ _ hk e.symm rfl); replace hC := own_beside hC hg9 (fun k hk e => own_ne hC hB (by decide) hk e.symm rfl); replace HNE := HNE2; clear HNE2; replace hR := hR.blk (hg9.block fb HFL.out (fun e => by simp only [Value.ownBlock, Option.some.injEq] at e; have h1 := HGhB.out; omega)); have HZ9 : Hid (W4.heap.size ≤ W5.heap.size) := hid hg9.size; replace HFL : Hid (fb < W5.heap.size) := hid (Nat.lt_of_lt_of_le HFL.out HZ9.out); replace hBW := hBW.grown hg9 hBW.size (fun k hk => by simp only [Value.ownBlock, Option.some.injEq] at hk; omega); clear hat9 hg9 hB HGhB
                refine hK.out _ _ hR (fun hHeld => ?_)
                clear hK K
                (try simp only [Act.put, List.setIfInBounds_toArray, List.set_cons_zero, List.set_cons_succ])
                refine wpAnyK_ready (rs := [13]) (by kernel_rfl) (by simp) ?_
                refine AllReadyK.cons (op_at _ 13 _ rfl) (fun K hK => ?_) AllReadyK.nil
                refine step_app rfl (.tmp 46) (.tmp 48) el30 rfl (.slice (some ⟨W3.heap.size, 0, none⟩) 0 0) 0 [] rfl hC R.B0.aD LD0 R.B0.cD (vb d.f0.dirt) rfl (src_row (own_later RD.out hBW) (vb_one _)) (by omega) ?_; simp only [Nat.zero_add, List.nil_append]; intro a13 c13 W6 ho13 hg13 hat13; have hll13 := hBW.size; have hgl13 := hlW4; have ha13 : ∀ a, a13 = some a → wr.heap.size ≤ a.block := (fun a ha => by rcases hat13 a ha with h | h; simp only [Value.ownBlock, Option.some.injEq] at h; omega; omega); replace ho5 := own_beside ho5 hg13 (fun k hk e => own_ne ho5 hC (by decide) hk e.symm rfl); replace ho9 := own_beside ho9 hg13 (fun k hk e => own_ne ho9 hC (by decide) hk e.symm rfl); replace hR := hR.blk (hg13.block fb HFL.out (fun e => by simp only [Value.ownBlock, Option.some.injEq] at e; have h1 := HGhC.out; omega)); have HZ13 : Hid (W5.heap.size ≤ W6.heap.size) := hid hg13.size; replace HFL : Hid (fb < W6.heap.size) := hid (Nat.lt_of_lt_of_le HFL.out HZ13.out); replace hBW := hBW.grown hg13 hBW.size (fun k hk => by simp only [Value.ownBlock, Option.some.injEq] at hk; omega); clear hat13 hg13 hC HGhC
                refine hK.out _ _ hR (fun hHeld => ?_)
                clear hK K
                (try simp only [Act.put, List.setIfInBounds_toArray, List.set_cons_zero, List.set_cons_succ])
                refine wpAnyK_pure (i := 14) (v := ?_) (op_at _ 14 _ rfl) (by kernel_rfl) (by kernel_rfl) (by kernel_rfl) (by kernel_rfl) (fun _ _ _ h => h) (Or.inl ⟨by rfl, ?_⟩) (Or.inl (by assumption)) ?_
                rotate_left 1
                focus (intro W hSw; go_simp; first | done | with_reducible rfl)
                (try simp only [Act.put, List.setIfInBounds_toArray, List.set_cons_zero, List.set_cons_succ])
                refine wpAnyK_pure (i := 17) (v := ?_) (op_at _ 17 _ rfl) (by kernel_rfl) (by kernel_rfl) (by kernel_rfl) (by kernel_rfl) (fun _ _ _ h => h) (Or.inl ⟨by rfl, ?_⟩) (Or.inl (by assumption)) ?_
                rotate_left 1
                focus (intro W hSw; go_simp; first | done | with_reducible rfl)
                (try simp only [Act.put, List.setIfInBounds_toArray, List.set_cons_zero, List.set_cons_succ])
                obtain ⟨v0, v1, v2, y0, y1, y2, z0, z1, z2⟩ := hI.out.cells (o := 1) hBW hqr (by omega) (by omega)
                refine wpAnyK_ready (rs := [18]) (by kernel_rfl) (by simp) ?_
                refine AllReadyK.cons (op_at _ 18 _ rfl) (fun K hK => ?_) AllReadyK.nil
                go_simp
                have hR2 : Rd3 fb (.slice R.B0.aN LN0 R.B0.cN) (.slice R.B0.aS LO0 R.B0.cS) (.slice R.B0.aD LD0 R.B0.cD) ((((W6).setCell ⟨q, 1, none⟩ (.slice a5 LN0 c5)).setCell ⟨q, 1 + 1, none⟩ (.slice a9 LO0 c9)).setCell ⟨q, 1 + 2, none⟩ (.slice a13 LD0 c13)) := hR.blk (set3_heap _ _ _ _ _ _ _ hfq); replace hR := hR2; clear hR2
                refine hK.out _ _ hR (fun hHeld => ?_)
                clear hK K
                (try simp only [Act.put, List.setIfInBounds_toArray, List.set_cons_zero, List.set_cons_succ])
                refine wpAnyK_done (by kernel_rfl) ?_ _
                go_wp2
                go_roundg 1
                case measure => omega
                case rel => exact ⟨1, _, _, _, rfl, rfl, hid (cp_0 hI.out HR1.out hq1 HRQ.out.1 HRQ.out.2 hBW ELN0.out ELO0.out ELD0.out ho5 ho9 ho13 ha5 ha9 ha13 (fun a b ha hb => HNE.out _ _ (by rw [ha]; rfl) (by rw [hb]; rfl)))⟩
              exact AllReadyK.nil
            refine AllReadyK.cons (op_at _ 10 _ rfl) (fun K hK => ?_) ?_
            · as_aux_lemma =>
              go_simp
              obtain ⟨W3, hW3⟩ : ∃ W', W' = W2.alloc (.cells #[] 4) := ⟨_, rfl⟩; rw [← hW3]; have hbW3 := (alloc_is hW3).1; have hlW3 := hBW.size; have HSW3 := hid (alloc_is hW3).2; replace hB := own_later hB hbW3; replace hA := own_later hA hbW3; have hC : W3.ownsRow 0 4 1 (.slice (some ⟨W2.heap.size, 0, none⟩) 0 0) 0 [] := (by rw [hW3]; exact World.ownsRow_made W2 #[] 0 (Nat.zero_le _) (by decide) rfl); have HGhC : Hid (fb < W2.heap.size) := hid HFL.out; replace hR := hR.blk (hbW3.block fb HFL.out); replace hBW := hBW.trans (hbW3.mono hBW.size); replace HFL : Hid (fb < W3.heap.size) := hid (by have h1 := HFL.out; have h2 := HSW3.out; omega); clear hW3
              refine hK.out _ _ hR (fun hHeld => ?_)
              clear hK K
              (try simp only [Act.put, List.setIfInBounds_toArray, List.set_cons_zero, List.set_cons_succ])
              refine wpAnyK_ready (rs := [5]) (by kernel_rfl) (by simp) ?_
              refine AllReadyK.cons (op_at _ 5 _ rfl) (fun K hK => ?_) AllReadyK.nil
              refine step_app rfl (.tmp 38) (.tmp 40) el66 rfl (.slice (some ⟨W1.heap.size, 0, none⟩) 0 0) 0 [] rfl hA R.B0.aN LN0 R.B0.cN R.B0.vs rfl (src_row (own_later RN.out hBW) HVS.out) (by omega) ?_; simp only [Nat.zero_add, List.nil_append]; intro a5 c5 W4 ho5 hg5 hat5; have hll5 := hBW.size; have hgl5 := hlW2; have ha5 : ∀ a, a5 = some a → wr.heap.size ≤ a.block := (fun a ha => by rcases hat5 a ha with h | h; simp only [Value.ownBlock, Option.some.injEq] at h; omega; omega); have HNE2 : Hid (∀ i j, (Value.ownBlock (.slice a5 LN0 c5)) = some i → (Value.ownBlock (.slice (some ⟨W0.heap.size, 0, none⟩) 0 0)) = some j → i ≠ j) := hid (fun i j hi hj e => by obtain ⟨y, hy, rfl⟩ := slice_own hi; rcases hat5 y hy with h | h; exact HNE.out _ _ h hj e; have h1 := own_lt hB hj; omega); replace hB := own_beside hB hg5 (fun k hk e => HNE.out _ _ e.symm hk rfl); replace hC := own_beside hC hg5 (fun k hk e => own_ne hC hA (by decide) hk e.symm rfl); replace HNE := HNE2; clear HNE2; replace hR := hR.blk (hg5.block fb HFL.out (fun e => by simp only [Value.ownBlock, Option.some.injEq] at e; have h1 := HGhA.out; omega)); have HZ5 : Hid (W3.heap.size ≤ W4.heap.size) := hid hg5.size; replace HFL : Hid (fb < W4.heap.size) := hid (Nat.lt_of_lt_of_le HFL.out HZ5.out); replace hBW := hBW.grown hg5 hBW.size (fun k hk => by simp only [Value.ownBlock, Option.some.injEq] at hk; omega); clear hat5 hg5 hA HGhA
              refine hK.out _ _ hR (fun hHeld => ?_)
              clear hK K
              (try simp only [Act.put, List.setIfInBounds_toArray, List.set_cons_zero, List.set_cons_succ])
              refine wpAnyK_ready (rs := [9]) (by kernel_rfl) (by simp) ?_
              refine AllReadyK.cons (op_at _ 9 _ rfl) (fun K hK => ?_) AllReadyK.nil
              refine step_app rfl (.tmp 42) (.tmp 44) el66 rfl (.slice (some ⟨W0.heap.size, 0, none⟩) 0 0) 0 [] rfl hB R.B0.aS LO0 R.B0.cS R.B0.us rfl (src_row (own_later RS.out hBW) HUS.out) (by omega) ?_; simp only [Nat.zero_add, List.nil_append]; intro a9 c9 W5 ho9 hg9 hat9; have hll9 := hBW.size; have hgl9 := hlW1; have ha9 : ∀ a, a9 = some a → wr.heap.size ≤ a.block := (fun a ha => by rcases hat9 a ha with h | h; simp only [Value.ownBlock, Option.some.injEq] at h; omega; omega); have HNE2 : Hid (∀ i j, (Value.ownBlock (.slice a5 LN0 c5)) = some i → (Value.ownBlock (.slice a9 LO0 c9)) = some j → i ≠ j) := hid (fun i j hi hj e => by obtain ⟨y, hy, rfl⟩ := slice_own hj; rcases hat9 y hy with h | h; exact HNE.out _ _ hi h e; have h1 := own_lt ho5 hi; omega); replace hC := own_beside hC hg9 (fun k hk e => own_ne hC hB (by decide) hk e.symm rfl); replace ho5 := own_beside ho5 hg9 (fun k hk e => HNE.out _ _ hk e.symm rfl); replace HNE := HNE2; clear HNE2; replace hR := hR.blk (hg9.block fb HFL.out (fun e => by simp only [Value.ownBlock, Option.some.injEq] at e; have h1 := HGhB.out; omega)); have HZ9 : Hid (W4.heap.size ≤ W5.heap.size) := hid hg9.size; replace HFL : Hid (fb < W5.heap.size) := hid (Nat.lt_of_lt_of_le HFL.out HZ9.out); replace hBW := hBW.grown hg9 hBW.size (fun k hk => by simp only [Value.ownBlock, Option.some.injEq] at hk; omega); clear hat9 hg9 hB HGhB
              refine hK.out _ _ hR (fun hHeld => ?_)
              clear hK K
              (try simp only [Act.put, List.setIfInBounds_toArray, List.set_cons_zero, List.set_cons_succ])
              refine wpAnyK_ready (rs := [13]) (by kernel_rfl) (by simp) ?_
              refine AllReadyK.cons (op_at _ 13 _ rfl) (fun K hK => ?_) AllReadyK.nil
              refine step_app rfl (.tmp 46) (.tmp 48) el30 rfl (.slice (some ⟨W2.heap.size, 0, none⟩) 0 0) 0 [] rfl hC R.B0.aD LD0 R.B0.cD (vb d.f0.dirt) rfl (src_row (own_later RD.out hBW) (vb_one _)) (by omega) ?_; simp only [Nat.zero_add, List.nil_append]; intro a13 c13 W6 ho13 hg13 hat13; have hll13 := hBW.size; have hgl13 := hlW3; have ha13 : ∀ a, a13 = some a → wr.heap.size ≤ a.block := (fun a ha => by rcases hat13 a ha with h | h; simp only [Value.ownBlock, Option.some.injEq] at h; omega; omega); replace ho5 := own_beside ho5 hg13 (fun k hk e => own_ne ho5 hC (by decide) hk e.symm rfl); replace ho9 := own_beside ho9 hg13 (fun k hk e => own_ne ho9 hC (by decide) hk e.symm rfl); replace hR := hR.blk (hg13.block fb HFL.out (fun e => by simp only [Value.ownBlock, Option.some.injEq] at e; have h1 := HGhC.out; omega)); have HZ13 : Hid (W5.heap.size ≤ W6.heap.size) := hid hg13.size; replace HFL : Hid (fb < W6.heap.size) := hid (Nat.lt_of_lt_of_le HFL.out HZ13.out); replace hBW := hBW.grown hg13 hBW.size (fun k hk => by simp only [Value.ownBlock, Option.some.injEq] at hk; omega); clear hat13 hg13 hC HGhC
              refine hK.out _ _ hR (fun hHeld => ?_)
              clear hK K
              (try simp only [Act.put, List.setIfInBounds_toArray, List.set_cons_zero, List.set_cons_succ])
              refine wpAnyK_pure (i := 14) (v := ?_) (op_at _ 14 _ rfl) (by kernel_rfl) (by kernel_rfl) (by kernel_rfl) (by kernel_rfl) (fun _ _ _ h => h) (Or.inl ⟨by rfl, ?_⟩) (Or.inl (by assumption)) ?_
              rotate_left 1
              focus (intro W hSw; go_simp; first | done | with_reducible rfl)
              (try simp only [Act.put, List.setIfInBounds_toArray, List.set_cons_zero, List.set_cons_succ])
              refine wpAnyK_pure (i := 17) (v := ?_) (op_at _ 17 _ rfl) (by kernel_rfl) (by kernel_rfl) (by kernel_rfl) (by kernel_rfl) (fun _ _ _ h => h) (Or.inl ⟨by rfl, ?_⟩) (Or.inl (by assumption)) ?_
              rotate_left 1
              focus (intro W hSw; go_simp; first | done | with_reducible rfl)
              (try simp only [Act.put, List.setIfInBounds_toArray, List.set_cons_zero, List.set_cons_succ])
              obtain ⟨v0, v1, v2, y0, y1, y2, z0, z1, z2⟩ := hI.out.cells (o := 1) hBW hqr (by omega) (by omega)
              refine wpAnyK_ready (rs := [18]) (by kernel_rfl) (by simp) ?_
              refine AllReadyK.cons (op_at _ 18 _ rfl) (fun K hK => ?_) AllReadyK.nil
              go_simp
              have hR2 : Rd3 fb (.slice R.B0.aN LN0 R.B0.cN) (.slice R.B0.aS LO0 R.B0.cS) (.slice R.B0.aD LD0 R.B0.cD) ((((W6).setCell ⟨q, 1, none⟩ (.slice a5 LN0 c5)).setCell ⟨q, 1 + 1, none⟩ (.slice a9 LO0 c9)).setCell ⟨q, 1 + 2, none⟩ (.slice a13 LD0 c13)) := hR.blk (set3_heap _ _ _ _ _ _ _ hfq); replace hR := hR2; clear hR2
              refine hK.out _ _ hR (fun hHeld => ?_)
              clear hK K
              (try simp only [Act.put, List.setIfInBounds_toArray, List.set_cons_zero, List.set_cons_succ])
              refine wpAnyK_done (by kernel_rfl) ?_ _
              go_wp2
              go_roundg 1
              case measure => omega
              case rel => exact ⟨1, _, _, _, rfl, rfl, hid (cp_0 hI.out HR1.out hq1 HRQ.out.1 HRQ.out.2 hBW ELN0.out ELO0.out ELD0.out ho5 ho9 ho13 ha5 ha9 ha13 (fun a b ha hb => HNE.out _ _ (by rw [ha]; rfl) (by rw [hb]; rfl)))⟩
            exact AllReadyK.nil
          refine AllReadyK.cons (op_at _ 10 _ rfl) (fun K hK => ?_) ?_
          · as_aux_lemma =>
            go_simp
            obtain ⟨W2, hW2⟩ : ∃ W', W' = W1.alloc (.cells #[] 4) := ⟨_, rfl⟩; rw [← hW2]; have hbW2 := (alloc_is hW2).1; have hlW2 := hBW.size; have HSW2 := hid (alloc_is hW2).2; replace hB := own_later hB hbW2; have hC : W2.ownsRow 0 4 1 (.slice (some ⟨W1.heap.size, 0, none⟩) 0 0) 0 [] := (by rw [hW2]; exact World.ownsRow_made W1 #[] 0 (Nat.zero_le _) (by decide) rfl); have HGhC : Hid (fb < W1.heap.size) := hid HFL.out; replace hR := hR.blk (hbW2.block fb HFL.out); replace hBW := hBW.trans (hbW2.mono hBW.size); replace HFL : Hid (fb < W2.heap.size) := hid (by have h1 := HFL.out; have h2 := HSW2.out; omega); clear hW2
            refine hK.out _ _ hR (fun hHeld => ?_)
            clear hK K
            (try simp only [Act.put, List.setIfInBounds_toArray, List.set_cons_zero, List.set_cons_succ])
            refine wpAnyK_ready (rs := [2]) (by kernel_rfl) (by simp) ?_
            refine AllReadyK.cons (op_at _ 2 _ rfl) (fun K hK => ?_) AllReadyK.nil
            go_simp
            obtain ⟨W3, hW3⟩ : ∃ W', W' = W2.alloc (.cells #[] 37) := ⟨_, rfl⟩; rw [← hW3]; have hbW3 := (alloc_is hW3).1; have hlW3 := hBW.size; have HSW3 := hid (alloc_is hW3).2; have HNE : Hid (∀ i j, (Value.ownBlock (.slice (some ⟨W2.heap.size, 0, none⟩) 0 0)) = some i → (Value.ownBlock (.slice (some ⟨W0.heap.size, 0, none⟩) 0 0)) = some j → i ≠ j) := hid (fun i j hi hj e => by have h1 := own_lt hB hj; simp only [Value.ownBlock, Option.some.injEq] at hi; omega); replace hB := own_later hB hbW3; replace hC := own_later hC hbW3; have hA : W3.ownsRow 0 37 1 (.slice (some ⟨W2.heap.size, 0, none⟩) 0 0) 0 [] := (by rw [hW3]; exact World.ownsRow_made W2 #[] 0 (Nat.zero_le _) (by decide) rfl); have HGhA : Hid (fb < W2.heap.size) := hid HFL.out; replace hR := hR.blk (hbW3.block fb HFL.out); replace hBW := hBW.trans (hbW3.mono hBW.size); replace HFL : Hid (fb < W3.heap.size) := hid (by have h1 := HFL.out; have h2 := HSW3.out; omega); clear hW3
            refine hK.out _ _ hR (fun hHeld => ?_)
            clear hK K
            (try simp only [Act.put, List.setIfInBounds_toArray, List.set_cons_zero, List.set_cons_succ])
            refine wpAnyK_ready (rs := [5]) (by kernel_rfl) (by simp) ?_
            refine AllReadyK.cons (op_at _ 5 _ rfl) (fun K hK => ?_) AllReadyK.nil
            refine step_app rfl (.tmp 38) (.tmp 40) el66 rfl (.slice (some ⟨W2.heap.size, 0, none⟩) 0 0) 0 [] rfl hA R.B0.aN LN0 R.B0.cN R.B0.vs rfl (src_row (own_later RN.out hBW) HVS.out) (by omega) ?_; simp only [Nat.zero_add, List.nil_append]; intro a5 c5 W4 ho5 hg5 hat5; have hll5 := hBW.size; have hgl5 := hlW3; have ha5 : ∀ a, a5 = some a → wr.heap.size ≤ a.block := (fun a ha => by rcases hat5 a ha with h | h; simp only [Value.ownBlock, Option.some.injEq] at h; omega; omega); have HNE2 : Hid (∀ i j, (Value.ownBlock (.slice a5 LN0 c5)) = some i → (Value.ownBlock (.slice (some ⟨W0.heap.size, 0, none⟩) 0 0)) = some j → i ≠ j) := hid (fun i j hi hj e => by obtain ⟨y, hy, rfl⟩ := slice_own hi; rcases hat5 y hy with h | h; exact HNE.out _ _ h hj e; have h1 := own_lt hB hj; omega); replace hB := own_beside hB hg5 (fun k hk e => HNE.out _ _ e.symm hk rfl); replace hC := own_beside hC hg5 (fun k hk e => own_ne hC hA (by decide) hk e.symm rfl); replace HNE := HNE2; clear HNE2; replace hR := hR.blk (hg5.block fb HFL.out (fun e => by simp only [Value.ownBlock, Option.some.injEq] at e; have h1 := HGhA.out; omega)); have HZ5 : Hid (W3.heap.size ≤ W4.heap.size) := hid hg5.size; replace HFL : Hid (fb < W4.heap.size) := hid (Nat.lt_of_lt_of_le HFL.out HZ5.out); replace hBW := hBW.grown hg5 hBW.size (fun k hk => by simp only [Value.ownBlock, Option.some.injEq] at hk; omega); clear hat5 hg5 hA HGhA
            refine hK.out _ _ hR (fun hHeld => ?_)
            clear hK K
            (try simp only [Act.put, List.setIfInBounds_toArray, List.set_cons_zero, List.set_cons_succ])
            refine wpAnyK_ready (rs := [9]) (by kernel_rfl) (by simp) ?_
            refine AllReadyK.cons (op_at _ 9 _ rfl) (fun K hK => ?_) AllReadyK.nil
            refine step_app rfl (.tmp 42) (.tmp 44) el66 rfl (.slice (some ⟨W0.heap.size, 0, none⟩) 0 0) 0 [] rfl hB R.B0.aS LO0 R.B0.cS R.B0.us rfl (src_row (own_later RS.out hBW) HUS.out) (by omega) ?_; simp only [Nat.zero_add, List.nil_append]; intro a9 c9 W5 ho9 hg9 hat9; have hll9 := hBW.size; have hgl9 := hlW1; have ha9 : ∀ a, a9 = some a → wr.heap.size ≤ a.block := (fun a ha => by rcases hat9 a ha with h | h; simp only [Value.ownBlock, Option.some.injEq] at h; omega; omega); have HNE2 : Hid (∀ i j, (Value.ownBlock (.slice a5 LN0 c5)) = some i → (Value.ownBlock (.slice a9 LO0 c9)) = some j → i ≠ j) := hid (fun i j hi hj e => by obtain ⟨y, hy, rfl⟩ := slice_own hj; rcases hat9 y hy with h | h; exact HNE.out _ _ hi h e; have h1 := own_lt ho5 hi; omega); replace hC := own_beside hC hg9 (fun k hk e => own_ne hC hB (by decide) hk e.symm rfl); replace ho5 := own_beside ho5 hg9 (fun k hk e => HNE.out _ _ hk e.symm rfl); replace HNE := HNE2; clear HNE2; replace hR := hR.blk (hg9.block fb HFL.out (fun e => by simp only [Value.ownBlock, Option.some.injEq] at e; have h1 := HGhB.out; omega)); have HZ9 : Hid (W4.heap.size ≤ W5.heap.size) := hid hg9.size; replace HFL : Hid (fb < W5.heap.size) := hid (Nat.lt_of_lt_of_le HFL.out HZ9.out); replace hBW := hBW.grown hg9 hBW.size (fun k hk => by simp only [Value.ownBlock, Option.some.injEq] at hk; omega); clear hat9 hg9 hB HGhB
            refine hK.out _ _ hR (fun hHeld => ?_)
            clear hK K
            (try simp only [Act.put, List.setIfInBounds_toArray, List.set_cons_zero, List.set_cons_succ])
            refine wpAnyK_ready (rs := [13]) (by kernel_rfl) (by simp) ?_
            refine AllReadyK.cons (op_at _ 13 _ rfl) (fun K hK => ?_) AllReadyK.nil
            refine step_app rfl (.tmp 46) (.tmp 48) el30 rfl (.slice (some ⟨W1.heap.size, 0, none⟩) 0 0) 0 [] rfl hC R.B0.aD LD0 R.B0.cD (vb d.f0.dirt) rfl (src_row (own_later RD.out hBW) (vb_one _)) (by omega) ?_; simp only [Nat.zero_add, List.nil_append]; intro a13 c13 W6 ho13 hg13 hat13; have hll13 := hBW.size; have hgl13 := hlW2; have ha13 : ∀ a, a13 = some a → wr.heap.size ≤ a.block := (fun a ha => by rcases hat13 a ha with h | h; simp only [Value.ownBlock, Option.some.injEq] at h; omega; omega); replace ho5 := own_beside ho5 hg13 (fun k hk e => own_ne ho5 hC (by decide) hk e.symm rfl); replace ho9 := own_beside ho9 hg13 (fun k hk e => own_ne ho9 hC (by decide) hk e.symm rfl); replace hR := hR.blk (hg13.block fb HFL.out (fun e => by simp only [Value.ownBlock, Option.some.injEq] at e; have h1 := HGhC.out; omega)); have HZ13 : Hid (W5.heap.size ≤ W6.heap.size) := hid hg13.size; replace HFL : Hid (fb < W6.heap.size) := hid (Nat.lt_of_lt_of_le HFL.out HZ13.out); replace hBW := hBW.grown hg13 hBW.size (fun k hk => by simp only [Value.ownBlock, Option.some.injEq] at hk; omega); clear hat13 hg13 hC HGhC
            refine hK.out _ _ hR (fun hHeld => ?_)
            clear hK K
            (try simp only [Act.put, List.setIfInBounds_toArray, List.set_cons_zero, List.set_cons_succ])
            refine wpAnyK_pure (i := 14) (v := ?_) (op_at _ 14 _ rfl) (by kernel_rfl) (by kernel_rfl) (by kernel_rfl) (by kernel_rfl) (fun _ _ _ h => h) (Or.inl ⟨by rfl, ?_⟩) (Or.inl (by assumption)) ?_
            rotate_left 1
            focus (intro W hSw; go_simp; first | done | with_reducible rfl)
            (try simp only [Act.put, List.setIfInBounds_toArray, List.set_cons_zero, List.set_cons_succ])
            refine wpAnyK_pure (i := 17) (v := ?_) (op_at _ 17 _ rfl) (by kernel_rfl) (by kernel_rfl) (by kernel_rfl) (by kernel_rfl) (fun _ _ _ h => h) (Or.inl ⟨by rfl, ?_⟩) (Or.inl (by assumption)) ?_
            rotate_left 1
            focus (intro W hSw; go_simp; first | done | with_reducible rfl)
            (try simp only [Act.put, List.setIfInBounds_toArray, List.set_cons_zero, List.set_cons_succ])
            obtain ⟨v0, v1, v2, y0, y1, y2, z0, z1, z2⟩ := hI.out.cells (o := 1) hBW hqr (by omega) (by omega)
            refine wpAnyK_ready (rs := [18]) (by kernel_rfl) (by simp) ?_
            refine AllReadyK.cons (op_at _ 18 _ rfl) (fun K hK => ?_) AllReadyK.nil
            go_simp
            have hR2 : Rd3 fb (.slice R.B0.aN LN0 R.B0.cN) (.slice R.B0.aS LO0 R.B0.cS) (.slice R.B0.aD LD0 R.B0.cD) ((((W6).setCell ⟨q, 1, none⟩ (.slice a5 LN0 c5)).setCell ⟨q, 1 + 1, none⟩ (.slice a9 LO0 c9)).setCell ⟨q, 1 + 2, none⟩ (.slice a13 LD0 c13)) := hR.blk (set3_heap _ _ _ _ _ _ _ hfq); replace hR := hR2; clear hR2
            refine hK.out _ _ hR (fun hHeld => ?_)
            clear hK K
            (try simp only [Act.put, List.setIfInBounds_toArray, List.set_cons_zero, List.set_cons_succ])
            refine wpAnyK_done (by kernel_rfl) ?_ _
            go_wp2
            go_roundg 1
            case measure => omega
            case rel => exact ⟨1, _, _, _, rfl, rfl, hid (cp_0 hI.out HR1.out hq1 HRQ.out.1 HRQ.out.2 hBW ELN0.out ELO0.out ELD0.out ho5 ho9 ho13 ha5 ha9 ha13 (fun a b ha hb => HNE.out _ _ (by rw [ha]; rfl) (by rw [hb]; rfl)))⟩
          exact AllReadyK.nil
        refine AllReadyK.cons (op_at _ 10 _ rfl) (fun K hK => ?_) ?_
        · as_aux_lemma =>
          go_simp
          obtain ⟨W1, hW1⟩ : ∃ W', W' = W0.alloc (.cells #[] 4) := ⟨_, rfl⟩; rw [← hW1]; have hbW1 := (alloc_is hW1).1; have hlW1 := hBW.size; have HSW1 := hid (alloc_is hW1).2; have hC : W1.ownsRow 0 4 1 (.slice (some ⟨W0.heap.size, 0, none⟩) 0 0) 0 [] := (by rw [hW1]; exact World.ownsRow_made W0 #[] 0 (Nat.zero_le _) (by decide) rfl); have HGhC : Hid (fb < W0.heap.size) := hid HFL.out; replace hR := hR.blk (hbW1.block fb HFL.out); replace hBW := hBW.trans (hbW1.mono hBW.size); replace HFL : Hid (fb < W1.heap.size) := hid (by have h1 := HFL.out; have h2 := HSW1.out; omega); clear hW1
          refine hK.out _ _ hR (fun hHeld => ?_)
          clear hK K
          (try simp only [Act.put, List.setIfInBounds_toArray, List.set_cons_zero, List.set_cons_succ])
          refine wpAnyK_ready (rs := [2, 6]) (by kernel_rfl) (by simp) ?_
          refine AllReadyK.cons (op_at _ 2 _ rfl) (fun K hK => ?_) ?_
          · as_aux_lemma =>
            go_simp
            obtain ⟨W2, hW2⟩ : ∃ W', W' = W1.alloc (.cells #[] 37) := ⟨_, rfl⟩; rw [← hW2]; have hbW2 := (alloc_is hW2).1; have hlW2 := hBW.size; have HSW2 := hid (alloc_is hW2).2; replace hC := own_later hC hbW2; have hA : W2.ownsRow 0 37 1 (.slice (some ⟨W1.heap.size, 0, none⟩) 0 0) 0 [] := (by rw [hW2]; exact World.ownsRow_made W1 #[] 0 (Nat.zero_le _) (by decide) rfl); have HGhA : Hid (fb < W1.heap.size) := hid HFL.out; replace hR := hR.blk (hbW2.block fb HFL.out); replace hBW := hBW.trans (hbW2.mono hBW.size); replace HFL : Hid (fb < W2.heap.size) := hid (by have h1 := HFL.out; have h2 := HSW2.out; omega); clear hW2
            refine hK.out _ _ hR (fun hHeld => ?_)
            clear hK K
            (try simp only [Act.put, List.setIfInBounds_toArray, List.set_cons_zero, List.set_cons_succ])
            refine wpAnyK_ready (rs := [5, 6]) (by kernel_rfl) (by simp) ?_
            refine AllReadyK.cons (op_at _ 5 _ rfl) (fun K hK => ?_) ?_
            · as_aux_lemma =>
              refine step_app rfl (.tmp 38) (.tmp 40) el66 rfl (.slice (some ⟨W1.heap.size, 0, none⟩) 0 0) 0 [] rfl hA R.B0.aN LN0 R.B0.cN R.B0.vs rfl (src_row (own_later RN.out hBW) HVS.out) (by omega) ?_; simp only [Nat.zero_add, List.nil_append]; intro a5 c5 W3 ho5 hg5 hat5; have hll5 := hBW.size; have hgl5 := hlW2; have ha5 : ∀ a, a5 = some a → wr.heap.size ≤ a.block := (fun a ha => by rcases hat5 a ha with h | h; simp only [Value.ownBlock, Option.some.injEq] at h; omega; omega); replace hC := own_beside hC hg5 (fun k hk e => own_ne hC hA (by decide) hk e.symm rfl); replace hR := hR.blk (hg5.block fb HFL.out (fun e => by simp only [Value.ownBlock, Option.some.injEq] at e; have h1 := HGhA.out; omega)); have HZ5 : Hid (W2.heap.size ≤ W3.heap.size) := hid hg5.size; replace HFL : Hid (fb < W3.heap.size) := hid (Nat.lt_of_lt_of_le HFL.out HZ5.out); replace hBW := hBW.grown hg5 hBW.size (fun k hk => by simp only [Value.ownBlock, Option.some.injEq] at hk; omega); clear hat5 hg5 hA HGhA
              refine hK.out _ _ hR (fun hHeld => ?_)
              clear hK K
              (try simp only [Act.put, List.setIfInBounds_toArray, List.set_cons_zero, List.set_cons_succ])
              refine wpAnyK_ready (rs := [6]) (by kernel_rfl) (by simp) ?_
              refine AllReadyK.cons (op_at _ 6 _ rfl) (fun K hK => ?_) AllReadyK.nil
              go_simp
              obtain ⟨W4, hW4⟩ : ∃ W', W' = W3.alloc (.cells #[] 37) := ⟨_, rfl⟩; rw [← hW4]; have hbW4 := (alloc_is hW4).1; have hlW4 := hBW.size; have HSW4 := hid (alloc_is hW4).2; have HNE : Hid (∀ i j, (Value.ownBlock (.slice a5 LN0 c5)) = some i → (Value.ownBlock (.slice (some ⟨W3.heap.size, 0, none⟩) 0 0)) = some j → i ≠ j) := hid (fun i j hi hj e => by have h1 := own_lt ho5 hi; simp only [Value.ownBlock, Option.some.injEq] at hj; omega); replace hC := own_later hC hbW4; replace ho5 := own_later ho5 hbW4; have hB : W4.ownsRow 0 37 1 (.slice (some ⟨W3.heap.size, 0, none⟩) 0 0) 0 [] := (by rw [hW4]; exact World.ownsRow_made W3 #[] 0 (Nat.zero_le _) (by decide) rfl); have HGhB : Hid (fb < W3.heap.size) := hid HFL.out; replace hR := hR.blk (hbW4.block fb HFL.out); replace hBW := hBW.trans (hbW4.mono hBW.size); replace HFL : Hid (fb < W4.heap.size) := hid (by have h1 := HFL.out; have h2 := HSW4.out; omega); clear hW4
              refine hK.out _ _ hR (fun hHeld => ?_)
              clear hK K
              (try simp only [Act.put, List.setIfInBounds_toArray, List.set_cons_zero, List.set_cons_succ])
              refine wpAnyK_ready (rs := [9]) (by kernel_rfl) (by simp) ?_
              refine AllReadyK.cons (op_at _ 9 _ rfl) (fun K hK => ?_) AllReadyK.nil
              refine step_app rfl (.tmp 42) (.tmp 44) el66 rfl (.slice (some ⟨W3.heap.size, 0, none⟩) 0 0) 0 [] rfl hB R.B0.aS LO0 R.B0.cS R.B0.us rfl (src_row (own_later RS.out hBW) HUS.out) (by omega) ?_; simp only [Nat.zero_add, List.nil_append]; intro a9 c9 W5 ho9 hg9 hat9; have hll9 := hBW.size; have hgl9 := hlW4; have ha9 : ∀ a, a9 = some a → wr.heap.size ≤ a.block := (fun a ha => by rcases hat9 a ha with h | h; simp only [Value.ownBlock, Option.some.injEq] at h; omega; omega); have HNE2 : Hid (∀ i j, (Value.ownBlock (.slice a5 LN0 c5)) = some i → (Value.ownBlock (.slice a9 LO0 c9)) = some j → i ≠ j) := hid (fun i j hi hj e => by obtain ⟨y, hy, rfl⟩ := slice_own hj; rcases hat9 y hy with h | h; exact HNE.out _ _ hi h e; have h1 := own_lt ho5 hi; omega); replace hC := own_beside hC hg9 (fun k hk e => own_ne hC hB (by decide) hk e.symm rfl); replace ho5 := own_beside ho5 hg9 (fun k hk e => HNE.out _ _ hk e.symm rfl); replace HNE := HNE2; clear HNE2; replace hR := hR.blk (hg9.block fb HFL.out (fun e => by simp only [Value.ownBlock, Option.some.injEq] at e; have h1 := HGhB.out; omega)); have HZ9 : Hid (W4.heap.size ≤ W5.heap.size) := hid hg9.size; replace HFL : Hid (fb < W5.heap.size) := hid (Nat.lt_of_lt_of_le HFL.out HZ9.out); replace hBW := hBW.grown hg9 hBW.size (fun k hk => by simp only [Value.ownBlock, Option.some.injEq] at hk; omega); clear hat9 hg9 hB HGhB
              refine hK.out _ _ hR (fun hHeld => ?_)
              clear hK K
              (try simp only [Act.put, List.setIfInBounds_toArray, List.set_cons_zero, List.set_cons_succ])
              refine wpAnyK_ready (rs := [13]) (by kernel_rfl) (by simp) ?_
              refine AllReadyK.cons (op_at _ 13 _ rfl) (fun K hK => ?_) AllReadyK.nil
              refine step_app rfl (.tmp 46) (.tmp 48) el30 rfl (.slice (some ⟨W0.heap.size, 0, none⟩) 0 0) 0 [] rfl hC R.B0.aD LD0 R.B0.cD (vb d.f0.dirt) rfl (src_row (own_later RD.out hBW) (vb_one _)) (by omega) ?_; simp only [Nat.zero_add, List.nil_append]; intro a13 c13 W6 ho13 hg13 hat13; have hll13 := hBW.size; have hgl13 := hlW1; have ha13 : ∀ a, a13 = some a → wr.heap.size ≤ a.block := (fun a ha => by rcases hat13 a ha with h | h; simp only [Value.ownBlock, Option.some.injEq] at h; omega; omega); replace ho5 := own_beside ho5 hg13 (fun k hk e => own_ne ho5 hC (by decide) hk e.symm rfl); replace ho9 := own_beside ho9 hg13 (fun k hk e => own_ne ho9 hC (by decide) hk e.symm rfl); replace hR := hR.blk (hg13.block fb HFL.out (fun e => by simp only [Value.ownBlock, Option.some.injEq] at e; have h1 := HGhC.out; omega)); have HZ13 : Hid (W5.heap.size ≤ W6.heap.size) := hid hg13.size; replace HFL : Hid (fb < W6.heap.size) := hid (Nat.lt_of_lt_of_le HFL.out HZ13.out); replace hBW := hBW.grown hg13 hBW.size (fun k hk => by simp only [Value.ownBlock, Option.some.injEq] at hk; omega); clear hat13 hg13 hC HGhC
              refine hK.out _ _ hR (fun hHeld => ?_)
              clear hK K
              (try simp only [Act.put, List.setIfInBounds_toArray, List.set_cons_zero, List.set_cons_succ])
              refine wpAnyK_pure (i := 14) (v := ?_) (op_at _ 14 _ rfl) (by kernel_rfl) (by kernel_rfl) (by kernel_rfl) (by kernel_rfl) (fun _ _ _ h => h) (Or.inl ⟨by rfl, ?_⟩) (Or.inl (by assumption)) ?_
              rotate_left 1
              focus (intro W hSw; go_simp; first | done | with_reducible rfl)
              (try simp only [Act.put, List.setIfInBounds_toArray, List.set_cons_zero, List.set_cons_succ])
              refine wpAnyK_pure (i := 17) (v := ?_) (op_at _ 17 _ rfl) (by kernel_rfl) (by kernel_rfl) (by kernel_rfl) (by kernel_rfl) (fun _ _ _ h => h) (Or.inl ⟨by rfl, ?_⟩) (Or.inl (by assumption)) ?_
              rotate_left 1
              focus (intro W hSw; go_simp; first | done | with_reducible rfl)
              (try simp only [Act.put, List.setIfInBounds_toArray, List.set_cons_zero, List.set_cons_succ])
              obtain ⟨v0, v1, v2, y0, y1, y2, z0, z1, z2⟩ := hI.out.cells (o := 1) hBW hqr (by omega) (by omega)
              refine wpAnyK_ready (rs := [18]) (by kernel_rfl) (by simp) ?_
              refine AllReadyK.cons (op_at _ 18 _ rfl) (fun K hK => ?_) AllReadyK.nil
              go_simp
              have hR2 : Rd3 fb (.slice R.B0.aN LN0 R.B0.cN) (.slice R.B0.aS LO0 R.B0.cS) (.slice R.B0.aD LD0 R.B0.cD) ((((W6).setCell ⟨q, 1, none⟩ (.slice a5 LN0 c5)).setCell ⟨q, 1 + 1, none⟩ (.slice a9 LO0 c9)).setCell ⟨q, 1 + 2, none⟩ (.slice a13 LD0 c13)) := hR.blk (set3_heap _ _ _ _ _ _ _ hfq); replace hR := hR2; clear hR2
              refine hK.out _ _ hR (fun hHeld => ?_)
              clear hK K
              (try simp only [Act.put, List.setIfInBounds_toArray, List.set_cons_zero, List.set_cons_succ])
              refine wpAnyK_done (by kernel_rfl) ?_ _
              go_wp2
              go_roundg 1
              case measure => omega
              case rel => exact ⟨1, _, _, _, rfl, rfl, hid (cp_0 hI.out HR1.out hq1 HRQ.out.1 HRQ.out.2 hBW ELN0.out ELO0.out ELD0.out ho5 ho9 ho13 ha5 ha9 ha13 (fun a b ha hb => HNE.out _ _ (by rw [ha]; rfl) (by rw [hb]; rfl)))⟩
            refine AllReadyK.cons (op_at _ 6 _ rfl) (fun K hK => ?_) ?_
            · as_aux_lemma =>
              go_simp
              obtain ⟨W3, hW3⟩ : ∃ W', W' = W2.alloc (.cells #[] 37) := ⟨_, rfl⟩; rw [← hW3]; have hbW3 := (alloc_is hW3).1; have hlW3 := hBW.size; have HSW3 := hid (alloc_is hW3).2; have HNE : Hid (∀ i j, (Value.ownBlock (.slice (some ⟨W1.heap.size, 0, none⟩) 0 0)) = some i → (Value.ownBlock (.slice (some ⟨W2.heap.size, 0, none⟩) 0 0)) = some j → i ≠ j) := hid (fun i j hi hj e => by have h1 := own_lt hA hi; simp only [Value.ownBlock, Option.some.injEq] at hj; omega); replace hC := own_later hC hbW3; replace hA := own_later hA hbW3; have hB : W3.ownsRow 0 37 1 (.slice (some ⟨W2.heap.size, 0, none⟩) 0 0) 0 [] := (by rw [hW3]; exact World.ownsRow_made W2 #[] 0 (Nat.zero_le _) (by decide) rfl); have HGhB : Hid (fb < W2.heap.size) := hid HFL.out; replace hR := hR.blk (hbW3.block fb HFL.out); replace hBW := hBW.trans (hbW3.mono hBW.size); replace HFL : Hid (fb < W3.heap.size) := hid (by have h1 := HFL.out; have h2 := HSW3.out; omega); clear hW3
              refine hK.out _ _ hR (fun hHeld => ?_)
              clear hK K
              (try simp only [Act.put, List.setIfInBounds_toArray, List.set_cons_zero, List.set_cons_succ])
              refine wpAnyK_ready (rs := [5]) (by kernel_rfl) (by simp) ?_
              refine AllReadyK.cons (op_at _ 5 _ rfl) (fun K hK => ?_) AllReadyK.nil
              refine step_app rfl (.tmp 38) (.tmp 40) el66 rfl (.slice (some ⟨W1.heap.size, 0, none⟩) 0 0) 0 [] rfl hA R.B0.aN LN0 R.B0.cN R.B0.vs rfl (src_row (own_later RN.out hBW) HVS.out) (by omega) ?_; simp only [Nat.zero_add, List.nil_append]; intro a5 c5 W4 ho5 hg5 hat5; have hll5 := hBW.size; have hgl5 := hlW2; have ha5 : ∀ a, a5 = some a → wr.heap.size ≤ a.block := (fun a ha => by rcases hat5 a ha with h | h; simp only [Value.ownBlock, Option.some.injEq] at h; omega; omega); have HNE2 : Hid (∀ i j, (Value.ownBlock (.slice a5 LN0 c5)) = some i → (Value.ownBlock (.slice (some ⟨W2.heap.size, 0, none⟩) 0 0)) = some j → i ≠ j) := hid (fun i j hi hj e => by obtain ⟨y, hy, rfl⟩ := slice_own hi; rcases hat5 y hy with h | h; exact HNE.out _ _ h hj e; have h1 := own_lt hB hj; omega); replace hC := own_beside hC hg5 (fun k hk e => own_ne hC hA (by decide) hk e.symm rfl); replace hB := own_beside hB hg5 (fun k hk e => HNE.out _ _ e.symm hk rfl); replace HNE := HNE2; clear HNE2; replace hR := hR.blk (hg5.block fb HFL.out (fun e => by simp only [Value.ownBlock, Option.some.injEq] at e; have h1 := HGhA.out; omega)); have HZ5 : Hid (W3.heap.size ≤ W4.heap.size) := hid hg5.size; replace HFL : Hid (fb < W4.heap.size) := hid (Nat.lt_of_lt_of_le HFL.out HZ5.out); replace hBW := hBW.grown hg5 hBW.size (fun k hk => by simp only [Value.ownBlock, Option.some.injEq] at hk; omega); clear hat5 hg5 hA HGhA
              refine hK.out _ _ hR (fun hHeld => ?_)
              clear hK K
              (try simp only [Act.put, List.setIfInBounds_toArray, List.set_cons_zero, List.set_cons_succ])
              refine wpAnyK_ready (rs := [9]) (by kernel_rfl) (by simp) ?_
              refine AllReadyK.cons (op_at _ 9 _ rfl) (fun K hK => ?_) AllReadyK.nil
              refine step_app rfl (.tmp 42) (.tmp 44) el66 rfl (.slice (some ⟨W2.heap.size, 0, none⟩) 0 0) 0 [] rfl hB R.B0.aS LO0 R.B0.cS R.B0.us rfl (src_row (own_later RS.out hBW) HUS.out) (by omega) ?_; simp only [Nat.zero_add, List.nil_append]; intro a9 c9 W5 ho9 hg9 hat9; have hll9 := hBW.size; have hgl9 := hlW3; have ha9 : ∀ a, a9 = some a → wr.heap.size ≤ a.block := (fun a ha => by rcases hat9 a ha with h | h; simp only [Value.ownBlock, Option.some.injEq] at h; omega; omega); have HNE2 : Hid (∀ i j, (Value.ownBlock (.slice a5 LN0 c5)) = some i → (Value.ownBlock (.slice a9 LO0 c9)) = some j → i ≠ j) := hid (fun i j hi hj e => by obtain ⟨y, hy, rfl⟩ := slice_own hj; rcases hat9 y hy with h | h; exact HNE.out _ _ hi h e; have h1 := own_lt ho5 hi; omega); replace hC := own_beside hC hg9 (fun k hk e => own_ne hC hB (by decide) hk e.symm rfl); replace ho5 := own_beside ho5 hg9 (fun k hk e => HNE.out _ _ hk e.symm rfl); replace HNE := HNE2; clear HNE2; replace hR := hR.blk (hg9.block fb HFL.out (fun e => by simp only [Value.ownBlock, Option.some.injEq] at e; have h1 := HGhB.out; omega)); have HZ9 : Hid (W4.heap.size ≤ W5.heap.size) := hid hg9.size; replace HFL : Hid (fb < W5.heap.size) := hid (Nat.lt_of_lt_of_le HFL.out HZ9.out); replace hBW := hBW.grown hg9 hBW.size (fun k hk => by simp only [Value.ownBlock, Option.some.injEq] at hk; omega); clear hat9 hg9 hB HGhB
              refine hK.out _ _ hR (fun hHeld => ?_)
              clear hK K
              (try simp only [Act.put, List.setIfInBounds_toArray, List.set_cons_zero, List.set_cons_succ])
              refine wpAnyK_ready (rs := [13]) (by kernel_rfl) (by simp) ?_
              refine AllReadyK.cons (op_at _ 13 _ rfl) (fun K hK => ?_) AllReadyK.nil
              refine step_app rfl (.tmp 46) (.tmp 48) el30 rfl (.slice (some ⟨W0.heap.size, 0, none⟩) 0 0) 0 [] rfl hC R.B0.aD LD0 R.B0.cD (vb d.f0.dirt) rfl (src_row (own_later RD.out hBW) (vb_one _)) (by omega) ?_; simp only [Nat.zero_add, List.nil_append]; intro a13 c13 W6 ho13 hg13 hat13; have hll13 := hBW.size; have hgl13 := hlW1; have ha13 : ∀ a, a13 = some a → wr.heap.size ≤ a.block := (fun a ha => by rcases hat13 a ha with h | h; simp only [Value.ownBlock, Option.some.injEq] at h; omega; omega); replace ho5 := own_beside ho5 hg13 (fun k hk e => own_ne ho5 hC (by decide) hk e.symm rfl); replace ho9 := own_beside ho9 hg13 (fun k hk e => own_ne ho9 hC (by decide) hk e.symm rfl); replace hR := hR.blk (hg13.block fb HFL.out (fun e => by simp only [Value.ownBlock, Option.some.injEq] at e; have h1 := HGhC.out; omega)); have HZ13 : Hid (W5.heap.size ≤ W6.heap.size) := hid hg13.size; replace HFL : Hid (fb < W6.heap.size) := hid (Nat.lt_of_lt_of_le HFL.out HZ13.out); replace hBW := hBW.grown hg13 hBW.size (fun k hk => by simp only [Value.ownBlock, Option.some.injEq] at hk; omega); clear hat13 hg13 hC HGhC
              refine hK.out _ _ hR (fun hHeld => ?_)
              clear hK K
              (try simp only [Act.put, List.setIfInBounds_toArray, List.set_cons_zero, List.set_cons_succ])
              refine wpAnyK_pure (i := 14) (v := ?_) (op_at _ 14 _ rfl) (by kernel_rfl) (by kernel_rfl) (by kernel_rfl) (by kernel_rfl) (fun _ _ _ h => h) (Or.inl ⟨by rfl, ?_⟩) (Or.inl (by assumption)) ?_
              rotate_left 1
              focus (intro W hSw; go_simp; first | done | with_reducible rfl)
              (try simp only [Act.put, List.setIfInBounds_toArray, List.set_cons_zero, List.set_cons_succ])
              refine wpAnyK_pure (i := 17) (v := ?_) (op_at _ 17 _ rfl) (by kernel_rfl) (by kernel_rfl) (by kernel_rfl) (by kernel_rfl) (fun _ _ _ h => h) (Or.inl ⟨by rfl, ?_⟩) (Or.inl (by assumption)) ?_
              rotate_left 1
              focus (intro W hSw; go_simp; first | done | with_reducible rfl)
              (try simp only [Act.put, List.setIfInBounds_toArray, List.set_cons_zero, List.set_cons_succ])
              obtain ⟨v0, v1, v2, y0, y1, y2, z0, z1, z2⟩ := hI.out.cells (o := 1) hBW hqr (by omega) (by omega)
              refine wpAnyK_ready (rs := [18]) (by kernel_rfl) (by simp) ?_
              refine AllReadyK.cons (op_at _ 18 _ rfl) (fun K hK => ?_) AllReadyK.nil
              go_simp
              have hR2 : Rd3 fb (.slice R.B0.aN LN0 R.B0.cN) (.slice R.B0.aS LO0 R.B0.cS) (.slice R.B0.aD LD0 R.B0.cD) ((((W6).setCell ⟨q, 1, none⟩ (.slice a5 LN0 c5)).setCell ⟨q, 1 + 1, none⟩ (.slice a9 LO0 c9)).setCell ⟨q, 1 + 2, none⟩ (.slice a13 LD0 c13)) := hR.blk (set3_heap _ _ _ _ _ _ _ hfq); replace hR := hR2; clear hR2
              refine hK.out _ _ hR (fun hHeld => ?_)
              clear hK K
              (try simp only [Act.put, List.setIfInBounds_toArray, List.set_cons_zero, List.set_cons_succ])
              refine wpAnyK_done (by kernel_rfl) ?_ _
              go_wp2
              go_roundg 1
              case measure => omega
              case rel => exact ⟨1, _, _, _, rfl, rfl, hid (cp_0 hI.out HR1.out hq1 HRQ.out.1 HRQ.out.2 hBW ELN0.out ELO0.out ELD0.out ho5 ho9 ho13 ha5 ha9 ha13 (fun a b ha hb => HNE.out _ _ (by rw [ha]; rfl) (by rw [hb]; rfl)))⟩
            exact AllReadyK.nil
          refine AllReadyK.cons (op_at _ 6 _ rfl) (fun K hK => ?_) ?_
          · as_aux_lemma =>
            go_simp
            obtain ⟨W2, hW2⟩ : ∃ W', W' = W1.alloc (.cells #[] 37) := ⟨_, rfl⟩; rw [← hW2]; have hbW2 := (alloc_is hW2).1; have hlW2 := hBW.size; have HSW2 := hid (alloc_is hW2).2; replace hC := own_later hC hbW2; have hB : W2.ownsRow 0 37 1 (.slice (some ⟨W1.heap.size, 0, none⟩) 0 0) 0 [] := (by rw [hW2]; exact World.ownsRow_made W1 #[] 0 (Nat.zero_le _) (by decide) rfl); have HGhB : Hid (fb < W1.heap.size) := hid HFL.out; replace hR := hR.blk (hbW2.block fb HFL.out); replace hBW := hBW.trans (hbW2.mono hBW.size); replace HFL : Hid (fb < W2.heap.size) := hid (by have h1 := HFL.out; have h2 := HSW2.out; omega); clear hW2
            refine hK.out _ _ hR (fun hHeld => ?_)
            clear hK K
            (try simp only [Act.put, List.setIfInBounds_toArray, List.set_cons_zero, List.set_cons_succ])
            refine wpAnyK_ready (rs := [2]) (by kernel_rfl) (by simp) ?_
            refine AllReadyK.cons (op_at _ 2 _ rfl) (fun K hK => ?_) AllReadyK.nil
            go_simp
            obtain ⟨W3, hW3⟩ : ∃ W', W' = W2.alloc (.cells #[] 37) := ⟨_, rfl⟩; rw [← hW3]; have hbW3 := (alloc_is hW3).1; have hlW3 := hBW.size; have HSW3 := hid (alloc_is hW3).2; have HNE : Hid (∀ i j, (Value.ownBlock (.slice (some ⟨W2.heap.size, 0, none⟩) 0 0)) = some i → (Value.ownBlock (.slice (some ⟨W1.heap.size, 0, none⟩) 0 0)) = some j → i ≠ j) := hid (fun i j hi hj e => by have h1 := own_lt hB hj; simp only [Value.ownBlock, Option.some.injEq] at hi; omega); replace hC := own_later hC hbW3; replace hB := own_later hB hbW3; have hA : W3.ownsRow 0 37 1 (.slice (some ⟨W2.heap.size, 0, none⟩) 0 0) 0 [] := (by rw [hW3]; exact World.ownsRow_made W2 #[] 0 (Nat.zero_le _) (by decide) rfl); have HGhA : Hid (fb < W2.heap.size) := hid HFL.out; replace hR := hR.blk (hbW3.block fb HFL.out); replace hBW := hBW.trans (hbW3.mono hBW.size); replace HFL : Hid (fb < W3.heap.size) := hid (by have h1 := HFL.out; have h2 := HSW3.out; omega); clear hW3
            refine hK.out _ _ hR (fun hHeld => ?_)
            clear hK K
            (try simp only [Act.put, List.setIfInBounds_toArray, List.set_cons_zero, List.set_cons_succ])
            refine wpAnyK_ready (rs := [5]) (by kernel_rfl) (by simp) ?_
            refine AllReadyK.cons (op_at _ 5 _ rfl) (fun K hK => ?_) AllReadyK.nil
            refine step_app rfl (.tmp 38) (.tmp 40) el66 rfl (.slice (some ⟨W2.heap.size, 0, none⟩) 0 0) 0 [] rfl hA R.B0.aN LN0 R.B0.cN R.B0.vs rfl (src_row (own_later RN.out hBW) HVS.out) (by omega) ?_; simp only [Nat.zero_add, List.nil_append]; intro a5 c5 W4 ho5 hg5 hat5; have hll5 := hBW.size; have hgl5 := hlW3; have ha5 : ∀ a, a5 = some a → wr.heap.size ≤ a.block := (fun a ha => by rcases hat5 a ha with h | h; simp only [Value.ownBlock, Option.some.injEq] at h; omega; omega); have HNE2 : Hid (∀ i j, (Value.ownBlock (.slice a5 LN0 c5)) = some i → (Value.ownBlock (.slice (some ⟨W1.heap.size, 0, none⟩) 0 0)) = some j → i ≠ j) := hid (fun i j hi hj e => by obtain ⟨y, hy, rfl⟩ := slice_own hi; rcases hat5 y hy with h | h; exact HNE.out _ _ h hj e; have h1 := own_lt hB hj; omega); replace hC := own_beside hC hg5 (fun k hk e => own_ne hC hA (by decide) hk e.symm rfl); replace hB := own_beside hB hg5 (fun k hk e => HNE.out _ _ e.symm hk rfl); replace HNE := HNE2; clear HNE2; replace hR := hR.blk (hg5.block fb HFL.out (fun e => by simp only [Value.ownBlock, Option.some.injEq] at e; have h1 := HGhA.out; omega)); have HZ5 : Hid (W3.heap.size ≤ W4.heap.size) := hid hg5.size; replace HFL : Hid (fb < W4.heap.size) := hid (Nat.lt_of_lt_of_le HFL.out HZ5.out); replace hBW := hBW.grown hg5 hBW.size (fun k hk => by simp only [Value.ownBlock, Option.some.injEq] at hk; omega); clear hat5 hg5 hA HGhA
            refine hK.out _ _ hR (fun hHeld => ?_)
            clear hK K
            (try simp only [Act.put, List.setIfInBounds_toArray, List.set_cons_zero, List.set_cons_succ])
            refine wpAnyK_ready (rs := [9]) (by kernel_rfl) (by simp) ?_
            refine AllReadyK.cons (op_at _ 9 _ rfl) (fun K hK => ?_) AllReadyK.nil
            refine step_app rfl (.tmp 42) (.tmp 44) el66 rfl (.slice (some ⟨W1.heap.size, 0, none⟩) 0 0) 0 [] rfl hB R.B0.aS LO0 R.B0.cS R.B0.us rfl (src_row (own_later RS.out hBW) HUS.out) (by omega) ?_; simp only [Nat.zero_add, List.nil_append]; intro a9 c9 W5 ho9 hg9 hat9; have hll9 := hBW.size; have hgl9 := hlW2; have ha9 : ∀ a, a9 = some a → wr.heap.size ≤ a.block := (fun a ha => by rcases hat9 a ha with h | h; simp only [Value.ownBlock, Option.some.injEq] at h; omega; omega); have HNE2 : Hid (∀ i j, (Value.ownBlock (.slice a5 LN0 c5)) = some i → (Value.ownBlock (.slice a9 LO0 c9)) = some j → i ≠ j) := hid (fun i j hi hj e => by obtain ⟨y, hy, rfl⟩ := slice_own hj; rcases hat9 y hy with h | h; exact HNE.out _ _ hi h e; have h1 := own_lt ho5 hi; omega); replace hC := own_beside hC hg9 (fun k hk e => own_ne hC hB (by decide) hk e.symm rfl); replace ho5 := own_beside ho5 hg9 (fun k hk e => HNE.out _ _ hk e.symm rfl); replace HNE := HNE2; clear HNE2; replace hR := hR.blk (hg9.block fb HFL.out (fun e => by simp only [Value.ownBlock, Option.some.injEq] at e; have h1 := HGhB.out; omega)); have HZ9 : Hid (W4.heap.size ≤ W5.heap.size) := hid hg9.size; replace HFL : Hid (fb < W5.heap.size) := hid (Nat.lt_of_lt_of_le HFL.out HZ9.out); replace hBW := hBW.grown hg9 hBW.size (fun k hk => by simp only [Value.ownBlock, Option.some.injEq] at hk; omega); clear hat9 hg9 hB HGhB
            refine hK.out _ _ hR (fun hHeld => ?_)
            clear hK K
            (try simp only [Act.put, List.setIfInBounds_toArray, List.set_cons_zero, List.set_cons_succ])
            refine wpAnyK_ready (rs := [13]) (by kernel_rfl) (by simp) ?_
            refine AllReadyK.cons (op_at _ 13 _ rfl) (fun K hK => ?_) AllReadyK.nil
            refine step_app rfl (.tmp 46) (.tmp 48) el30 rfl (.slice (some ⟨W0.heap.size, 0, none⟩) 0 0) 0 [] rfl hC R.B0.aD LD0 R.B0.cD (vb d.f0.dirt) rfl (src_row (own_later RD.out hBW) (vb_one _)) (by omega) ?_; simp only [Nat.zero_add, List.nil_append]; intro a13 c13 W6 ho13 hg13 hat13; have hll13 := hBW.size; have hgl13 := hlW1; have ha13 : ∀ a, a13 = some a → wr.heap.size ≤ a.block := (fun a ha => by rcases hat13 a ha with h | h; simp only [Value.ownBlock, Option.some.injEq] at h; omega; omega); replace ho5 := own_beside ho5 hg13 (fun k hk e => own_ne ho5 hC (by decide) hk e.symm rfl); replace ho9 := own_beside ho9 hg13 (fun k hk e => own_ne ho9 hC (by decide) hk e.symm rfl); replace hR := hR.blk (hg13.block fb HFL.out (fun e => by simp only [Value.ownBlock, Option.some.injEq] at e; have h1 := HGhC.out; omega)); have HZ13 : Hid (W5.heap.size ≤ W6.heap.size) := hid hg13.size; replace HFL : Hid (fb < W6.heap.size) := hid (Nat.lt_of_lt_of_le HFL.out HZ13.out); replace hBW := hBW.grown hg13 hBW.size (fun k hk => by simp only [Value.ownBlock, Option.some.injEq] at hk; omega); clear hat13 hg13 hC HGhC
            refine hK.out _ _ hR (fun hHeld => ?_)
            clear hK K
            (try simp only [Act.put, List.setIfInBounds_toArray, List.set_cons_zero, List.set_cons_succ])
            refine wpAnyK_pure (i := 14) (v := ?_) (op_at _ 14 _ rfl) (by kernel_rfl) (by kernel_rfl) (by kernel_rfl) (by kernel_rfl) (fun _ _ _ h => h) (Or.inl ⟨by rfl, ?_⟩) (Or.inl (by assumption)) ?_
            rotate_left 1
            focus (intro W hSw; go_simp; first | done | with_reducible rfl)
            (try simp only [Act.put, List.setIfInBounds_toArray, List.set_cons_zero, List.set_cons_succ])
            refine wpAnyK_pure (i := 17) (v := ?_) (op_at _ 17 _ rfl) (by kernel_rfl) (by kernel_rfl) (by kernel_rfl) (by kernel_rfl) (fun _ _ _ h => h) (Or.inl ⟨by rfl, ?_⟩) (Or.inl (by assumption)) ?_
            rotate_left 1
            focus (intro W hSw; go_simp; first | done | with_reducible rfl)
            (try simp only [Act.put, List.setIfInBounds_toArray, List.set_cons_zero, List.set_cons_succ])
            obtain ⟨v0, v1, v2, y0, y1, y2, z0, z1, z2⟩ := hI.out.cells (o := 1) hBW hqr (by omega) (by omega)
            refine wpAnyK_ready (rs := [18]) (by kernel_rfl) (by simp) ?_
            refine AllReadyK.cons (op_at _ 18 _ rfl) (fun K hK => ?_) AllReadyK.nil
            go_simp
            have hR2 : Rd3 fb (.slice R.B0.aN LN0 R.B0.cN) (.slice R.B0.aS LO0 R.B0.cS) (.slice R.B0.aD LD0 R.B0.cD) ((((W6).setCell ⟨q, 1, none⟩ (.slice a5 LN0 c5)).setCell ⟨q, 1 + 1, none⟩ (.slice a9 LO0 c9)).setCell ⟨q, 1 + 2, none⟩ (.slice a13 LD0 c13)) := hR.blk (set3_heap _ _ _ _ _ _ _ hfq); replace hR := hR2; clear hR2
            refine hK.out _ _ hR (fun hHeld => ?_)
            clear hK K
            (try simp only [Act.put, List.setIfInBounds_toArray, List.set_cons_zero, List.set_cons_succ])
            refine wpAnyK_done (by kernel_rfl) ?_ _
            go_wp2
            go_roundg 1
            case measure => omega
            case rel => exact ⟨1, _, _, _, rfl, rfl, hid (cp_0 hI.out HR1.out hq1 HRQ.out.1 HRQ.out.2 hBW ELN0.out ELO0.out ELD0.out ho5 ho9 ho13 ha5 ha9 ha13 (fun a b ha hb => HNE.out _ _ (by rw [ha]; rfl) (by rw [hb]; rfl)))⟩
          exact AllReadyK.nil
        exact AllReadyK.nil
    · obtain rfl : gk = 1 := by omega
      clear hik
      as_aux_lemma =>
        have hRr : RefP wr r R d := HR1.out.stay hI.out.hd.size (fun k hk hx => hI.out.hd.block k hk (fun e => by rcases hx with h | h; exact HRQ.out.1 (e ▸ h); exact HRQ.out.2 (h ▸ e)) (fun h => h))
        have RN := hid hRr.f1.rn; have RS := hid hRr.f1.rs; have RD := hid hRr.f1.rd
        rw [← ELN1.out] at RN; rw [← ELO1.out] at RS; rw [← ELD1.out] at RD
        have hbN : LN1 ≤ 32768 := HBN.out.2.2.2.1
        have hbO : LO1 ≤ 32768 := HBN.out.2.2.2.2.1
        have hbD : LD1 ≤ 32768 := HBN.out.2.2.2.2.2
        have HVS := hid hRr.f1.an.one; have HUS := hid hRr.f1.ao.one
        have hqr : q < wr.heap.size := by have := hI.out.hd.size; omega
        obtain ⟨fb, hfb⟩ : ∃ fb, fb = wr.heap.size := ⟨_, rfl⟩
        have hfq : fb ≠ q := by omega
        have HFB := hid hfb
        clear hRr hfb
        go_wp2_with fail
        obtain ⟨wf, hwf⟩ : ∃ wf, wf = wr.alloc (.cells #[.slice R.B1.aN LN1 R.B1.cN, .slice R.B1.aS LO1 R.B1.cS, .slice R.B1.aD LD1 R.B1.cD] 68) := ⟨_, rfl⟩
        rw [← hwf, ← HFB.out]
        have hRf : Rd3 fb (.slice R.B1.aN LN1 R.B1.cN) (.slice R.B1.aS LO1 R.B1.cS) (.slice R.B1.aD LD1 R.B1.cD) wf := by rw [hwf, HFB.out]; refine ⟨?_, ?_, ?_⟩ <;> (rw [World.cell?_alloc_at _ _ _ _ rfl]; rfl)
        refine wp_region_K (S := Rd3 fb (.slice R.B1.aN LN1 R.B1.cN) (.slice R.B1.aS LO1 R.B1.cS) (.slice R.B1.aD LD1 R.B1.cD)) (fun _ => false) (by kernel_rfl) hRf (fun hHeld => ?_)
        obtain ⟨W0, hW0⟩ : ∃ W0, W0 = wf.drew := ⟨_, rfl⟩
        rw [← hW0] at hHeld ⊢
        have hR := hHeld
        have hBW : Below wr.heap.size wr W0 := by rw [hW0, hwf]; exact ((Below.refl _ _).alloc (Nat.le_refl _) _).drew
        have HFL : Hid (fb < W0.heap.size) := hid (by rw [hW0]; exact lt_cell hRf.1)
        clear hW0 hwf hRf
        refine wpAnyK_pure (i := 0) (v := ?_) (op_at _ 0 _ rfl) (by kernel_rfl) (by kernel_rfl) (by kernel_rfl) (by kernel_rfl) (fun _ _ _ h => h) (Or.inl ⟨by rfl, ?_⟩) (Or.inl (by assumption)) ?_
        rotate_left 1
        focus (intro W hSw; go_simp; first | done | with_reducible rfl)
        (try simp only [Act.put, List.setIfInBounds_toArray, List.set_cons_zero, List.set_cons_succ])
        refine wpAnyK_pure (i := 1) (v := ?_) (op_at _ 1 _ rfl) (by kernel_rfl) (by kernel_rfl) (by kernel_rfl) (by kernel_rfl) (fun _ _ _ h => h) (Or.inl ⟨by rfl, ?_⟩) (Or.inl (by assumption)) ?_
        rotate_left 1
        focus (intro W hSw; go_simp; first | done | with_reducible rfl)
        (try simp only [Act.put, List.setIfInBounds_toArray, List.set_cons_zero, List.set_cons_succ])
        refine wpAnyK_pure (i := 3) (v := ?_) (op_at _ 3 _ rfl) (by kernel_rfl) (by kernel_rfl) (by kernel_rfl) (by kernel_rfl) (fun _ _ _ h => h) (Or.inl ⟨by rfl, ?_⟩) (Or.inl (by assumption)) ?_
        rotate_left 1
        focus (intro W hSw; go_simp; first | done | with_reducible rfl)
        (try simp only [Act.put, List.setIfInBounds_toArray, List.set_cons_zero, List.set_cons_succ])
        refine wpAnyK_take (i := 4) (v := ?_) (op_at _ 4 _ rfl) (by kernel_rfl) (by kernel_rfl) (by kernel_rfl) (by kernel_rfl) (fun _ _ _ h => h) (Or.inl ⟨by rfl, ?_⟩) (by assumption) ?_
        rotate_left 1
        focus (intro W hSw; obtain ⟨q0, q1, q2⟩ := hSw; go_simp; first | done | with_reducible rfl)
        (try simp only [Act.put, List.setIfInBounds_toArray, List.set_cons_zero, List.set_cons_succ])
        refine wpAnyK_pure (i := 7) (v := ?_) (op_at _ 7 _ rfl) (by kernel_rfl) (by kernel_rfl) (by kernel_rfl) (by kernel_rfl) (fun _ _ _ h => h) (Or.inl ⟨by rfl, ?_⟩) (Or.inl (by assumption)) ?_
        rotate_left 1
        focus (intro W hSw; go_simp; first | done | with_reducible rfl)
        (try simp only [Act.put, List.setIfInBounds_toArray, List.set_cons_zero, List.set_cons_succ])
        refine wpAnyK_take (i := 8) (v := ?_) (op_at _ 8 _ rfl) (by kernel_rfl) (by kernel_rfl) (by kernel_rfl) (by kernel_rfl) (fun _ _ _ h => h) (Or.inl ⟨by rfl, ?_⟩) (by assumption) ?_
        rotate_left 1
        focus (intro W hSw; obtain ⟨q0, q1, q2⟩ := hSw; go_simp; first | done | with_reducible rfl)
        (try simp only [Act.put, List.setIfInBounds_toArray, List.set_cons_zero, List.set_cons_succ])
        refine wpAnyK_pure (i := 11) (v := ?_) (op_at _ 11 _ rfl) (by kernel_rfl) (by kernel_rfl) (by kernel_rfl) (by kernel_rfl) (fun _ _ _ h => h) (Or.inl ⟨by rfl, ?_⟩) (Or.inl (by assumption)) ?_
        rotate_left 1
        focus (intro W hSw; go_simp; first | done | with_reducible rfl)
        (try simp only [Act.put, List.setIfInBounds_toArray, List.set_cons_zero, List.set_cons_succ])
        refine wpAnyK_take (i := 12) (v := ?_) (op_at _ 12 _ rfl) (by kernel_rfl) (by kernel_rfl) (by kernel_rfl) (by kernel_rfl) (fun _ _ _ h => h) (Or.inl ⟨by rfl, ?_⟩) (by assumption) ?_
        rotate_left 1
        focus (intro W hSw; obtain ⟨q0, q1, q2⟩ := hSw; go_simp; first | done | with_reducible rfl)
        (try simp only [Act.put, List.setIfInBounds_toArray, List.set_cons_zero, List.set_cons_succ])
        refine wpAnyK_pure (i := 15) (v := ?_) (op_at _ 15 _ rfl) (by kernel_rfl) (by kernel_rfl) (by kernel_rfl) (by kernel_rfl) (fun _ _ _ h => h) (Or.inl ⟨by rfl, ?_⟩) (Or.inl (by assumption)) ?_
        rotate_left 1
        focus (intro W hSw; go_simp; first | done | with_reducible rfl)
        (try simp only [Act.put, List.setIfInBounds_toArray, List.set_cons_zero, List.set_cons_succ])
        refine wpAnyK_pure (i := 16) (v := ?_) (op_at _ 16 _ rfl) (by kernel_rfl) (by kernel_rfl) (by kernel_rfl) (by kernel_rfl) (fun _ _ _ h => h) (Or.inl ⟨by rfl, ?_⟩) (Or.inl (by assumption)) ?_
        rotate_left 1
        focus (intro W hSw; go_simp; first | done | with_reducible rfl)
        (try simp only [Act.put, List.setIfInBounds_toArray, List.set_cons_zero, List.set_cons_succ])
        refine wpAnyK_ready (rs := [2, 6, 10]) (by kernel_rfl) (by simp) ?_
        refine AllReadyK.cons (op_at _ 2 _ rfl) (fun K hK => ?_) ?_
        · as_aux_lemma =>
          go_simp
          obtain ⟨W1, hW1⟩ : ∃ W', W' = W0.alloc (.cells #[] 37) := ⟨_, rfl⟩; rw [← hW1]; have hbW1 := (alloc_is hW1).1; have hlW1 := hBW.size; have HSW1 := hid (alloc_is hW1).2; have hA : W1.ownsRow 0 37 1 (.slice (some ⟨W0.heap.size, 0, none⟩) 0 0) 0 [] := (by rw [hW1]; exact World.ownsRow_made W0 #[] 0 (Nat.zero_le _) (by decide) rfl); have HGhA : Hid (fb < W0.heap.size) := hid HFL.out; replace hR := hR.blk (hbW1.block fb HFL.out); replace hBW := hBW.trans (hbW1.mono hBW.size); replace HFL : Hid (fb < W1.heap.size) := hid (by have h1 := HFL.out; have h2 := HSW1.out; omega); clear hW1
          refine hK.out _ _ hR (fun hHeld => ?_)
          clear hK K
          (try simp only [Act.put, List.setIfInBounds_toArray, List.set_cons_zero, List.set_cons_succ])
          refine wpAnyK_ready (rs := [5, 6, 10]) (by kernel_rfl) (by simp) ?_
          refine AllReadyK.cons (op_at _ 5 _ rfl) (fun K hK => ?_) ?_
          · as_aux_lemma =>
            refine step_app rfl (.tmp 38) (.tmp 40) el66 rfl (.slice (some ⟨W0.heap.size, 0, none⟩) 0 0) 0 [] rfl hA R.B1.aN LN1 R.B1.cN R.B1.vs rfl (src_row (own_later RN.out hBW) HVS.out) (by omega) ?_; simp only [Nat.zero_add, List.nil_append]; intro a5 c5 W2 ho5 hg5 hat5; have hll5 := hBW.size; have hgl5 := hlW1; have ha5 : ∀ a, a5 = some a → wr.heap.size ≤ a.block := (fun a ha => by rcases hat5 a ha with h | h; simp only [Value.ownBlock, Option.some.injEq] at h; omega; omega); replace hR := hR.blk (hg5.block fb HFL.out (fun e => by simp only [Value.ownBlock, Option.some.injEq] at e; have h1 := HGhA.out; omega)); have HZ5 : Hid (W1.heap.size ≤ W2.heap.size) := hid hg5.size; replace HFL : Hid (fb < W2.heap.size) := hid (Nat.lt_of_lt_of_le HFL.out HZ5.out); replace hBW := hBW.grown hg5 hBW.size (fun k hk => by simp only [Value.ownBlock, Option.some.injEq] at hk; omega); clear hat5 hg5 hA HGhA
            refine hK.out _ _ hR (fun hHeld => ?_)
            clear hK K
            (try simp only [Act.put, List.setIfInBounds_toArray, List.set_cons_zero, List.set_cons_succ])
            refine wpAnyK_ready (rs := [6, 10]) (by kernel_rfl) (by simp) ?_
            refine AllReadyK.cons (op_at _ 6 _ rfl) (fun K hK => ?_) ?_
            · as_aux_lemma =>
              go_simp
              obtain ⟨W3, hW3⟩ : ∃ W', W' = W2.alloc (.cells #[] 37) := ⟨_, rfl⟩; rw [← hW3]; have hbW3 := (alloc_is hW3).1; have hlW3 := hBW.size; have HSW3 := hid (alloc_is hW3).2; have HNE : Hid (∀ i j, (Value.ownBlock (.slice a5 LN1 c5)) = some i → (Value.ownBlock (.slice (some ⟨W2.heap.size, 0, none⟩) 0 0)) = some j → i ≠ j) := hid (fun i j hi hj e => by have h1 := own_lt ho5 hi; simp only [Value.ownBlock, Option.some.injEq] at hj; omega); replace ho5 := own_later ho5 hbW3; have hB : W3.ownsRow 0 37 1 (.slice (some ⟨W2.heap.size, 0, none⟩) 0 0) 0 [] := (by rw [hW3]; exact World.ownsRow_made W2 #[] 0 (Nat.zero_le _) (by decide) rfl); have HGhB : Hid (fb < W2.heap.size) := hid HFL.out; replace hR := hR.blk (hbW3.block fb HFL.out); replace hBW := hBW.trans (hbW3.mono hBW.size); replace HFL : Hid (fb < W3.heap.size) := hid (by have h1 := HFL.out; have h2 := HSW3.out; omega); clear hW3
              refine hK.out _ _ hR (fun hHeld => ?_)
              clear hK K
              (try simp only [Act.put, List.setIfInBounds_toArray, List.set_cons_zero, List.set_cons_succ])
              refine wpAnyK_ready (rs := [9, 10]) (by kernel_rfl) (by simp) ?_
              refine AllReadyK.cons (op_at _ 9 _ rfl) (fun K hK => ?_) ?_
              · as_aux_lemma =>
                refine step_app rfl (.tmp 42) (.tmp 44) el66 rfl (.slice (some ⟨W2.heap.size, 0, none⟩) 0 0) 0 [] rfl hB R.B1.aS LO1 R.B1.cS R.B1.us rfl (src_row (own_later RS.out hBW) HUS.out) (by omega) ?_; simp only [Nat.zero_add, List.nil_append]; intro a9 c9 W4 ho9 hg9 hat9; have hll9 := hBW.size; have hgl9 := hlW3; have ha9 : ∀ a, a9 = some a → wr.heap.size ≤ a.block := (fun a ha => by rcases hat9 a ha with h | h; simp only [Value.ownBlock, Option.some.injEq] at h; omega; omega); have HNE2 : Hid (∀ i j, (Value.ownBlock (.slice a5 LN1 c5)) = some i → (Value.ownBlock (.slice a9 LO1 c9)) = some j → i ≠ j) := hid (fun i j hi hj e => by obtain ⟨y, hy, rfl⟩ := slice_own hj; rcases hat9 y hy with h | h; exact HNE.out _ _ hi h e; have h1 := own_lt ho5 hi; omega); replace ho5 := own_beside ho5 hg9 (fun k hk e => HNE.out _ _ hk e.symm rfl); replace HNE := HNE2; clear HNE2; replace hR := hR.blk (hg9.block fb HFL.out (fun e => by simp only [Value.ownBlock, Option.some.injEq] at e; have h1 := HGhB.out; omega)); have HZ9 : Hid (W3.heap.size ≤ W4.heap.size) := hid hg9.size; replace HFL : Hid (fb < W4.heap.size) := hid (Nat.lt_of_lt_of_le HFL.out HZ9.out); replace hBW := hBW.grown hg9 hBW.size (fun k hk => by simp only [Value.ownBlock, Option.some.injEq] at hk; omega); clear hat9 hg9 hB HGhB
                refine hK.out _ _ hR (fun hHeld => ?_)
                clear hK K
                (try simp only [Act.put, List.setIfInBounds_toArray, List.set_cons_zero, List.set_cons_succ])
                refine wpAnyK_ready (rs := [10]) (by kernel_rfl) (by simp) ?_
                refine AllReadyK.cons (op_at _ 10 _ rfl) (fun K hK => ?_) AllReadyK.nil
                go_simp
                obtain ⟨W5, hW5⟩ : ∃ W', W' = W4.alloc (.cells #[] 4) := ⟨_, rfl⟩; rw [← hW5]; have hbW5 := (alloc_is hW5).1; have hlW5 := hBW.size; have HSW5 := hid (alloc_is hW5).2; replace ho5 := own_later ho5 hbW5; replace ho9 := own_later ho9 hbW5; have hC : W5.ownsRow 0 4 1 (.slice (some ⟨W4.heap.size, 0, none⟩) 0 0) 0 [] := (by rw [hW5]; exact World.ownsRow_made W4 #[] 0 (Nat.zero_le _) (by decide) rfl); have HGhC : Hid (fb < W4.heap.size) := hid HFL.out; replace hR := hR.blk (hbW5.block fb HFL.out); replace hBW := hBW.trans (hbW5.mono hBW.size); replace HFL : Hid (fb < W5.heap.size) := hid (by have h1 := HFL.out; have h2 := HSW5.out; omega); clear hW5
                refine hK.out _ _ hR (fun hHeld => ?_)
                clear hK K
                (try simp only [Act.put, List.setIfInBounds_toArray, List.set_cons_zero, List.set_cons_succ])
                refine wpAnyK_ready (rs := [13]) (by kernel_rfl) (by simp) ?_
                refine AllReadyK.cons (op_at _ 13 _ rfl) (fun K hK => ?_) AllReadyK.nil
                refine step_app rfl (.tmp 46) (.tmp 48) el30 rfl (.slice (some ⟨W4.heap.size, 0, none⟩) 0 0) 0 [] rfl hC R.B1.aD LD1 R.B1.cD (vb d.f1.dirt) rfl (src_row (own_later RD.out hBW) (vb_one _)) (by omega) ?_; simp only [Nat.zero_add, List.nil_append]; intro a13 c13 W6 ho13 hg13 hat13; have hll13 := hBW.size; have hgl13 := hlW5; have ha13 : ∀ a, a13 = some a → wr.heap.size ≤ a.block := (fun a ha => by rcases hat13 a ha with h | h; simp only [Value.ownBlock, Option.some.injEq] at h; omega; omega); replace ho5 := own_beside ho5 hg13 (fun k hk e => own_ne ho5 hC (by decide) hk e.symm rfl); replace ho9 := own_beside ho9 hg13 (fun k hk e => own_ne ho9 hC (by decide) hk e.symm rfl); replace hR := hR.blk (hg13.block fb HFL.out (fun e => by simp only [Value.ownBlock, Option.some.injEq] at e; have h1 := HGhC.out; omega)); have HZ13 : Hid (W5.heap.size ≤ W6.heap.size) := hid hg13.size; replace HFL : Hid (fb < W6.heap.size) := hid (Nat.lt_of_lt_of_le HFL.out HZ13.out); replace hBW := hBW.grown hg13 hBW.size (fun k hk => by simp only [Value.ownBlock, Option.some.injEq] at hk; omega); clear hat13 hg13 hC HGhC
                refine hK.out _ _ hR (fun hHeld => ?_)
                clear hK K
                (try simp only [Act.put, List.setIfInBounds_toArray, List.set_cons_zero, List.set_cons_succ])
                refine wpAnyK_pure (i := 14) (v := ?_) (op_at _ 14 _ rfl) (by kernel_rfl) (by kernel_rfl) (by kernel_rfl) (by kernel_rfl) (fun _ _ _ h => h) (Or.inl ⟨by rfl, ?_⟩) (Or.inl (by assumption)) ?_
                rotate_left 1
                focus (intro W hSw; go_simp; first | done | with_reducible rfl)
                (try simp only [Act.put, List.setIfInBounds_toArray, List.set_cons_zero, List.set_cons_succ])
                refine wpAnyK_pure (i := 17) (v := ?_) (op_at _ 17 _ rfl) (by kernel_rfl) (by kernel_rfl) (by kernel_rfl) (by kernel_rfl) (fun _ _ _ h => h) (Or.inl ⟨by rfl, ?_⟩) (Or.inl (by assumption)) ?_
                rotate_left 1
                focus (intro W hSw; go_simp; first | done | with_reducible rfl)
                (try simp only [Act.put, List.setIfInBounds_toArray, List.set_cons_zero, List.set_cons_succ])
                obtain ⟨v0, v1, v2, y0, y1, y2, z0, z1, z2⟩ := hI.out.cells (o := 4) hBW hqr (by omega) (by omega)
                refine wpAnyK_ready (rs := [18]) (by kernel_rfl) (by simp) ?_
                refine AllReadyK.cons (op_at _ 18 _ rfl) (fun K hK => ?_) AllReadyK.nil
                go_simp
                have hR2 : Rd3 fb (.slice R.B1.aN LN1 R.B1.cN) (.slice R.B1.aS LO1 R.B1.cS) (.slice R.B1.aD LD1 R.B1.cD) ((((W6).setCell ⟨q, 4, none⟩ (.slice a5 LN1 c5)).setCell ⟨q, 4 + 1, none⟩ (.slice a9 LO1 c9)).setCell ⟨q, 4 + 2, none⟩ (.slice a13 LD1 c13)) := hR.blk (set3_heap _ _ _ _ _ _ _ hfq); replace hR := hR2; clear hR2
                refine hK.out _ _ hR (fun hHeld => ?_)
                clear hK K
                (try simp only [Act.put, List.setIfInBounds_toArray, List.set_cons_zero, List.set_cons_succ])
                refine wpAnyK_done (by kernel_rfl) ?_ _
                go_wp2
                go_roundg 0
                case measure => omega
                case rel => exact ⟨2, _, _, _, rfl, rfl, hid (cp_1 hI.out HR1.out hq1 HRQ.out.1 HRQ.out.2 hBW ELN1.out ELO1.out ELD1.out ho5 ho9 ho13 ha5 ha9 ha13 (fun a b ha hb => HNE.out _ _ (by rw [ha]; rfl) (by rw [hb]; rfl)))⟩
              refine AllReadyK.cons (op_at _ 10 _ rfl) (fun K hK => ?_) ?_
              · as_aux_lemma =>
                go_simp
                obtain ⟨W4, hW4⟩ : ∃ W', W' = W3.alloc (.cells #[] 4) := ⟨_, rfl⟩; rw [← hW4]; have hbW4 := (alloc_is hW4).1; have hlW4 := hBW.size; have HSW4 := hid (alloc_is hW4).2; replace ho5 := own_later ho5 hbW4; replace hB := own_later hB hbW4; have hC : W4.ownsRow 0 4 1 (.slice (some ⟨W3.heap.size, 0, none⟩) 0 0) 0 [] := (by rw [hW4]; exact World.ownsRow_made W3 #[] 0 (Nat.zero_le _) (by decide) rfl); have HGhC : Hid (fb < W3.heap.size) := hid HFL.out; replace hR := hR.blk (hbW4.block fb HFL.out); replace hBW := hBW.trans (hbW4.mono hBW.size); replace HFL : Hid (fb < W4.heap.size) := hid (by have h1 := HFL.out; have h2 := HSW4.out; omega); clear hW4
                refine hK.out _ _ hR (fun hHeld => ?_)
                clear hK K
                (try simp only [Act.put, List.setIfInBounds_toArray, List.set_cons_zero, List.set_cons_succ])
                refine wpAnyK_ready (rs := [9]) (by kernel_rfl) (by simp) ?_
                refine AllReadyK.cons (op_at _ 9 _ rfl) (fun K hK => ?_) AllReadyK.nil
                refine step_app rfl (.tmp 42) (.tmp 44) el66 rfl (.slice (some ⟨W2.heap.size, 0, none⟩) 0 0) 0 [] rfl hB R.B1.aS LO1 R.B1.cS R.B1.us rfl (src_row (own_later RS.out hBW) HUS.out) (by omega) ?_; simp only [Nat.zero_add, List.nil_append]; intro a9 c9 W5 ho9 hg9 hat9; have hll9 := hBW.size; have hgl9 := hlW3; have ha9 : ∀ a, a9 = some a → wr.heap.size ≤ a.block := (fun a ha => by rcases hat9 a ha with h | h; simp only [Value.ownBlock, Option.some.injEq] at h; omega; omega); have HNE2 : Hid (∀ i j, (Value.ownBlock (.slice a5 LN1 c5)) = some i → (Value.ownBlock (.slice a9 LO1 c9)) = some j → i ≠ j) := hid (fun i j hi hj e => by obtain ⟨y, hy, rfl⟩ := slice_own hj; rcases hat9 y hy with h | h; exact HNE.out _ _ hi h e; have h1 := own_lt ho5 hi; omega); replace ho5 := own_beside ho5 hg9 (fun k hk e => HNE.out _ _ hk e.symm rfl); replace hC := own_beside hC hg9 (fun k hk e => own_ne hC hB (by decide) hk e.symm rfl); replace HNE := HNE2; clear HNE2; replace hR := hR.blk (hg9.block fb HFL.out (fun e => by simp only [Value.ownBlock, Option.some.injEq] at e; have h1 := HGhB.out; omega)); have HZ9 : Hid (W4.heap.size ≤ W5.heap.size) := hid hg9.size; replace HFL : Hid (fb < W5.heap.size) := hid (Nat.lt_of_lt_of_le HFL.out HZ9.out); replace hBW := hBW.grown hg9 hBW.size (fun k hk => by simp only [Value.ownBlock, Option.some.injEq] at hk; omega); clear hat9 hg9 hB HGhB
                refine hK.out _ _ hR (fun hHeld => ?_)
                clear hK K
                (try simp only [Act.put, List.setIfInBounds_toArray, List.set_cons_zero, List.set_cons_succ])
                refine wpAnyK_ready (rs := [13]) (by kernel_rfl) (by simp) ?_
                refine AllReadyK.cons (op_at _ 13 _ rfl) (fun K hK => ?_) AllReadyK.nil
                refine step_app rfl (.tmp 46) (.tmp 48) el30 rfl (.slice (some ⟨W3.heap.size, 0, none⟩) 0 0) 0 [] rfl hC R.B1.aD LD1 R.B1.cD (vb d.f1.dirt) rfl (src_row (own_later RD.out hBW) (vb_one _)) (by omega) ?_; simp only [Nat.zero_add, List.nil_append]; intro a13 c13 W6 ho13 hg13 hat13; have hll13 := hBW.size; have hgl13 := hlW4; have ha13 : ∀ a, a13 = some a → wr.heap.size ≤ a.block := (fun a ha => by rcases hat13 a ha with h | h; simp only [Value.ownBlock, Option.some.injEq] at h; omega; omega); replace ho5 := own_beside ho5 hg13 (fun k hk e => own_ne ho5 hC (by decide) hk e.symm rfl); replace ho9 := own_beside ho9 hg13 (fun k hk e => own_ne ho9 hC (by decide) hk e.symm rfl); replace hR := hR.blk (hg13.block fb HFL.out (fun e => by simp only [Value.ownBlock, Option.some.injEq] at e; have h1 := HGhC.out; omega)); have HZ13 : Hid (W5.heap.size ≤ W6.heap.size) := hid hg13.size; replace HFL : Hid (fb < W6.heap.size) := hid (Nat.lt_of_lt_of_le HFL.out HZ13.out); replace hBW := hBW.grown hg13 hBW.size (fun k hk => by simp only [Value.ownBlock, Option.some.injEq] at hk; omega); clear hat13 hg13 hC HGhC
                refine hK.out _ _ hR (fun hHeld => ?_)
                clear hK K
                (try simp only [Act.put, List.setIfInBounds_toArray, List.set_cons_zero, List.set_cons_succ])
                refine wpAnyK_pure (i := 14) (v := ?_) (op_at _ 14 _ rfl) (by kernel_rfl) (by kernel_rfl) (by kernel_rfl) (by kernel_rfl) (fun _ _ _ h => h) (Or.inl ⟨by rfl, ?_⟩) (Or.inl (by assumption)) ?_
                rotate_left 1
                focus (intro W hSw; go_simp; first | done | with_reducible rfl)
                (try simp only [Act.put, List.setIfInBounds_toArray, List.set_cons_zero, List.set_cons_succ])
                refine wpAnyK_pure (i := 17) (v := ?_) (op_at _ 17 _ rfl) (by kernel_rfl) (by kernel_rfl) (by kernel_rfl) (by kernel_rfl) (fun _ _ _ h => h) (Or.inl ⟨by rfl, ?_⟩) (Or.inl (by assumption)) ?_
                rotate_left 1
                focus (intro W hSw; go_simp; first | done | with_reducible rfl)
                (try simp only [Act.put, List.setIfInBounds_toArray, List.set_cons_zero, List.set_cons_succ])
                obtain ⟨v0, v1, v2, y0, y1, y2, z0, z1, z2⟩ := hI.out.cells (o := 4) hBW hqr (by omega) (by omega)
                refine wpAnyK_ready (rs := [18]) (by kernel_rfl) (by simp) ?_
                refine AllReadyK.cons (op_at _ 18 _ rfl) (fun K hK => ?_) AllReadyK.nil
                go_simp
                have hR2 : Rd3 fb (.slice R.B1.aN LN1 R.B1.cN) (.slice R.B1.aS LO1 R.B1.cS) (.slice R.B1.aD LD1 R.B1.cD) ((((W6).setCell ⟨q, 4, none⟩ (.slice a5 LN1 c5)).setCell ⟨q, 4 + 1, none⟩ (.slice a9 LO1 c9)).setCell ⟨q, 4 + 2, none⟩ (.slice a13 LD1 c13)) := hR.blk (set3_heap _ _ _ _ _ _ _ hfq); replace hR := hR2; clear hR2
                refine hK.out _ _ hR (fun hHeld => ?_)
                clear hK K
                (try simp only [Act.put, List.setIfInBounds_toArray, List.set_cons_zero, List.set_cons_succ])
                refine wpAnyK_done (by kernel_rfl) ?_ _
                go_wp2
                go_roundg 0
                case measure => omega
                case rel => exact ⟨2, _, _, _, rfl, rfl, hid (cp_1 hI.out HR1.out hq1 HRQ.out.1 HRQ.out.2 hBW ELN1.out ELO1.out ELD1.out ho5 ho9 ho13 ha5 ha9 ha13 (fun a b ha hb => HNE.out _ _ (by rw [ha]; rfl) (by rw [hb]; rfl)))⟩
              exact AllReadyK.nil
            refine AllReadyK.cons (op_at _ 10 _ rfl) (fun K hK => ?_) ?_
            · as_aux_lemma =>
              go_simp
              obtain ⟨W3, hW3⟩ : ∃ W', W' = W2.alloc (.cells #[] 4) := ⟨_, rfl⟩; rw [← hW3]; have hbW3 := (alloc_is hW3).1; have hlW3 := hBW.size; have HSW3 := hid (alloc_is hW3).2; replace ho5 := own_later ho5 hbW3; have hC : W3.ownsRow 0 4 1 (.slice (some ⟨W2.heap.size, 0, none⟩) 0 0) 0 [] := (by rw [hW3]; exact World.ownsRow_made W2 #[] 0 (Nat.zero_le _) (by decide) rfl); have HGhC : Hid (fb < W2.heap.size) := hid HFL.out; replace hR := hR.blk (hbW3.block fb HFL.out); replace hBW := hBW.trans (hbW3.mono hBW.size); replace HFL : Hid (fb < W3.heap.size) := hid (by have h1 := HFL.out; have h2 := HSW3.out; omega); clear hW3
              refine hK.out _ _ hR (fun hHeld => ?_)
              clear hK K
              (try simp only [Act.put, List.setIfInBounds_toArray, List.set_cons_zero, List.set_cons_succ])
              refine wpAnyK_ready (rs := [6]) (by kernel_rfl) (by simp) ?_
              refine AllReadyK.cons (op_at _ 6 _ rfl) (fun K hK => ?_) AllReadyK.nil
              go_simp
              obtain ⟨W4, hW4⟩ : ∃ W', W' = W3.alloc (.cells #[] 37) := ⟨_, rfl⟩; rw [← hW4]; have hbW4 := (alloc_is hW4).1; have hlW4 := hBW.size; have HSW4 := hid (alloc_is hW4).2; have HNE : Hid (∀ i j, (Value.ownBlock (.slice a5 LN1 c5)) = some i → (Value.ownBlock (.slice (some ⟨W3.heap.size, 0, none⟩) 0 0)) = some j → i ≠ j) := hid (fun i j hi hj e => by have h1 := own_lt ho5 hi; simp only [Value.ownBlock, Option.some.injEq] at hj; omega); replace ho5 := own_later ho5 hbW4; replace hC := own_later hC hbW4; have hB : W4.ownsRow 0 37 1 (.slice (some ⟨W3.heap.size, 0, none⟩) 0 0) 0 [] := (by rw [hW4]; exact World.ownsRow_made W3 #[] 0 (Nat.zero_le _) (by decide) rfl); have HGhB : Hid (fb < W3.heap.size) := hid HFL.out; replace hR := hR.blk (hbW4.block fb HFL.out); replace hBW := hBW.trans (hbW4.mono hBW.size); replace HFL : Hid (fb < W4.heap.size) := hid (by have h1 := HFL.out; have h2 := HSW4.out; omega); clear hW4
              refine hK.out _ _ hR (fun hHeld => ?_)
              clear hK K
              (try simp only [Act.put, List.setIfInBounds_toArray, List.set_cons_zero, List.set_cons_succ])
              refine wpAnyK_ready (rs := [9]) (by kernel_rfl) (by simp) ?_
              refine AllReadyK.cons (op_at _ 9 _ rfl) (fun K hK => ?_) AllReadyK.nil
              refine step_app rfl (.tmp 42) (.tmp 44) el66 rfl (.slice (some ⟨W3.heap.size, 0, none⟩) 0 0) 0 [] rfl hB R.B1.aS LO1 R.B1.cS R.B1.us rfl (src_row (own_later RS.out hBW) HUS.out) (by omega) ?_; simp only [Nat.zero_add, List.nil_append]; intro a9 c9 W5 ho9 hg9 hat9; have hll9 := hBW.size; have hgl9 := hlW4; have ha9 : ∀ a, a9 = some a → wr.heap.size ≤ a.block := (fun a ha => by rcases hat9 a ha with h | h; simp only [Value.ownBlock, Option.some.injEq] at h; omega; omega); have HNE2 : Hid (∀ i j, (Value.ownBlock (.slice a5 LN1 c5)) = some i → (Value.ownBlock (.slice a9 LO1 c9)) = some j → i ≠ j) := hid (fun i j hi hj e => by obtain ⟨y, hy, rfl⟩ := slice_own hj; rcases hat9 y hy with h | h; exact HNE.out _ _ hi h e; have h1 := own_lt ho5 hi; omega); replace ho5 := own_beside ho5 hg9 (fun k hk e => HNE.out _ _ hk e.symm rfl); replace hC := own_beside hC hg9 (fun k hk e => own_ne hC hB (by decide) hk e.symm rfl); replace HNE := HNE2; clear HNE2; replace hR := hR.blk (hg9.block fb HFL.out (fun e => by simp only [Value.ownBlock, Option.some.injEq] at e; have h1 := HGhB.out; omega)); have HZ9 : Hid (W4.heap.size ≤ W5.heap.size) := hid hg9.size; replace HFL : Hid (fb < W5.heap.size) := hid (Nat.lt_of_lt_of_le HFL.out HZ9.out); replace hBW := hBW.grown hg9 hBW.size (fun k hk => by simp only [Value.ownBlock, Option.some.injEq] at hk; omega); clear hat9 hg9 hB HGhB
              refine hK.out _ _ hR (fun hHeld => ?_)
              clear hK K
              (try simp only [Act.put, List.setIfInBounds_toArray, List.set_cons_zero, List.set_cons_succ])
              refine wpAnyK_ready (rs := [13]) (by kernel_rfl) (by simp) ?_
              refine AllReadyK.cons (op_at _ 13 _ rfl) (fun K hK => ?_) AllReadyK.nil
              refine step_app rfl (.tmp 46) (.tmp 48) el30 rfl (.slice (some ⟨W2.heap.size, 0, none⟩) 0 0) 0 [] rfl hC R.B1.aD LD1 R.B1.cD (vb d.f1.dirt) rfl (src_row (own_later RD.out hBW) (vb_one _)) (by omega) ?_; simp only [Nat.zero_add, List.nil_append]; intro a13 c13 W6 ho13 hg13 hat13; have hll13 := hBW.size; have hgl13 := hlW3; have ha13 : ∀ a, a13 = some a → wr.heap.size ≤ a.block := (fun a ha => by rcases hat13 a ha with h | h; simp only [Value.ownBlock, Option.some.injEq] at h; omega; omega); replace ho5 := own_beside ho5 hg13 (fun k hk e => own_ne ho5 hC (by decide) hk e.symm rfl); replace ho9 := own_beside ho9 hg13 (fun k hk e => own_ne ho9 hC (by decide) hk e.symm rfl); replace hR := hR.blk (hg13.block fb HFL.out (fun e => by simp only [Value.ownBlock, Option.some.injEq] at e; have h1 := HGhC.out; omega)); have HZ13 : Hid (W5.heap.size ≤ W6.heap.size) := hid hg13.size; replace HFL : Hid (fb < W6.heap.size) := hid (Nat.lt_of_lt_of_le HFL.out HZ13.out); replace hBW := hBW.grown hg13 hBW.size (fun k hk => by simp only [Value.ownBlock, Option.some.injEq] at hk; omega); clear hat13 hg13 hC HGhC
              refine hK.out _ _ hR (fun hHeld => ?_)
              clear hK K
              (try simp only [Act.put, List.setIfInBounds_toArray, List.set_cons_zero, List.set_cons_succ])
              refine wpAnyK_pure (i := 14) (v := ?_) (op_at _ 14 _ rfl) (by kernel_rfl) (by kernel_rfl) (by kernel_rfl) (by kernel_rfl) (fun _ _ _ h => h) (Or.inl ⟨by rfl, ?_⟩) (Or.inl (by assumption)) ?_
              rotate_left 1
              focus (intro W hSw; go_simp; first | done | with_reducible rfl)
              (try simp only [Act.put, List.setIfInBounds_toArray, List.set_cons_zero, List.set_cons_succ])
              refine wpAnyK_pure (i := 17) (v := ?_) (op_at _ 17 _ rfl) (by kernel_rfl) (by kernel_rfl) (by kernel_rfl) (by kernel_rfl) (fun _ _ _ h => h) (Or.inl ⟨by rfl, ?_⟩) (Or.inl (by assumption)) ?_
              rotate_left 1
              focus (intro W hSw; go_simp; first | done | with_reducible rfl)
              (try simp only [Act.put, List.setIfInBounds_toArray, List.set_cons_zero, List.set_cons_succ])
              obtain ⟨v0, v1, v2, y0, y1, y2, z0, z1, z2⟩ := hI.out.cells (o := 4) hBW hqr (by omega) (by omega)
              refine wpAnyK_ready (rs := [18]) (by kernel_rfl) (by simp) ?_
              refine AllReadyK.cons (op_at _ 18 _ rfl) (fun K hK => ?_) AllReadyK.nil
              go_simp
              have hR2 : Rd3 fb (.slice R.B1.aN LN1 R.B1.cN) (.slice R.B1.aS LO1 R.B1.cS) (.slice R.B1.aD LD1 R.B1.cD) ((((W6).setCell ⟨q, 4, none⟩ (.slice a5 LN1 c5)).setCell ⟨q, 4 + 1, none⟩ (.slice a9 LO1 c9)).setCell ⟨q, 4 + 2, none⟩ (.slice a13 LD1 c13)) := hR.blk (set3_heap _ _ _ _ _ _ _ hfq); replace hR := hR2; clear hR2
              refine hK.out _ _ hR (fun hHeld => ?_)
              clear hK K
              (try simp only [Act.put, List.setIfInBounds_toArray, List.set_cons_zero, List.set_cons_succ])
              refine wpAnyK_done (by kernel_rfl) ?_ _
              go_wp2
              go_roundg 0
              case measure => omega
              case rel => exact ⟨2, _, _, _, rfl, rfl, hid (cp_1 hI.out HR1.out hq1 HRQ.out.1 HRQ.out.2 hBW ELN1.out ELO1.out ELD1.out ho5 ho9 ho13 ha5 ha9 ha13 (fun a b ha hb => HNE.out _ _ (by rw [ha]; rfl) (by rw [hb]; rfl)))⟩
            exact AllReadyK.nil
          refine AllReadyK.cons (op_at _ 6 _ rfl) (fun K hK => ?_) ?_
          · as_aux_lemma =>
            go_simp
            obtain ⟨W2, hW2⟩ : ∃ W', W' = W1.alloc (.cells #[] 37) := ⟨_, rfl⟩; rw [← hW2]; have hbW2 := (alloc_is hW2).1; have hlW2 := hBW.size; have HSW2 := hid (alloc_is hW2).2; have HNE : Hid (∀ i j, (Value.ownBlock (.slice (some ⟨W0.heap.size, 0, none⟩) 0 0)) = some i → (Value.ownBlock (.slice (some ⟨W1.heap.size, 0, none⟩) 0 0)) = some j → i ≠ j) := hid (fun i j hi hj e => by have h1 := own_lt hA hi; simp only [Value.ownBlock, Option.some.injEq] at hj; omega); replace hA := own_later hA hbW2; have hB : W2.ownsRow 0 37 1 (.slice (some ⟨W1.heap.size, 0, none⟩) 0 0) 0 [] := (by rw [hW2]; exact World.ownsRow_made W1 #[] 0 (Nat.zero_le _) (by decide) rfl); have HGhB : Hid (fb < W1.heap.size) := hid HFL.out; replace hR := hR.blk (hbW2.block fb HFL.out); replace hBW := hBW.trans (hbW2.mono hBW.size); replace HFL : Hid (fb < W2.heap.size) := hid (by have h1 := HFL.out; have h2 := HSW2.out; omega); clear hW2
            refine hK.out _ _ hR (fun hHeld => ?_)
            clear hK K
            (try simp only [Act.put, List.setIfInBounds_toArray, List.set_cons_zero, List.set_cons_succ])
            refine wpAnyK_ready (rs := [5, 10]) (by kernel_rfl) (by simp) ?_
            refine AllReadyK.cons (op_at _ 5 _ rfl) (fun K hK => ?_) ?_
            · as_aux_lemma =>
              refine step_app rfl (.tmp 38) (.tmp 40) el66 rfl (.slice (some ⟨W0.heap.size, 0, none⟩) 0 0) 0 [] rfl hA R.B1.aN LN1 R.B1.cN R.B1.vs rfl (src_row (own_later RN.out hBW) HVS.out) (by omega) ?_; simp only [Nat.zero_add, List.nil_append]; intro a5 c5 W3 ho5 hg5 hat5; have hll5 := hBW.size; have hgl5 := hlW1; have ha5 : ∀ a, a5 = some a → wr.heap.size ≤ a.block := (fun a ha => by rcases hat5 a ha with h | h; simp only [Value.ownBlock, Option.some.injEq] at h; omega; omega); have HNE2 : Hid (∀ i j, (Value.ownBlock (.slice a5 LN1 c5)) = some i → (Value.ownBlock (.slice (some ⟨W1.heap.size, 0, none⟩) 0 0)) = some j → i ≠ j) := hid (fun i j hi hj e => by obtain ⟨y, hy, rfl⟩ := slice_own hi; rcases hat5 y hy with h | h; exact HNE.out _ _ h hj e; have h1 := own_lt hB hj; omega); replace hB := own_beside hB hg5 (fun k hk e => HNE.out _ _ e.symm hk rfl); replace HNE := HNE2; clear HNE2; replace hR := hR.blk (hg5.block fb HFL.out (fun e => by simp only [Value.ownBlock, Option.some.injEq] at e; have h1 := HGhA.out; omega)); have HZ5 : Hid (W2.heap.size ≤ W3.heap.size) := hid hg5.size; replace HFL : Hid (fb < W3.heap.size) := hid (Nat.lt_of_lt_of_le HFL.out HZ5.out); replace hBW := hBW.grown hg5 hBW.size (fun k hk => by simp only [Value.ownBlock, Option.some.injEq] at hk; omega); clear hat5 hg5 hA HGhA
              refine hK.out _ _ hR (fun hHeld => ?_)
              clear hK K
              (try simp only [Act.put, List.setIfInBounds_toArray, List.set_cons_zero, List.set_cons_succ])
              refine wpAnyK_ready (rs := [9, 10]) (by kernel_rfl) (by simp) ?_
              refine AllReadyK.cons (op_at _ 9 _ rfl) (fun K hK => ?_) ?_
              · as_aux_lemma =>
                refine step_app rfl (.tmp 42) (.tmp 44) el66 rfl (.slice (some ⟨W1.heap.size, 0, none⟩) 0 0) 0 [] rfl hB R.B1.aS LO1 R.B1.cS R.B1.us rfl (src_row (own_later RS.out hBW) HUS.out) (by omega) ?_; simp only [Nat.zero_add, List.nil_append]; intro a9 c9 W4 ho9 hg9 hat9; have hll9 := hBW.size; have hgl9 := hlW2; have ha9 : ∀ a, a9 = some a → wr.heap.size ≤ a.block := (fun a ha => by rcases hat9 a ha with h | h; simp only [Value.ownBlock, Option.some.injEq] at h; omega; omega); have HNE2 : Hid (∀ i j, (Value.ownBlock (.slice a5 LN1 c5)) = some i → (Value.ownBlock (.slice a9 LO1 c9)) = some j → i ≠ j) := hid (fun i j hi hj e => by obtain ⟨y, hy, rfl⟩ := slice_own hj; rcases hat9 y hy with h | h; exact HNE.out _ _ hi h e; have h1 := own_lt ho5 hi; omega); replace ho5 := own_beside ho5 hg9 (fun k hk e => HNE.out _ _ hk e.symm rfl); replace HNE := HNE2; clear HNE2; replace hR := hR.blk (hg9.block fb HFL.out (fun e => by simp only [Value.ownBlock, Option.some.injEq] at e; have h1 := HGhB.out; omega)); have HZ9 : Hid (W3.heap.size ≤ W4.heap.size) := hid hg9.size; replace HFL : Hid (fb < W4.heap.size) := hid (Nat.lt_of_lt_of_le HFL.out HZ9.out); replace hBW := hBW.grown hg9 hBW.size (fun k hk => by simp only [Value.ownBlock, Option.some.injEq] at hk; omega); clear hat9 hg9 hB HGhB
                refine hK.out _ _ hR (fun hHeld => ?_)
                clear hK K
                (try simp only [Act.put, List.setIfInBounds_toArray, List.set_cons_zero, List.set_cons_succ])
                refine wpAnyK_ready (rs := [10]) (by kernel_rfl) (by simp) ?_
                refine AllReadyK.cons (op_at _ 10 _ rfl) (fun K hK => ?_) AllReadyK.nil
                go_simp
                obtain ⟨W5, hW5⟩ : ∃ W', W' = W4.alloc (.cells #[] 4) := ⟨_, rfl⟩; rw [← hW5]; have hbW5 := (alloc_is hW5).1; have hlW5 := hBW.size; have HSW5 := hid (alloc_is hW5).2; replace ho5 := own_later ho5 hbW5; replace ho9 := own_later ho9 hbW5; have hC : W5.ownsRow 0 4 1 (.slice (some ⟨W4.heap.size, 0, none⟩) 0 0) 0 [] := (by rw [hW5]; exact World.ownsRow_made W4 #[] 0 (Nat.zero_le _) (by decide) rfl); have HGhC : Hid (fb < W4.heap.size) := hid HFL.out; replace hR := hR.blk (hbW5.block fb HFL.out); replace hBW := hBW.trans (hbW5.mono hBW.size); replace HFL : Hid (fb < W5.heap.size) := hid (by have h1 := HFL.out; have h2 := HSW5.out; omega); clear hW5
                refine hK.out _ _ hR (fun hHeld => ?_)
                clear hK K
                (try simp only [Act.put, List.setIfInBounds_toArray, List.set_cons_zero, List.set_cons_succ])
                refine wpAnyK_ready (rs := [13]) (by kernel_rfl) (by simp) ?_
                refine AllReadyK.cons (op_at _ 13 _ rfl) (fun K hK => ?_) AllReadyK.nil
                refine step_app rfl (.tmp 46) (.tmp 48) el30 rfl (.slice (some ⟨W4.heap.size, 0, none⟩) 0 0) 0 [] rfl hC R.B1.aD LD1 R.B1.cD (vb d.f1.dirt) rfl (src_row (own_later RD.out hBW) (vb_one _)) (by omega) ?_; simp only [Nat.zero_add, List.nil_append]; intro a13 c13 W6 ho13 hg13 hat13; have hll13 := hBW.size; have hgl13 := hlW5; have ha13 : ∀ a, a13 = some a → wr.heap.size ≤ a.block := (fun a ha => by rcases hat13 a ha with h | h; simp only [Value.ownBlock, Option.some.injEq] at h; omega; omega); replace ho5 := own_beside ho5 hg13 (fun k hk e => own_ne ho5 hC (by decide) hk e.symm rfl); replace ho9 := own_beside ho9 hg13 (fun k hk e => own_ne ho9 hC (by decide) hk e.symm rfl); replace hR := hR.blk (hg13.block fb HFL.out (fun e => by simp only [Value.ownBlock, Option.some.injEq] at e; have h1 := HGhC.out; omega)); have HZ13 : Hid (W5.heap.size ≤ W6.heap.size) := hid hg13.size; replace HFL : Hid (fb < W6.heap.size) := hid (Nat.lt_of_lt_of_le HFL.out HZ13.out); replace hBW := hBW.grown hg13 hBW.size (fun k hk => by simp only [Value.ownBlock, Option.some.injEq] at hk; omega); clear hat13 hg13 hC HGhC
                refine hK.out _ _ hR (fun hHeld => ?_)
                clear hK K
                (try simp only [Act.put, List.setIfInBounds_toArray, List.set_cons_zero, List.set_cons_succ])
                refine wpAnyK_pure (i := 14) (v := ?_) (op_at _ 14 _ rfl) (by kernel_rfl) (by kernel_rfl) (by kernel_rfl) (by kernel_rfl) (fun _ _ _ h => h) (Or.inl ⟨by rfl, ?_⟩) (Or.inl (by assumption)) ?_
                rotate_left 1
                focus (intro W hSw; go_simp; first | done | with_reducible rfl)
                (try simp only [Act.put, List.setIfInBounds_toArray, List.set_cons_zero, List.set_cons_succ])
                refine wpAnyK_pure (i := 17) (v := ?_) (op_at _ 17 _ rfl) (by kernel_rfl) (by kernel_rfl) (by kernel_rfl) (by kernel_rfl) (fun _ _ _ h => h) (Or.inl ⟨by rfl, ?_⟩) (Or.inl (by assumption)) ?_
                rotate_left 1
                focus (intro W hSw; go_simp; first | done | with_reducible rfl)
                (try simp only [Act.put, List.setIfInBounds_toArray, List.set_cons_zero, List.set_cons_succ])
                obtain ⟨v0, v1, v2, y0, y1, y2, z0, z1, z2⟩ := hI.out.cells (o := 4) hBW hqr (by omega) (by omega)
                refine wpAnyK_ready (rs := [18]) (by kernel_rfl) (by simp) ?_
                refine AllReadyK.cons (op_at _ 18 _ rfl) (fun K hK => ?_) AllReadyK.nil
                go_simp
                have hR2 : Rd3 fb (.slice R.B1.aN LN1 R.B1.cN) (.slice R.B1.aS LO1 R.B1.cS) (.slice R.B1.aD LD1 R.B1.cD) ((((W6).setCell ⟨q, 4, none⟩ (.slice a5 LN1 c5)).setCell ⟨q, 4 + 1, none⟩ (.slice a9 LO1 c9)).setCell ⟨q, 4 + 2, none⟩ (.slice a13 LD1 c13)) := hR.blk (set3_heap _ _ _ _ _ _ _ hfq); replace hR := hR2; clear hR2
                refine hK.out _ _ hR (fun hHeld => ?_)
                clear hK K
                (try simp only [Act.put, List.setIfInBounds_toArray, List.set_cons_zero, List.set_cons_succ])
                refine wpAnyK_done (by kernel_rfl) ?_ _
                go_wp2
                go_roundg 0
                case measure => omega
                case rel => exact ⟨2, _, _, _, rfl, rfl, hid (cp_1 hI.out HR1.out hq1 HRQ.out.1 HRQ.out.2 hBW ELN1.out ELO1.out ELD1.out ho5 ho9 ho13 ha5 ha9 ha13 (fun a b ha hb => HNE.out _ _ (by rw [ha]; rfl) (by rw [hb]; rfl)))⟩
              refine AllReadyK.cons (op_at _ 10 _ rfl) (fun K hK => ?_) ?_
              · as_aux_lemma =>
                go_simp
                obtain ⟨W4, hW4⟩ : ∃ W', W' = W3.alloc (.cells #[] 4) := ⟨_, rfl⟩; rw [← hW4]; have hbW4 := (alloc_is hW4).1; have hlW4 := hBW.size; have HSW4 := hid (alloc_is hW4).2; replace hB := own_later hB hbW4; replace ho5 := own_later ho5 hbW4; have hC : W4.ownsRow 0 4 1 (.slice (some ⟨W3.heap.size, 0, none⟩) 0 0) 0 [] := (by rw [hW4]; exact World.ownsRow_made W3 #[] 0 (Nat.zero_le _) (by decide) rfl); have HGhC : Hid (fb < W3.heap.size) := hid HFL.out; replace hR := hR.blk (hbW4.block fb HFL.out); replace hBW := hBW.trans (hbW4.mono hBW.size); replace HFL : Hid (fb < W4.heap.size) := hid (by have h1 := HFL.out; have h2 := HSW4.out; omega); clear hW4
                refine hK.out _ _ hR (fun hHeld => ?_)
                clear hK K
                (try simp only [Act.put, List.setIfInBounds_toArray, List.set_cons_zero, List.set_cons_succ])
                refine wpAnyK_ready (rs := [9]) (by kernel_rfl) (by simp) ?_
                refine AllReadyK.cons (op_at _ 9 _ rfl) (fun K hK => ?_) AllReadyK.nil
                refine step_app rfl (.tmp 42) (.tmp 44) el66 rfl (.slice (some ⟨W1.heap.size, 0, none⟩) 0 0) 0 [] rfl hB R.B1.aS LO1 R.B1.cS R.B1.us rfl (src_row (own_later RS.out hBW) HUS.out) (by omega) ?_; simp only [Nat.zero_add, List.nil_append]; intro a9 c9 W5 ho9 hg9 hat9; have hll9 := hBW.size; have hgl9 := hlW2; have ha9 : ∀ a, a9 = some a → wr.heap.size ≤ a.block := (fun a ha => by rcases hat9 a ha with h | h; simp only [Value.ownBlock, Option.some.injEq] at h; omega; omega); have HNE2 : Hid (∀ i j, (Value.ownBlock (.slice a5 LN1 c5)) = some i → (Value.ownBlock (.slice a9 LO1 c9)) = some j → i ≠ j) := hid (fun i j hi hj e => by obtain ⟨y, hy, rfl⟩ := slice_own hj; rcases hat9 y hy with h | h; exact HNE.out _ _ hi h e; have h1 := own_lt ho5 hi; omega); replace ho5 := own_beside ho5 hg9 (fun k hk e => HNE.out _ _ hk e.symm rfl); replace hC := own_beside hC hg9 (fun k hk e => own_ne hC hB (by decide) hk e.symm rfl); replace HNE := HNE2; clear HNE2; replace hR := hR.blk (hg9.block fb HFL.out (fun e => by simp only [Value.ownBlock, Option.some.injEq] at e; have h1 := HGhB.out; omega)); have HZ9 : Hid (W4.heap.size ≤ W5.heap.size) := hid hg9.size; replace HFL : Hid (fb < W5.heap.size) := hid (Nat.lt_of_lt_of_le HFL.out HZ9.out); replace hBW := hBW.grown hg9 hBW.size (fun k hk => by simp only [Value.ownBlock, Option.some.injEq] at hk; omega); clear hat9 hg9 hB HGhB
                refine hK.out _ _ hR (fun hHeld => ?_)
                clear hK K
                (try simp only [Act.put, List.setIfInBounds_toArray, List.set_cons_zero, List.set_cons_succ])
                refine wpAnyK_ready (rs := [13]) (by kernel_rfl) (by simp) ?_
                refine AllReadyK.cons (op_at _ 13 _ rfl) (fun K hK => ?_) AllReadyK.nil
                refine step_app rfl (.tmp 46) (.tmp 48) el30 rfl (.slice (some ⟨W3.heap.size, 0, none⟩) 0 0) 0 [] rfl hC R.B1.aD LD1 R.B1.cD (vb d.f1.dirt) rfl (src_row (own_later RD.out hBW) (vb_one _)) (by omega) ?_; simp only [Nat.zero_add, List.nil_append]; intro a13 c13 W6 ho13 hg13 hat13; have hll13 := hBW.size; have hgl13 := hlW4; have ha13 : ∀ a, a13 = some a → wr.heap.size ≤ a.block := (fun a ha => by rcases hat13 a ha with h | h; simp only [Value.ownBlock, Option.some.injEq] at h; omega; omega); replace ho5 := own_beside ho5 hg13 (fun k hk e => own_ne ho5 hC (by decide) hk e.symm rfl); replace ho9 := own_beside ho9 hg13 (fun k hk e => own_ne ho9 hC (by decide) hk e.symm rfl); replace hR := hR.blk (hg13.block fb HFL.out (fun e => by simp only [Value.ownBlock, Option.some.injEq] at e; have h1 := HGhC.out; omega)); have HZ13 : Hid (W5.heap.size ≤ W6.heap.size) := hid hg13.size; replace HFL : Hid (fb < W6.heap.size) := hid (Nat.lt_of_lt_of_le HFL.out HZ13.out); replace hBW := hBW.grown hg13 hBW.size (fun k hk => by simp only [Value.ownBlock, Option.some.injEq] at hk; omega); clear hat13 hg13 hC HGhC
                refine hK.out _ _ hR (fun hHeld => ?_)
                clear hK K
                (try simp only [Act.put, List.setIfInBounds_toArray, List.set_cons_zero, List.set_cons_succ])
                refine wpAnyK_pure (i := 14) (v := ?_) (op_at _ 14 _ rfl) (by kernel_rfl) (by kernel_rfl) (by kernel_rfl) (by kernel_rfl) (fun _ _ _ h => h) (Or.inl ⟨by rfl, ?_⟩) (Or.inl (by assumption)) ?_
                rotate_left 1
                focus (intro W hSw; go_simp; first | done | with_reducible rfl)
                (try simp only [Act.put, List.setIfInBounds_toArray, List.set_cons_zero, List.set_cons_succ])
                refine wpAnyK_pure (i := 17) (v := ?_) (op_at _ 17 _ rfl) (by kernel_rfl) (by kernel_rfl) (by kernel_rfl) (by kernel_rfl) (fun _ _ _ h => h) (Or.inl ⟨by rfl, ?_⟩) (Or.inl (by assumption)) ?_
                rotate_left 1
                focus (intro W hSw; go_simp; first | done | with_reducible rfl)
                (try simp only [Act.put, List.setIfInBounds_toArray, List.set_cons_zero, List.set_cons_succ])
                obtain ⟨v0, v1, v2, y0, y1, y2, z0, z1, z2⟩ := hI.out.cells (o := 4) hBW hqr (by omega) (by omega)
                refine wpAnyK_ready (rs := [18]) (by kernel_rfl) (by simp) ?_
                refine AllReadyK.cons (op_at _ 18 _ rfl) (fun K hK => ?_) AllReadyK.nil
                go_simp
                have hR2 : Rd3 fb (.slice R.B1.aN LN1 R.B1.cN) (.slice R.B1.aS LO1 R.B1.cS) (.slice R.B1.aD LD1 R.B1.cD) ((((W6).setCell ⟨q, 4, none⟩ (.slice a5 LN1 c5)).setCell ⟨q, 4 + 1, none⟩ (.slice a9 LO1 c9)).setCell ⟨q, 4 + 2, none⟩ (.slice a13 LD1 c13)) := hR.blk (set3_heap _ _ _ _ _ _ _ hfq); replace hR := hR2; clear hR2
                refine hK.out _ _ hR (fun hHeld => ?_)
                clear hK K
                (try simp only [Act.put, List.setIfInBounds_toArray, List.set_cons_zero, List.set_cons_succ])
                refine wpAnyK_done (by kernel_rfl) ?_ _
                go_wp2
                go_roundg 0
                case measure => omega
                case rel => exact ⟨2, _, _, _, rfl, rfl, hid (cp_1 hI.out HR1.out hq1 HRQ.out.1 HRQ.out.2 hBW ELN1.out ELO1.out ELD1.out ho5 ho9 ho13 ha5 ha9 ha13 (fun a b ha hb => HNE.out _ _ (by rw [ha]; rfl) (by rw [hb]; rfl)))⟩
              exact AllReadyK.nil
            refine AllReadyK.cons (op_at _ 10 _ rfl) (fun K hK => ?_) ?_
            · as_aux_lemma =>
              go_simp
              obtain ⟨W3, hW3⟩ : ∃ W', W' = W2.alloc (.cells #[] 4) := ⟨_, rfl⟩; rw [← hW3]; have hbW3 := (alloc_is hW3).1; have hlW3 := hBW.size; have HSW3 := hid (alloc_is hW3).2; replace hA := own_later hA hbW3; replace hB := own_later hB hbW3; have hC : W3.ownsRow 0 4 1 (.slice (some ⟨W2.heap.size, 0, none⟩) 0 0) 0 [] := (by rw [hW3]; exact World.ownsRow_made W2 #[] 0 (Nat.zero_le _) (by decide) rfl); have HGhC : Hid (fb < W2.heap.size) := hid HFL.out; replace hR := hR.blk (hbW3.block fb HFL.out); replace hBW := hBW.trans (hbW3.mono hBW.size); replace HFL : Hid (fb < W3.heap.size) := hid (by have h1 := HFL.out; have h2 := HSW3.out; omega); clear hW3
              refine hK.out _ _ hR (fun hHeld => ?_)
              clear hK K
              (try simp only [Act.put, List.setIfInBounds_toArray, List.set_cons_zero, List.set_cons_succ])
              refine wpAnyK_ready (rs := [5]) (by kernel_rfl) (by simp) ?_
              refine AllReadyK.cons (op_at _ 5 _ rfl) (fun K hK => ?_) AllReadyK.nil
              refine step_app rfl (.tmp 38) (.tmp 40) el66 rfl (.slice (some ⟨W0.heap.size, 0, none⟩) 0 0) 0 [] rfl hA R.B1.aN LN1 R.B1.cN R.B1.vs rfl (src_row (own_later RN.out hBW) HVS.out) (by omega) ?_; simp only [Nat.zero_add, List.nil_append]; intro a5 c5 W4 ho5 hg5 hat5; have hll5 := hBW.size; have hgl5 := hlW1; have ha5 : ∀ a, a5 = some a → wr.heap.size ≤ a.block := (fun a ha => by rcases hat5 a ha with h | h; simp only [Value.ownBlock, Option.some.injEq] at h; omega; omega); have HNE2 : Hid (∀ i j, (Value.ownBlock (.slice a5 LN1 c5)) = some i → (Value.ownBlock (.slice (some ⟨W1.heap.size, 0, none⟩) 0 0)) = some j → i ≠ j) := hid (fun i j hi hj e => by obtain ⟨y, hy, rfl⟩ := slice_own hi; rcases hat5 y hy with h | h; exact HNE.out _ _ h hj e; have h1 := own_lt hB hj; omega); replace hB := own_beside hB hg5 (fun k hk e => HNE.out _ _ e.symm hk rfl); replace hC := own_beside hC hg5 (fun k hk e => own_ne hC hA (by decide) hk e.symm rfl); replace HNE := HNE2; clear HNE2; replace hR := hR.blk (hg5.block fb HFL.out (fun e => by simp only [Value.ownBlock, Option.some.injEq] at e; have h1 := HGhA.out; omega)); have HZ5 : Hid (W3.heap.size ≤ W4.heap.size) := hid hg5.size; replace HFL : Hid (fb < W4.heap.size) := hid (Nat.lt_of_lt_of_le HFL.out HZ5.out); replace hBW := hBW.grown hg5 hBW.size (fun k hk => by simp only [Value.ownBlock, Option.some.injEq] at hk; omega); clear hat5 hg5 hA HGhA
              refine hK.out _ _ hR (fun hHeld => ?_)
              clear hK K
              (try simp only [Act.put, List.setIfInBounds_toArray, List.set_cons_zero, List.set_cons_succ])
              refine wpAnyK_ready (rs := [9]) (by kernel_rfl) (by simp) ?_
              refine AllReadyK.cons (op_at _ 9 _ rfl) (fun K hK => ?_) AllReadyK.nil
              refine step_app rfl (.tmp 42) (.tmp 44) el66 rfl (.slice (some ⟨W1.heap.size, 0, none⟩) 0 0) 0 [] rfl hB R.B1.aS LO1 R.B1.cS R.B1.us rfl (src_row (own_later RS.out hBW) HUS.out) (by omega) ?_; simp only [Nat.zero_add, List.nil_append]; intro a9 c9 W5 ho9 hg9 hat9; have hll9 := hBW.size; have hgl9 := hlW2; have ha9 : ∀ a, a9 = some a → wr.heap.size ≤ a.block := (fun a ha => by rcases hat9 a ha with h | h; simp only [Value.ownBlock, Option.some.injEq] at h; omega; omega); have HNE2 : Hid (∀ i j, (Value.ownBlock (.slice a5 LN1 c5)) = some i → (Value.ownBlock (.slice a9 LO1 c9)) = some j → i ≠ j) := hid (fun i j hi hj e => by obtain ⟨y, hy, rfl⟩ := slice_own hj; rcases hat9 y hy with h | h; exact HNE.out _ _ hi h e; have h1 := own_lt ho5 hi; omega); replace hC := own_beside hC hg9 (fun k hk e => own_ne hC hB (by decide) hk e.symm rfl); replace ho5 := own_beside ho5 hg9 (fun k hk e => HNE.out _ _ hk e.symm rfl); replace HNE := HNE2; clear HNE2; replace hR := hR.blk (hg9.block fb HFL.out (fun e => by simp only [Value.ownBlock, Option.some.injEq] at e; have h1 := HGhB.out; omega)); have HZ9 : Hid (W4.heap.size ≤ W5.heap.size) := hid hg9.size; replace HFL : Hid (fb < W5.heap.size) := hid (Nat.lt_of_lt_of_le HFL.out HZ9.out); replace hBW := hBW.grown hg9 hBW.size (fun k hk => by simp only [Value.ownBlock, Option.some.injEq] at hk; omega); clear hat9 hg9 hB HGhB
              refine hK.out _ _ hR (fun hHeld => ?_)
              clear hK K
              (try simp only [Act.put, List.setIfInBounds_toArray, List.set_cons_zero, List.set_cons_succ])
              refine wpAnyK_ready (rs := [13]) (by kernel_rfl) (by simp) ?_
              refine AllReadyK.cons (op_at _ 13 _ rfl) (fun K hK => ?_) AllReadyK.nil
              refine step_app rfl (.tmp 46) (.tmp 48) el30 rfl (.slice (some ⟨W2.heap.size, 0, none⟩) 0 0) 0 [] rfl hC R.B1.aD LD1 R.B1.cD (vb d.f1.dirt) rfl (src_row (own_later RD.out hBW) (vb_one _)) (by omega) ?_; simp only [Nat.zero_add, List.nil_append]; intro a13 c13 W6 ho13 hg13 hat13; have hll13 := hBW.size; have hgl13 := hlW3; have ha13 : ∀ a, a13 = some a → wr.heap.size ≤ a.block := (fun a ha => by rcases hat13 a ha with h | h; simp only [Value.ownBlock, Option.some.injEq] at h; omega; omega); replace ho5 := own_beside ho5 hg13 (fun k hk e => own_ne ho5 hC (by decide) hk e.symm rfl); replace ho9 := own_beside ho9 hg13 (fun k hk e => own_ne ho9 hC (by decide) hk e.symm rfl); replace hR := hR.blk (hg13.block fb HFL.out (fun e => by simp only [Value.ownBlock, Option.some.injEq] at e; have h1 := HGhC.out; omega)); have HZ13 : Hid (W5.heap.size ≤ W6.heap.size) := hid hg13.size; replace HFL : Hid (fb < W6.heap.size) := hid (Nat.lt_of_lt_of_le HFL.out HZ13.out); replace hBW := hBW.grown hg13 hBW.size (fun k hk => by simp only [Value.ownBlock, Option.some.injEq] at hk; omega); clear hat13 hg13 hC HGhC
              refine hK.out _ _ hR (fun hHeld => ?_)
              clear hK K
              (try simp only [Act.put, List.setIfInBounds_toArray, List.set_cons_zero, List.set_cons_succ])
              refine wpAnyK_pure (i := 14) (v := ?_) (op_at _ 14 _ rfl) (by kernel_rfl) (by kernel_rfl) (by kernel_rfl) (by kernel_rfl) (fun _ _ _ h => h) (Or.inl ⟨by rfl, ?_⟩) (Or.inl (by assumption)) ?_
              rotate_left 1
              focus (intro W hSw; go_simp; first | done | with_reducible rfl)
              (try simp only [Act.put, List.setIfInBounds_toArray, List.set_cons_zero, List.set_cons_succ])
              refine wpAnyK_pure (i := 17) (v := ?_) (op_at _ 17 _ rfl) (by kernel_rfl) (by kernel_rfl) (by kernel_rfl) (by kernel_rfl) (fun _ _ _ h => h) (Or.inl ⟨by rfl, ?_⟩) (Or.inl (by assumption)) ?_
              rotate_left 1
              focus (intro W hSw; go_simp; first | done | with_reducible rfl)
              (try simp only [Act.put, List.setIfInBounds_toArray, List.set_cons_zero, List.set_cons_succ])
              obtain ⟨v0, v1, v2, y0, y1, y2, z0, z1, z2⟩ := hI.out.cells (o := 4) hBW hqr (by omega) (by omega)
              refine wpAnyK_ready (rs := [18]) (by kernel_rfl) (by simp) ?_
              refine AllReadyK.cons (op_at _ 18 _ rfl) (fun K hK => ?_) AllReadyK.nil
              go_simp
              have hR2 : Rd3 fb (.slice R.B1.aN LN1 R.B1.cN) (.slice R.B1.aS LO1 R.B1.cS) (.slice R.B1.aD LD1 R.B1.cD) ((((W6).setCell ⟨q, 4, none⟩ (.slice a5 LN1 c5)).setCell ⟨q, 4 + 1, none⟩ (.slice a9 LO1 c9)).setCell ⟨q, 4 + 2, none⟩ (.slice a13 LD1 c13)) := hR.blk (set3_heap _ _ _ _ _ _ _ hfq); replace hR := hR2; clear hR2
              refine hK.out _ _ hR (fun hHeld => ?_)
              clear hK K
              (try simp only [Act.put, List.setIfInBounds_toArray, List.set_cons_zero, List.set_cons_succ])
              refine wpAnyK_done (by kernel_rfl) ?_ _
              go_wp2
              go_roundg 0
              case measure => omega
              case rel => exact ⟨2, _, _, _, rfl, rfl, hid (cp_1 hI.out HR1.out hq1 HRQ.out.1 HRQ.out.2 hBW ELN1.out ELO1.out ELD1.out ho5 ho9 ho13 ha5 ha9 ha13 (fun a b ha hb => HNE.out _ _ (by rw [ha]; rfl) (by rw [hb]; rfl)))⟩
            exact AllReadyK.nil
          refine AllReadyK.cons (op_at _ 10 _ rfl) (fun K hK => ?_) ?_
          · as_aux_lemma =>
            go_simp
            obtain ⟨W2, hW2⟩ : ∃ W', W' = W1.alloc (.cells #[] 4) := ⟨_, rfl⟩; rw [← hW2]; have hbW2 := (alloc_is hW2).1; have hlW2 := hBW.size; have HSW2 := hid (alloc_is hW2).2; replace hA := own_later hA hbW2; have hC : W2.ownsRow 0 4 1 (.slice (some ⟨W1.heap.size, 0, none⟩) 0 0) 0 [] := (by rw [hW2]; exact World.ownsRow_made W1 #[] 0 (Nat.zero_le _) (by decide) rfl); have HGhC : Hid (fb < W1.heap.size) := hid HFL.out; replace hR := hR.blk (hbW2.block fb HFL.out); replace hBW := hBW.trans (hbW2.mono hBW.size); replace HFL : Hid (fb < W2.heap.size) := hid (by have h1 := HFL.out; have h2 := HSW2.out; omega); clear hW2
            refine hK.out _ _ hR (fun hHeld => ?_)
            clear hK K
            (try simp only [Act.put, List.setIfInBounds_toArray, List.set_cons_zero, List.set_cons_succ])
            refine wpAnyK_ready (rs := [5, 6]) (by kernel_rfl) (by simp) ?_
            refine AllReadyK.cons (op_at _ 5 _ rfl) (fun K hK => ?_) ?_
            · as_aux_lemma =>
              refine step_app rfl (.tmp 38) (.tmp 40) el66 rfl (.slice (some ⟨W0.heap.size, 0, none⟩) 0 0) 0 [] rfl hA R.B1.aN LN1 R.B1.cN R.B1.vs rfl (src_row (own_later RN.out hBW) HVS.out) (by omega) ?_; simp only [Nat.zero_add, List.nil_append]; intro a5 c5 W3 ho5 hg5 hat5; have hll5 := hBW.size; have hgl5 := hlW1; have ha5 : ∀ a, a5 = some a → wr.heap.size ≤ a.block := (fun a ha => by rcases hat5 a ha with h | h; simp only [Value.ownBlock, Option.some.injEq] at h; omega; omega); replace hC := own_beside hC hg5 (fun k hk e => own_ne hC hA (by decide) hk e.symm rfl); replace hR := hR.blk (hg5.block fb HFL.out (fun e => by simp only [Value.ownBlock, Option.some.injEq] at e; have h1 := HGhA.out; omega)); have HZ5 : Hid (W2.heap.size ≤ W3.heap.size) := hid hg5.size; replace HFL : Hid (fb < W3.heap.size) := hid (Nat.lt_of_lt_of_le HFL.out HZ5.out); replace hBW := hBW.grown hg5 hBW.size (fun k hk => by simp only [Value.ownBlock, Option.some.injEq] at hk; omega); clear hat5 hg5 hA HGhA
              refine hK.out _ _ hR (fun hHeld => ?_)
              clear hK K
              (try simp only [Act.put, List.setIfInBounds_toArray, List.set_cons_zero, List.set_cons_succ])
              refine wpAnyK_ready (rs := [6]) (by kernel_rfl) (by simp) ?_
              refine AllReadyK.cons (op_at _ 6 _ rfl) (fun K hK => ?_) AllReadyK.nil
              go_simp
              obtain ⟨W4, hW4⟩ : ∃ W', W' = W3.alloc (.cells #[] 37) := ⟨_, rfl⟩; rw [← hW4]; have hbW4 := (alloc_is hW4).1; have hlW4 := hBW.size; have HSW4 := hid (alloc_is hW4).2; have HNE : Hid (∀ i j, (Value.ownBlock (.slice a5 LN1 c5)) = some i → (Value.ownBlock (.slice (some ⟨W3.heap.size, 0, none⟩) 0 0)) = some j → i ≠ j) := hid (fun i j hi hj e => by have h1 := own_lt ho5 hi; simp only [Value.ownBlock, Option.some.injEq] at hj; omega); replace hC := own_later hC hbW4; replace ho5 := own_later ho5 hbW4; have hB : W4.ownsRow 0 37 1 (.slice (some ⟨W3.heap.size, 0, none⟩) 0 0) 0 [] := (by rw [hW4]; exact World.ownsRow_made W3 #[] 0 (Nat.zero_le _) (by decide) rfl); have HGhB : Hid (fb < W3.heap.size) := hid HFL.out; replace hR := hR.blk (hbW4.block fb HFL.out); replace hBW := hBW.trans (hbW4.mono hBW.size); replace HFL : Hid (fb < W4.heap.size) := hid (by have h1 := HFL.out; have h2 := HSW4.out; omega); clear hW4
              refine hK.out _ _ hR (fun hHeld => ?_)
              clear hK K
              (try simp only [Act.put, List.setIfInBounds_toArray, List.set_cons_zero, List.set_cons_succ])
              refine wpAnyK_ready (rs := [9]) (by kernel_rfl) (by simp) ?_
              refine AllReadyK.cons (op_at _ 9 _ rfl) (fun K hK => ?_) AllReadyK.nil
              refine step_app rfl (.tmp 42) (.tmp 44) el66 rfl (.slice (some ⟨W3.heap.size, 0, none⟩) 0 0) 0 [] rfl hB R.B1.aS LO1 R.B1.cS R.B1.us rfl (src_row (own_later RS.out hBW) HUS.out) (by omega) ?_; simp only [Nat.zero_add, List.nil_append]; intro a9 c9 W5 ho9 hg9 hat9; have hll9 := hBW.size; have hgl9 := hlW4; have ha9 : ∀ a, a9 = some a → wr.heap.size ≤ a.block := (fun a ha => by rcases hat9 a ha with h | h; simp only [Value.ownBlock, Option.some.injEq] at h; omega; omega); have HNE2 : Hid (∀ i j, (Value.ownBlock (.slice a5 LN1 c5)) = some i → (Value.ownBlock (.slice a9 LO1 c9)) = some j → i ≠ j) := hid (fun i j hi hj e => by obtain ⟨y, hy, rfl⟩ := slice_own hj; rcases hat9 y hy with h | h; exact HNE.out _ _ hi h e; have h1 := own_lt ho5 hi; omega); replace hC := own_beside hC hg9 (fun k hk e => own_ne hC hB (by decide) hk e.symm rfl); replace ho5 := own_beside ho5 hg9 (fun k hk e => HNE.out _ _ hk e.symm rfl); replace HNE := HNE2; clear HNE2; replace hR := hR.blk (hg9.block fb HFL.out (fun e => by simp only [Value.ownBlock, Option.some.injEq] at e; have h1 := HGhB.out; omega)); have HZ9 : Hid (W4.heap.size ≤ W5.heap.size) := hid hg9.size; replace HFL : Hid (fb < W5.heap.size) := hid (Nat.lt_of_lt_of_le HFL.out HZ9.out); replace hBW := hBW.grown hg9 hBW.size (fun k hk => by simp only [Value.ownBlock, Option.some.injEq] at hk; omega); clear hat9 hg9 hB HGhB
              refine hK.out _ _ hR (fun hHeld => ?_)
              clear hK K
              (try simp only [Act.put, List.setIfInBounds_toArray, List.set_cons_zero, List.set_cons_succ])
              refine wpAnyK_ready (rs := [13]) (by kernel_rfl) (by simp) ?_
              refine AllReadyK.cons (op_at _ 13 _ rfl) (fun K hK => ?_) AllReadyK.nil
              refine step_app rfl (.tmp 46) (.tmp 48) el30 rfl (.slice (some ⟨W1.heap.size, 0, none⟩) 0 0) 0 [] rfl hC R.B1.aD LD1 R.B1.cD (vb d.f1.dirt) rfl (src_row (own_later RD.out hBW) (vb_one _)) (by omega) ?_; simp only [Nat.zero_add, List.nil_append]; intro a13 c13 W6 ho13 hg13 hat13; have hll13 := hBW.size; have hgl13 := hlW2; have ha13 : ∀ a, a13 = some a → wr.heap.size ≤ a.block := (fun a ha => by rcases hat13 a ha with h | h; simp only [Value.ownBlock, Option.some.injEq] at h; omega; omega); replace ho5 := own_beside ho5 hg13 (fun k hk e => own_ne ho5 hC (by decide) hk e.symm rfl); replace ho9 := own_beside ho9 hg13 (fun k hk e => own_ne ho9 hC (by decide) hk e.symm rfl); replace hR := hR.blk (hg13.block fb HFL.out (fun e => by simp only [Value.ownBlock, Option.some.injEq] at e; have h1 := HGhC.out; omega)); have HZ13 : Hid (W5.heap.size ≤ W6.heap.size) := hid hg13.size; replace HFL : Hid (fb < W6.heap.size) := hid (Nat.lt_of_lt_of_le HFL.out HZ13.out); replace hBW := hBW.grown hg13 hBW.size (fun k hk => by simp only [Value.ownBlock, Option.some.injEq] at hk; omega); clear hat13 hg13 hC HGhC
              refine hK.out _ _ hR (fun hHeld => ?_)
              clear hK K
              (try simp only [Act.put, List.setIfInBounds_toArray, List.set_cons_zero, List.set_cons_succ])
              refine wpAnyK_pure (i := 14) (v := ?_) (op_at _ 14 _ rfl) (by kernel_rfl) (by kernel_rfl) (by kernel_rfl) (by kernel_rfl) (fun _ _ _ h => h) (Or.inl ⟨by rfl, ?_⟩) (Or.inl (by assumption)) ?_
              rotate_left 1
              focus (intro W hSw; go_simp; first | done | with_reducible rfl)
              (try simp only [Act.put, List.setIfInBounds_toArray, List.set_cons_zero, List.set_cons_succ])
              refine wpAnyK_pure (i := 17) (v := ?_) (op_at _ 17 _ rfl) (by kernel_rfl) (by kernel_rfl) (by kernel_rfl) (by kernel_rfl) (fun _ _ _ h => h) (Or.inl ⟨by rfl, ?_⟩) (Or.inl (by assumption)) ?_
              rotate_left 1
              focus (intro W hSw; go_simp; first | done | with_reducible rfl)
              (try simp only [Act.put, List.setIfInBounds_toArray, List.set_cons_zero, List.set_cons_succ])
              obtain ⟨v0, v1, v2, y0, y1, y2, z0, z1, z2⟩ := hI.out.cells (o := 4) hBW hqr (by omega) (by omega)
              refine wpAnyK_ready (rs := [18]) (by kernel_rfl) (by simp) ?_
              refine AllReadyK.cons (op_at _ 18 _ rfl) (fun K hK => ?_) AllReadyK.nil
              go_simp
              have hR2 : Rd3 fb (.slice R.B1.aN LN1 R.B1.cN) (.slice R.B1.aS LO1 R.B1.cS) (.slice R.B1.aD LD1 R.B1.cD) ((((W6).setCell ⟨q, 4, none⟩ (.slice a5 LN1 c5)).setCell ⟨q, 4 + 1, none⟩ (.slice a9 LO1 c9)).setCell ⟨q, 4 + 2, none⟩ (.slice a13 LD1 c13)) := hR.blk (set3_heap _ _ _ _ _ _ _ hfq); replace hR := hR2; clear hR2
              refine hK.out _ _ hR (fun hHeld => ?_)
              clear hK K
              (try simp only [Act.put, List.setIfInBounds_toArray, List.set_cons_zero, List.set_cons_succ])
              refine wpAnyK_done (by kernel_rfl) ?_ _
              go_wp2
              go_roundg 0
              case measure => omega
              case rel => exact ⟨2, _, _, _, rfl, rfl, hid (cp_1 hI.out HR1.out hq1 HRQ.out.1 HRQ.out.2 hBW ELN1.out ELO1.out ELD1.out ho5 ho9 ho13 ha5 ha9 ha13 (fun a b ha hb => HNE.out _ _ (by rw [ha]; rfl) (by rw [hb]; rfl)))⟩
            refine AllReadyK.cons (op_at _ 6 _ rfl) (fun K hK => ?_) ?_
            · as_aux_lemma =>
              go_simp
              obtain ⟨W3, hW3⟩ : ∃ W', W' = W2.alloc (.cells #[] 37) := ⟨_, rfl⟩; rw [← hW3]; have hbW3 := (alloc_is hW3).1; have hlW3 := hBW.size; have HSW3 := hid (alloc_is hW3).2; have HNE : Hid (∀ i j, (Value.ownBlock (.slice (some ⟨W0.heap.size, 0, none⟩) 0 0)) = some i → (Value.ownBlock (.slice (some ⟨W2.heap.size, 0, none⟩) 0 0)) = some j → i ≠ j) := hid (fun i j hi hj e => by have h1 := own_lt hA hi; simp only [Value.ownBlock, Option.some.injEq] at hj; omega); replace hA := own_later hA hbW3; replace hC := own_later hC hbW3; have hB : W3.ownsRow 0 37 1 (.slice (some ⟨W2.heap.size, 0, none⟩) 0 0) 0 [] := (by rw [hW3]; exact World.ownsRow_made W2 #[] 0 (Nat.zero_le _) (by decide) rfl); have HGhB : Hid (fb < W2.heap.size) := hid HFL.out; replace hR := hR.blk (hbW3.block fb HFL.out); replace hBW := hBW.trans (hbW3.mono hBW.size); replace HFL : Hid (fb < W3.heap.size) := hid (by have h1 := HFL.out; have h2 := HSW3.out; omega); clear hW3
              refine hK.out _ _ hR (fun hHeld => ?_)
              clear hK K
              (try simp only [Act.put, List.setIfInBounds_toArray, List.set_cons_zero, List.set_cons_succ])
              refine wpAnyK_ready (rs := [5]) (by kernel_rfl) (by simp) ?_
              refine AllReadyK.cons (op_at _ 5 _ rfl) (fun K hK => ?_) AllReadyK.nil
              refine step_app rfl (.tmp 38) (.tmp 40) el66 rfl (.slice (some ⟨W0.heap.size, 0, none⟩) 0 0) 0 [] rfl hA R.B1.aN LN1 R.B1.cN R.B1.vs rfl (src_row (own_later RN.out hBW) HVS.out) (by omega) ?_; simp only [Nat.zero_add, List.nil_append]; intro a5 c5 W4 ho5 hg5 hat5; have hll5 := hBW.size; have hgl5 := hlW1; have ha5 : ∀ a, a5 = some a → wr.heap.size ≤ a.block := (fun a ha => by rcases hat5 a ha with h | h; simp only [Value.ownBlock, Option.some.injEq] at h; omega; omega); have HNE2 : Hid (∀ i j, (Value.ownBlock (.slice a5 LN1 c5)) = some i → (Value.ownBlock (.slice (some ⟨W2.heap.size, 0, none⟩) 0 0)) = some j → i ≠ j) := hid (fun i j hi hj e => by obtain ⟨y, hy, rfl⟩ := slice_own hi; rcases hat5 y hy with h | h; exact HNE.out _ _ h hj e; have h1 := own_lt hB hj; omega); replace hC := own_beside hC hg5 (fun k hk e => own_ne hC hA (by decide) hk e.symm rfl); replace hB := own_beside hB hg5 (fun k hk e => HNE.out _ _ e.symm hk rfl); replace HNE := HNE2; clear HNE2; replace hR := hR.blk (hg5.block fb HFL.out (fun e => by simp only [Value.ownBlock, Option.some.injEq] at e; have h1 := HGhA.out; omega)); have HZ5 : Hid (W3.heap.size ≤ W4.heap.size) := hid hg5.size; replace HFL : Hid (fb < W4.heap.size) := hid (Nat.lt_of_lt_of_le HFL.out HZ5.out); replace hBW := hBW.grown hg5 hBW.size (fun k hk => by simp only [Value.ownBlock, Option.some.injEq] at hk; omega); clear hat5 hg5 hA HGhA
              refine hK.out _ _ hR (fun hHeld => ?_)
              clear hK K
              (try simp only [Act.put, List.setIfInBounds_toArray, List.set_cons_zero, List.set_cons_succ])
              refine wpAnyK_ready (rs := [9]) (by kernel_rfl) (by simp) ?_
              refine AllReadyK.cons (op_at _ 9 _ rfl) (fun K hK => ?_) AllReadyK.nil
              refine step_app rfl (.tmp 42) (.tmp 44) el66 rfl (.slice (some ⟨W2.heap.size, 0, none⟩) 0 0) 0 [] rfl hB R.B1.aS LO1 R.B1.cS R.B1.us rfl (src_row (own_later RS.out hBW) HUS.out) (by omega) ?_; simp only [Nat.zero_add, List.nil_append]; intro a9 c9 W5 ho9 hg9 hat9; have hll9 := hBW.size; have hgl9 := hlW3; have ha9 : ∀ a, a9 = some a → wr.heap.size ≤ a.block := (fun a ha => by rcases hat9 a ha with h | h; simp only [Value.ownBlock, Option.some.injEq] at h; omega; omega); have HNE2 : Hid (∀ i j, (Value.ownBlock (.slice a5 LN1 c5)) = some i → (Value.ownBlock (.slice a9 LO1 c9)) = some j → i ≠ j) := hid (fun i j hi hj e => by obtain ⟨y, hy, rfl⟩ := slice_own hj; rcases hat9 y hy with h | h; exact HNE.out _ _ hi h e; have h1 := own_lt ho5 hi; omega); replace hC := own_beside hC hg9 (fun k hk e => own_ne hC hB (by decide) hk e.symm rfl); replace ho5 := own_beside ho5 hg9 (fun k hk e => HNE.out _ _ hk e.symm rfl); replace HNE := HNE2; clear HNE2; replace hR := hR.blk (hg9.block fb HFL.out (fun e => by simp only [Value.ownBlock, Option.some.injEq] at e; have h1 := HGhB.out; omega)); have HZ9 : Hid (W4.heap.size ≤ W5.heap.size) := hid hg9.size; replace HFL : Hid (fb < W5.heap.size) := hid (Nat.lt_of_lt_of_le HFL.out HZ9.out); replace hBW := hBW.grown hg9 hBW.size (fun k hk => by simp only [Value.ownBlock, Option.some.injEq] at hk; omega); clear hat9 hg9 hB HGhB
              refine hK.out _ _ hR (fun hHeld => ?_)
              clear hK K
              (try simp only [Act.put, List.setIfInBounds_toArray, List.set_cons_zero, List.set_cons_succ])
              refine wpAnyK_ready (rs := [13]) (by kernel_rfl) (by simp) ?_
              refine AllReadyK.cons (op_at _ 13 _ rfl) (fun K hK => ?_) AllReadyK.nil
              refine step_app rfl (.tmp 46) (.tmp 48) el30 rfl (.slice (some ⟨W1.heap.size, 0, none⟩) 0 0) 0 [] rfl hC R.B1.aD LD1 R.B1.cD (vb d.f1.dirt) rfl (src_row (own_later RD.out hBW) (vb_one _)) (by omega) ?_; simp only [Nat.zero_add, List.nil_append]; intro a13 c13 W6 ho13 hg13 hat13; have hll13 := hBW.size; have hgl13 := hlW2; have ha13 : ∀ a, a13 = some a → wr.heap.size ≤ a.block := (fun a ha => by rcases hat13 a ha with h | h; simp only [Value.ownBlock, Option.some.injEq] at h; omega; omega); replace ho5 := own_beside ho5 hg13 (fun k hk e => own_ne ho5 hC (by decide) hk e.symm rfl); replace ho9 := own_beside ho9 hg13 (fun k hk e => own_ne ho9 hC (by decide) hk e.symm rfl); replace hR := hR.blk (hg13.block fb HFL.out (fun e => by simp only [Value.ownBlock, Option.some.injEq] at e; have h1 := HGhC.out; omega)); have HZ13 : Hid (W5.heap.size ≤ W6.heap.size) := hid hg13.size; replace HFL : Hid (fb < W6.heap.size) := hid (Nat.lt_of_lt_of_le HFL.out HZ13.out); replace hBW := hBW.grown hg13 hBW.size (fun k hk => by simp only [Value.ownBlock, Option.some.injEq] at hk; omega); clear hat13 hg13 hC HGhC
              refine hK.out _ _ hR (fun hHeld => ?_)
              clear hK K
              (try simp only [Act.put, List.setIfInBounds_toArray, List.set_cons_zero, List.set_cons_succ])
              refine wpAnyK_pure (i := 14) (v := ?_) (op_at _ 14 _ rfl) (by kernel_rfl) (by kernel_rfl) (by kernel_rfl) (by kernel_rfl) (fun _ _ _ h => h) (Or.inl ⟨by rfl, ?_⟩) (Or.inl (by assumption)) ?_
              rotate_left 1
              focus (intro W hSw; go_simp; first | done | with_reducible rfl)
              (try simp only [Act.put, List.setIfInBounds_toArray, List.set_cons_zero, List.set_cons_succ])
              refine wpAnyK_pure (i := 17) (v := ?_) (op_at _ 17 _ rfl) (by kernel_rfl) (by kernel_rfl) (by kernel_rfl) (by kernel_rfl) (fun _ _ _ h => h) (Or.inl ⟨by rfl, ?_⟩) (Or.inl (by assumption)) ?_
              rotate_left 1
              focus (intro W hSw; go_simp; first | done | with_reducible rfl)
              (try simp only [Act.put, List.setIfInBounds_toArray, List.set_cons_zero, List.set_cons_succ])
              obtain ⟨v0, v1, v2, y0, y1, y2, z0, z1, z2⟩ := hI.out.cells (o := 4) hBW hqr (by omega) (by omega)
              refine wpAnyK_ready (rs := [18]) (by kernel_rfl) (by simp) ?_
              refine AllReadyK.cons (op_at _ 18 _ rfl) (fun K hK => ?_) AllReadyK.nil
              go_simp
              have hR2 : Rd3 fb (.slice R.B1.aN LN1 R.B1.cN) (.slice R.B1.aS LO1 R.B1.cS) (.slice R.B1.aD LD1 R.B1.cD) ((((W6).setCell ⟨q, 4, none⟩ (.slice a5 LN1 c5)).setCell ⟨q, 4 + 1, none⟩ (.slice a9 LO1 c9)).setCell ⟨q, 4 + 2, none⟩ (.slice a13 LD1 c13)) := hR.blk (set3_heap _ _ _ _ _ _ _ hfq); replace hR := hR2; clear hR2
              refine hK.out _ _ hR (fun hHeld => ?_)
              clear hK K
              (try simp only [Act.put, List.setIfInBounds_toArray, List.set_cons_zero, List.set_cons_succ])
              refine wpAnyK_done (by kernel_rfl) ?_ _
              go_wp2
              go_roundg 0
              case measure => omega
              case rel => exact ⟨2, _, _, _, rfl, rfl, hid (cp_1 hI.out HR1.out hq1 HRQ.out.1 HRQ.out.2 hBW ELN1.out ELO1.out ELD1.out ho5 ho9 ho13 ha5 ha9 ha13 (fun a b ha hb => HNE.out _ _ (by rw [ha]; rfl) (by rw [hb]; rfl)))⟩
            exact AllReadyK.nil
          exact AllReadyK.nil
        refine AllReadyK.cons (op_at _ 6 _ rfl) (fun K hK => ?_) ?_
        · as_aux_lemma =>
          go_simp
          obtain ⟨W1, hW1⟩ : ∃ W', W' = W0.alloc (.cells #[] 37) := ⟨_, rfl⟩; rw [← hW1]; have hbW1 := (alloc_is hW1).1; have hlW1 := hBW.size; have HSW1 := hid (alloc_is hW1).2; have hB : W1.ownsRow 0 37 1 (.slice (some ⟨W0.heap.size, 0, none⟩) 0 0) 0 [] := (by rw [hW1]; exact World.ownsRow_made W0 #[] 0 (Nat.zero_le _) (by decide) rfl); have HGhB : Hid (fb < W0.heap.size) := hid HFL.out; replace hR := hR.blk (hbW1.block fb HFL.out); replace hBW := hBW.trans (hbW1.mono hBW.size); replace HFL : Hid (fb < W1.heap.size) := hid (by have h1 := HFL.out; have h2 := HSW1.out; omega); clear hW1
          refine hK.out _ _ hR (fun hHeld => ?_)
          clear hK K
          (try simp only [Act.put, List.setIfInBounds_toArray, List.set_cons_zero, List.set_cons_succ])
          refine wpAnyK_ready (rs := [2, 10]) (by kernel_rfl) (by simp) ?_
          refine AllReadyK.cons (op_at _ 2 _ rfl) (fun K hK => ?_) ?_
          · as_aux_lemma =>
            go_simp
            obtain ⟨W2, hW2⟩ : ∃ W', W' = W1.alloc (.cells #[] 37) := ⟨_, rfl⟩; rw [← hW2]; have hbW2 := (alloc_is hW2).1; have hlW2 := hBW.size; have HSW2 := hid (alloc_is hW2).2; have HNE : Hid (∀ i j, (Value.ownBlock (.slice (some ⟨W1.heap.size, 0, none⟩) 0 0)) = some i → (Value.ownBlock (.slice (some ⟨W0.heap.size, 0, none⟩) 0 0)) = some j → i ≠ j) := hid (fun i j hi hj e => by have h1 := own_lt hB hj; simp only [Value.ownBlock, Option.some.injEq] at hi; omega); replace hB := own_later hB hbW2; have hA : W2.ownsRow 0 37 1 (.slice (some ⟨W1.heap.size, 0, none⟩) 0 0) 0 [] := (by rw [hW2]; exact World.ownsRow_made W1 #[] 0 (Nat.zero_le _) (by decide) rfl); have HGhA : Hid (fb < W1.heap.size) := hid HFL.out; replace hR := hR.blk (hbW2.block fb HFL.out); replace hBW := hBW.trans (hbW2.mono hBW.size); replace HFL : Hid (fb < W2.heap.size) := hid (by have h1 := HFL.out; have h2 := HSW2.out; omega); clear hW2
            refine hK.out _ _ hR (fun hHeld => ?_)
            clear hK K
            (try simp only [Act.put, List.setIfInBounds_toArray, List.set_cons_zero, List.set_cons_succ])
            refine wpAnyK_ready (rs := [5, 10]) (by kernel_rfl) (by simp) ?_
            refine AllReadyK.cons (op_at _ 5 _ rfl) (fun K hK => ?_) ?_
            · as_aux_lemma =>
              refine step_app rfl (.tmp 38) (.tmp 40) el66 rfl (.slice (some ⟨W1.heap.size, 0, none⟩) 0 0) 0 [] rfl hA R.B1.aN LN1 R.B1.cN R.B1.vs rfl (src_row (own_later RN.out hBW) HVS.out) (by omega) ?_; simp only [Nat.zero_add, List.nil_append]; intro a5 c5 W3 ho5 hg5 hat5; have hll5 := hBW.size; have hgl5 := hlW2; have ha5 : ∀ a, a5 = some a → wr.heap.size ≤ a.block := (fun a ha => by rcases hat5 a ha with h | h; simp only [Value.ownBlock, Option.some.injEq] at h; omega; omega); have HNE2 : Hid (∀ i j, (Value.ownBlock (.slice a5 LN1 c5)) = some i → (Value.ownBlock (.slice (some ⟨W0.heap.size, 0, none⟩) 0 0)) = some j → i ≠ j) := hid (fun i j hi hj e => by obtain ⟨y, hy, rfl⟩ := slice_own hi; rcases hat5 y hy with h | h; exact HNE.out _ _ h hj e; have h1 := own_lt hB hj; omega); replace hB := own_beside hB hg5 (fun k hk e => HNE.out _ _ e.symm hk rfl); replace HNE := HNE2; clear HNE2; replace hR := hR.blk (hg5.block fb HFL.out (fun e => by simp only [Value.ownBlock, Option.some.injEq] at e; have h1 := HGhA.out; omega)); have HZ5 : Hid (W2.heap.size ≤ W3.heap.size) := hid hg5.size; replace HFL : Hid (fb < W3.heap.size) := hid (Nat.lt_of_lt_of_le HFL.out HZ5.out); replace hBW := hBW.grown hg5 hBW.size (fun k hk => by simp only [Value.ownBlock, Option.some.injEq] at hk; omega); clear hat5 hg5 hA HGhA
              refine hK.out _ _ hR (fun hHeld => ?_)
              clear hK K
              (try simp only [Act.put, List.setIfInBounds_toArray, List.set_cons_zero, List.set_cons_succ])
              refine wpAnyK_ready (rs := [9, 10]) (by kernel_rfl) (by simp) ?_
              refine AllReadyK.cons (op_at _ 9 _ rfl) (fun K hK => ?_) ?_
              · as_aux_lemma =>
                refine step_app rfl (.tmp 42) (.tmp 44) el66 rfl (.slice (some ⟨W0.heap.size, 0, none⟩) 0 0) 0 [] rfl hB R.B1.aS LO1 R.B1.cS R.B1.us rfl (src_row (own_later RS.out hBW) HUS.out) (by omega) ?_; simp only [Nat.zero_add, List.nil_append]; intro a9 c9 W4 ho9 hg9 hat9; have hll9 := hBW.size; have hgl9 := hlW1; have ha9 : ∀ a, a9 = some a → wr.heap.size ≤ a.block := (fun a ha => by rcases hat9 a ha with h | h; simp only [Value.ownBlock, Option.some.injEq] at h; omega; omega); have HNE2 : Hid (∀ i j, (Value.ownBlock (.slice a5 LN1 c5)) = some i → (Value.ownBlock (.slice a9 LO1 c9)) = some j → i ≠ j) := hid (fun i j hi hj e => by obtain ⟨y, hy, rfl⟩ := slice_own hj; rcases hat9 y hy with h | h; exact HNE.out _ _ hi h e; have h1 := own_lt ho5 hi; omega); replace ho5 := own_beside ho5 hg9 (fun k hk e => HNE.out _ _ hk e.symm rfl); replace HNE := HNE2; clear HNE2; replace hR := hR.blk (hg9.block fb HFL.out (fun e => by simp only [Value.ownBlock, Option.some.injEq] at e; have h1 := HGhB.out; omega)); have HZ9 : Hid (W3.heap.size ≤ W4.heap.size) := hid hg9.size; replace HFL : Hid (fb < W4.heap.size) := hid (Nat.lt_of_lt_of_le HFL.out HZ9.out); replace hBW := hBW.grown hg9 hBW.size (fun k hk => by simp only [Value.ownBlock, Option.some.injEq] at hk; omega); clear hat9 hg9 hB HGhB
                refine hK.out _ _ hR (fun hHeld => ?_)
                clear hK K
                (try simp only [Act.put, List.setIfInBounds_toArray, List.set_cons_zero, List.set_cons_succ])
                refine wpAnyK_ready (rs := [10]) (by kernel_rfl) (by simp) ?_
                refine AllReadyK.cons (op_at _ 10 _ rfl) (fun K hK => ?_) AllReadyK.nil
                go_simp
                obtain ⟨W5, hW5⟩ : ∃ W', W' = W4.alloc (.cells #[] 4) := ⟨_, rfl⟩; rw [← hW5]; have hbW5 := (alloc_is hW5).1; have hlW5 := hBW.size; have HSW5 := hid (alloc_is hW5).2; replace ho5 := own_later ho5 hbW5; replace ho9 := own_later ho9 hbW5; have hC : W5.ownsRow 0 4 1 (.slice (some ⟨W4.heap.size, 0, none⟩) 0 0) 0 [] := (by rw [hW5]; exact World.ownsRow_made W4 #[] 0 (Nat.zero_le _) (by decide) rfl); have HGhC : Hid (fb < W4.heap.size) := hid HFL.out; replace hR := hR.blk (hbW5.block fb HFL.out); replace hBW := hBW.trans (hbW5.mono hBW.size); replace HFL : Hid (fb < W5.heap.size) := hid (by have h1 := HFL.out; have h2 := HSW5.out; omega); clear hW5
                refine hK.out _ _ hR (fun hHeld => ?_)
                clear hK K
                (try simp only [Act.put, List.setIfInBounds_toArray, List.set_cons_zero, List.set_cons_succ])
                refine wpAnyK_ready (rs := [13]) (by kernel_rfl) (by simp) ?_
                refine AllReadyK.cons (op_at _ 13 _ rfl) (fun K hK => ?_) AllReadyK.nil
                refine step_app rfl (.tmp 46) (.tmp 48) el30 rfl (.slice (some ⟨W4.heap.size, 0, none⟩) 0 0) 0 [] rfl hC R.B1.aD LD1 R.B1.cD (vb d.f1.dirt) rfl (src_row (own_later RD.out hBW) (vb_one _)) (by omega) ?_; simp only [Nat.zero_add, List.nil_append]; intro a13 c13 W6 ho13 hg13 hat13; have hll13 := hBW.size; have hgl13 := hlW5; have ha13 : ∀ a, a13 = some a → wr.heap.size ≤ a.block := (fun a ha => by rcases hat13 a ha with h | h; simp only [Value.ownBlock, Option.some.injEq] at h; omega; omega); replace ho5 := own_beside ho5 hg13 (fun k hk e => own_ne ho5 hC (by decide) hk e.symm rfl); replace ho9 := own_beside ho9 hg13 (fun k hk e => own_ne ho9 hC (by decide) hk e.symm rfl); replace hR := hR.blk (hg13.block fb HFL.out (fun e => by simp only [Value.ownBlock, Option.some.injEq] at e; have h1 := HGhC.out; omega)); have HZ13 : Hid (W5.heap.size ≤ W6.heap.size) := hid hg13.size; replace HFL : Hid (fb < W6.heap.size) := hid (Nat.lt_of_lt_of_le HFL.out HZ13.out); replace hBW := hBW.grown hg13 hBW.size (fun k hk => by simp only [Value.ownBlock, Option.some.injEq] at hk; omega); clear hat13 hg13 hC HGhC
                refine hK.out _ _ hR (fun hHeld => ?_)
                clear hK K
                (try simp only [Act.put, List.setIfInBounds_toArray, List.set_cons_zero, List.set_cons_succ])
                refine wpAnyK_pure (i := 14) (v := ?_) (op_at _ 14 _ rfl) (by kernel_rfl) (by kernel_rfl) (by kernel_rfl) (by kernel_rfl) (fun _ _ _ h => h) (Or.inl ⟨by rfl, ?_⟩) (Or.inl (by assumption)) ?_
                rotate_left 1
                focus (intro W hSw; go_simp; first | done | with_reducible rfl)
                (try simp only [Act.put, List.setIfInBounds_toArray, List.set_cons_zero, List.set_cons_succ])
                refine wpAnyK_pure (i := 17) (v := ?_) (op_at _ 17 _ rfl) (by kernel_rfl) (by kernel_rfl) (by kernel_rfl) (by kernel_rfl) (fun _ _ _ h => h) (Or.inl ⟨by rfl, ?_⟩) (Or.inl (by assumption)) ?_
                rotate_left 1
                focus (intro W hSw; go_simp; first | done | with_reducible rfl)
                (try simp only [Act.put, List.setIfInBounds_toArray, List.set_cons_zero, List.set_cons_succ])
                obtain ⟨v0, v1, v2, y0, y1, y2, z0, z1, z2⟩ := hI.out.cells (o := 4) hBW hqr (by omega) (by omega)
                refine wpAnyK_ready (rs := [18]) (by kernel_rfl) (by simp) ?_
                refine AllReadyK.cons (op_at _ 18 _ rfl) (fun K hK => ?_) AllReadyK.nil
                go_simp
                have hR2 : Rd3 fb (.slice R.B1.aN LN1 R.B1.cN) (.slice R.B1.aS LO1 R.B1.cS) (.slice R.B1.aD LD1 R.B1.cD) ((((W6).setCell ⟨q, 4, none⟩ (.slice a5 LN1 c5)).setCell ⟨q, 4 + 1, none⟩ (.slice a9 LO1 c9)).setCell ⟨q, 4 + 2, none⟩ (.slice a13 LD1 c13)) := hR.blk (set3_heap _ _ _ _ _ _ _ hfq); replace hR := hR2; clear hR2
                refine hK.out _ _ hR (fun hHeld => ?_)
                clear hK K
                (try simp only [Act.put, List.setIfInBounds_toArray, List.set_cons_zero, List.set_cons_succ])
                refine wpAnyK_done (by kernel_rfl) ?_ _
                go_wp2
                go_roundg 0
                case measure => omega
                case rel => exact ⟨2, _, _, _, rfl, rfl, hid (cp_1 hI.out HR1.out hq1 HRQ.out.1 HRQ.out.2 hBW ELN1.out ELO1.out ELD1.out ho5 ho9 ho13 ha5 ha9 ha13 (fun a b ha hb => HNE.out _ _ (by rw [ha]; rfl) (by rw [hb]; rfl)))⟩
              refine AllReadyK.cons (op_at _ 10 _ rfl) (fun K hK => ?_) ?_
              · as_aux_lemma =>
                go_simp
                obtain ⟨W4, hW4⟩ : ∃ W', W' = W3.alloc (.cells #[] 4) := ⟨_, rfl⟩; rw [← hW4]; have hbW4 := (alloc_is hW4).1; have hlW4 := hBW.size; have HSW4 := hid (alloc_is hW4).2; replace hB := own_later hB hbW4; replace ho5 := own_later ho5 hbW4; have hC : W4.ownsRow 0 4 1 (.slice (some ⟨W3.heap.size, 0, none⟩) 0 0) 0 [] := (by rw [hW4]; exact World.ownsRow_made W3 #[] 0 (Nat.zero_le _) (by decide) rfl); have HGhC : Hid (fb < W3.heap.size) := hid HFL.out; replace hR := hR.blk (hbW4.block fb HFL.out); replace hBW := hBW.trans (hbW4.mono hBW.size); replace HFL : Hid (fb < W4.heap.size) := hid (by have h1 := HFL.out; have h2 := HSW4.out; omega); clear hW4
                refine hK.out _ _ hR (fun hHeld => ?_)
                clear hK K
                (try simp only [Act.put, List.setIfInBounds_toArray, List.set_cons_zero, List.set_cons_succ])
                refine wpAnyK_ready (rs := [9]) (by kernel_rfl) (by simp) ?_
                refine AllReadyK.cons (op_at _ 9 _ rfl) (fun K hK => ?_) AllReadyK.nil
                refine step_app rfl (.tmp 42) (.tmp 44) el66 rfl (.slice (some ⟨W0.heap.size, 0, none⟩) 0 0) 0 [] rfl hB R.B1.aS LO1 R.B1.cS R.B1.us rfl (src_row (own_later RS.out hBW) HUS.out) (by omega) ?_; simp only [Nat.zero_add, List.nil_append]; intro a9 c9 W5 ho9 hg9 hat9; have hll9 := hBW.size; have hgl9 := hlW1; have ha9 : ∀ a, a9 = some a → wr.heap.size ≤ a.block := (fun a ha => by rcases hat9 a ha with h | h; simp only [Value.ownBlock, Option.some.injEq] at h; omega; omega); have HNE2 : Hid (∀ i j, (Value.ownBlock (.slice a5 LN1 c5)) = some i → (Value.ownBlock (.slice a9 LO1 c9)) = some j → i ≠ j) := hid (fun i j hi hj e => by obtain ⟨y, hy, rfl⟩ := slice_own hj; rcases hat9 y hy with h | h; exact HNE.out _ _ hi h e; have h1 := own_lt ho5 hi; omega); replace ho5 := own_beside ho5 hg9 (fun k hk e => HNE.out _ _ hk e.symm rfl); replace hC := own_beside hC hg9 (fun k hk e => own_ne hC hB (by decide) hk e.symm rfl); replace HNE := HNE2; clear HNE2; replace hR := hR.blk (hg9.block fb HFL.out (fun e => by simp only [Value.ownBlock, Option.some.injEq] at e; have h1 := HGhB.out; omega)); have HZ9 : Hid (W4.heap.size ≤ W5.heap.size) := hid hg9.size; replace HFL : Hid (fb < W5.heap.size) := hid (Nat.lt_of_lt_of_le HFL.out HZ9.out); replace hBW := hBW.grown hg9 hBW.size (fun k hk => by simp only [Value.ownBlock, Option.some.injEq] at hk; omega); clear hat9 hg9 hB HGhB
                refine hK.out _ _ hR (fun hHeld => ?_)
                clear hK K
                (try simp only [Act.put, List.setIfInBounds_toArray, List.set_cons_zero, List.set_cons_succ])
                refine wpAnyK_ready (rs := [13]) (by kernel_rfl) (by simp) ?_
                refine AllReadyK.cons (op_at _ 13 _ rfl) (fun K hK => ?_) AllReadyK.nil
                refine step_app rfl (.tmp 46) (.tmp 48) el30 rfl (.slice (some ⟨W3.heap.size, 0, none⟩) 0 0) 0 [] rfl hC R.B1.aD LD1 R.B1.cD (vb d.f1.dirt) rfl (src_row (own_later RD.out hBW) (vb_one _)) (by omega) ?_; simp only [Nat.zero_add, List.nil_append]; intro a13 c13 W6 ho13 hg13 hat13; have hll13 := hBW.size; have hgl13 := hlW4; have ha13 : ∀ a, a13 = some a → wr.heap.size ≤ a.block := (fun a ha => by rcases hat13 a ha with h | h; simp only [Value.ownBlock, Option.some.injEq] at h; omega; omega); replace ho5 := own_beside ho5 hg13 (fun k hk e => own_ne ho5 hC (by decide) hk e.symm rfl); replace ho9 := own_beside ho9 hg13 (fun k hk e => own_ne ho9 hC (by decide) hk e.symm rfl); replace hR := hR.blk (hg13.block fb HFL.out (fun e => by simp only [Value.ownBlock, Option.some.injEq] at e; have h1 := HGhC.out; omega)); have HZ13 : Hid (W5.heap.size ≤ W6.heap.size) := hid hg13.size; replace HFL : Hid (fb < W6.heap.size) := hid (Nat.lt_of_lt_of_le HFL.out HZ13.out); replace hBW := hBW.grown hg13 hBW.size (fun k hk => by simp only [Value.ownBlock, Option.some.injEq] at hk; omega); clear hat13 hg13 hC HGhC
                refine hK.out _ _ hR (fun hHeld => ?_)
                clear hK K
                (try simp only [Act.put, List.setIfInBounds_toArray, List.set_cons_zero, List.set_cons_succ])
                refine wpAnyK_pure (i := 14) (v := ?_) (op_at _ 14 _ rfl) (by kernel_rfl) (by kernel_rfl) (by kernel_rfl) (by kernel_rfl) (fun _ _ _ h => h) (Or.inl ⟨by rfl, ?_⟩) (Or.inl (by assumption)) ?_
                rotate_left 1
                focus (intro W hSw; go_simp; first | done | with_reducible rfl)
                (try simp only [Act.put, List.setIfInBounds_toArray, List.set_cons_zero, List.set_cons_succ])
                refine wpAnyK_pure (i := 17) (v := ?_) (op_at _ 17 _ rfl) (by kernel_rfl) (by kernel_rfl) (by kernel_rfl) (by kernel_rfl) (fun _ _ _ h => h) (Or.inl ⟨by rfl, ?_⟩) (Or.inl (by assumption)) ?_
                rotate_left 1
                focus (intro W hSw; go_simp; first | done | with_reducible rfl)
                (try simp only [Act.put, List.setIfInBounds_toArray, List.set_cons_zero, List.set_cons_succ])
                obtain ⟨v0, v1, v2, y0, y1, y2, z0, z1, z2⟩ := hI.out.cells (o := 4) hBW hqr (by omega) (by omega)
                refine wpAnyK_ready (rs := [18]) (by kernel_rfl) (by simp) ?_
                refine AllReadyK.cons (op_at _ 18 _ rfl) (fun K hK => ?_) AllReadyK.nil
                go_simp
                have hR2 : Rd3 fb (.slice R.B1.aN LN1 R.B1.cN) (.slice R.B1.aS LO1 R.B1.cS) (.slice R.B1.aD LD1 R.B1.cD) ((((W6).setCell ⟨q, 4, none⟩ (.slice a5 LN1 c5)).setCell ⟨q, 4 + 1, none⟩ (.slice a9 LO1 c9)).setCell ⟨q, 4 + 2, none⟩ (.slice a13 LD1 c13)) := hR.blk (set3_heap _ _ _ _ _ _ _ hfq); replace hR := hR2; clear hR2
                refine hK.out _ _ hR (fun hHeld => ?_)
                clear hK K
                (try simp only [Act.put, List.setIfInBounds_toArray, List.set_cons_zero, List.set_cons_succ])
                refine wpAnyK_done (by kernel_rfl) ?_ _
                go_wp2
                go_roundg 0
                case measure => omega
                case rel => exact ⟨2, _, _, _, rfl, rfl, hid (cp_1 hI.out HR1.out hq1 HRQ.out.1 HRQ.out.2 hBW ELN1.out ELO1.out ELD1.out ho5 ho9 ho13 ha5 ha9 ha13 (fun a b ha hb => HNE.out _ _ (by rw [ha]; rfl) (by rw [hb]; rfl)))⟩
              exact AllReadyK.nil
            refine AllReadyK.cons (op_at _ 10 _ rfl) (fun K hK => ?_) ?_
            · as_aux_lemma =>
              go_simp
              obtain ⟨W3, hW3⟩ : ∃ W', W' = W2.alloc (.cells #[] 4) := ⟨_, rfl⟩; rw [← hW3]; have hbW3 := (alloc_is hW3).1; have hlW3 := hBW.size; have HSW3 := hid (alloc_is hW3).2; replace hB := own_later hB hbW3; replace hA := own_later hA hbW3; have hC : W3.ownsRow 0 4 1 (.slice (some ⟨W2.heap.size, 0, none⟩) 0 0) 0 [] := (by rw [hW3]; exact World.ownsRow_made W2 #[] 0 (Nat.zero_le _) (by decide) rfl); have HGhC : Hid (fb < W2.heap.size) := hid HFL.out; replace hR := hR.blk (hbW3.block fb HFL.out); replace hBW := hBW.trans (hbW3.mono hBW.size); replace HFL : Hid (fb < W3.heap.size) := hid (by have h1 := HFL.out; have h2 := HSW3.out; omega); clear hW3
              refine hK.out _ _ hR (fun hHeld => ?_)
              clear hK K
              (try simp only [Act.put, List.setIfInBounds_toArray, List.set_cons_zero, List.set_cons_succ])
              refine wpAnyK_ready (rs := [5]) (by kernel_rfl) (by simp) ?_
              refine AllReadyK.cons (op_at _ 5 _ rfl) (fun K hK => ?_) AllReadyK.nil
              refine step_app rfl (.tmp 38) (.tmp 40) el66 rfl (.slice (some ⟨W1.heap.size, 0, none⟩) 0 0) 0 [] rfl hA R.B1.aN LN1 R.B1.cN R.B1.vs rfl (src_row (own_later RN.out hBW) HVS.out) (by omega) ?_; simp only [Nat.zero_add, List.nil_append]; intro a5 c5 W4 ho5 hg5 hat5; have hll5 := hBW.size; have hgl5 := hlW2; have ha5 : ∀ a, a5 = some a → wr.heap.size ≤ a.block := (fun a ha => by rcases hat5 a ha with h | h; simp only [Value.ownBlock, Option.some.injEq] at h; omega; omega); have HNE2 : Hid (∀ i j, (Value.ownBlock (.slice a5 LN1 c5)) = some i → (Value.ownBlock (.slice (some ⟨W0.heap.size, 0, none⟩) 0 0)) = some j → i ≠ j) := hid (fun i j hi hj e => by obtain ⟨y, hy, rfl⟩ := slice_own hi; rcases hat5 y hy with h | h; exact HNE.out _ _ h hj e; have h1 := own_lt hB hj; omega); replace hB := own_beside hB hg5 (fun k hk e => HNE.out _ _ e.symm hk rfl); replace hC := own_beside hC hg5 (fun k hk e => own_ne hC hA (by decide) hk e.symm rfl); replace HNE := HNE2; clear HNE2; replace hR := hR.blk (hg5.block fb HFL.out (fun e => by simp only [Value.ownBlock, Option.some.injEq] at e; have h1 := HGhA.out; omega)); have HZ5 : Hid (W3.heap.size ≤ W4.heap.size) := hid hg5.size; replace HFL : Hid (fb < W4.heap.size) := hid (Nat.lt_of_lt_of_le HFL.out HZ5.out); replace hBW := hBW.grown hg5 hBW.size (fun k hk => by simp only [Value.ownBlock, Option.some.injEq] at hk; omega); clear hat5 hg5 hA HGhA
              refine hK.out _ _ hR (fun hHeld => ?_)
              clear hK K
              (try simp only [Act.put, List.setIfInBounds_toArray, List.set_cons_zero, List.set_cons_succ])
              refine wpAnyK_ready (rs := [9]) (by kernel_rfl) (by simp) ?_
              refine AllReadyK.cons (op_at _ 9 _ rfl) (fun K hK => ?_) AllReadyK.nil
              refine step_app rfl (.tmp 42) (.tmp 44) el66 rfl (.slice (some ⟨W0.heap.size, 0, none⟩) 0 0) 0 [] rfl hB R.B1.aS LO1 R.B1.cS R.B1.us rfl (src_row (own_later RS.out hBW) HUS.out) (by omega) ?_; simp only [Nat.zero_add, List.nil_append]; intro a9 c9 W5 ho9 hg9 hat9; have hll9 := hBW.size; have hgl9 := hlW1; have ha9 : ∀ a, a9 = some a → wr.heap.size ≤ a.block := (fun a ha => by rcases hat9 a ha with h | h; simp only [Value.ownBlock, Option.some.injEq] at h; omega; omega); have HNE2 : Hid (∀ i j, (Value.ownBlock (.slice a5 LN1 c5)) = some i → (Value.ownBlock (.slice a9 LO1 c9)) = some j → i ≠ j) := hid (fun i j hi hj e => by obtain ⟨y, hy, rfl⟩ := slice_own hj; rcases hat9 y hy with h | h; exact HNE.out _ _ hi h e; have h1 := own_lt ho5 hi; omega); replace hC := own_beside hC hg9 (fun k hk e => own_ne hC hB (by decide) hk e.symm rfl); replace ho5 := own_beside ho5 hg9 (fun k hk e => HNE.out _ _ hk e.symm rfl); replace HNE := HNE2; clear HNE2; replace hR := hR.blk (hg9.block fb HFL.out (fun e => by simp only [Value.ownBlock, Option.some.injEq] at e; have h1 := HGhB.out; omega)); have HZ9 : Hid (W4.heap.size ≤ W5.heap.size) := hid hg9.size; replace HFL : Hid (fb < W5.heap.size) := hid (Nat.lt_of_lt_of_le HFL.out HZ9.out); replace hBW := hBW.grown hg9 hBW.size (fun k hk => by simp only [Value.ownBlock, Option.some.injEq] at hk; omega); clear hat9 hg9 hB HGhB
              refine hK.out _ _ hR (fun hHeld => ?_)
              clear hK K
              (try simp only [Act.put, List.setIfInBounds_toArray, List.set_cons_zero, List.set_cons_succ])
              refine wpAnyK_ready (rs := [13]) (by kernel_rfl) (by simp) ?_
              refine AllReadyK.cons (op_at _ 13 _ rfl) (fun K hK => ?_) AllReadyK.nil
              refine step_app rfl (.tmp 46) (.tmp 48) el30 rfl (.slice (some ⟨W2.heap.size, 0, none⟩) 0 0) 0 [] rfl hC R.B1.aD LD1 R.B1.cD (vb d.f1.dirt) rfl (src_row (own_later RD.out hBW) (vb_one _)) (by omega) ?_; simp only [Nat.zero_add, List.nil_append]; intro a13 c13 W6 ho13 hg13 hat13; have hll13 := hBW.size; have hgl13 := hlW3; have ha13 : ∀ a, a13 = some a → wr.heap.size ≤ a.block := (fun a ha => by rcases hat13 a ha with h | h; simp only [Value.ownBlock, Option.some.injEq] at h; omega; omega); replace ho5 := own_beside ho5 hg13 (fun k hk e => own_ne ho5 hC (by decide) hk e.symm rfl); replace ho9 := own_beside ho9 hg13 (fun k hk e => own_ne ho9 hC (by decide) hk e.symm rfl); replace hR := hR.blk (hg13.block fb HFL.out (fun e => by simp only [Value.ownBlock, Option.some.injEq] at e; have h1 := HGhC.out; omega)); have HZ13 : Hid (W5.heap.size ≤ W6.heap.size) := hid hg13.size; replace HFL : Hid (fb < W6.heap.size) := hid (Nat.lt_of_lt_of_le HFL.out HZ13.out); replace hBW := hBW.grown hg13 hBW.size (fun k hk => by simp only [Value.ownBlock, Option.some.injEq] at hk; omega); clear hat13 hg13 hC HGhC
              refine hK.out _ _ hR (fun hHeld => ?_)
              clear hK K
              (try simp only [Act.put, List.setIfInBounds_toArray, List.set_cons_zero, List.set_cons_succ])
              refine wpAnyK_pure (i := 14) (v := ?_) (op_at _ 14 _ rfl) (by kernel_rfl) (by kernel_rfl) (by kernel_rfl) (by kernel_rfl) (fun _ _ _ h => h) (Or.inl ⟨by rfl, ?_⟩) (Or.inl (by assumption)) ?_
              rotate_left 1
              focus (intro W hSw; go_simp; first | done | with_reducible rfl)
              (try simp only [Act.put, List.setIfInBounds_toArray, List.set_cons_zero, List.set_cons_succ])
              refine wpAnyK_pure (i := 17) (v := ?_) (op_at _ 17 _ rfl) (by kernel_rfl) (by kernel_rfl) (by kernel_rfl) (by kernel_rfl) (fun _ _ _ h => h) (Or.inl ⟨by rfl, ?_⟩) (Or.inl (by assumption)) ?_
              rotate_left 1
              focus (intro W hSw; go_simp; first | done | with_reducible rfl)
              (try simp only [Act.put, List.setIfInBounds_toArray, List.set_cons_zero, List.set_cons_succ])
              obtain ⟨v0, v1, v2, y0, y1, y2, z0, z1, z2⟩ := hI.out.cells (o := 4) hBW hqr (by omega) (by omega)
              refine wpAnyK_ready (rs := [18]) (by kernel_rfl) (by simp) ?_
              refine AllReadyK.cons (op_at _ 18 _ rfl) (fun K hK => ?_) AllReadyK.nil
              go_simp
              have hR2 : Rd3 fb (.slice R.B1.aN LN1 R.B1.cN) (.slice R.B1.aS LO1 R.B1.cS) (.slice R.B1.aD LD1 R.B1.cD) ((((W6).setCell ⟨q, 4, none⟩ (.slice a5 LN1 c5)).setCell ⟨q, 4 + 1, none⟩ (.slice a9 LO1 c9)).setCell ⟨q, 4 + 2, none⟩ (.slice a13 LD1 c13)) := hR.blk (set3_heap _ _ _ _ _ _ _ hfq); replace hR := hR2; clear hR2
              refine hK.out _ _ hR (fun hHeld => ?_)
              clear hK K
              (try simp only [Act.put, List.setIfInBounds_toArray, List.set_cons_zero, List.set_cons_succ])
              refine wpAnyK_done (by kernel_rfl) ?_ _
              go_wp2
              go_roundg 0
              case measure => omega
              case rel => exact ⟨2, _, _, _, rfl, rfl, hid (cp_1 hI.out HR1.out hq1 HRQ.out.1 HRQ.out.2 hBW ELN1.out ELO1.out ELD1.out ho5 ho9 ho13 ha5 ha9 ha13 (fun a b ha hb => HNE.out _ _ (by rw [ha]; rfl) (by rw [hb]; rfl)))⟩
            exact AllReadyK.nil
          refine AllReadyK.cons (op_at _ 10 _ rfl) (fun K hK => ?_) ?_
          · as_aux_lemma =>
            go_simp
            obtain ⟨W2, hW2⟩ : ∃ W', W' = W1.alloc (.cells #[] 4) := ⟨_, rfl⟩; rw [← hW2]; have hbW2 := (alloc_is hW2).1; have hlW2 := hBW.size; have HSW2 := hid (alloc_is hW2).2; replace hB := own_later hB hbW2; have hC : W2.ownsRow 0 4 1 (.slice (some ⟨W1.heap.size, 0, none⟩) 0 0) 0 [] := (by rw [hW2]; exact World.ownsRow_made W1 #[] 0 (Nat.zero_le _) (by decide) rfl); have HGhC : Hid (fb < W1.heap.size) := hid HFL.out; replace hR := hR.blk (hbW2.block fb HFL.out); replace hBW := hBW.trans (hbW2.mono hBW.size); replace HFL : Hid (fb < W2.heap.size) := hid (by have h1 := HFL.out; have h2 := HSW2.out; omega); clear hW2
            refine hK.out _ _ hR (fun hHeld => ?_)
            clear hK K
            (try simp only [Act.put, List.setIfInBounds_toArray, List.set_cons_zero, List.set_cons_succ])
            refine wpAnyK_ready (rs := [2]) (by kernel_rfl) (by simp) ?_
            refine AllReadyK.cons (op_at _ 2 _ rfl) (fun K hK => ?_) AllReadyK.nil
            go_simp
            obtain ⟨W3, hW3⟩ : ∃ W', W' = W2.alloc (.cells #[] 37) := ⟨_, rfl⟩; rw [← hW3]; have hbW3 := (alloc_is hW3).1; have hlW3 := hBW.size; have HSW3 := hid (alloc_is hW3).2; have HNE : Hid (∀ i j, (Value.ownBlock (.slice (some ⟨W2.heap.size, 0, none⟩) 0 0)) = some i → (Value.ownBlock (.slice (some ⟨W0.heap.size, 0, none⟩) 0 0)) = some j → i ≠ j) := hid (fun i j hi hj e => by have h1 := own_lt hB hj; simp only [Value.ownBlock, Option.some.injEq] at hi; omega); replace hB := own_later hB hbW3; replace hC := own_later hC hbW3; have hA : W3.ownsRow 0 37 1 (.slice (some ⟨W2.heap.size, 0, none⟩) 0 0) 0 [] := (by rw [hW3]; exact World.ownsRow_made W2 #[] 0 (Nat.zero_le _) (by decide) rfl); have HGhA : Hid (fb < W2.heap.size) := hid HFL.out; replace hR := hR.blk (hbW3.block fb HFL.out); replace hBW := hBW.trans (hbW3.mono hBW.size); replace HFL : Hid (fb < W3.heap.size) := hid (by have h1 := HFL.out; have h2 := HSW3.out; omega); clear hW3
            refine hK.out _ _ hR (fun hHeld => ?_)
            clear hK K
            (try simp only [Act.put, List.setIfInBounds_toArray, List.set_cons_zero, List.set_cons_succ])
            refine wpAnyK_ready (rs := [5]) (by kernel_rfl) (by simp) ?_
            refine AllReadyK.cons (op_at _ 5 _ rfl) (fun K hK => ?_) AllReadyK.nil
            refine step_app rfl (.tmp 38) (.tmp 40) el66 rfl (.slice (some ⟨W2.heap.size, 0, none⟩) 0 0) 0 [] rfl hA R.B1.aN LN1 R.B1.cN R.B1.vs rfl (src_row (own_later RN.out hBW) HVS.out) (by omega) ?_; simp only [Nat.zero_add, List.nil_append]; intro a5 c5 W4 ho5 hg5 hat5; have hll5 := hBW.size; have hgl5 := hlW3; have ha5 : ∀ a, a5 = some a → wr.heap.size ≤ a.block := (fun a ha => by rcases hat5 a ha with h | h; simp only [Value.ownBlock, Option.some.injEq] at h; omega; omega); have HNE2 : Hid (∀ i j, (Value.ownBlock (.slice a5 LN1 c5)) = some i → (Value.ownBlock (.slice (some ⟨W0.heap.size, 0, none⟩) 0 0)) = some j → i ≠ j) := hid (fun i j hi hj e => by obtain ⟨y, hy, rfl⟩ := slice_own hi; rcases hat5 y hy with h | h; exact HNE.out _ _ h hj e; have h1 := own_lt hB hj; omega); replace hB := own_beside hB hg5 (fun k hk e => HNE.out _ _ e.symm hk rfl); replace hC := own_beside hC hg5 (fun k hk e => own_ne hC hA (by decide) hk e.symm rfl); replace HNE := HNE2; clear HNE2; replace hR := hR.blk (hg5.block fb HFL.out (fun e => by simp only [Value.ownBlock, Option.some.injEq] at e; have h1 := HGhA.out; omega)); have HZ5 : Hid (W3.heap.size ≤ W4.heap.size) := hid hg5.size; replace HFL : Hid (fb < W4.heap.size) := hid (Nat.lt_of_lt_of_le HFL.out HZ5.out); replace hBW := hBW.grown hg5 hBW.size (fun k hk => by simp only [Value.ownBlock, Option.some.injEq] at hk; omega); clear hat5 hg5 hA HGhA
            refine hK.out _ _ hR (fun hHeld => ?_)
            clear hK K
            (try simp only [Act.put, List.setIfInBounds_toArray, List.set_cons_zero, List.set_cons_succ])
            refine wpAnyK_ready (rs := [9]) (by kernel_rfl) (by simp) ?_
            refine AllReadyK.cons (op_at _ 9 _ rfl) (fun K hK => ?_) AllReadyK.nil
            refine step_app rfl (.tmp 42) (.tmp 44) el66 rfl (.slice (some ⟨W0.heap.size, 0, none⟩) 0 0) 0 [] rfl hB R.B1.aS LO1 R.B1.cS R.B1.us rfl (src_row (own_later RS.out hBW) HUS.out) (by omega) ?_; simp only [Nat.zero_add, List.nil_append]; intro a9 c9 W5 ho9 hg9 hat9; have hll9 := hBW.size; have hgl9 := hlW1; have ha9 : ∀ a, a9 = some a → wr.heap.size ≤ a.block := (fun a ha => by rcases hat9 a ha with h | h; simp only [Value.ownBlock, Option.some.injEq] at h; omega; omega); have HNE2 : Hid (∀ i j, (Value.ownBlock (.slice a5 LN1 c5)) = some i → (Value.ownBlock (.slice a9 LO1 c9)) = some j → i ≠ j) := hid (fun i j hi hj e => by obtain ⟨y, hy, rfl⟩ := slice_own hj; rcases hat9 y hy with h | h; exact HNE.out _ _ hi h e; have h1 := own_lt ho5 hi; omega); replace hC := own_beside hC hg9 (fun k hk e => own_ne hC hB (by decide) hk e.symm rfl); replace ho5 := own_beside ho5 hg9 (fun k hk e => HNE.out _ _ hk e.symm rfl); replace HNE := HNE2; clear HNE2; replace hR := hR.blk (hg9.block fb HFL.out (fun e => by simp only [Value.ownBlock, Option.some.injEq] at e; have h1 := HGhB.out; omega)); have HZ9 : Hid (W4.heap.size ≤ W5.heap.size) := hid hg9.size; replace HFL : Hid (fb < W5.heap.size) := hid (Nat.lt_of_lt_of_le HFL.out HZ9.out); replace hBW := hBW.grown hg9 hBW.size (fun k hk => by simp only [Value.ownBlock, Option.some.injEq] at hk; omega); clear hat9 hg9 hB HGhB
            refine hK.out _ _ hR (fun hHeld => ?_)
            clear hK K
            (try simp only [Act.put, List.setIfInBounds_toArray, List.set_cons_zero, List.set_cons_succ])
            refine wpAnyK_ready (rs := [13]) (by kernel_rfl) (by simp) ?_
            refine AllReadyK.cons (op_at _ 13 _ rfl) (fun K hK => ?_) AllReadyK.nil
            refine step_app rfl (.tmp 46) (.tmp 48) el30 rfl (.slice (some ⟨W1.heap.size, 0, none⟩) 0 0) 0 [] rfl hC R.B1.aD LD1 R.B1.cD (vb d.f1.dirt) rfl (src_row (own_later RD.out hBW) (vb_one _)) (by omega) ?_; simp only [Nat.zero_add, List.nil_append]; intro a13 c13 W6 ho13 hg13 hat13; have hll13 := hBW.size; have hgl13 := hlW2; have ha13 : ∀ a, a13 = some a → wr.heap.size ≤ a.block := (fun a ha => by rcases hat13 a ha with h | h; simp only [Value.ownBlock, Option.some.injEq] at h; omega; omega); replace ho5 := own_beside ho5 hg13 (fun k hk e => own_ne ho5 hC (by decide) hk e.symm rfl); replace ho9 := own_beside ho9 hg13 (fun k hk e => own_ne ho9 hC (by decide) hk e.symm rfl); replace hR := hR.blk (hg13.block fb HFL.out (fun e => by simp only [Value.ownBlock, Option.some.injEq] at e; have h1 := HGhC.out; omega)); have HZ13 : Hid (W5.heap.size ≤ W6.heap.size) := hid hg13.size; replace HFL : Hid (fb < W6.heap.size) := hid (Nat.lt_of_lt_of_le HFL.out HZ13.out); replace hBW := hBW.grown hg13 hBW.size (fun k hk => by simp only [Value.ownBlock, Option.some.injEq] at hk; omega); clear hat13 hg13 hC HGhC
            refine hK.out _ _ hR (fun hHeld => ?_)
            clear hK K
            (try simp only [Act.put, List.setIfInBounds_toArray, List.set_cons_zero, List.set_cons_succ])
            refine wpAnyK_pure (i := 14) (v := ?_) (op_at _ 14 _ rfl) (by kernel_rfl) (by kernel_rfl) (by kernel_rfl) (by kernel_rfl) (fun _ _ _ h => h) (Or.inl ⟨by rfl, ?_⟩) (Or.inl (by assumption)) ?_
            rotate_left 1
            focus (intro W hSw; go_simp; first | done | with_reducible rfl)
            (try simp only [Act.put, List.setIfInBounds_toArray, List.set_cons_zero, List.set_cons_succ])
            refine wpAnyK_pure (i := 17) (v := ?_) (op_at _ 17 _ rfl) (by kernel_rfl) (by kernel_rfl) (by kernel_rfl) (by kernel_rfl) (fun _ _ _ h => h) (Or.inl ⟨by rfl, ?_⟩) (Or.inl (by assumption)) ?_
            rotate_left 1
            focus (intro W hSw; go_simp; first | done | with_reducible rfl)
            (try simp only [Act.put, List.setIfInBounds_toArray, List.set_cons_zero, List.set_cons_succ])
            obtain ⟨v0, v1, v2, y0, y1, y2, z0, z1, z2⟩ := hI.out.cells (o := 4) hBW hqr (by omega) (by omega)
            refine wpAnyK_ready (rs := [18]) (by kernel_rfl) (by simp) ?_
            refine AllReadyK.cons (op_at _ 18 _ rfl) (fun K hK => ?_) AllReadyK.nil
            go_simp
            have hR2 : Rd3 fb (.slice R.B1.aN LN1 R.B1.cN) (.slice R.B1.aS LO1 R.B1.cS) (.slice R.B1.aD LD1 R.B1.cD) ((((W6).setCell ⟨q, 4, none⟩ (.slice a5 LN1 c5)).setCell ⟨q, 4 + 1, none⟩ (.slice a9 LO1 c9)).setCell ⟨q, 4 + 2, none⟩ (.slice a13 LD1 c13)) := hR.blk (set3_heap _ _ _ _ _ _ _ hfq); replace hR := hR2; clear hR2
            refine hK.out _ _ hR (fun hHeld => ?_)
            clear hK K
            (try simp only [Act.put, List.setIfInBounds_toArray, List.set_cons_zero, List.set_cons_succ])
            refine wpAnyK_done (by kernel_rfl) ?_ _
            go_wp2
            go_roundg 0
            case measure => omega
            case rel => exact ⟨2, _, _, _, rfl, rfl, hid (cp_1 hI.out HR1.out hq1 HRQ.out.1 HRQ.out.2 hBW ELN1.out ELO1.out ELD1.out ho5 ho9 ho13 ha5 ha9 ha13 (fun a b ha hb => HNE.out _ _ (by rw [ha]; rfl) (by rw [hb]; rfl)))⟩
          exact AllReadyK.nil
        refine AllReadyK.cons (op_at _ 10 _ rfl) (fun K hK => ?_) ?_
        · as_aux_lemma =>
          go_simp
          obtain ⟨W1, hW1⟩ : ∃ W', W' = W0.alloc (.cells #[] 4) := ⟨_, rfl⟩; rw [← hW1]; have hbW1 := (alloc_is hW1).1; have hlW1 := hBW.size; have HSW1 := hid (alloc_is hW1).2; have hC : W1.ownsRow 0 4 1 (.slice (some ⟨W0.heap.size, 0, none⟩) 0 0) 0 [] := (by rw [hW1]; exact World.ownsRow_made W0 #[] 0 (Nat.zero_le _) (by decide) rfl); have HGhC : Hid (fb < W0.heap.size) := hid HFL.out; replace hR := hR.blk (hbW1.block fb HFL.out); replace hBW := hBW.trans (hbW1.mono hBW.size); replace HFL : Hid (fb < W1.heap.size) := hid (by have h1 := HFL.out; have h2 := HSW1.out; omega); clear hW1
          refine hK.out _ _ hR (fun hHeld => ?_)
          clear hK K
          (try simp only [Act.put, List.setIfInBounds_toArray, List.set_cons_zero, List.set_cons_succ])
          refine wpAnyK_ready (rs := [2, 6]) (by kernel_rfl) (by simp) ?_
          refine AllReadyK.cons (op_at _ 2 _ rfl) (fun K hK => ?_) ?_
          · as_aux_lemma =>
            go_simp
            obtain ⟨W2, hW2⟩ : ∃ W', W' = W1.alloc (.cells #[] 37) := ⟨_, rfl⟩; rw [← hW2]; have hbW2 := (alloc_is hW2).1; have hlW2 := hBW.size; have HSW2 := hid (alloc_is hW2).2; replace hC := own_later hC hbW2; have hA : W2.ownsRow 0 37 1 (.slice (some ⟨W1.heap.size, 0, none⟩) 0 0) 0 [] := (by rw [hW2]; exact World.ownsRow_made W1 #[] 0 (Nat.zero_le _) (by decide) rfl); have HGhA : Hid (fb < W1.heap.size) := hid HFL.out; replace hR := hR.blk (hbW2.block fb HFL.out); replace hBW := hBW.trans (hbW2.mono hBW.size); replace HFL : Hid (fb < W2.heap.size) := hid (by have h1 := HFL.out; have h2 := HSW2.out; omega); clear hW2
            refine hK.out _ _ hR (fun hHeld => ?_)
            clear hK K
            (try simp only [Act.put, List.setIfInBounds_toArray, List.set_cons_zero, List.set_cons_succ])
            refine wpAnyK_ready (rs := [5, 6]) (by kernel_rfl) (by simp) ?_
            refine AllReadyK.cons (op_at _ 5 _ rfl) (fun K hK => ?_) ?_
            · as_aux_lemma =>
              refine step_app rfl (.tmp 38) (.tmp 40) el66 rfl (.slice (some ⟨W1.heap.size, 0, none⟩) 0 0) 0 [] rfl hA R.B1.aN LN1 R.B1.cN R.B1.vs rfl (src_row (own_later RN.out hBW) HVS.out) (by omega) ?_; simp only [Nat.zero_add, List.nil_append]; intro a5 c5 W3 ho5 hg5 hat5; have hll5 := hBW.size; have hgl5 := hlW2; have ha5 : ∀ a, a5 = some a → wr.heap.size ≤ a.block := (fun a ha => by rcases hat5 a ha with h | h; simp only [Value.ownBlock, Option.some.injEq] at h; omega; omega); replace hC := own_beside hC hg5 (fun k hk e => own_ne hC hA (by decide) hk e.symm rfl); replace hR := hR.blk (hg5.block fb HFL.out (fun e => by simp only [Value.ownBlock, Option.some.injEq] at e; have h1 := HGhA.out; omega)); have HZ5 : Hid (W2.heap.size ≤ W3.heap.size) := hid hg5.size; replace HFL : Hid (fb < W3.heap.size) := hid (Nat.lt_of_lt_of_le HFL.out HZ5.out); replace hBW := hBW.grown hg5 hBW.size (fun k hk => by simp only [Value.ownBlock, Option.some.injEq] at hk; omega); clear hat5 hg5 hA HGhA
              refine hK.out _ _ hR (fun hHeld => ?_)
              clear hK K
              (try simp only [Act.put, List.setIfInBounds_toArray, List.set_cons_zero, List.set_cons_succ])
              refine wpAnyK_ready (rs := [6]) (by kernel_rfl) (by simp) ?_
              refine AllReadyK.cons (op_at _ 6 _ rfl) (fun K hK => ?_) AllReadyK.nil
              go_simp
              obtain ⟨W4, hW4⟩ : ∃ W', W' = W3.alloc (.cells #[] 37) := ⟨_, rfl⟩; rw [← hW4]; have hbW4 := (alloc_is hW4).1; have hlW4 := hBW.size; have HSW4 := hid (alloc_is hW4).2; have HNE : Hid (∀ i j, (Value.ownBlock (.slice a5 LN1 c5)) = some i → (Value.ownBlock (.slice (some ⟨W3.heap.size, 0, none⟩) 0 0)) = some j → i ≠ j) := hid (fun i j hi hj e => by have h1 := own_lt ho5 hi; simp only [Value.ownBlock, Option.some.injEq] at hj; omega); replace hC := own_later hC hbW4; replace ho5 := own_later ho5 hbW4; have hB : W4.ownsRow 0 37 1 (.slice (some ⟨W3.heap.size, 0, none⟩) 0 0) 0 [] := (by rw [hW4]; exact World.ownsRow_made W3 #[] 0 (Nat.zero_le _) (by decide) rfl); have HGhB : Hid (fb < W3.heap.size) := hid HFL.out; replace hR := hR.blk (hbW4.block fb HFL.out); replace hBW := hBW.trans (hbW4.mono hBW.size); replace HFL : Hid (fb < W4.heap.size) := hid (by have h1 := HFL.out; have h2 := HSW4.out; omega); clear hW4
              refine hK.out _ _ hR (fun hHeld => ?_)
              clear hK K
              (try simp only [Act.put, List.setIfInBounds_toArray, List.set_cons_zero, List.set_cons_succ])
              refine wpAnyK_ready (rs := [9]) (by kernel_rfl) (by simp) ?_
              refine AllReadyK.cons (op_at _ 9 _ rfl) (fun K hK => ?_) AllReadyK.nil
              refine step_app rfl (.tmp 42) (.tmp 44) el66 rfl (.slice (some ⟨W3.heap.size, 0, none⟩) 0 0) 0 [] rfl hB R.B1.aS LO1 R.B1.cS R.B1.us rfl (src_row (own_later RS.out hBW) HUS.out) (by omega) ?_; simp only [Nat.zero_add, List.nil_append]; intro a9 c9 W5 ho9 hg9 hat9; have hll9 := hBW.size; have hgl9 := hlW4; have ha9 : ∀ a, a9 = some a → wr.heap.size ≤ a.block := (fun a ha => by rcases hat9 a ha with h | h; simp only [Value.ownBlock, Option.some.injEq] at h; omega; omega); have HNE2 : Hid (∀ i j, (Value.ownBlock (.slice a5 LN1 c5)) = some i → (Value.ownBlock (.slice a9 LO1 c9)) = some j → i ≠ j) := hid (fun i j hi hj e => by obtain ⟨y, hy, rfl⟩ := slice_own hj; rcases hat9 y hy with h | h; exact HNE.out _ _ hi h e; have h1 := own_lt ho5 hi; omega); replace hC := own_beside hC hg9 (fun k hk e => own_ne hC hB (by decide) hk e.symm rfl); replace ho5 := own_beside ho5 hg9 (fun k hk e => HNE.out _ _ hk e.symm rfl); replace HNE := HNE2; clear HNE2; replace hR := hR.blk (hg9.block fb HFL.out (fun e => by simp only [Value.ownBlock, Option.some.injEq] at e; have h1 := HGhB.out; omega)); have HZ9 : Hid (W4.heap.size ≤ W5.heap.size) := hid hg9.size; replace HFL : Hid (fb < W5.heap.size) := hid (Nat.lt_of_lt_of_le HFL.out HZ9.out); replace hBW := hBW.grown hg9 hBW.size (fun k hk => by simp only [Value.ownBlock, Option.some.injEq] at hk; omega); clear hat9 hg9 hB HGhB
              refine hK.out _ _ hR (fun hHeld => ?_)
              clear hK K
              (try simp only [Act.put, List.setIfInBounds_toArray, List.set_cons_zero, List.set_cons_succ])
              refine wpAnyK_ready (rs := [13]) (by kernel_rfl) (by simp) ?_
              refine AllReadyK.cons (op_at _ 13 _ rfl) (fun K hK => ?_) AllReadyK.nil
              refine step_app rfl (.tmp 46) (.tmp 48) el30 rfl (.slice (some ⟨W0.heap.size, 0, none⟩) 0 0) 0 [] rfl hC R.B1.aD LD1 R.B1.cD (vb d.f1.dirt) rfl (src_row (own_later RD.out hBW) (vb_one _)) (by omega) ?_; simp only [Nat.zero_add, List.nil_append]; intro a13 c13 W6 ho13 hg13 hat13; have hll13 := hBW.size; have hgl13 := hlW1; have ha13 : ∀ a, a13 = some a → wr.heap.size ≤ a.block := (fun a ha => by rcases hat13 a ha with h | h; simp only [Value.ownBlock, Option.some.injEq] at h; omega; omega); replace ho5 := own_beside ho5 hg13 (fun k hk e => own_ne ho5 hC (by decide) hk e.symm rfl); replace ho9 := own_beside ho9 hg13 (fun k hk e => own_ne ho9 hC (by decide) hk e.symm rfl); replace hR := hR.blk (hg13.block fb HFL.out (fun e => by simp only [Value.ownBlock, Option.some.injEq] at e; have h1 := HGhC.out; omega)); have HZ13 : Hid (W5.heap.size ≤ W6.heap.size) := hid hg13.size; replace HFL : Hid (fb < W6.heap.size) := hid (Nat.lt_of_lt_of_le HFL.out HZ13.out); replace hBW := hBW.grown hg13 hBW.size (fun k hk => by simp only [Value.ownBlock, Option.some.injEq] at hk; omega); clear hat13 hg13 hC HGhC
              refine hK.out _ _ hR (fun hHeld => ?_)
              clear hK K
              (try simp only [Act.put, List.setIfInBounds_toArray, List.set_cons_zero, List.set_cons_succ])
              refine wpAnyK_pure (i := 14) (v := ?_) (op_at _ 14 _ rfl) (by kernel_rfl) (by kernel_rfl) (by kernel_rfl) (by kernel_rfl) (fun _ _ _ h => h) (Or.inl ⟨by rfl, ?_⟩) (Or.inl (by assumption)) ?_
              rotate_left 1
              focus (intro W hSw; go_simp; first | done | with_reducible rfl)
              (try simp only [Act.put, List.setIfInBounds_toArray, List.set_cons_zero, List.set_cons_succ])
              refine wpAnyK_pure (i := 17) (v := ?_) (op_at _ 17 _ rfl) (by kernel_rfl) (by kernel_rfl) (by kernel_rfl) (by kernel_rfl) (fun _ _ _ h => h) (Or.inl ⟨by rfl, ?_⟩) (Or.inl (by assumption)) ?_
              rotate_left 1
              focus (intro W hSw; go_simp; first | done | with_reducible rfl)
              (try simp only [Act.put, List.setIfInBounds_toArray, List.set_cons_zero, List.set_cons_succ])
              obtain ⟨v0, v1, v2, y0, y1, y2, z0, z1, z2⟩ := hI.out.cells (o := 4) hBW hqr (by omega) (by omega)
              refine wpAnyK_ready (rs := [18]) (by kernel_rfl) (by simp) ?_
              refine AllReadyK.cons (op_at _ 18 _ rfl) (fun K hK => ?_) AllReadyK.nil
              go_simp
              have hR2 : Rd3 fb (.slice R.B1.aN LN1 R.B1.cN) (.slice R.B1.aS LO1 R.B1.cS) (.slice R.B1.aD LD1 R.B1.cD) ((((W6).setCell ⟨q, 4, none⟩ (.slice a5 LN1 c5)).setCell ⟨q, 4 + 1, none⟩ (.slice a9 LO1 c9)).setCell ⟨q, 4 + 2, none⟩ (.slice a13 LD1 c13)) := hR.blk (set3_heap _ _ _ _ _ _ _ hfq); replace hR := hR2; clear hR2
              refine hK.out _ _ hR (fun hHeld => ?_)
              clear hK K
              (try simp only [Act.put, List.setIfInBounds_toArray, List.set_cons_zero, List.set_cons_succ])
              refine wpAnyK_done (by kernel_rfl) ?_ _
              go_wp2
              go_roundg 0
              case measure => omega
              case rel => exact ⟨2, _, _, _, rfl, rfl, hid (cp_1 hI.out HR1.out hq1 HRQ.out.1 HRQ.out.2 hBW ELN1.out ELO1.out ELD1.out ho5 ho9 ho13 ha5 ha9 ha13 (fun a b ha hb => HNE.out _ _ (by rw [ha]; rfl) (by rw [hb]; rfl)))⟩
            refine AllReadyK.cons (op_at _ 6 _ rfl) (fun K hK => ?_) ?_
            · as_aux_lemma =>
              go_simp
              obtain ⟨W3, hW3⟩ : ∃ W', W' = W2.alloc (.cells #[] 37) := ⟨_, rfl⟩; rw [← hW3]; have hbW3 := (alloc_is hW3).1; have hlW3 := hBW.size; have HSW3 := hid (alloc_is hW3).2; have HNE : Hid (∀ i j, (Value.ownBlock (.slice (some ⟨W1.heap.size, 0, none⟩) 0 0)) = some i → (Value.ownBlock (.slice (some ⟨W2.heap.size, 0, none⟩) 0 0)) = some j → i ≠ j) := hid (fun i j hi hj e => by have h1 := own_lt hA hi; simp only [Value.ownBlock, Option.some.injEq] at hj; omega); replace hC := own_later hC hbW3; replace hA := own_later hA hbW3; have hB : W3.ownsRow 0 37 1 (.slice (some ⟨W2.heap.size, 0, none⟩) 0 0) 0 [] := (by rw [hW3]; exact World.ownsRow_made W2 #[] 0 (Nat.zero_le _) (by decide) rfl); have HGhB : Hid (fb < W2.heap.size) := hid HFL.out; replace hR := hR.blk (hbW3.block fb HFL.out); replace hBW := hBW.trans (hbW3.mono hBW.size); replace HFL : Hid (fb < W3.heap.size) := hid (by have h1 := HFL.out; have h2 := HSW3.out; omega); clear hW3
              refine hK.out _ _ hR (fun hHeld => ?_)
              clear hK K
              (try simp only [Act.put, List.setIfInBounds_toArray, List.set_cons_zero, List.set_cons_succ])
              refine wpAnyK_ready (rs := [5]) (by kernel_rfl) (by simp) ?_
              refine AllReadyK.cons (op_at _ 5 _ rfl) (fun K hK => ?_) AllReadyK.nil
              refine step_app rfl (.tmp 38) (.tmp 40) el66 rfl (.slice (some ⟨W1.heap.size, 0, none⟩) 0 0) 0 [] rfl hA R.B1.aN LN1 R.B1.cN R.B1.vs rfl (src_row (own_later RN.out hBW) HVS.out) (by omega) ?_; simp only [Nat.zero_add, List.nil_append]; intro a5 c5 W4 ho5 hg5 hat5; have hll5 := hBW.size; have hgl5 := hlW2; have ha5 : ∀ a, a5 = some a → wr.heap.size ≤ a.block := (fun a ha => by rcases hat5 a ha with h | h; simp only [Value.ownBlock, Option.some.injEq] at h; omega; omega); have HNE2 : Hid (∀ i j, (Value.ownBlock (.slice a5 LN1 c5)) = some i → (Value.ownBlock (.slice (some ⟨W2.heap.size, 0, none⟩) 0 0)) = some j → i ≠ j) := hid (fun i j hi hj e => by obtain ⟨y, hy, rfl⟩ := slice_own hi; rcases hat5 y hy with h | h; exact HNE.out _ _ h hj e; have h1 := own_lt hB hj; omega); replace hC := own_beside hC hg5 (fun k hk e => own_ne hC hA (by decide) hk e.symm rfl); replace hB := own_beside hB hg5 (fun k hk e => HNE.out _ _ e.symm hk rfl); replace HNE := HNE2; clear HNE2; replace hR := hR.blk (hg5.block fb HFL.out (fun e => by simp only [Value.ownBlock, Option.some.injEq] at e; have h1 := HGhA.out; omega)); have HZ5 : Hid (W3.heap.size ≤ W4.heap.size) := hid hg5.size; replace HFL : Hid (fb < W4.heap.size) := hid (Nat.lt_of_lt_of_le HFL.out HZ5.out); replace hBW := hBW.grown hg5 hBW.size (fun k hk => by simp only [Value.ownBlock, Option.some.injEq] at hk; omega); clear hat5 hg5 hA HGhA
              refine hK.out _ _ hR (fun hHeld => ?_)
              clear hK K
              (try simp only [Act.put, List.setIfInBounds_toArray, List.set_cons_zero, List.set_cons_succ])
              refine wpAnyK_ready (rs := [9]) (by kernel_rfl) (by simp) ?_
              refine AllReadyK.cons (op_at _ 9 _ rfl) (fun K hK => ?_) AllReadyK.nil
              refine step_app rfl (.tmp 42) (.tmp 44) el66 rfl (.slice (some ⟨W2.heap.size, 0, none⟩) 0 0) 0 [] rfl hB R.B1.aS LO1 R.B1.cS R.B1.us rfl (src_row (own_later RS.out hBW) HUS.out) (by omega) ?_; simp only [Nat.zero_add, List.nil_append]; intro a9 c9 W5 ho9 hg9 hat9; have hll9 := hBW.size; have hgl9 := hlW3; have ha9 : ∀ a, a9 = some a → wr.heap.size ≤ a.block := (fun a ha => by rcases hat9 a ha with h | h; simp only [Value.ownBlock, Option.some.injEq] at h; omega; omega); have HNE2 : Hid (∀ i j, (Value.ownBlock (.slice a5 LN1 c5)) = some i → (Value.ownBlock (.slice a9 LO1 c9)) = some j → i ≠ j) := hid (fun i j hi hj e => by obtain ⟨y, hy, rfl⟩ := slice_own hj; rcases hat9 y hy with h | h; exact HNE.out _ _ hi h e; have h1 := own_lt ho5 hi; omega); replace hC := own_beside hC hg9 (fun k hk e => own_ne hC hB (by decide) hk e.symm rfl); replace ho5 := own_beside ho5 hg9 (fun k hk e => HNE.out _ _ hk e.symm rfl); replace HNE := HNE2; clear HNE2; replace hR := hR.blk (hg9.block fb HFL.out (fun e => by simp only [Value.ownBlock, Option.some.injEq] at e; have h1 := HGhB.out; omega)); have HZ9 : Hid (W4.heap.size ≤ W5.heap.size) := hid hg9.size; replace HFL : Hid (fb < W5.heap.size) := hid (Nat.lt_of_lt_of_le HFL.out HZ9.out); replace hBW := hBW.grown hg9 hBW.size (fun k hk => by simp only [Value.ownBlock, Option.some.injEq] at hk; omega); clear hat9 hg9 hB HGhB
              refine hK.out _ _ hR (fun hHeld => ?_)
              clear hK K
              (try simp only [Act.put, List.setIfInBounds_toArray, List.set_cons_zero, List.set_cons_succ])
              refine wpAnyK_ready (rs := [13]) (by kernel_rfl) (by simp) ?_
              refine AllReadyK.cons (op_at _ 13 _ rfl) (fun K hK => ?_) AllReadyK.nil
              refine step_app rfl (.tmp 46) (.tmp 48) el30 rfl (.slice (some ⟨W0.heap.size, 0, none⟩) 0 0) 0 [] rfl hC R.B1.aD LD1 R.B1.cD (vb d.f1.dirt) rfl (src_row (own_later RD.out hBW) (vb_one _)) (by omega) ?_; simp only [Nat.zero_add, List.nil_append]; intro a13 c13 W6 ho13 hg13 hat13; have hll13 := hBW.size; have hgl13 := hlW1; have ha13 : ∀ a, a13 = some a → wr.heap.size ≤ a.block := (fun a ha => by rcases hat13 a ha with h | h; simp only [Value.ownBlock, Option.some.injEq] at h; omega; omega); replace ho5 := own_beside ho5 hg13 (fun k hk e => own_ne ho5 hC (by decide) hk e.symm rfl); replace ho9 := own_beside ho9 hg13 (fun k hk e => own_ne ho9 hC (by decide) hk e.symm rfl); replace hR := hR.blk (hg13.block fb HFL.out (fun e => by simp only [Value.ownBlock, Option.some.injEq] at e; have h1 := HGhC.out; omega)); have HZ13 : Hid (W5.heap.size ≤ W6.heap.size) := hid hg13.size; replace HFL : Hid (fb < W6.heap.size) := hid (Nat.lt_of_lt_of_le HFL.out HZ13.out); replace hBW := hBW.grown hg13 hBW.size (fun k hk => by simp only [Value.ownBlock, Option.some.injEq] at hk; omega); clear hat13 hg13 hC HGhC
              refine hK.out _ _ hR (fun hHeld => ?_)
              clear hK K
              (try simp only [Act.put, List.setIfInBounds_toArray, List.set_cons_zero, List.set_cons_succ])
              refine wpAnyK_pure (i := 14) (v := ?_) (op_at _ 14 _ rfl) (by kernel_rfl) (by kernel_rfl) (by kernel_rfl) (by kernel_rfl) (fun _ _ _ h => h) (Or.inl ⟨by rfl, ?_⟩) (Or.inl (by assumption)) ?_
              rotate_left 1
              focus (intro W hSw; go_simp; first | done | with_reducible rfl)
              (try simp only [Act.put, List.setIfInBounds_toArray, List.set_cons_zero, List.set_cons_succ])
              refine wpAnyK_pure (i := 17) (v := ?_) (op_at _ 17 _ rfl) (by kernel_rfl) (by kernel_rfl) (by kernel_rfl) (by kernel_rfl) (fun _ _ _ h => h) (Or.inl ⟨by rfl, ?_⟩) (Or.inl (by assumption)) ?_
              rotate_left 1
              focus (intro W hSw; go_simp; first | done | with_reducible rfl)
              (try simp only [Act.put, List.setIfInBounds_toArray, List.set_cons_zero, List.set_cons_succ])
              obtain ⟨v0, v1, v2, y0, y1, y2, z0, z1, z2⟩ := hI.out.cells (o := 4) hBW hqr (by omega) (by omega)
              refine wpAnyK_ready (rs := [18]) (by kernel_rfl) (by simp) ?_
              refine AllReadyK.cons (op_at _ 18 _ rfl) (fun K hK => ?_) AllReadyK.nil
              go_simp
              have hR2 : Rd3 fb (.slice R.B1.aN LN1 R.B1.cN) (.slice R.B1.aS LO1 R.B1.cS) (.slice R.B1.aD LD1 R.B1.cD) ((((W6).setCell ⟨q, 4, none⟩ (.slice a5 LN1 c5)).setCell ⟨q, 4 + 1, none⟩ (.slice a9 LO1 c9)).setCell ⟨q, 4 + 2, none⟩ (.slice a13 LD1 c13)) := hR.blk (set3_heap _ _ _ _ _ _ _ hfq); replace hR := hR2; clear hR2
              refine hK.out _ _ hR (fun hHeld => ?_)
              clear hK K
              (try simp only [Act.put, List.setIfInBounds_toArray, List.set_cons_zero, List.set_cons_succ])
              refine wpAnyK_done (by kernel_rfl) ?_ _
              go_wp2
              go_roundg 0
              case measure => omega
              case rel => exact ⟨2, _, _, _, rfl, rfl, hid (cp_1 hI.out HR1.out hq1 HRQ.out.1 HRQ.out.2 hBW ELN1.out ELO1.out ELD1.out ho5 ho9 ho13 ha5 ha9 ha13 (fun a b ha hb => HNE.out _ _ (by rw [ha]; rfl) (by rw [hb]; rfl)))⟩
            exact AllReadyK.nil
          refine AllReadyK.cons (op_at _ 6 _ rfl) (fun K hK => ?_) ?_
          · as_aux_lemma =>
            go_simp
            obtain ⟨W2, hW2⟩ : ∃ W', W' = W1.alloc (.cells #[] 37) := ⟨_, rfl⟩; rw [← hW2]; have hbW2 := (alloc_is hW2).1; have hlW2 := hBW.size; have HSW2 := hid (alloc_is hW2).2; replace hC := own_later hC hbW2; have hB : W2.ownsRow 0 37 1 (.slice (some ⟨W1.heap.size, 0, none⟩) 0 0) 0 [] := (by rw [hW2]; exact World.ownsRow_made W1 #[] 0 (Nat.zero_le _) (by decide) rfl); have HGhB : Hid (fb < W1.heap.size) := hid HFL.out; replace hR := hR.blk (hbW2.block fb HFL.out); replace hBW := hBW.trans (hbW2.mono hBW.size); replace HFL : Hid (fb < W2.heap.size) := hid (by have h1 := HFL.out; have h2 := HSW2.out; omega); clear hW2
            refine hK.out _ _ hR (fun hHeld => ?_)
            clear hK K
            (try simp only [Act.put, List.setIfInBounds_toArray, List.set_cons_zero, List.set_cons_succ])
            refine wpAnyK_ready (rs := [2]) (by kernel_rfl) (by simp) ?_
            refine AllReadyK.cons (op_at _ 2 _ rfl) (fun K hK => ?_) AllReadyK.nil
            go_simp
            obtain ⟨W3, hW3⟩ : ∃ W', W' = W2.alloc (.cells #[] 37) := ⟨_, rfl⟩; rw [← hW3]; have hbW3 := (alloc_is hW3).1; have hlW3 := hBW.size; have HSW3 := hid (alloc_is hW3).2; have HNE : Hid (∀ i j, (Value.ownBlock (.slice (some ⟨W2.heap.size, 0, none⟩) 0 0)) = some i → (Value.ownBlock (.slice (some ⟨W1.heap.size, 0, none⟩) 0 0)) = some j → i ≠ j) := hid (fun i j hi hj e => by have h1 := own_lt hB hj; simp only [Value.ownBlock, Option.some.injEq] at hi; omega); replace hC := own_later hC hbW3; replace hB := own_later hB hbW3; have hA : W3.ownsRow 0 37 1 (.slice (some ⟨W2.heap.size, 0, none⟩) 0 0) 0 [] := (by rw [hW3]; exact World.ownsRow_made W2 #[] 0 (Nat.zero_le _) (by decide) rfl); have HGhA : Hid (fb < W2.heap.size) := hid HFL.out; replace hR := hR.blk (hbW3.block fb HFL.out); replace hBW := hBW.trans (hbW3.mono hBW.size); replace HFL : Hid (fb < W3.heap.size) := hid (by have h1 := HFL.out; have h2 := HSW3.out; omega); clear hW3
            refine hK.out _ _ hR (fun hHeld => ?_)
            clear hK K
            (try simp only [Act.put, List.setIfInBounds_toArray, List.set_cons_zero, List.set_cons_succ])
            refine wpAnyK_ready (rs := [5]) (by kernel_rfl) (by simp) ?_
            refine AllReadyK.cons (op_at _ 5 _ rfl) (fun K hK => ?_) AllReadyK.nil
            refine step_app rfl (.tmp 38) (.tmp 40) el66 rfl (.slice (some ⟨W2.heap.size, 0, none⟩) 0 0) 0 [] rfl hA R.B1.aN LN1 R.B1.cN R.B1.vs rfl (src_row (own_later RN.out hBW) HVS.out) (by omega) ?_; simp only [Nat.zero_add, List.nil_append]; intro a5 c5 W4 ho5 hg5 hat5; have hll5 := hBW.size; have hgl5 := hlW3; have ha5 : ∀ a, a5 = some a → wr.heap.size ≤ a.block := (fun a ha => by rcases hat5 a ha with h | h; simp only [Value.ownBlock, Option.some.injEq] at h; omega; omega); have HNE2 : Hid (∀ i j, (Value.ownBlock (.slice a5 LN1 c5)) = some i → (Value.ownBlock (.slice (some ⟨W1.heap.size, 0, none⟩) 0 0)) = some j → i ≠ j) := hid (fun i j hi hj e => by obtain ⟨y, hy, rfl⟩ := slice_own hi; rcases hat5 y hy with h | h; exact HNE.out _ _ h hj e; have h1 := own_lt hB hj; omega); replace hC := own_beside hC hg5 (fun k hk e => own_ne hC hA (by decide) hk e.symm rfl); replace hB := own_beside hB hg5 (fun k hk e => HNE.out _ _ e.symm hk rfl); replace HNE := HNE2; clear HNE2; replace hR := hR.blk (hg5.block fb HFL.out (fun e => by simp only [Value.ownBlock, Option.some.injEq] at e; have h1 := HGhA.out; omega)); have HZ5 : Hid (W3.heap.size ≤ W4.heap.size) := hid hg5.size; replace HFL : Hid (fb < W4.heap.size) := hid (Nat.lt_of_lt_of_le HFL.out HZ5.out); replace hBW := hBW.grown hg5 hBW.size (fun k hk => by simp only [Value.ownBlock, Option.some.injEq] at hk; omega); clear hat5 hg5 hA HGhA
            refine hK.out _ _ hR (fun hHeld => ?_)
            clear hK K
            (try simp only [Act.put, List.setIfInBounds_toArray, List.set_cons_zero, List.set_cons_succ])
            refine wpAnyK_ready (rs := [9]) (by kernel_rfl) (by simp) ?_
            refine AllReadyK.cons (op_at _ 9 _ rfl) (fun K hK => ?_) AllReadyK.nil
            refine step_app rfl (.tmp 42) (.tmp 44) el66 rfl (.slice (some ⟨W1.heap.size, 0, none⟩) 0 0) 0 [] rfl hB R.B1.aS LO1 R.B1.cS R.B1.us rfl (src_row (own_later RS.out hBW) HUS.out) (by omega) ?_; simp only [Nat.zero_add, List.nil_append]; intro a9 c9 W5 ho9 hg9 hat9; have hll9 := hBW.size; have hgl9 := hlW2; have ha9 : ∀ a, a9 = some a → wr.heap.size ≤ a.block := (fun a ha => by rcases hat9 a ha with h | h; simp only [Value.ownBlock, Option.some.injEq] at h; omega; omega); have HNE2 : Hid (∀ i j, (Value.ownBlock (.slice a5 LN1 c5)) = some i → (Value.ownBlock (.slice a9 LO1 c9)) = some j → i ≠ j) := hid (fun i j hi hj e => by obtain ⟨y, hy, rfl⟩ := slice_own hj; rcases hat9 y hy with h | h; exact HNE.out _ _ hi h e; have h1 := own_lt ho5 hi; omega); replace hC := own_beside hC hg9 (fun k hk e => own_ne hC hB (by decide) hk e.symm rfl); replace ho5 := own_beside ho5 hg9 (fun k hk e => HNE.out _ _ hk e.symm rfl); replace HNE := HNE2; clear HNE2; replace hR := hR.blk (hg9.block fb HFL.out (fun e => by simp only [Value.ownBlock, Option.some.injEq] at e; have h1 := HGhB.out; omega)); have HZ9 : Hid (W4.heap.size ≤ W5.heap.size) := hid hg9.size; replace HFL : Hid (fb < W5.heap.size) := hid (Nat.lt_of_lt_of_le HFL.out HZ9.out); replace hBW := hBW.grown hg9 hBW.size (fun k hk => by simp only [Value.ownBlock, Option.some.injEq] at hk; omega); clear hat9 hg9 hB HGhB
            refine hK.out _ _ hR (fun hHeld => ?_)
            clear hK K
            (try simp only [Act.put, List.setIfInBounds_toArray, List.set_cons_zero, List.set_cons_succ])
            refine wpAnyK_ready (rs := [13]) (by kernel_rfl) (by simp) ?_
            refine AllReadyK.cons (op_at _ 13 _ rfl) (fun K hK => ?_) AllReadyK.nil
            refine step_app rfl (.tmp 46) (.tmp 48) el30 rfl (.slice (some ⟨W0.heap.size, 0, none⟩) 0 0) 0 [] rfl hC R.B1.aD LD1 R.B1.cD (vb d.f1.dirt) rfl (src_row (own_later RD.out hBW) (vb_one _)) (by omega) ?_; simp only [Nat.zero_add, List.nil_append]; intro a13 c13 W6 ho13 hg13 hat13; have hll13 := hBW.size; have hgl13 := hlW1; have ha13 : ∀ a, a13 = some a → wr.heap.size ≤ a.block := (fun a ha => by rcases hat13 a ha with h | h; simp only [Value.ownBlock, Option.some.injEq] at h; omega; omega); replace ho5 := own_beside ho5 hg13 (fun k hk e => own_ne ho5 hC (by decide) hk e.symm rfl); replace ho9 := own_beside ho9 hg13 (fun k hk e => own_ne ho9 hC (by decide) hk e.symm rfl); replace hR := hR.blk (hg13.block fb HFL.out (fun e => by simp only [Value.ownBlock, Option.some.injEq] at e; have h1 := HGhC.out; omega)); have HZ13 : Hid (W5.heap.size ≤ W6.heap.size) := hid hg13.size; replace HFL : Hid (fb < W6.heap.size) := hid (Nat.lt_of_lt_of_le HFL.out HZ13.out); replace hBW := hBW.grown hg13 hBW.size (fun k hk => by simp only [Value.ownBlock, Option.some.injEq] at hk; omega); clear hat13 hg13 hC HGhC
            refine hK.out _ _ hR (fun hHeld => ?_)
            clear hK K
            (try simp only [Act.put, List.setIfInBounds_toArray, List.set_cons_zero, List.set_cons_succ])
            refine wpAnyK_pure (i := 14) (v := ?_) (op_at _ 14 _ rfl) (by kernel_rfl) (by kernel_rfl) (by kernel_rfl) (by kernel_rfl) (fun _ _ _ h => h) (Or.inl ⟨by rfl, ?_⟩) (Or.inl (by assumption)) ?_
            rotate_left 1
            focus (intro W hSw; go_simp; first | done | with_reducible rfl)
            (try simp only [Act.put, List.setIfInBounds_toArray, List.set_cons_zero, List.set_cons_succ])
            refine wpAnyK_pure (i := 17) (v := ?_) (op_at _ 17 _ rfl) (by kernel_rfl) (by kernel_rfl) (by kernel_rfl) (by kernel_rfl) (fun _ _ _ h => h) (Or.inl ⟨by rfl, ?_⟩) (Or.inl (by assumption)) ?_
            rotate_left 1
            focus (intro W hSw; go_simp; first | done | with_reducible rfl)
            (try simp only [Act.put, List.setIfInBounds_toArray, List.set_cons_zero, List.set_cons_succ])
            obtain ⟨v0, v1, v2, y0, y1, y2, z0, z1, z2⟩ := hI.out.cells (o := 4) hBW hqr (by omega) (by omega)
            refine wpAnyK_ready (rs := [18]) (by kernel_rfl) (by simp) ?_
            refine AllReadyK.cons (op_at _ 18 _ rfl) (fun K hK => ?_) AllReadyK.nil
            go_simp
            have hR2 : Rd3 fb (.slice R.B1.aN LN1 R.B1.cN) (.slice R.B1.aS LO1 R.B1.cS) (.slice R.B1.aD LD1 R.B1.cD) ((((W6).setCell ⟨q, 4, none⟩ (.slice a5 LN1 c5)).setCell ⟨q, 4 + 1, none⟩ (.slice a9 LO1 c9)).setCell ⟨q, 4 + 2, none⟩ (.slice a13 LD1 c13)) := hR.blk (set3_heap _ _ _ _ _ _ _ hfq); replace hR := hR2; clear hR2
            refine hK.out _ _ hR (fun hHeld => ?_)
            clear hK K
            (try simp only [Act.put, List.setIfInBounds_toArray, List.set_cons_zero, List.set_cons_succ])
            refine wpAnyK_done (by kernel_rfl) ?_ _
            go_wp2
            go_roundg 0
            case measure => omega
            case rel => exact ⟨2, _, _, _, rfl, rfl, hid (cp_1 hI.out HR1.out hq1 HRQ.out.1 HRQ.out.2 hBW ELN1.out ELO1.out ELD1.out ho5 ho9 ho13 ha5 ha9 ha13 (fun a b ha hb => HNE.out _ _ (by rw [ha]; rfl) (by rw [hb]; rfl)))⟩
          exact AllReadyK.nil
        exact AllReadyK.nil
    · go_wp2
      go_ret
      obtain ⟨R', h1, h2, h3, h4⟩ := cp_2 hI.out H.out HB1.out HQE.out hq1 HC.out
      exact ⟨q, R', rfl, h1, h2, h3, by rw [HQE.out]; exact Nat.le_refl _, h4⟩

end Go.Proofs.Ytkgenmooepfhjaa
