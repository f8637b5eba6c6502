/- How the document's disk lies in memory; no statement of the seat is proved here. -/
import Derived.Test.YtkgenmooepfhjaaEa
namespace Go.Proofs.Ytkgenmooepfhjaa
open Go.RowKit Go.Maps

/-- A sector of the document's: bytes in a row of their own. -/
def SecAt (w : World) (S : Nat → Prop) (v : Value) (x : Sec) : Prop := w.ownsRow 0 5 1 v 128 (bs x) ∧ ∀ k, v.ownBlock = some k → S k
structure AllAt (w : World) (S : Nat → Prop) (vs : List Value) (l : List Sec) : Prop where
  len : vs.length = l.length
  at_ : ∀ (i : Nat) (v : Value) (x : Sec), vs[i]? = some v → l[i]? = some x → SecAt w S v x

theorem SecAt.len {w : World} {S : Nat → Prop} {v : Value} {x : Sec} (h : SecAt w S v x) : x.length = 128 := by have := h.1.1; rwa [bs_length] at this
theorem SecAt.form {w : World} {S : Nat → Prop} {v : Value} {x : Sec} (h : SecAt w S v x) : ∃ g cap, v = .slice (some ⟨g, 0, none⟩) 128 cap ∧ 128 ≤ cap ∧ g < w.heap.size ∧ S g := by
  rcases h.1.2 with ⟨_, h0⟩ | ⟨g, cap, cur, rfl, _, hg, hnc, _⟩
  · cases h0
  · exact ⟨g, cap, rfl, hnc, (Array.getElem?_eq_some_iff.1 hg).1, h.2 g rfl⟩
theorem SecAt.one {w : World} {S : Nat → Prop} {v : Value} {x : Sec} (h : SecAt w S v x) : v.oneCell' = true := by
  obtain ⟨g, cap, rfl, _⟩ := h.form; rfl
theorem SecAt.stay {w w' : World} {S S' : Nat → Prop} {v : Value} {x : Sec} (h : SecAt w S v x) (hb : ∀ k, v.ownBlock = some k → w'.heap[k]? = w.heap[k]?) (hs : ∀ k, S k → S' k) : SecAt w' S' v x :=
  ⟨own_stay h.1 hb, fun k hk => hs k (h.2 k hk)⟩
theorem AllAt.stay {w w' : World} {S S' : Nat → Prop} {vs : List Value} {l : List Sec} (h : AllAt w S vs l) (hb : ∀ (i : Nat) (v : Value) (x : Sec), vs[i]? = some v → SecAt w S v x → ∀ k, v.ownBlock = some k → w'.heap[k]? = w.heap[k]?) (hs : ∀ k, S k → S' k) : AllAt w' S' vs l :=
  ⟨h.len, fun i v x hv hx => (h.at_ i v x hv hx).stay (hb i v x hv (h.at_ i v x hv hx)) hs⟩
theorem AllAt.one {w : World} {S : Nat → Prop} {vs : List Value} {l : List Sec} (h : AllAt w S vs l) : ∀ u ∈ vs, u.oneCell' = true := by
  intro u hu
  obtain ⟨i, hi, rfl⟩ := List.mem_iff_getElem.1 hu
  exact (h.at_ i vs[i] (l[i]'(by rw [← h.len]; exact hi)) (List.getElem?_eq_getElem hi) (List.getElem?_eq_getElem _)).one
theorem AllAt.get {w : World} {S : Nat → Prop} {vs : List Value} {l : List Sec} (h : AllAt w S vs l) {i : Nat} (hi : i < l.length) : ∃ v, vs[i]? = some v ∧ SecAt w S v (l.getD i []) := by
  have hi' : i < vs.length := by rw [h.len]; exact hi
  refine ⟨vs[i], List.getElem?_eq_getElem hi', ?_⟩
  rw [List.getD, List.getElem?_eq_getElem hi]
  exact h.at_ i _ _ (List.getElem?_eq_getElem hi') (List.getElem?_eq_getElem hi)
theorem AllAt.set {w : World} {S : Nat → Prop} {vs : List Value} {l : List Sec} (h : AllAt w S vs l) (i : Nat) {v : Value} {x : Sec} (hv : SecAt w S v x) : AllAt w S (vs.set i v) (l.set i x) := by
  refine ⟨by simp [h.len], fun j u y hu hy => ?_⟩
  rw [List.getElem?_set] at hu hy
  by_cases hij : i = j
  · subst hij
    rw [if_pos rfl] at hu hy
    split at hu <;> simp at hu
    split at hy <;> simp at hy
    subst hu; subst hy; exact hv
  · rw [if_neg hij] at hu hy; exact h.at_ j u y hu hy
theorem AllAt.snoc {w : World} {S : Nat → Prop} {vs : List Value} {l : List Sec} (h : AllAt w S vs l) {v : Value} {x : Sec} (hv : SecAt w S v x) : AllAt w S (vs ++ [v]) (l ++ [x]) := by
  refine ⟨by simp [h.len], fun j u y hu hy => ?_⟩
  have hl := h.len
  rcases Nat.lt_trichotomy j vs.length with h1 | h1 | h1
  · rw [List.getElem?_append_left h1] at hu; rw [List.getElem?_append_left (by omega)] at hy; exact h.at_ j u y hu hy
  · subst h1
    rw [List.getElem?_append_right (Nat.le_refl _)] at hu; rw [List.getElem?_append_right (by omega)] at hy
    simp at hu; rw [hl] at hy; simp at hy
    subst hu; subst hy; exact hv
  · rw [List.getElem?_eq_none (by simp; omega)] at hu; cases hu
theorem AllAt.take {w : World} {S : Nat → Prop} {vs : List Value} {l : List Sec} (h : AllAt w S vs l) (n : Nat) : AllAt w S (vs.take n) (l.take n) := by
  refine ⟨by simp [h.len], fun j u y hu hy => ?_⟩
  rw [List.getElem?_take] at hu hy
  split at hu
  · rename_i hj; rw [if_pos hj] at hy; exact h.at_ j u y hu hy
  · cases hu

/-- Where a file's parts lie. -/
structure RP where
  aN : Option Addr
  cN : Nat
  vs : List Value
  aS : Option Addr
  cS : Nat
  us : List Value
  aD : Option Addr
  cD : Nat

structure RefF (w : World) (r o : Nat) (S : Nat → Prop) (B : RP) (F : FS) : Prop where
  c0 : w.cell? ⟨r, o, none⟩ = some (.slice B.aN F.now.length B.cN)
  c1 : w.cell? ⟨r, o + 1, none⟩ = some (.slice B.aS F.old.length B.cS)
  c2 : w.cell? ⟨r, o + 2, none⟩ = some (.slice B.aD F.dirt.length B.cD)
  rn : w.ownsRow 0 37 1 (.slice B.aN F.now.length B.cN) F.now.length B.vs
  rs : w.ownsRow 0 37 1 (.slice B.aS F.old.length B.cS) F.old.length B.us
  rd : w.ownsRow 0 4 1 (.slice B.aD F.dirt.length B.cD) F.dirt.length (vb F.dirt)
  an : AllAt w S B.vs F.now
  ao : AllAt w S B.us F.old
  np : ¬ S r
  sn : ∀ a, B.aN = some a → S a.block
  ss : ∀ a, B.aS = some a → S a.block
  sd : ∀ a, B.aD = some a → S a.block
  ns : ∀ a b, B.aN = some a → B.aS = some b → a.block ≠ b.block

/-- The blocks that a file's calls write to. -/
def Mut (B : RP) (k : Nat) : Prop := (∃ a, B.aN = some a ∧ a.block = k) ∨ (∃ a, B.aD = some a ∧ a.block = k)

theorem RefF.mut {w : World} {r o : Nat} {S : Nat → Prop} {B : RP} {F : FS} (h : RefF w r o S B F) {k : Nat} (hk : Mut B k) : S k := by
  rcases hk with ⟨a, ha, rfl⟩ | ⟨a, ha, rfl⟩
  · exact h.sn a ha
  · exact h.sd a ha
theorem RefF.plt {w : World} {r o : Nat} {S : Nat → Prop} {B : RP} {F : FS} (h : RefF w r o S B F) : r < w.heap.size := lt_cell h.c0
theorem slice_own {ao : Option Addr} {n c k : Nat} (h : (Value.slice ao n c).ownBlock = some k) : ∃ a, ao = some a ∧ a.block = k := by
  cases ao with
  | none => cases h
  | some a => cases h; exact ⟨a, rfl, rfl⟩
theorem own_slice {ao : Option Addr} {n c : Nat} {a : Addr} (h : ao = some a) : (Value.slice ao n c).ownBlock = some a.block := by subst h; rfl
theorem row_lt1 {w : World} {e : TypeId} {ao : Option Addr} {n c : Nat} {xs : List Value} (h : w.ownsRow 0 e 1 (.slice ao n c) n xs) {a : Addr} (ha : ao = some a) : a.block < w.heap.size := own_lt h (own_slice ha)

/-- All that a file is made of stays. -/
theorem RefF.stay {w w' : World} {r o : Nat} {S : Nat → Prop} {B : RP} {F : FS} (h : RefF w r o S B F) (hb : ∀ k, k < w.heap.size → S k → w'.heap[k]? = w.heap[k]?) (hc : ∀ i, o ≤ i → i ≤ o + 2 → w'.cell? ⟨r, i, none⟩ = w.cell? ⟨r, i, none⟩) : RefF w' r o S B F := by
  have hrow : ∀ {ao : Option Addr} {e : TypeId} {n c : Nat} {xs : List Value}, w.ownsRow 0 e 1 (.slice ao n c) n xs → (∀ a, ao = some a → S a.block) → w'.ownsRow 0 e 1 (.slice ao n c) n xs := fun hr hS => own_stay hr (fun k hk => by
    obtain ⟨a, ha, rfl⟩ := slice_own hk
    exact hb _ (own_lt hr hk) (hS a ha))
  exact ⟨(hc _ (by omega) (by omega)).trans h.c0, (hc _ (by omega) (by omega)).trans h.c1, (hc _ (by omega) (by omega)).trans h.c2, hrow h.rn h.sn, hrow h.rs h.ss, hrow h.rd h.sd,
    h.an.stay (fun i v x _ hs k hk => hb k (own_lt hs.1 hk) (hs.2 k hk)) (fun _ h => h), h.ao.stay (fun i v x _ hs k hk => hb k (own_lt hs.1 hk) (hs.2 k hk)) (fun _ h => h), h.np, h.sn, h.ss, h.sd, h.ns⟩
theorem RefF.later {w w' : World} {r o : Nat} {S : Nat → Prop} {B : RP} {F : FS} (h : RefF w r o S B F) (hb : Below w.heap.size w w') : RefF w' r o S B F :=
  h.stay (fun k hk _ => hb.block k hk) (fun _ _ _ => World.cell?_of_block (hb.block r h.plt))
theorem RefF.imp {w : World} {r o : Nat} {S S' : Nat → Prop} {B : RP} {F : FS} (h : RefF w r o S B F) (hi : ∀ k, k < w.heap.size → S k → S' k) (hp : ¬ S' r) : RefF w r o S' B F :=
  ⟨h.c0, h.c1, h.c2, h.rn, h.rs, h.rd, ⟨h.an.len, fun i v x hv hx => ⟨(h.an.at_ i v x hv hx).1, fun k hk => hi k (own_lt (h.an.at_ i v x hv hx).1 hk) ((h.an.at_ i v x hv hx).2 k hk)⟩⟩, ⟨h.ao.len, fun i v x hv hx => ⟨(h.ao.at_ i v x hv hx).1, fun k hk => hi k (own_lt (h.ao.at_ i v x hv hx).1 hk) ((h.ao.at_ i v x hv hx).2 k hk)⟩⟩, hp,
   fun a ha => hi _ (row_lt1 h.rn ha) (h.sn a ha), fun a ha => hi _ (row_lt1 h.rs ha) (h.ss a ha), fun a ha => hi _ (row_lt1 h.rd ha) (h.sd a ha), h.ns⟩
theorem RefF.up {w : World} {r o : Nat} {S : Nat → Prop} {B : RP} {F : FS} (h : RefF w r o S B F) : RefF w r o (From S w) B F :=
  h.imp (fun _ _ => Or.inl) (fun hf => by rcases hf with h1 | h1; exact h.np h1; have := h.plt; omega)
theorem RefF.bound {w w' : World} {r o : Nat} {S : Nat → Prop} {B : RP} {F : FS} (h : RefF w' r o (From S w) B F) (hr : ¬ Between S w w' r) : RefF w' r o (Between S w w') B F :=
  h.imp (fun k hk hS => by rcases hS with h1 | h1; exact Or.inl h1; exact Or.inr ⟨h1, hk⟩) hr

/-- Which blocks the document's disk lies in. -/
structure RParts where
  S0 : Nat → Prop
  S1 : Nat → Prop
  SK : Nat → Prop
  B0 : RP
  B1 : RP
  ko : Option Addr
  kn : Nat
  kc : Nat
  t : Int

structure RefP (w : World) (r : Nat) (R : RParts) (d : DS) : Prop where
  c0 : w.cell? ⟨r, 0, none⟩ = some (.int .i64 (d.room : Int))
  c7 : w.cell? ⟨r, 7, none⟩ = some (.bool d.off)
  c8 : w.cell? ⟨r, 8, none⟩ = some (.int .i64 (d.ops : Int))
  c9 : w.cell? ⟨r, 9, none⟩ = some (.int .i64 (d.left : Int))
  c10 : w.cell? ⟨r, 10, none⟩ = some (.slice R.ko R.kn R.kc)
  c11 : w.cell? ⟨r, 11, none⟩ = some (.int .i64 R.t)
  fz : ∀ i, w.frozen? ⟨r, i, none⟩ = false
  f0 : RefF w r 1 R.S0 R.B0 d.f0
  f1 : RefF w r 4 R.S1 R.B1 d.f1
  rk : 0 < d.left → R.kn = d.keep.length ∧ R.t = d.torn ∧ RdB w R.ko d.keep ∧ (0 < d.keep.length → ∀ a, R.ko = some a → R.SK a.block)
  d01 : ∀ k, R.S0 k → ¬ R.S1 k
  dk : ∀ k, R.SK k → ¬ R.S0 k ∧ ¬ R.S1 k ∧ k ≠ r
  b0 : ∀ k, R.S0 k → k < w.heap.size
  b1 : ∀ k, R.S1 k → k < w.heap.size
  bk : ∀ k, R.SK k → k < w.heap.size
  ok : d.Ok

def RParts.all (R : RParts) : Nat → Prop := fun k => R.S0 k ∨ R.S1 k ∨ R.SK k
def RParts.mut (R : RParts) : Nat → Prop := fun k => Mut R.B0 k ∨ Mut R.B1 k
def RGrew (R : RParts) (w : World) (R' : RParts) : Prop := (∀ k, R'.all k → From R.all w k) ∧ ∀ k, R'.mut k → From R.mut w k
theorem RGrew.refl (R : RParts) (w : World) : RGrew R w R := ⟨fun _ h => Or.inl h, fun _ h => Or.inl h⟩
theorem RGrew.trans {R R1 R2 : RParts} {w w1 : World} (h : RGrew R w R1) (k : RGrew R1 w1 R2) (hs : w.heap.size ≤ w1.heap.size) : RGrew R w R2 :=
  ⟨fun i hi => by rcases k.1 i hi with h1 | h1; exact h.1 i h1; exact Or.inr (Nat.le_trans hs h1), fun i hi => by rcases k.2 i hi with h1 | h1; exact h.2 i h1; exact Or.inr (Nat.le_trans hs h1)⟩
theorem RGrew.of {R R1 : RParts} {w w1 : World} (k : RGrew R w1 R1) (hs : w.heap.size ≤ w1.heap.size) : RGrew R w R1 := (RGrew.refl R w).trans k hs

theorem RefP.mut {w : World} {r : Nat} {R : RParts} {d : DS} (h : RefP w r R d) {k : Nat} (hk : R.mut k) : R.all k := by
  rcases hk with h1 | h1
  · exact Or.inl (h.f0.mut h1)
  · exact Or.inr (Or.inl (h.f1.mut h1))
theorem RefP.lt {w : World} {r : Nat} {R : RParts} {d : DS} (h : RefP w r R d) {k : Nat} (hk : R.all k) : k < w.heap.size := by
  rcases hk with h1 | h1 | h1
  · exact h.b0 k h1
  · exact h.b1 k h1
  · exact h.bk k h1
theorem RefP.nr {w : World} {r : Nat} {R : RParts} {d : DS} (h : RefP w r R d) : ¬ R.all r := by
  rintro (h1 | h1 | h1)
  · exact h.f0.np h1
  · exact h.f1.np h1
  · exact (h.dk r h1).2.2 rfl
theorem RefP.rlt {w : World} {r : Nat} {R : RParts} {d : DS} (h : RefP w r R d) : r < w.heap.size := lt_cell h.c0

/-- Plain cells turn, and what is armed. -/
theorem RefP.turn {w w' : World} {r : Nat} {R : RParts} {d d' : DS} (h : RefP w r R d) (hs : w.heap.size ≤ w'.heap.size) (hb : ∀ k, k < w.heap.size → k ≠ r → w'.heap[k]? = w.heap[k]?) (hc : ∀ i, 1 ≤ i → i ≤ 6 → w'.cell? ⟨r, i, none⟩ = w.cell? ⟨r, i, none⟩)
    (hf : ∀ i, w'.frozen? ⟨r, i, none⟩ = w.frozen? ⟨r, i, none⟩) (c0 : w'.cell? ⟨r, 0, none⟩ = some (.int .i64 (d'.room : Int))) (c7 : w'.cell? ⟨r, 7, none⟩ = some (.bool d'.off)) (c8 : w'.cell? ⟨r, 8, none⟩ = some (.int .i64 (d'.ops : Int)))
    (c9 : w'.cell? ⟨r, 9, none⟩ = some (.int .i64 (d'.left : Int))) {SK : Nat → Prop} {ko : Option Addr} {kn kc : Nat} {t : Int} (c10 : w'.cell? ⟨r, 10, none⟩ = some (.slice ko kn kc)) (c11 : w'.cell? ⟨r, 11, none⟩ = some (.int .i64 t))
    (e0 : d'.f0 = d.f0) (e1 : d'.f1 = d.f1) (rk : 0 < d'.left → kn = d'.keep.length ∧ t = d'.torn ∧ RdB w' ko d'.keep ∧ (0 < d'.keep.length → ∀ a, ko = some a → SK a.block)) (dk : ∀ k, SK k → ¬ R.S0 k ∧ ¬ R.S1 k ∧ k ≠ r) (bk : ∀ k, SK k → k < w'.heap.size) (ok : d'.Ok) :
    RefP w' r { R with SK := SK, ko := ko, kn := kn, kc := kc, t := t } d' :=
  ⟨c0, c7, c8, c9, c10, c11, fun i => (hf i).trans (h.fz i),
   by rw [e0]; exact h.f0.stay (fun k hk hS => hb k hk (fun e => h.f0.np (e ▸ hS))) (fun i h1 h2 => hc i h1 (by omega)),
   by rw [e1]; exact h.f1.stay (fun k hk hS => hb k hk (fun e => h.f1.np (e ▸ hS))) (fun i h1 h2 => hc i (by omega) h2),
   rk, h.d01, dk, fun k hk => Nat.lt_of_lt_of_le (h.b0 k hk) hs, fun k hk => Nat.lt_of_lt_of_le (h.b1 k hk) hs, bk, ok⟩

theorem RefP.rk_stay {w w' : World} {r : Nat} {R : RParts} {d : DS} (h : RefP w r R d) (hb : ∀ k, k < w.heap.size → R.SK k → w'.heap[k]? = w.heap[k]?) : 0 < d.left → R.kn = d.keep.length ∧ R.t = d.torn ∧ RdB w' R.ko d.keep ∧ (0 < d.keep.length → ∀ a, R.ko = some a → R.SK a.block) := by
  intro hl
  obtain ⟨h1, h2, h3, h4⟩ := h.rk hl
  exact ⟨h1, h2, rdB_stay h3 (fun hp a ha hk => hb _ hk (h4 hp a ha)), h4⟩

theorem RefP.stay {w w' : World} {r : Nat} {R : RParts} {d : DS} (h : RefP w r R d) (hs : w.heap.size ≤ w'.heap.size) (hb : ∀ k, k < w.heap.size → (R.all k ∨ k = r) → w'.heap[k]? = w.heap[k]?) : RefP w' r R d := by
  have hp := hb r h.rlt (Or.inr rfl)
  have hc : ∀ i, w'.cell? ⟨r, i, none⟩ = w.cell? ⟨r, i, none⟩ := fun _ => World.cell?_of_block hp
  have hf : ∀ i, w'.frozen? ⟨r, i, none⟩ = w.frozen? ⟨r, i, none⟩ := fun _ => World.frozen?_of_block hp
  exact ⟨(hc 0).trans h.c0, (hc 7).trans h.c7, (hc 8).trans h.c8, (hc 9).trans h.c9, (hc 10).trans h.c10, (hc 11).trans h.c11, fun i => (hf i).trans (h.fz i),
    h.f0.stay (fun k hk hS => hb k hk (Or.inl (Or.inl hS))) (fun i _ _ => hc i), h.f1.stay (fun k hk hS => hb k hk (Or.inl (Or.inr (Or.inl hS)))) (fun i _ _ => hc i),
    h.rk_stay (fun k hk hS => hb k hk (Or.inl (Or.inr (Or.inr hS)))), h.d01, h.dk, fun k hk => Nat.lt_of_lt_of_le (h.b0 k hk) hs, fun k hk => Nat.lt_of_lt_of_le (h.b1 k hk) hs, fun k hk => Nat.lt_of_lt_of_le (h.bk k hk) hs, h.ok⟩
theorem RefP.later {w w' : World} {r : Nat} {R : RParts} {d : DS} (h : RefP w r R d) (hb : Below w.heap.size w w') : RefP w' r R d := h.stay hb.size (fun k hk _ => hb.block k hk)

/-- What a file's call leaves. -/
structure FTurn (w w' : World) (r o : Nat) (S : Nat → Prop) (B : RP) (F' : FS) (B' : RP) : Prop where
  f : RefF w' r o (From S w) B' F'
  fr : FFrame w w' r o (Mut B)
  mu : ∀ k, Mut B' k → From (Mut B) w k

/-- File 0 turns. -/
theorem RefP.file0 {w w' : World} {r : Nat} {R : RParts} {d : DS} (h : RefP w r R d) {F : FS} {B : RP} (ht : FTurn w w' r 1 R.S0 R.B0 F B) (ok : { d with f0 := F }.Ok) :
    RefP w' r { R with S0 := Between R.S0 w w', B0 := B } { d with f0 := F } ∧ RGrew R w { R with S0 := Between R.S0 w w', B0 := B } ∧ DFrame w w' r R.mut := by
  have hfr := ht.fr
  have hrl := h.rlt
  have hc : ∀ i, (i < 1 ∨ 3 < i) → w'.cell? ⟨r, i, none⟩ = w.cell? ⟨r, i, none⟩ := fun i hi => hfr.cell i (by omega) (by omega) (by omega)
  refine ⟨⟨(hc 0 (by omega)).trans h.c0, (hc 7 (by omega)).trans h.c7, (hc 8 (by omega)).trans h.c8, (hc 9 (by omega)).trans h.c9, (hc 10 (by omega)).trans h.c10, (hc 11 (by omega)).trans h.c11, fun i => (hfr.fz i).trans (h.fz i), ht.f.bound ?_,
    h.f1.stay (fun k hk hS => hfr.block k hk (fun e => h.f1.np (e ▸ hS)) (fun h0 => h.d01 k (h.f0.mut h0) hS)) (fun i h1 _ => hc i (by omega)),
    h.rk_stay (fun k hk hS => hfr.block k hk (h.dk k hS).2.2 (fun h0 => (h.dk k hS).1 (h.f0.mut h0))), ?_, ?_, ?_, fun k hk => Nat.lt_of_lt_of_le (h.b1 k hk) hfr.size, fun k hk => Nat.lt_of_lt_of_le (h.bk k hk) hfr.size, ok⟩, ⟨?_, ?_⟩, ?_⟩
  · rintro (h0 | h0)
    · exact h.f0.np h0
    · omega
  · rintro k (h0 | h0) h1
    · exact h.d01 k h0 h1
    · have := h.b1 k h1; omega
  · intro k hk
    refine ⟨?_, (h.dk k hk).2.1, (h.dk k hk).2.2⟩
    rintro (h0 | h0)
    · exact (h.dk k hk).1 h0
    · have := h.bk k hk; omega
  · rintro k (h0 | h0)
    · exact Nat.lt_of_lt_of_le (h.b0 k h0) hfr.size
    · exact h0.2
  · rintro k ((h0 | h0) | h0 | h0)
    · exact Or.inl (Or.inl h0)
    · exact Or.inr h0.1
    · exact Or.inl (Or.inr (Or.inl h0))
    · exact Or.inl (Or.inr (Or.inr h0))
  · rintro k (h0 | h0)
    · rcases ht.mu k h0 with h1 | h1
      · exact Or.inl (Or.inl h1)
      · exact Or.inr h1
    · exact Or.inl (Or.inr h0)
  · exact hfr.df.imp (fun _ _ h => Or.inl h)

/-- File 1 turns. -/
theorem RefP.file1 {w w' : World} {r : Nat} {R : RParts} {d : DS} (h : RefP w r R d) {F : FS} {B : RP} (ht : FTurn w w' r 4 R.S1 R.B1 F B) (ok : { d with f1 := F }.Ok) :
    RefP w' r { R with S1 := Between R.S1 w w', B1 := B } { d with f1 := F } ∧ RGrew R w { R with S1 := Between R.S1 w w', B1 := B } ∧ DFrame w w' r R.mut := by
  have hfr := ht.fr
  have hrl := h.rlt
  have hc : ∀ i, (i < 4 ∨ 6 < i) → w'.cell? ⟨r, i, none⟩ = w.cell? ⟨r, i, none⟩ := fun i hi => hfr.cell i (by omega) (by omega) (by omega)
  refine ⟨⟨(hc 0 (by omega)).trans h.c0, (hc 7 (by omega)).trans h.c7, (hc 8 (by omega)).trans h.c8, (hc 9 (by omega)).trans h.c9, (hc 10 (by omega)).trans h.c10, (hc 11 (by omega)).trans h.c11, fun i => (hfr.fz i).trans (h.fz i),
    h.f0.stay (fun k hk hS => hfr.block k hk (fun e => h.f0.np (e ▸ hS)) (fun h0 => h.d01 k hS (h.f1.mut h0))) (fun i h1 _ => hc i (by omega)), ht.f.bound ?_,
    h.rk_stay (fun k hk hS => hfr.block k hk (h.dk k hS).2.2 (fun h0 => (h.dk k hS).2.1 (h.f1.mut h0))), ?_, ?_, fun k hk => Nat.lt_of_lt_of_le (h.b0 k hk) hfr.size, ?_, fun k hk => Nat.lt_of_lt_of_le (h.bk k hk) hfr.size, ok⟩, ⟨?_, ?_⟩, ?_⟩
  · rintro (h0 | h0)
    · exact h.f1.np h0
    · omega
  · rintro k h1 (h0 | h0)
    · exact h.d01 k h1 h0
    · have := h.b0 k h1; omega
  · intro k hk
    refine ⟨(h.dk k hk).1, ?_, (h.dk k hk).2.2⟩
    rintro (h0 | h0)
    · exact (h.dk k hk).2.1 h0
    · have := h.bk k hk; omega
  · rintro k (h0 | h0)
    · exact Nat.lt_of_lt_of_le (h.b1 k h0) hfr.size
    · exact h0.2
  · rintro k (h0 | (h0 | h0) | h0)
    · exact Or.inl (Or.inl h0)
    · exact Or.inl (Or.inr (Or.inl h0))
    · exact Or.inr h0.1
    · exact Or.inl (Or.inr (Or.inr h0))
  · rintro k (h0 | h0)
    · exact Or.inl (Or.inl h0)
    · rcases ht.mu k h0 with h1 | h1
      · exact Or.inl (Or.inr h1)
      · exact Or.inr h1
  · exact hfr.df.imp (fun _ _ h => Or.inr h)

end Go.Proofs.Ytkgenmooepfhjaa
