/- How a disk lies in memory; no statement of the seat is proved here. -/
import Derived.Test.YtkgenmooepfhjaaAj
namespace Go.Proofs.Ytkgenmooepfhjaa
open Go.RowKit Go.Maps

structure DS where
  room : Nat
  off : Bool
  ops : Nat
  f0 : FS
  f1 : FS
  left : Nat
  keep : List Bool
  torn : Int

/-- Which blocks a disk's files and what is armed lie in. -/
structure Parts where
  S0 : Nat → Prop
  S1 : Nat → Prop
  SK : Nat → Prop
  a0 : Option Addr
  a1 : Option Addr
  ko : Option Addr
  k0 : Nat
  k1 : Nat
  kc : Nat
  m0 : Nat
  m1 : Nat

structure DS.Ok (d : DS) : Prop where
  r1 : 0 < d.room
  r2 : d.room ≤ 32768
  sum : d.f0.now.length + d.f1.now.length ≤ d.room
  ok0 : d.f0.Ok
  ok1 : d.f1.Ok
  kl : d.keep.length ≤ 100
  tn : -9223372036854775808 ≤ d.torn ∧ d.torn ≤ 9223372036854775807
  lf : d.left ≤ 9223372036854775807
  op : d.ops ≤ 1000000000

structure DiskP (w : World) (p : Nat) (P : Parts) (d : DS) : Prop where
  c0 : w.cell? ⟨p, 0, none⟩ = some (.int .i64 (d.room : Int))
  c1 : w.cell? ⟨p, 1, none⟩ = some (.bool d.off)
  c2 : w.cell? ⟨p, 2, none⟩ = some (.int .i64 (d.ops : Int))
  c9 : w.cell? ⟨p, 9, none⟩ = some (.int .i64 (d.left : Int))
  c10 : w.cell? ⟨p, 10, none⟩ = some (.slice P.ko d.keep.length P.kc)
  c11 : w.cell? ⟨p, 11, none⟩ = some (.int .i64 d.torn)
  fz : ∀ i, w.frozen? ⟨p, i, none⟩ = false
  f0 : FileAt w p 3 P.S0 P.a0 P.k0 P.m0 d.f0
  f1 : FileAt w p 6 P.S1 P.a1 P.k1 P.m1 d.f1
  rk : RdB w P.ko d.keep
  ik : 0 < d.keep.length → ∀ a, P.ko = some a → P.SK a.block
  d01 : ∀ k, P.S0 k → ¬ P.S1 k
  dk : ∀ k, P.SK k → ¬ P.S0 k ∧ ¬ P.S1 k ∧ k ≠ p
  b0 : ∀ k, P.S0 k → k < w.heap.size
  b1 : ∀ k, P.S1 k → k < w.heap.size
  bk : ∀ k, P.SK k → k < w.heap.size
  ok : d.Ok

/-- The blocks of a disk, its own block apart. -/
def Parts.all (P : Parts) : Nat → Prop := fun k => P.S0 k ∨ P.S1 k ∨ P.SK k

/-- Nothing but a disk's blocks, and new ones, turns. -/
structure DFrame (w w' : World) (p : Nat) (S : Nat → Prop) : Prop where
  os : w'.os = w.os
  tape : w'.tape = w.tape
  output : w'.output = w.output
  size : w.heap.size ≤ w'.heap.size
  block : ∀ k, k < w.heap.size → k ≠ p → ¬ S k → w'.heap[k]? = w.heap[k]?

theorem DFrame.refl (w : World) (p : Nat) (S : Nat → Prop) : DFrame w w p S := ⟨rfl, rfl, rfl, Nat.le_refl _, fun _ _ _ _ => rfl⟩
theorem DFrame.trans {w w1 w2 : World} {p : Nat} {S : Nat → Prop} (h : DFrame w w1 p S) (k : DFrame w1 w2 p (From S w)) : DFrame w w2 p S :=
  ⟨k.os.trans h.os, k.tape.trans h.tape, k.output.trans h.output, Nat.le_trans h.size k.size,
   fun i hi hp hS => (k.block i (Nat.lt_of_lt_of_le hi h.size) hp (fun hf => by rcases hf with h1 | h1; exact hS h1; omega)).trans (h.block i hi hp hS)⟩
theorem DFrame.imp {w w' : World} {p : Nat} {S S' : Nat → Prop} (h : DFrame w w' p S) (hi : ∀ k, k < w.heap.size → S k → S' k) : DFrame w w' p S' :=
  ⟨h.os, h.tape, h.output, h.size, fun k hk hp hn => h.block k hk hp (fun hs => hn (hi k hk hs))⟩
theorem FFrame.df {w w' : World} {p o : Nat} {S : Nat → Prop} (h : FFrame w w' p o S) : DFrame w w' p S := ⟨h.os, h.tape, h.output, h.size, h.block⟩
theorem DFrame.below {w w' : World} {p : Nat} {S : Nat → Prop} (h : Below w.heap.size w w') : DFrame w w' p S := ⟨h.os, h.tape, h.output, h.size, fun k hk _ _ => h.block k hk⟩

/-- Blocks that were there, or that were made in between. -/
def Between (S : Nat → Prop) (w w' : World) : Nat → Prop := fun k => S k ∨ (w.heap.size ≤ k ∧ k < w'.heap.size)

theorem FileAt.bound {w w' : World} {p o : Nat} {S : Nat → Prop} {ao : Option Addr} {cap m : Nat} {F : FS} (h : FileAt w' p o (From S w) ao cap m F) : FileAt w' p o (Between S w w') ao cap m F :=
  ⟨h.c0, h.c1, h.c2, h.f0, h.f1, h.f2, h.row, h.map, fun hb => h.np (by rcases hb with h1 | h1; exact Or.inl h1; exact Or.inr h1.1),
   fun a ha => by rcases h.ina a ha with h1 | h1; exact Or.inl h1; exact Or.inr ⟨h1, row_lt h.row a ha⟩, by rcases h.inm with h1 | h1; exact Or.inl h1; exact Or.inr ⟨h1, h.map.lt⟩⟩

/-- One of a disk's six plain cells turns, and blocks are made. -/
theorem DiskP.turn {w w' : World} {p : Nat} {P : Parts} {d d' : DS} (h : DiskP w p P d) (hs : w.heap.size ≤ w'.heap.size) (hb : ∀ k, k < w.heap.size → k ≠ p → w'.heap[k]? = w.heap[k]?) (hc : ∀ i, 3 ≤ i → i ≤ 8 → w'.cell? ⟨p, i, none⟩ = w.cell? ⟨p, i, none⟩)
    (hf : ∀ i, w'.frozen? ⟨p, i, none⟩ = w.frozen? ⟨p, i, none⟩) (c0 : w'.cell? ⟨p, 0, none⟩ = some (.int .i64 (d'.room : Int))) (c1 : w'.cell? ⟨p, 1, none⟩ = some (.bool d'.off)) (c2 : w'.cell? ⟨p, 2, none⟩ = some (.int .i64 (d'.ops : Int)))
    (c9 : w'.cell? ⟨p, 9, none⟩ = some (.int .i64 (d'.left : Int))) {SK : Nat → Prop} {ko : Option Addr} {kc : Nat} (c10 : w'.cell? ⟨p, 10, none⟩ = some (.slice ko d'.keep.length kc)) (c11 : w'.cell? ⟨p, 11, none⟩ = some (.int .i64 d'.torn))
    (e0 : d'.f0 = d.f0) (e1 : d'.f1 = d.f1) (rk : RdB w' ko d'.keep) (ik : 0 < d'.keep.length → ∀ a, ko = some a → SK a.block) (dk : ∀ k, SK k → ¬ P.S0 k ∧ ¬ P.S1 k ∧ k ≠ p) (bk : ∀ k, SK k → k < w'.heap.size) (ok : d'.Ok) :
    DiskP w' p { P with SK := SK, ko := ko, kc := kc } d' :=
  ⟨c0, c1, c2, c9, c10, c11, fun i => (hf i).trans (h.fz i),
   by rw [e0]; exact h.f0.stay (fun k hk hS => hb k hk (fun e => h.f0.np (e ▸ hS))) (fun i h1 h2 => hc i h1 (by omega)) hf,
   by rw [e1]; exact h.f1.stay (fun k hk hS => hb k hk (fun e => h.f1.np (e ▸ hS))) (fun i h1 h2 => hc i (by omega) h2) hf,
   rk, ik, h.d01, dk, fun k hk => Nat.lt_of_lt_of_le (h.b0 k hk) hs, fun k hk => Nat.lt_of_lt_of_le (h.b1 k hk) hs, bk, ok⟩

theorem DiskP.rk_stay {w w' : World} {p : Nat} {P : Parts} {d : DS} (h : DiskP w p P d) (hb : ∀ k, k < w.heap.size → P.SK k → w'.heap[k]? = w.heap[k]?) : RdB w' P.ko d.keep := by
  intro hp
  obtain ⟨b, off, hko, hc⟩ := h.rk hp
  have hS := h.ik hp _ hko
  exact ⟨b, off, hko, fun t ht => (World.cell?_of_block (a := ⟨b, off + t, none⟩) (hb b (h.bk _ hS) hS)).trans (hc t ht)⟩

/-- All blocks stay: the disk does. -/
theorem DiskP.stay {w w' : World} {p : Nat} {P : Parts} {d : DS} (h : DiskP w p P d) (hs : w.heap.size ≤ w'.heap.size) (hb : ∀ k, k < w.heap.size → (P.all k ∨ k = p) → w'.heap[k]? = w.heap[k]?) : DiskP w' p P d := by
  have hp := hb p h.f0.plt (Or.inr rfl)
  have hc : ∀ i, w'.cell? ⟨p, i, none⟩ = w.cell? ⟨p, i, none⟩ := fun _ => World.cell?_of_block hp
  have hf : ∀ i, w'.frozen? ⟨p, i, none⟩ = w.frozen? ⟨p, i, none⟩ := fun _ => World.frozen?_of_block hp
  exact ⟨(hc 0).trans h.c0, (hc 1).trans h.c1, (hc 2).trans h.c2, (hc 9).trans h.c9, (hc 10).trans h.c10, (hc 11).trans h.c11, fun i => (hf i).trans (h.fz i),
    h.f0.stay (fun k hk hS => hb k hk (Or.inl (Or.inl hS))) (fun i _ _ => hc i) hf, h.f1.stay (fun k hk hS => hb k hk (Or.inl (Or.inr (Or.inl hS)))) (fun i _ _ => hc i) hf,
    h.rk_stay (fun k hk hS => hb k hk (Or.inl (Or.inr (Or.inr hS)))), h.ik, h.d01, h.dk, fun k hk => Nat.lt_of_lt_of_le (h.b0 k hk) hs, fun k hk => Nat.lt_of_lt_of_le (h.b1 k hk) hs, fun k hk => Nat.lt_of_lt_of_le (h.bk k hk) hs, h.ok⟩
theorem DiskP.later {w w' : World} {p : Nat} {P : Parts} {d : DS} (h : DiskP w p P d) (hb : Below w.heap.size w w') : DiskP w' p P d := h.stay hb.size (fun k hk _ => hb.block k hk)

/-- File 0 turns. -/
theorem DiskP.file0g {w w' : World} {p : Nat} {P : Parts} {d : DS} (h : DiskP w p P d) {ao : Option Addr} {cap m : Nat} {F : FS} {S2 : Nat → Prop} (hF : FileAt w' p 3 (From P.S0 w) ao cap m F) (hfr : FFrame w w' p 3 S2) (hd : ∀ k, S2 k → ¬ P.S1 k ∧ ¬ P.SK k) (ok : { d with f0 := F }.Ok) :
    DiskP w' p { P with S0 := Between P.S0 w w', a0 := ao, k0 := cap, m0 := m } { d with f0 := F } := by
  have hc : ∀ i, (i < 3 ∨ 5 < i) → w'.cell? ⟨p, i, none⟩ = w.cell? ⟨p, i, none⟩ := fun i hi => hfr.cell i (by omega) (by omega) (by omega)
  refine ⟨(hc 0 (by omega)).trans h.c0, (hc 1 (by omega)).trans h.c1, (hc 2 (by omega)).trans h.c2, (hc 9 (by omega)).trans h.c9, (hc 10 (by omega)).trans h.c10, (hc 11 (by omega)).trans h.c11, fun i => (hfr.fz i).trans (h.fz i), hF.bound,
    h.f1.stay (fun k hk hS => hfr.block k hk (fun e => h.f1.np (e ▸ hS)) (fun h0 => (hd k h0).1 hS)) (fun i h1 _ => hc i (by omega)) hfr.fz,
    h.rk_stay (fun k hk hS => hfr.block k hk (h.dk k hS).2.2 (fun h0 => (hd k h0).2 hS)), h.ik, ?_, ?_, ?_, fun k hk => Nat.lt_of_lt_of_le (h.b1 k hk) hfr.size, fun k hk => Nat.lt_of_lt_of_le (h.bk k hk) hfr.size, ok⟩
  · rintro k (h0 | h0) h1
    · exact h.d01 k h0 h1
    · have := h.b1 k h1; omega
  · intro k hk
    refine ⟨?_, (h.dk k hk).2.1, (h.dk k hk).2.2⟩
    rintro (h0 | h0)
    · exact (h.dk k hk).1 h0
    · have := h.bk k hk; omega
  · rintro k (h0 | h0)
    · exact Nat.lt_of_lt_of_le (h.b0 k h0) hfr.size
    · exact h0.2

/-- File 1 turns. -/
theorem DiskP.file1g {w w' : World} {p : Nat} {P : Parts} {d : DS} (h : DiskP w p P d) {ao : Option Addr} {cap m : Nat} {F : FS} {S2 : Nat → Prop} (hF : FileAt w' p 6 (From P.S1 w) ao cap m F) (hfr : FFrame w w' p 6 S2) (hd : ∀ k, S2 k → ¬ P.S0 k ∧ ¬ P.SK k) (ok : { d with f1 := F }.Ok) :
    DiskP w' p { P with S1 := Between P.S1 w w', a1 := ao, k1 := cap, m1 := m } { d with f1 := F } := by
  have hc : ∀ i, (i < 6 ∨ 8 < i) → w'.cell? ⟨p, i, none⟩ = w.cell? ⟨p, i, none⟩ := fun i hi => hfr.cell i (by omega) (by omega) (by omega)
  refine ⟨(hc 0 (by omega)).trans h.c0, (hc 1 (by omega)).trans h.c1, (hc 2 (by omega)).trans h.c2, (hc 9 (by omega)).trans h.c9, (hc 10 (by omega)).trans h.c10, (hc 11 (by omega)).trans h.c11, fun i => (hfr.fz i).trans (h.fz i),
    h.f0.stay (fun k hk hS => hfr.block k hk (fun e => h.f0.np (e ▸ hS)) (fun h0 => (hd k h0).1 hS)) (fun i h1 _ => hc i (by omega)) hfr.fz, hF.bound,
    h.rk_stay (fun k hk hS => hfr.block k hk (h.dk k hS).2.2 (fun h0 => (hd k h0).2 hS)), h.ik, ?_, ?_, fun k hk => Nat.lt_of_lt_of_le (h.b0 k hk) hfr.size, ?_, fun k hk => Nat.lt_of_lt_of_le (h.bk k hk) hfr.size, ok⟩
  · rintro k h1 (h0 | h0)
    · exact h.d01 k h1 h0
    · have := h.b0 k h1; omega
  · intro k hk
    refine ⟨(h.dk k hk).1, ?_, (h.dk k hk).2.2⟩
    rintro (h0 | h0)
    · exact (h.dk k hk).2.1 h0
    · have := h.bk k hk; omega
  · rintro k (h0 | h0)
    · exact Nat.lt_of_lt_of_le (h.b1 k h0) hfr.size
    · exact h0.2

theorem DiskP.file0 {w w' : World} {p : Nat} {P : Parts} {d : DS} (h : DiskP w p P d) {ao : Option Addr} {cap m : Nat} {F : FS} (hF : FileAt w' p 3 (From P.S0 w) ao cap m F) (hfr : FFrame w w' p 3 P.S0) (ok : { d with f0 := F }.Ok) :
    DiskP w' p { P with S0 := Between P.S0 w w', a0 := ao, k0 := cap, m0 := m } { d with f0 := F } := h.file0g hF hfr (fun k h0 => ⟨h.d01 k h0, fun hk => (h.dk k hk).1 h0⟩) ok
theorem DiskP.file1 {w w' : World} {p : Nat} {P : Parts} {d : DS} (h : DiskP w p P d) {ao : Option Addr} {cap m : Nat} {F : FS} (hF : FileAt w' p 6 (From P.S1 w) ao cap m F) (hfr : FFrame w w' p 6 P.S1) (ok : { d with f1 := F }.Ok) :
    DiskP w' p { P with S1 := Between P.S1 w w', a1 := ao, k1 := cap, m1 := m } { d with f1 := F } := h.file1g hF hfr (fun k h0 => ⟨fun h1 => h.d01 k h1 h0, fun hk => (h.dk k hk).2.1 h0⟩) ok

end Go.Proofs.Ytkgenmooepfhjaa
