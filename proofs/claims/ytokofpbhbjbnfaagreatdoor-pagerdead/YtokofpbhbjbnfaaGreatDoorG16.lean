/- How a disk lies in memory; no statement of the seat is proved here. -/
import Derived.Test.YtokofpbhbjbnfaaGreatDoorG15
namespace Go.Proofs.YtokofpbhbjbnfaaGreatDoor.Dsk
open Go.RowKit Go.Maps

structure DS where
  room : Nat
  off : Bool
  ops : Nat
  f0 : FS
  f1 : FS
  left : Nat
  keep : List Bool
  torn : Int

/-- Which blocks a disk's files and what is armed lie in. -/
structure Parts where
  S0 : Nat → Prop
  S1 : Nat → Prop
  SK : Nat → Prop
  a0 : Option Addr
  a1 : Option Addr
  ko : Option Addr
  k0 : Nat
  k1 : Nat
  kc : Nat
  m0 : Nat
  m1 : Nat

structure DS.Ok (d : DS) : Prop where
  r1 : 0 < d.room
  r2 : d.room ≤ 32768
  sum : d.f0.now.length + d.f1.now.length ≤ d.room
  ok0 : d.f0.Ok
  ok1 : d.f1.Ok
  kl : d.keep.length ≤ 100
  tn : -9223372036854775808 ≤ d.torn ∧ d.torn ≤ 9223372036854775807
  lf : d.left ≤ 9223372036854775807
  op : d.ops ≤ 1000000000

structure DiskP (w : World) (p : Nat) (P : Parts) (d : DS) : Prop where
  c0 : w.cell? ⟨p, 0, none⟩ = some (.int .i64 (d.room : Int))
  c1 : w.cell? ⟨p, 1, none⟩ = some (.bool d.off)
  c2 : w.cell? ⟨p, 2, none⟩ = some (.int .i64 (d.ops : Int))
  c9 : w.cell? ⟨p, 9, none⟩ = some (.int .i64 (d.left : Int))
  c10 : w.cell? ⟨p, 10, none⟩ = some (.slice P.ko d.keep.length P.kc)
  c11 : w.cell? ⟨p, 11, none⟩ = some (.int .i64 d.torn)
  fz : ∀ i, w.frozen? ⟨p, i, none⟩ = false
  f0 : FileAt w p 3 P.S0 P.a0 P.k0 P.m0 d.f0
  f1 : FileAt w p 6 P.S1 P.a1 P.k1 P.m1 d.f1
  rk : RdB w P.ko d.keep
  ik : 0 < d.keep.length → ∀ a, P.ko = some a → P.SK a.block
  d01 : ∀ k, P.S0 k → ¬ P.S1 k
  dk : ∀ k, P.SK k → ¬ P.S0 k ∧ ¬ P.S1 k ∧ k ≠ p
  b0 : ∀ k, P.S0 k → k < w.heap.size
  b1 : ∀ k, P.S1 k → k < w.heap.size
  bk : ∀ k, P.SK k → k < w.heap.size
  ok : d.Ok

/-- The blocks of a disk, its own block apart. -/
def Parts.all (P : Parts) : Nat → Prop := fun k => P.S0 k ∨ P.S1 k ∨ P.SK k

/-- Nothing but a disk's blocks, and new ones, turns. -/
structure DFrame (w w' : World) (p : Nat) (S : Nat → Prop) : Prop where
  os : w'.os = w.os
  tape : w'.tape = w.tape
  output : w'.output = w.output
  size : w.heap.size ≤ w'.heap.size
  block : ∀ k, k < w.heap.size → k ≠ p → ¬ S k → w'.heap[k]? = w.heap[k]?

theorem DFrame.refl (w : World) (p : Nat) (S : Nat → Prop) : DFrame w w p S := ⟨rfl, rfl, rfl, Nat.le_refl _, fun _ _ _ _ => rfl⟩
theorem DFrame.trans {w w1 w2 : World} {p : Nat} {S : Nat → Prop} (h : DFrame w w1 p S) (k : DFrame w1 w2 p (From S w)) : DFrame w w2 p S :=
  ⟨k.os.trans h.os, k.tape.trans h.tape, k.output.trans h.output, Nat.le_trans h.size k.size,
   fun i hi hp hS => (k.block i (Nat.lt_of_lt_of_le hi h.size) hp (fun hf => by rcases hf with h1 | h1; exact hS h1; omega)).trans (h.block i hi hp hS)⟩
theorem DFrame.imp {w w' : World} {p : Nat} {S S' : Nat → Prop} (h : DFrame w w' p S) (hi : ∀ k, k < w.heap.size → S k → S' k) : DFrame w w' p S' :=
  ⟨h.os, h.tape, h.output, h.size, fun k hk hp hn => h.block k hk hp (fun hs => hn (hi k hk hs))⟩
theorem FFrame.df {w w' : World} {p o : Nat} {S : Nat → Prop} (h : FFrame w w' p o S) : DFrame w w' p S := ⟨h.os, h.tape, h.output, h.size, h.block⟩
theorem DFrame.below {w w' : World} {p : Nat} {S : Nat → Prop} (h : Below w.heap.size w w') : DFrame w w' p S := ⟨h.os, h.tape, h.output, h.size, fun k hk _ _ => h.block k hk⟩

/-- Blocks that were there, or that were made in between. -/
def Between (S : Nat → Prop) (w w' : World) : Nat → Prop := fun k => S k ∨ (w.heap.size ≤ k ∧ k < w'.heap.size)

theorem FileAt.bound {w w' : World} {p o : Nat} {S : Nat → Prop} {ao : Option Addr} {cap m : Nat} {F : FS} (h : FileAt w' p o (From S w) ao cap m F) : FileAt w' p o (Between S w w') ao cap m F :=
  ⟨h.c0, h.c1, h.c2, h.f0, h.f1, h.f2, h.row, h.map, fun hb => h.np (by rcases hb with h1 | h1; exact Or.inl h1; exact Or.inr h1.1),
   fun a ha => by rcases h.ina a ha with h1 | h1; exact Or.inl h1; exact Or.inr ⟨h1, row_lt h.row a ha⟩, by rcases h.inm with h1 | h1; exact Or.inl h1; exact Or.inr ⟨h1, h.map.lt⟩⟩

/-- One of a disk's six plain cells turns, and blocks are made. -/
theorem DiskP.turn {w w' : World} {p : Nat} {P : Parts} {d d' : DS} (h : DiskP w p P d) (hs : w.heap.size ≤ w'.heap.size) (hb : ∀ k, k < w.heap.size → k ≠ p → w'.heap[k]? = w.heap[k]?) (hc : ∀ i, 3 ≤ i → i ≤ 8 → w'.cell? ⟨p, i, none⟩ = w.cell? ⟨p, i, none⟩)
    (hf : ∀ i, w'.frozen? ⟨p, i, none⟩ = w.frozen? ⟨p, i, none⟩) (c0 : w'.cell? ⟨p, 0, none⟩ = some (.int .i64 (d'.room : Int))) (c1 : w'.cell? ⟨p, 1, none⟩ = some (.bool d'.off)) (c2 : w'.cell? ⟨p, 2, none⟩ = some (.int .i64 (d'.ops : Int)))
    (c9 : w'.cell? ⟨p, 9, none⟩ = some (.int .i64 (d'.left : Int))) {SK : Nat → Prop} {ko : Option Addr} {kc : Nat} (c10 : w'.cell? ⟨p, 10, none⟩ = some (.slice ko d'.keep.length kc)) (c11 : w'.cell? ⟨p, 11, none⟩ = some (.int .i64 d'.torn))
    (e0 : d'.f0 = d.f0) (e1 : d'.f1 = d.f1) (rk : RdB w' ko d'.keep) (ik : 0 < d'.keep.length → ∀ a, ko = some a → SK a.block) (dk : ∀ k, SK k → ¬ P.S0 k ∧ ¬ P.S1 k ∧ k ≠ p) (bk : ∀ k, SK k → k < w'.heap.size) (ok : d'.Ok) :
    DiskP w' p { P with SK := SK, ko := ko, kc := kc } d' :=
  ⟨c0, c1, c2, c9, c10, c11, fun i => (hf i).trans (h.fz i),
   by rw [e0]; exact h.f0.stay (fun k hk hS => hb k hk (fun e => h.f0.np (e ▸ hS))) (fun i h1 h2 => hc i h1 (by omega)) hf,
   by rw [e1]; exact h.f1.stay (fun k hk hS => hb k hk (fun e => h.f1.np (e ▸ hS))) (fun i h1 h2 => hc i (by omega) h2) hf,
   rk, ik, h.d01, dk, fun k hk => Nat.lt_of_lt_of_le (h.b0 k hk) hs, fun k hk => Nat.lt_of_lt_of_le (h.b1 k hk) hs, bk, ok⟩

theorem DiskP.rk_stay {w w' : World} {p : Nat} {P : Parts} {d : DS} (h : DiskP w p P d) (hb : ∀ k, k < w.heap.size → P.SK k → w'.heap[k]? = w.heap[k]?) : RdB w' P.ko d.keep := by
  intro hp
  obtain ⟨b, off, hko, hc⟩ := h.rk hp
  have hS := h.ik hp _ hko
  exact ⟨b, off, hko, fun t ht => (World.cell?_of_block (a := ⟨b, off + t, none⟩) (hb b (h.bk _ hS) hS)).trans (hc t ht)⟩

/-- All blocks stay: the disk does. -/
theorem DiskP.stay {w w' : World} {p : Nat} {P : Parts} {d : DS} (h : DiskP w p P d) (hs : w.heap.size ≤ w'.heap.size) (hb : ∀ k, k < w.heap.size → (P.all k ∨ k = p) → w'.heap[k]? = w.heap[k]?) : DiskP w' p P d := by
  have hp := hb p h.f0.plt (Or.inr rfl)
  have hc : ∀ i, w'.cell? ⟨p, i, none⟩ = w.cell? ⟨p, i, none⟩ := fun _ => World.cell?_of_block hp
  have hf : ∀ i, w'.frozen? ⟨p, i, none⟩ = w.frozen? ⟨p, i, none⟩ := fun _ => World.frozen?_of_block hp
  exact ⟨(hc 0).trans h.c0, (hc 1).trans h.c1, (hc 2).trans h.c2, (hc 9).trans h.c9, (hc 10).trans h.c10, (hc 11).trans h.c11, fun i => (hf i).trans (h.fz i),
    h.f0.stay (fun k hk hS => hb k hk (Or.inl (Or.inl hS))) (fun i _ _ => hc i) hf, h.f1.stay (fun k hk hS => hb k hk (Or.inl (Or.inr (Or.inl hS)))) (fun i _ _ => hc i) hf,
    h.rk_stay (fun k hk hS => hb k hk (Or.inl (Or.inr (Or.inr hS)))), h.ik, h.d01, h.dk, fun k hk => Nat.lt_of_lt_of_le (h.b0 k hk) hs, fun k hk => Nat.lt_of_lt_of_le (h.b1 k hk) hs, fun k hk => Nat.lt_of_lt_of_le (h.bk k hk) hs, h.ok⟩
theorem DiskP.later {w w' : World} {p : Nat} {P : Parts} {d : DS} (h : DiskP w p P d) (hb : Below w.heap.size w w') : DiskP w' p P d := h.stay hb.size (fun k hk _ => hb.block k hk)

/-- File 0 turns. -/
theorem DiskP.file0g {w w' : World} {p : Nat} {P : Parts} {d : DS} (h : DiskP w p P d) {ao : Option Addr} {cap m : Nat} {F : FS} {S2 : Nat → Prop} (hF : FileAt w' p 3 (From P.S0 w) ao cap m F) (hfr : FFrame w w' p 3 S2) (hd : ∀ k, S2 k → ¬ P.S1 k ∧ ¬ P.SK k) (ok : { d with f0 := F }.Ok) :
    DiskP w' p { P with S0 := Between P.S0 w w', a0 := ao, k0 := cap, m0 := m } { d with f0 := F } := by
  have hc : ∀ i, (i < 3 ∨ 5 < i) → w'.cell? ⟨p, i, none⟩ = w.cell? ⟨p, i, none⟩ := fun i hi => hfr.cell i (by omega) (by omega) (by omega)
  refine ⟨(hc 0 (by omega)).trans h.c0, (hc 1 (by omega)).trans h.c1, (hc 2 (by omega)).trans h.c2, (hc 9 (by omega)).trans h.c9, (hc 10 (by omega)).trans h.c10, (hc 11 (by omega)).trans h.c11, fun i => (hfr.fz i).trans (h.fz i), hF.bound,
    h.f1.stay (fun k hk hS => hfr.block k hk (fun e => h.f1.np (e ▸ hS)) (fun h0 => (hd k h0).1 hS)) (fun i h1 _ => hc i (by omega)) hfr.fz,
    h.rk_stay (fun k hk hS => hfr.block k hk (h.dk k hS).2.2 (fun h0 => (hd k h0).2 hS)), h.ik, ?_, ?_, ?_, fun k hk => Nat.lt_of_lt_of_le (h.b1 k hk) hfr.size, fun k hk => Nat.lt_of_lt_of_le (h.bk k hk) hfr.size, ok⟩
  · rintro k (h0 | h0) h1
    · exact h.d01 k h0 h1
    · have := h.b1 k h1; omega
  · intro k hk
    refine ⟨?_, (h.dk k hk).2.1, (h.dk k hk).2.2⟩
    rintro (h0 | h0)
    · exact (h.dk k hk).1 h0
    · have := h.bk k hk; omega
  · rintro k (h0 | h0)
    · exact Nat.lt_of_lt_of_le (h.b0 k h0) hfr.size
    · exact h0.2

/-- File 1 turns. -/
theorem DiskP.file1g {w w' : World} {p : Nat} {P : Parts} {d : DS} (h : DiskP w p P d) {ao : Option Addr} {cap m : Nat} {F : FS} {S2 : Nat → Prop} (hF : FileAt w' p 6 (From P.S1 w) ao cap m F) (hfr : FFrame w w' p 6 S2) (hd : ∀ k, S2 k → ¬ P.S0 k ∧ ¬ P.SK k) (ok : { d with f1 := F }.Ok) :
    DiskP w' p { P with S1 := Between P.S1 w w', a1 := ao, k1 := cap, m1 := m } { d with f1 := F } := by
  have hc : ∀ i, (i < 6 ∨ 8 < i) → w'.cell? ⟨p, i, none⟩ = w.cell? ⟨p, i, none⟩ := fun i hi => hfr.cell i (by omega) (by omega) (by omega)
  refine ⟨(hc 0 (by omega)).trans h.c0, (hc 1 (by omega)).trans h.c1, (hc 2 (by omega)).trans h.c2, (hc 9 (by omega)).trans h.c9, (hc 10 (by omega)).trans h.c10, (hc 11 (by omega)).trans h.c11, fun i => (hfr.fz i).trans (h.fz i),
    h.f0.stay (fun k hk hS => hfr.block k hk (fun e => h.f0.np (e ▸ hS)) (fun h0 => (hd k h0).1 hS)) (fun i h1 _ => hc i (by omega)) hfr.fz, hF.bound,
    h.rk_stay (fun k hk hS => hfr.block k hk (h.dk k hS).2.2 (fun h0 => (hd k h0).2 hS)), h.ik, ?_, ?_, fun k hk => Nat.lt_of_lt_of_le (h.b0 k hk) hfr.size, ?_, fun k hk => Nat.lt_of_lt_of_le (h.bk k hk) hfr.size, ok⟩
  · rintro k h1 (h0 | h0)
    · exact h.d01 k h1 h0
    · have := h.b0 k h1; omega
  · intro k hk
    refine ⟨(h.dk k hk).1, ?_, (h.dk k hk).2.2⟩
    rintro (h0 | h0)
    · exact (h.dk k hk).2.1 h0
    · have := h.bk k hk; omega
  · rintro k (h0 | h0)
    · exact Nat.lt_of_lt_of_le (h.b1 k h0) hfr.size
    · exact h0.2

theorem DiskP.file0 {w w' : World} {p : Nat} {P : Parts} {d : DS} (h : DiskP w p P d) {ao : Option Addr} {cap m : Nat} {F : FS} (hF : FileAt w' p 3 (From P.S0 w) ao cap m F) (hfr : FFrame w w' p 3 P.S0) (ok : { d with f0 := F }.Ok) :
    DiskP w' p { P with S0 := Between P.S0 w w', a0 := ao, k0 := cap, m0 := m } { d with f0 := F } := h.file0g hF hfr (fun k h0 => ⟨h.d01 k h0, fun hk => (h.dk k hk).1 h0⟩) ok
theorem DiskP.file1 {w w' : World} {p : Nat} {P : Parts} {d : DS} (h : DiskP w p P d) {ao : Option Addr} {cap m : Nat} {F : FS} (hF : FileAt w' p 6 (From P.S1 w) ao cap m F) (hfr : FFrame w w' p 6 P.S1) (ok : { d with f1 := F }.Ok) :
    DiskP w' p { P with S1 := Between P.S1 w w', a1 := ao, k1 := cap, m1 := m } { d with f1 := F } := h.file1g hF hfr (fun k h0 => ⟨fun h1 => h.d01 k h1 h0, fun hk => (h.dk k hk).2.1 h0⟩) ok

end Go.Proofs.YtokofpbhbjbnfaaGreatDoor.Dsk

/- The small functions of a disk; no statement of the seat is proved here. -/
namespace Go.Proofs.YtokofpbhbjbnfaaGreatDoor.Dsk
open Go.RowKit Go.Maps

/-- A disk that no call made. -/
def NoDisk (w : World) (v : Value) : Prop := v = .pointer none ∨ ∃ p, v = .pointer (some ⟨p, 0, none⟩) ∧ w.cell? ⟨p, 0, none⟩ = some (.int .i64 0)

theorem NoDisk.later {w w' : World} {v : Value} (h : NoDisk w v) (hb : Below w.heap.size w w') : NoDisk w' v := by
  rcases h with h | ⟨p, h, hc⟩
  · exact Or.inl h
  · exact Or.inr ⟨p, h, keep_old hb hc⟩

set_option maxHeartbeats 400000 in
theorem made_no (v : Value) (w : World) (h : NoDisk w v) : Calls Tryz.prog 58 #[v] w fun e w' => e = .returned (.bool false) ∧ w' = w := by
  rcases h with rfl | ⟨p, rfl, hc⟩
  · go_enter Tryz.func58, Tryz.ntmps58
    go_wp2
    go_ret
    exact ⟨rfl, rfl⟩
  · go_enter Tryz.func58, Tryz.ntmps58
    go_wp2
    go_ret
    exact ⟨rfl, rfl⟩

set_option maxHeartbeats 400000 in
theorem made_yes (p r : Nat) (w : World) (hc : w.cell? ⟨p, 0, none⟩ = some (.int .i64 (r : Int))) (hr : 0 < r) : Calls Tryz.prog 58 #[.pointer (some ⟨p, 0, none⟩)] w fun e w' => e = .returned (.bool true) ∧ w' = w := by
  have hr' : (0 : Int) < (r : Int) := by omega
  go_enter Tryz.func58, Tryz.ntmps58
  go_wp2
  go_ret
  exact ⟨rfl, rfl⟩

def known (f : Int) : Bool := f == 0 || f == 1

set_option maxHeartbeats 400000 in
theorem known_any (f : Int) (w : World) : Calls Tryz.prog 67 #[.int .i64 f] w fun e w' => e = .returned (.bool (known f)) ∧ w' = w := by
  by_cases h0 : f = 0
  · subst h0
    go_enter Tryz.func67, Tryz.ntmps67
    go_wp2
    go_ret
    exact ⟨rfl, rfl⟩
  · have h0' : (f == 0) = false := by simp [h0]
    by_cases h1 : f = 1
    · subst h1
      go_enter Tryz.func67, Tryz.ntmps67
      go_wp2
      go_ret
      exact ⟨rfl, rfl⟩
    · have h1' : (f == 1) = false := by simp [h1]
      have hk : known f = false := by simp [known, h0, h1]
      rw [hk]
      go_enter Tryz.func67, Tryz.ntmps67
      go_wp2
      go_ret
      exact ⟨rfl, rfl⟩

set_option maxHeartbeats 400000 in
theorem fault_no (v : Value) (f : Int) (w : World) (h : NoDisk w v) : Calls Tryz.prog 102 #[v, .int .i64 f] w fun e w' => e = .returned (.int .i64 1) ∧ w' = w := by
  have c := hid (made_no v w h)
  clear h
  go_enter Tryz.func102, Tryz.ntmps102
  go_wp2_with (go_at_call 58; refine c.out.mono ?_; rintro e w' ⟨rfl, hw⟩; subst hw)
  go_ret
  exact ⟨rfl, rfl⟩

set_option maxHeartbeats 400000 in
theorem fault_off (p : Nat) (P : Parts) (d : DS) (f : Int) (w : World) (h : DiskP w p P d) (ho : d.off = true) : Calls Tryz.prog 102 #[.pointer (some ⟨p, 0, none⟩), .int .i64 f] w fun e w' => e = .returned (.int .i64 4) ∧ w' = w := by
  have c := hid (made_yes p d.room w h.c0 h.ok.r1)
  have c1 := h.c1
  rw [ho] at c1
  clear h
  go_enter Tryz.func102, Tryz.ntmps102
  go_wp2_with (go_at_call 58; refine c.out.mono ?_; rintro e w' ⟨rfl, hw⟩; subst hw)
  go_ret
  exact ⟨rfl, rfl⟩

set_option maxHeartbeats 400000 in
theorem fault_on (p : Nat) (P : Parts) (d : DS) (f : Int) (w : World) (h : DiskP w p P d) (ho : d.off = false) : Calls Tryz.prog 102 #[.pointer (some ⟨p, 0, none⟩), .int .i64 f] w fun e w' => e = .returned (.int .i64 (if known f then 0 else 11)) ∧ w' = w := by
  have c := hid (made_yes p d.room w h.c0 h.ok.r1)
  have c1 := h.c1
  rw [ho] at c1
  clear h
  cases hk : known f
  · have ck := known_any f w
    rw [hk] at ck
    have CK := hid ck
    clear ck
    go_enter Tryz.func102, Tryz.ntmps102
    go_wp2_with (first | (go_at_call 58; refine c.out.mono ?_; rintro e w' ⟨rfl, hw⟩; subst hw; clear c) | (go_at_call 67; refine CK.out.mono ?_; rintro e w' ⟨rfl, hw⟩; subst hw))
    go_ret
    exact ⟨rfl, rfl⟩
  · have ck := known_any f w
    rw [hk] at ck
    have CK := hid ck
    clear ck
    go_enter Tryz.func102, Tryz.ntmps102
    go_wp2_with (first | (go_at_call 58; refine c.out.mono ?_; rintro e w' ⟨rfl, hw⟩; subst hw; clear c) | (go_at_call 67; refine CK.out.mono ?_; rintro e w' ⟨rfl, hw⟩; subst hw))
    go_ret
    exact ⟨rfl, rfl⟩

set_option maxHeartbeats 400000 in
theorem on_no (v : Value) (w : World) (h : NoDisk w v) : Calls Tryz.prog 24 #[v] w fun e w' => e = .returned (.bool false) ∧ w' = w := by
  have c := hid (made_no v w h)
  clear h
  go_enter Tryz.func24, Tryz.ntmps24
  go_wp2_with (go_at_call 58; refine c.out.mono ?_; rintro e w' ⟨rfl, hw⟩; subst hw)
  go_ret
  exact ⟨rfl, rfl⟩
set_option maxHeartbeats 400000 in
theorem on_any (p : Nat) (P : Parts) (d : DS) (w : World) (h : DiskP w p P d) : Calls Tryz.prog 24 #[.pointer (some ⟨p, 0, none⟩)] w fun e w' => e = .returned (.bool (!d.off)) ∧ w' = w := by
  have c := hid (made_yes p d.room w h.c0 h.ok.r1)
  have c1 := h.c1
  clear h
  go_enter Tryz.func24, Tryz.ntmps24
  go_wp2_with (go_at_call 58; refine c.out.mono ?_; rintro e w' ⟨rfl, hw⟩; subst hw)
  go_ret
  exact ⟨rfl, rfl⟩
set_option maxHeartbeats 400000 in
theorem ops_no (v : Value) (w : World) (h : NoDisk w v) : Calls Tryz.prog 117 #[v] w fun e w' => e = .returned (.int .i64 0) ∧ w' = w := by
  have c := hid (made_no v w h)
  clear h
  go_enter Tryz.func117, Tryz.ntmps117
  go_wp2_with (go_at_call 58; refine c.out.mono ?_; rintro e w' ⟨rfl, hw⟩; subst hw)
  go_ret
  exact ⟨rfl, rfl⟩
set_option maxHeartbeats 400000 in
theorem ops_any (p : Nat) (P : Parts) (d : DS) (w : World) (h : DiskP w p P d) : Calls Tryz.prog 117 #[.pointer (some ⟨p, 0, none⟩)] w fun e w' => e = .returned (.int .i64 (d.ops : Int)) ∧ w' = w := by
  have c := hid (made_yes p d.room w h.c0 h.ok.r1)
  have c1 := h.c2
  clear h
  go_enter Tryz.func117, Tryz.ntmps117
  go_wp2_with (go_at_call 58; refine c.out.mono ?_; rintro e w' ⟨rfl, hw⟩; subst hw)
  go_ret
  exact ⟨rfl, rfl⟩
set_option maxHeartbeats 400000 in
theorem room_no (v : Value) (w : World) (h : NoDisk w v) : Calls Tryz.prog 41 #[v] w fun e w' => e = .returned (.int .i64 0) ∧ w' = w := by
  have c := hid (made_no v w h)
  clear h
  go_enter Tryz.func41, Tryz.ntmps41
  go_wp2_with (go_at_call 58; refine c.out.mono ?_; rintro e w' ⟨rfl, hw⟩; subst hw)
  go_ret
  exact ⟨rfl, rfl⟩
set_option maxHeartbeats 400000 in
theorem room_any (p : Nat) (P : Parts) (d : DS) (w : World) (h : DiskP w p P d) : Calls Tryz.prog 41 #[.pointer (some ⟨p, 0, none⟩)] w fun e w' => e = .returned (.int .i64 (d.room : Int)) ∧ w' = w := by
  have c := hid (made_yes p d.room w h.c0 h.ok.r1)
  have c1 := h.c0
  clear h
  go_enter Tryz.func41, Tryz.ntmps41
  go_wp2_with (go_at_call 58; refine c.out.mono ?_; rintro e w' ⟨rfl, hw⟩; subst hw)
  go_ret
  exact ⟨rfl, rfl⟩

set_option maxHeartbeats 400000 in
theorem start_no (v : Value) (w : World) (h : NoDisk w v) : Calls Tryz.prog 26 #[v] w fun e w' => e = .returned (.int .i64 1) ∧ w' = w := by
  have c := hid (made_no v w h)
  clear h
  go_enter Tryz.func26, Tryz.ntmps26
  go_wp2_with (go_at_call 58; refine c.out.mono ?_; rintro e w' ⟨rfl, hw⟩; subst hw)
  go_ret
  exact ⟨rfl, rfl⟩
set_option maxHeartbeats 400000 in
theorem sectors_no (v : Value) (f : Int) (w : World) (h : NoDisk w v) : Calls Tryz.prog 29 #[v, .int .i64 f] w fun e w' => e = .returned (.int .i64 0) ∧ w' = w := by
  have c := hid (made_no v w h)
  clear h
  go_enter Tryz.func29, Tryz.ntmps29
  go_wp2_with (go_at_call 58; refine c.out.mono ?_; rintro e w' ⟨rfl, hw⟩; subst hw)
  go_ret
  exact ⟨rfl, rfl⟩
set_option maxHeartbeats 400000 in
theorem arm_no (v : Value) (n : Int) (ko : Option Addr) (kn kc : Nat) (t : Int) (w : World) (h : NoDisk w v) : Calls Tryz.prog 23 #[v, .int .i64 n, .agg #[.slice ko kn kc, .int .i64 t]] w fun e w' => e = .returned (.int .i64 1) ∧ Below w.heap.size w w' := by
  have hb : Below w.heap.size w (w.alloc (.cells #[.slice ko kn kc, .int .i64 t] 49)) := (Below.refl _ _).alloc (Nat.le_refl _) _
  have c := hid (made_no v _ (h.later hb))
  have HB := hid hb
  clear h hb
  go_enter Tryz.func23, Tryz.ntmps23
  go_wp2_with (go_at_call 58; refine c.out.mono ?_; rintro e w' ⟨rfl, hw⟩; subst hw)
  go_ret
  exact ⟨rfl, HB.out⟩
set_option maxHeartbeats 400000 in
theorem crash_no (v : Value) (ko : Option Addr) (kn kc : Nat) (t : Int) (w : World) (h : NoDisk w v) : Calls Tryz.prog 25 #[v, .agg #[.slice ko kn kc, .int .i64 t]] w fun e w' => e = .returned (.bool false) ∧ Below w.heap.size w w' := by
  have hb : Below w.heap.size w (w.alloc (.cells #[.slice ko kn kc, .int .i64 t] 49)) := (Below.refl _ _).alloc (Nat.le_refl _) _
  have c := hid (on_no v _ (h.later hb))
  have HB := hid hb
  clear h hb
  go_enter Tryz.func25, Tryz.ntmps25
  go_wp2_with (go_at_call 24; refine c.out.mono ?_; rintro e w' ⟨rfl, hw⟩; subst hw)
  go_ret
  exact ⟨rfl, HB.out⟩
set_option maxHeartbeats 400000 in
theorem read_no (v : Value) (f a n : Int) (w : World) (h : NoDisk w v) : Calls Tryz.prog 77 #[v, .int .i64 f, .int .i64 a, .int .i64 n] w fun e w' => e = .returned (.tuple #[.slice none 0 0, .int .i64 1]) ∧ w' = w := by
  have c := hid (fault_no v f w h)
  clear h
  go_enter Tryz.func77, Tryz.ntmps77
  go_wp2_with (go_at_call 102; refine c.out.mono ?_; rintro e w' ⟨rfl, hw⟩; subst hw)
  go_ret2
  exact ⟨rfl, rfl⟩
set_option maxHeartbeats 400000 in
theorem cut_no (v : Value) (f n : Int) (w : World) (h : NoDisk w v) : Calls Tryz.prog 104 #[v, .int .i64 f, .int .i64 n] w fun e w' => e = .returned (.int .i64 1) ∧ Below w.heap.size w w' := by
  have hb : Below w.heap.size w (w.alloc (.cells #[.int .i64 n] 3)) := (Below.refl _ _).alloc (Nat.le_refl _) _
  have c := hid (fault_no v f _ (h.later hb))
  have HB := hid hb
  clear h hb
  go_enter Tryz.func104, Tryz.ntmps104
  go_wp2_with (go_at_call 102; refine c.out.mono ?_; rintro e w' ⟨rfl, hw⟩; subst hw)
  go_ret
  exact ⟨rfl, HB.out⟩
set_option maxHeartbeats 400000 in
theorem sync_no (v : Value) (f : Int) (w : World) (h : NoDisk w v) : Calls Tryz.prog 143 #[v, .int .i64 f] w fun e w' => e = .returned (.int .i64 1) ∧ Below w.heap.size w w' := by
  have hb : Below w.heap.size w ((w.alloc (.cells #[v] 24)).alloc (.cells #[.int .i64 f] 3)) := (by repeat (first | with_reducible exact Below.refl _ _ | with_reducible assumption | with_reducible refine Below.drew ?_ | with_reducible refine below_drewN ?_ _ | with_reducible refine Below.alloc ?_ (by simp <;> omega) _ | with_reducible refine Below.setCell ?_ (by simp <;> omega) _))
  have c := hid (fault_no v f _ (h.later hb))
  have HB := hid hb
  clear hb
  rcases h with rfl | ⟨p, rfl, _⟩
  · go_enter Tryz.func143, Tryz.ntmps143
    go_wp2_with (go_at_call 102; refine c.out.mono ?_; rintro e w' ⟨rfl, hw⟩; subst hw)
    go_ret
    exact ⟨rfl, HB.out⟩
  · go_enter Tryz.func143, Tryz.ntmps143
    go_wp2_with (go_at_call 102; refine c.out.mono ?_; rintro e w' ⟨rfl, hw⟩; subst hw)
    go_ret
    exact ⟨rfl, HB.out⟩
set_option maxHeartbeats 400000 in
theorem write_no (v : Value) (f a : Int) (bo : Option Addr) (bn bc : Nat) (w : World) (h : NoDisk w v) : Calls Tryz.prog 141 #[v, .int .i64 f, .int .i64 a, .slice bo bn bc] w fun e w' => e = .returned (.int .i64 1) ∧ Below w.heap.size w w' := by
  have hb : Below w.heap.size w (((w.alloc (.cells #[v] 24)).alloc (.cells #[.int .i64 a] 3)).alloc (.cells #[.slice bo bn bc] 60)) := (by repeat (first | with_reducible exact Below.refl _ _ | with_reducible assumption | with_reducible refine Below.drew ?_ | with_reducible refine below_drewN ?_ _ | with_reducible refine Below.alloc ?_ (by simp <;> omega) _ | with_reducible refine Below.setCell ?_ (by simp <;> omega) _))
  have c := hid (fault_no v f _ (h.later hb))
  have HB := hid hb
  clear hb
  rcases h with rfl | ⟨p, rfl, _⟩
  · go_enter Tryz.func141, Tryz.ntmps141
    go_wp2_with (go_at_call 102; refine c.out.mono ?_; rintro e w' ⟨rfl, hw⟩; subst hw)
    go_ret
    exact ⟨rfl, HB.out⟩
  · go_enter Tryz.func141, Tryz.ntmps141
    go_wp2_with (go_at_call 102; refine c.out.mono ?_; rintro e w' ⟨rfl, hw⟩; subst hw)
    go_ret
    exact ⟨rfl, HB.out⟩

end Go.Proofs.YtokofpbhbjbnfaaGreatDoor.Dsk

/- What disarm, Start, spare and Crash do to a disk; no statement of the seat is proved here. -/
namespace Go.Proofs.YtokofpbhbjbnfaaGreatDoor.Dsk
open Go.RowKit Go.Maps

def disarmD (d : DS) : DS := { d with left := 0, keep := [], torn := 0 }

set_option maxHeartbeats 400000 in
theorem disarm_raw (p : Nat) (P : Parts) (d : DS) (w : World) (h : DiskP w p P d) :
    Calls Tryz.prog 59 #[.pointer (some ⟨p, 0, none⟩)] w fun e w' => e = .returned (.tuple #[]) ∧ w' = ((w.setCell ⟨p, 9, none⟩ (.int .i64 0)).setCell ⟨p, 10, none⟩ (.slice none 0 0)).setCell ⟨p, 11, none⟩ (.int .i64 0) := by
  have c9 := h.c9; have c10 := h.c10; have c11 := h.c11; have f9 := h.fz 9; have f10 := h.fz 10; have f11 := h.fz 11
  clear h
  go_enter Tryz.func59, Tryz.ntmps59
  go_wp2
  go_end0
  exact ⟨rfl, rfl⟩

theorem disarm_any (p : Nat) (P : Parts) (d : DS) (w : World) (h : DiskP w p P d) :
    Calls Tryz.prog 59 #[.pointer (some ⟨p, 0, none⟩)] w fun e w' => e = .returned (.tuple #[]) ∧ DiskP w' p { P with SK := fun _ => False, ko := none, kc := 0 } (disarmD d) ∧ DFrame w w' p (fun _ => False) ∧ w'.heap.size = w.heap.size := by
  refine (disarm_raw p P d w h).mono ?_
  rintro e w' ⟨rfl, rfl⟩
  have hb : ∀ k, k ≠ p → (((w.setCell ⟨p, 9, none⟩ (.int .i64 0)).setCell ⟨p, 10, none⟩ (.slice none 0 0)).setCell ⟨p, 11, none⟩ (.int .i64 0)).heap[k]? = w.heap[k]? := fun k hk => by
    rw [set_heap _ _ _ _ _ hk, set_heap _ _ _ _ _ hk, set_heap _ _ _ _ _ hk]
  have hz : (((w.setCell ⟨p, 9, none⟩ (.int .i64 0)).setCell ⟨p, 10, none⟩ (.slice none 0 0)).setCell ⟨p, 11, none⟩ (.int .i64 0)).heap.size = w.heap.size := by simp
  have hc : ∀ i, i < 9 → (((w.setCell ⟨p, 9, none⟩ (.int .i64 0)).setCell ⟨p, 10, none⟩ (.slice none 0 0)).setCell ⟨p, 11, none⟩ (.int .i64 0)).cell? ⟨p, i, none⟩ = w.cell? ⟨p, i, none⟩ := fun i hi => by
    rw [set_off _ _ _ (by omega), set_off _ _ _ (by omega), set_off _ _ _ (by omega)]
  refine ⟨rfl, ?_, ⟨rfl, rfl, rfl, Nat.le_of_eq hz.symm, fun k _ hk _ => hb k hk⟩, hz⟩
  refine h.turn (d' := disarmD d) (SK := fun _ => False) (ko := none) (kc := 0) (Nat.le_of_eq hz.symm) (fun k _ hk => hb k hk) (fun i _ hi => hc i (by omega)) (fun i => by rw [World.frozen?_setCell, World.frozen?_setCell, World.frozen?_setCell]) ((hc 0 (by omega)).trans h.c0) ((hc 1 (by omega)).trans h.c1) ((hc 2 (by omega)).trans h.c2) ?_ ?_ ?_ rfl rfl (fun hp => by simp [disarmD] at hp) (fun hp => by simp [disarmD] at hp) (fun _ hk => False.elim hk) (fun _ hk => False.elim hk) ?_
  · rw [set_off _ _ _ (by omega), set_off _ _ _ (by omega)]; exact set_same h.c9
  · rw [set_off _ _ _ (by omega)]; exact set_same ((set_off _ _ _ (by omega)).trans h.c10)
  · exact set_same ((set_off _ _ _ (by omega)).trans ((set_off _ _ _ (by omega)).trans h.c11))
  · exact ⟨h.ok.r1, h.ok.r2, h.ok.sum, h.ok.ok0, h.ok.ok1, by simp [disarmD], by simp [disarmD], by simp [disarmD], h.ok.op⟩

/-- The word on whether there is power turns. -/
theorem DiskP.power {w : World} {p : Nat} {P : Parts} {d : DS} (h : DiskP w p P d) (b : Bool) : DiskP (w.setCell ⟨p, 1, none⟩ (.bool b)) p P { d with off := b } ∧ DFrame w (w.setCell ⟨p, 1, none⟩ (.bool b)) p (fun _ => False) := by
  have hb : ∀ k, k ≠ p → (w.setCell ⟨p, 1, none⟩ (.bool b)).heap[k]? = w.heap[k]? := fun k hk => set_heap _ _ _ _ _ hk
  have hc : ∀ i, i ≠ 1 → (w.setCell ⟨p, 1, none⟩ (.bool b)).cell? ⟨p, i, none⟩ = w.cell? ⟨p, i, none⟩ := fun i hi => set_off _ _ _ (Ne.symm hi)
  have hz : (w.setCell ⟨p, 1, none⟩ (.bool b)).heap.size = w.heap.size := by simp
  exact ⟨h.turn (d' := { d with off := b }) (Nat.le_of_eq hz.symm) (fun k _ hk => hb k hk) (fun i _ _ => hc i (by omega)) (fun i => World.frozen?_setCell _ _ _ _) ((hc 0 (by omega)).trans h.c0) (set_same h.c1) ((hc 2 (by omega)).trans h.c2) ((hc 9 (by omega)).trans h.c9) ((hc 10 (by omega)).trans h.c10) ((hc 11 (by omega)).trans h.c11) rfl rfl
    (h.rk_stay (fun k _ hS => hb k (h.dk k hS).2.2)) h.ik h.dk (fun k hk => by rw [hz]; exact h.bk k hk) ⟨h.ok.r1, h.ok.r2, h.ok.sum, h.ok.ok0, h.ok.ok1, h.ok.kl, h.ok.tn, h.ok.lf, h.ok.op⟩,
   ⟨rfl, rfl, rfl, Nat.le_of_eq hz.symm, fun k _ hk _ => hb k hk⟩⟩

/-- Which blocks a disk has behind a call: those from before, or new ones. -/
def Grew (P : Parts) (w : World) (P' : Parts) : Prop := ∀ k, P'.all k → From P.all w k

def startD (d : DS) : DS := { disarmD d with off := false }

set_option maxHeartbeats 400000 in
theorem start_any (p : Nat) (P : Parts) (d : DS) (w : World) (h : DiskP w p P d) :
    Calls Tryz.prog 26 #[.pointer (some ⟨p, 0, none⟩)] w fun e w' => e = .returned (.int .i64 0) ∧ (∃ P', DiskP w' p P' (startD d) ∧ Grew P w P') ∧ DFrame w w' p (fun _ => False) := by
  have c := hid (made_yes p d.room w h.c0 h.ok.r1)
  obtain ⟨h1, fr1⟩ := h.power false
  have cd := hid (disarm_any p P _ _ h1)
  have FR := hid fr1
  have c1 := h.c1; have f1 := h.fz 1
  clear h h1 fr1
  go_enter Tryz.func26, Tryz.ntmps26
  go_wp2_with (first | (go_at_call 58; refine c.out.mono ?_; rintro e w' ⟨rfl, hw⟩; subst hw; clear c) | (go_at_call 59; refine cd.out.mono ?_; rintro e w2 ⟨rfl, hd, hfr, _⟩; replace hd := hid hd; replace hfr := hid hfr))
  go_ret
  exact ⟨rfl, ⟨_, hd.out, fun k hk => by rcases hk with h | h | h; exact Or.inl (Or.inl h); exact Or.inl (Or.inr (Or.inl h)); exact h.elim⟩, FR.out.trans (hfr.out.imp (fun _ _ h => h.elim))⟩

set_option maxHeartbeats 400000 in
theorem spare_any (p : Nat) (P : Parts) (d : DS) (w : World) (h : DiskP w p P d) :
    Calls Tryz.prog 165 #[.pointer (some ⟨p, 0, none⟩)] w fun e w' => e = .returned (.int .i64 ((d.room : Int) - (d.f0.now.length : Int) - (d.f1.now.length : Int))) ∧ ∃ n, w' = w.drewN n := by
  have c0 := h.c0; have c3 := h.f0.c0; have c6 := h.f1.c0
  have r2 := h.ok.r2; have hs := h.ok.sum
  clear h
  generalize d.f0.now.length = A at *
  generalize d.f1.now.length = B at *
  generalize d.room = R at *
  go_enter Tryz.func165, Tryz.ntmps165
  go_wp2_with fail
  go_quiet (fail)
  go_wp2
  go_ret
  exact ⟨rfl, _, rfl⟩

end Go.Proofs.YtokofpbhbjbnfaaGreatDoor.Dsk
