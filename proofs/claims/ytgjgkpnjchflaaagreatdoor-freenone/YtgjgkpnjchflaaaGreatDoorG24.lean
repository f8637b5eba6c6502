/- Steps that are done to a disk: what they do, and how they lie in memory. No statement of the seat is proved here. -/
import Derived.Test.YtgjgkpnjchflaaaGreatDoorG16
import Derived.Deep.DeepCutAuto
import Derived.Test.YtgjgkpnjchflaaaGreatDoorG17
import Derived.Test.YtgjgkpnjchflaaaGreatDoorG23
import Derived.Test.YtgjgkpnjchflaaaGreatDoorG08
namespace Go.Proofs.YtgjgkpnjchflaaaGreatDoor
open Go.RowKit Go.Maps
open Dsk (gt hid undrew keep_old keep_cell lt_cell Rd DS FS Sec DiskP DFrame Grew From writeD syncD cutD lenD readD newD known)

inductive Stp where
  | wr (f a : Int) (ss : List Sec)
  | sy (f : Int)
  | ct (f n : Int)

/-- What a step does. -/
def Stp.go (d : DS) : Stp → Int × DS
  | .wr f a ss => writeD d f a ss
  | .sy f => syncD d f
  | .ct f n => if (lenD d f : Int) ≤ n then (0, d) else cutD d f n

/-- The first step that fails ends it. -/
def firstD : List Stp → DS → Int × DS
  | [], d => (0, d)
  | s :: r, d => if (s.go d).1 = 0 then firstD r (s.go d).2 else s.go d

/-- The blocks that a disk writes to. -/
def DN (q : Nat) (P : Dsk.Parts) : Nat → Prop := fun k => k = q ∨ P.all k

theorem DN.lt {w : World} {q : Nat} {P : Dsk.Parts} {d : DS} (h : DiskP w q P d) {k : Nat} (hk : DN q P k) : k < w.heap.size := by
  rcases hk with rfl | hk
  · exact Dsk.p_lt h
  · exact Dsk.all_lt h hk

/-- A block that none of these writes to. -/
def Out (w : World) (N : Nat → Prop) (b : Nat) : Prop := b < w.heap.size ∧ ¬ N b

theorem Out.later {w w' : World} {N : Nat → Prop} {b : Nat} (h : Out w N b) (hb : w.heap.size ≤ w'.heap.size) : Out w' N b := ⟨Nat.lt_of_lt_of_le h.1 hb, h.2⟩
theorem Out.grew {w w' : World} {q : Nat} {P P' : Dsk.Parts} {b : Nat} (h : Out w (DN q P) b) (hs : w.heap.size ≤ w'.heap.size) (hg : Grew P w P') : Out w' (DN q P') b :=
  ⟨Nat.lt_of_lt_of_le h.1 hs, fun hk => by
    rcases hk with rfl | hk
    · exact h.2 (Or.inl rfl)
    · rcases hg b hk with h1 | h1
      · exact h.2 (Or.inr h1)
      · have := h.1; omega⟩
theorem Out.new {w w' : World} {N : Nat → Prop} {b : Nat} (hN : ∀ k, N k → k < w.heap.size) (h1 : w.heap.size ≤ b) (h2 : b < w'.heap.size) : Out w' N b :=
  ⟨h2, fun h => by have := hN b h; omega⟩

theorem cell_df {w w' : World} {q : Nat} {P : Dsk.Parts} (hf : DFrame w w' q P.all) {b o : Nat} {v : Value} (hc : w.cell? ⟨b, o, none⟩ = some v) (h : Out w (DN q P) b) : w'.cell? ⟨b, o, none⟩ = some v :=
  hf.cellAt hc (fun e => h.2 (Or.inl e)) (fun e => h.2 (Or.inr e))

theorem rd_df {w w' : World} {q : Nat} {P : Dsk.Parts} (hf : DFrame w w' q P.all) {ao : Option Addr} {n cap : Nat} {xs : List Nat} (h : Rd w ao n cap xs) (ho : 0 < n → ∀ a, ao = some a → Out w (DN q P) a.block) : Rd w' ao n cap xs := by
  refine ⟨h.1, h.2.1, h.2.2.1, fun hn => ?_⟩
  obtain ⟨b, off, rfl, hc⟩ := h.2.2.2 hn
  exact ⟨b, off, rfl, fun t ht => cell_df hf (hc t ht) (ho hn _ rfl)⟩

/-- A step, as a closure. -/
def StepAt (w : World) (q : Nat) (N : Nat → Prop) (v : Value) : Stp → Prop
  | .wr f a ss => ∃ b0 b1 b2 b3 ao n cap, v = .func (.func 155) #[] #[.pointer (some ⟨b0, 0, none⟩), .pointer (some ⟨b1, 0, none⟩), .pointer (some ⟨b2, 0, none⟩), .pointer (some ⟨b3, 0, none⟩)] ∧
      (w.cell? ⟨b0, 0, none⟩ = some (.pointer (some ⟨q, 0, none⟩)) ∧ w.cell? ⟨b1, 0, none⟩ = some (.int .i64 f) ∧ w.cell? ⟨b2, 0, none⟩ = some (.int .i64 a) ∧ w.cell? ⟨b3, 0, none⟩ = some (.slice ao n cap)) ∧
      (Out w N b0 ∧ Out w N b1 ∧ Out w N b2 ∧ Out w N b3) ∧
      Rd w ao n cap ss.flatten ∧ (0 < n → ∀ a, ao = some a → Out w N a.block) ∧ n = ss.length * 128 ∧ (∀ x ∈ ss, x.length = 128) ∧ ss.length ≤ 1000
  | .sy f => ∃ b0 b1, v = .func (.func 157) #[] #[.pointer (some ⟨b0, 0, none⟩), .pointer (some ⟨b1, 0, none⟩)] ∧
      (w.cell? ⟨b0, 0, none⟩ = some (.pointer (some ⟨q, 0, none⟩)) ∧ w.cell? ⟨b1, 0, none⟩ = some (.int .i64 f)) ∧ (Out w N b0 ∧ Out w N b1)
  | .ct f m => ∃ b0 b1 b2, v = .func (.func 103) #[] #[.pointer (some ⟨b0, 0, none⟩), .pointer (some ⟨b1, 0, none⟩), .pointer (some ⟨b2, 0, none⟩)] ∧
      (w.cell? ⟨b0, 0, none⟩ = some (.pointer (some ⟨q, 0, none⟩)) ∧ w.cell? ⟨b1, 0, none⟩ = some (.int .i64 f) ∧ w.cell? ⟨b2, 0, none⟩ = some (.int .i64 m)) ∧ (Out w N b0 ∧ Out w N b1 ∧ Out w N b2)

theorem StepAt.turn {w w' : World} {q : Nat} {N N' : Nat → Prop} {v : Value} {s : Stp} (h : StepAt w q N v s) (ho : ∀ b, Out w N b → Out w' N' b) (hc : ∀ b o v, Out w N b → w.cell? ⟨b, o, none⟩ = some v → w'.cell? ⟨b, o, none⟩ = some v) : StepAt w' q N' v s := by
  cases s with
  | wr f a ss =>
    obtain ⟨b0, b1, b2, b3, ao, n, cap, rfl, ⟨c0, c1, c2, c3⟩, ⟨o0, o1, o2, o3⟩, hr, hro, hn, hx, hl⟩ := h
    refine ⟨b0, b1, b2, b3, ao, n, cap, rfl, ⟨hc _ _ _ o0 c0, hc _ _ _ o1 c1, hc _ _ _ o2 c2, hc _ _ _ o3 c3⟩, ⟨ho _ o0, ho _ o1, ho _ o2, ho _ o3⟩, ⟨hr.1, hr.2.1, hr.2.2.1, fun hp => ?_⟩, fun hp a ha => ho _ (hro hp a ha), hn, hx, hl⟩
    obtain ⟨b, off, rfl, hh⟩ := hr.2.2.2 hp
    exact ⟨b, off, rfl, fun t ht => hc _ _ _ (hro hp _ rfl) (hh t ht)⟩
  | sy f =>
    obtain ⟨b0, b1, rfl, ⟨c0, c1⟩, o0, o1⟩ := h
    exact ⟨b0, b1, rfl, ⟨hc _ _ _ o0 c0, hc _ _ _ o1 c1⟩, ho _ o0, ho _ o1⟩
  | ct f m =>
    obtain ⟨b0, b1, b2, rfl, ⟨c0, c1, c2⟩, o0, o1, o2⟩ := h
    exact ⟨b0, b1, b2, rfl, ⟨hc _ _ _ o0 c0, hc _ _ _ o1 c1, hc _ _ _ o2 c2⟩, ho _ o0, ho _ o1, ho _ o2⟩
theorem StepAt.later {w w' : World} {q : Nat} {N : Nat → Prop} {v : Value} {s : Stp} (h : StepAt w q N v s) (hb : Below w.heap.size w w') : StepAt w' q N v s :=
  h.turn (fun _ ho => ho.later hb.size) (fun _ _ _ _ hc => keep_old hb hc)
theorem StepAt.disk {w w' : World} {q : Nat} {P P' : Dsk.Parts} {v : Value} {s : Stp} (h : StepAt w q (DN q P) v s) (hf : DFrame w w' q P.all) (hg : Grew P w P') : StepAt w' q (DN q P') v s :=
  h.turn (fun _ ho => ho.grew hf.size hg) (fun _ _ _ ho hc => cell_df hf hc ho)

/-- Steps that stand one behind the other. -/
def StepsAt (w : World) (q : Nat) (N : Nat → Prop) (lo : Option Addr) (l : List Stp) : Prop :=
  0 < l.length → ∃ b off, lo = some ⟨b, off, none⟩ ∧ Out w N b ∧ ∀ i s, l[i]? = some s → ∃ v, w.cell? ⟨b, off + i, none⟩ = some v ∧ StepAt w q N v s
theorem StepsAt.turn {w w' : World} {q : Nat} {N N' : Nat → Prop} {lo : Option Addr} {l : List Stp} (h : StepsAt w q N lo l) (ho : ∀ b, Out w N b → Out w' N' b) (hc : ∀ b o v, Out w N b → w.cell? ⟨b, o, none⟩ = some v → w'.cell? ⟨b, o, none⟩ = some v) : StepsAt w' q N' lo l := fun hl => by
  obtain ⟨b, off, rfl, hb, hh⟩ := h hl
  refine ⟨b, off, rfl, ho _ hb, fun i s hs => ?_⟩
  obtain ⟨v, h1, h2⟩ := hh i s hs
  exact ⟨v, hc _ _ _ hb h1, h2.turn ho hc⟩
theorem StepsAt.later {w w' : World} {q : Nat} {N : Nat → Prop} {lo : Option Addr} {l : List Stp} (h : StepsAt w q N lo l) (hb : Below w.heap.size w w') : StepsAt w' q N lo l :=
  h.turn (fun _ ho => ho.later hb.size) (fun _ _ _ _ hc => keep_old hb hc)
theorem StepsAt.disk {w w' : World} {q : Nat} {P P' : Dsk.Parts} {lo : Option Addr} {l : List Stp} (h : StepsAt w q (DN q P) lo l) (hf : DFrame w w' q P.all) (hg : Grew P w P') : StepsAt w' q (DN q P') lo l :=
  h.turn (fun _ ho => ho.grew hf.size hg) (fun _ _ _ ho hc => cell_df hf hc ho)

theorem grew_refl (P : Dsk.Parts) (w : World) : Grew P w P := fun _ h => Or.inl h
theorem grew_trans {P P1 P2 : Dsk.Parts} {w w1 : World} (h : Grew P w P1) (k : Grew P1 w1 P2) (hs : w.heap.size ≤ w1.heap.size) : Grew P w P2 := fun b hb => by
  rcases k b hb with h1 | h1
  · exact h b h1
  · exact Or.inr (Nat.le_trans hs h1)
theorem df_trans {w w1 w2 : World} {q : Nat} {P P1 : Dsk.Parts} (h : DFrame w w1 q P.all) (hg : Grew P w P1) (k : DFrame w1 w2 q P1.all) : DFrame w w2 q P.all :=
  h.trans (k.imp (fun b _ hb => hg b hb))

/-- What a call on a disk leaves. -/
structure DiskTo (w w' : World) (q : Nat) (P : Dsk.Parts) (d : DS) : Prop where
  is : ∃ P', DiskP w' q P' d ∧ Grew P w P'
  fr : DFrame w w' q P.all
theorem DiskTo.refl {w : World} {q : Nat} {P : Dsk.Parts} {d : DS} (h : DiskP w q P d) : DiskTo w w q P d := ⟨⟨P, h, grew_refl _ _⟩, DFrame.refl _ _ _⟩
theorem DiskTo.later {w w1 w2 : World} {q : Nat} {P : Dsk.Parts} {d : DS} (h : DiskTo w w1 q P d) (hb : Below w1.heap.size w1 w2) : DiskTo w w2 q P d := by
  obtain ⟨P', hp, hg⟩ := h.is
  exact ⟨⟨P', hp.later hb, hg⟩, h.fr.trans (DFrame.below hb)⟩
theorem DiskTo.trans {w w1 w2 : World} {q : Nat} {P P1 : Dsk.Parts} {d2 : DS} (hf : DFrame w w1 q P.all) (hg : Grew P w P1) (k : DiskTo w1 w2 q P1 d2) : DiskTo w w2 q P d2 := by
  obtain ⟨P2, hp, hg2⟩ := k.is
  exact ⟨⟨P2, hp, grew_trans hg hg2 hf.size⟩, df_trans hf hg k.fr⟩
theorem DiskTo.first {w w1 w2 : World} {q : Nat} {P : Dsk.Parts} {d : DS} (hb : Below w.heap.size w w1) (k : DiskTo w1 w2 q P d) : DiskTo w w2 q P d := by
  obtain ⟨P2, hp, hg2⟩ := k.is
  exact ⟨⟨P2, hp, fun b h => by
    rcases hg2 b h with h1 | h1
    · exact Or.inl h1
    · exact Or.inr (Nat.le_trans hb.size h1)⟩, (DFrame.below hb).trans (k.fr.imp (fun _ _ h => Or.inl h))⟩

end Go.Proofs.YtgjgkpnjchflaaaGreatDoor

/- What the steps of a disk are made by, and what doing them does; no statement of the seat is proved here. -/
namespace Go.Proofs.YtgjgkpnjchflaaaGreatDoor
open Go.RowKit Go.Maps
open Dsk (gt hid undrew keep_old keep_cell lt_cell Rd DS FS Sec DiskP DFrame Grew From writeD syncD cutD lenD readD newD known)

theorem place_any (n : Int) (w : World) (h : -1000000 ≤ n ∧ n ≤ 1000000) : Calls Tryz.prog 109 #[.int .i64 n] w fun e w' => e = .returned (.int .i64 ((n - 1) * 4)) ∧ w' = w := by
  have e1 : IntKind.i64.wrap (n - 1) = n - 1 := IntWalk.i64_in _ ⟨by omega, by omega⟩
  have e2 : IntKind.i64.wrap ((n - 1) * 4) = (n - 1) * 4 := IntWalk.i64_in _ ⟨by omega, by omega⟩
  clear h
  go_enter Tryz.func109, Tryz.ntmps109
  go_wp2
  go_ret
  exact ⟨rfl, rfl⟩

theorem cell_box {w : World} {v : Value} {t : TypeId} {n : Nat} (hn : n = w.heap.size) : (w.alloc (.cells #[v] t)).cell? ⟨n, 0, none⟩ = some v := by
  rw [World.cell?_alloc_at _ _ _ _ hn]; rfl
theorem cell_up {w : World} {a : Addr} {v : Value} {o : Obj} (h : w.cell? a = some v) : (w.alloc o).cell? a = some v := keep_old (Below.alloc (Below.refl _ _) (Nat.le_refl _) o) h

set_option maxHeartbeats 1000000 in
theorem write_make (q : Nat) (f a : Int) (ao : Option Addr) (n cap : Nat) (ss : List Sec) (N : Nat → Prop) (w : World) (hN : ∀ k, N k → k < w.heap.size)
    (hr : Rd w ao n cap ss.flatten) (ho : 0 < n → ∀ a, ao = some a → Out w N a.block) (hn : n = ss.length * 128) (hx : ∀ x ∈ ss, x.length = 128) (hl : ss.length ≤ 1000) :
    Calls Tryz.prog 110 #[.pointer (some ⟨q, 0, none⟩), .int .i64 f, .int .i64 a, .slice ao n cap] w fun e w' => ∃ v, e = .returned v ∧ StepAt w' q N v (.wr f a ss) ∧ Below w.heap.size w w' := by
  have H := hid hr; have HO := hid ho; have HN := hid hN; have HX := hid hx; have Hn := hid hn; have HL := hid hl
  clear hr ho hN hx hn hl
  go_enter Tryz.func110, Tryz.ntmps110
  go_wp2
  go_ret
  have hb : Below w.heap.size w ((((w.alloc (.cells #[.pointer (some ⟨q, 0, none⟩)] 52)).alloc (.cells #[.int .i64 f] 3)).alloc (.cells #[.int .i64 a] 3)).alloc (.cells #[.slice ao n cap] 79)) := (by repeat (first | with_reducible exact Below.refl _ _ | with_reducible assumption | with_reducible refine Below.drew ?_ | with_reducible refine below_drewN ?_ _ | with_reducible refine Below.alloc ?_ (by simp <;> omega) _ | with_reducible refine Below.setCell ?_ (by simp <;> omega) _))
  refine ⟨_, rfl, ⟨w.heap.size, w.heap.size + 1, w.heap.size + 1 + 1, w.heap.size + 1 + 1 + 1, ao, n, cap, by simp, ?_, ?_, H.out.keep hb, fun hp x hx => (HO.out hp x hx).later hb.size, Hn.out, HX.out, HL.out⟩, hb⟩
  · exact ⟨cell_up (cell_up (cell_up (cell_box rfl))), cell_up (cell_up (cell_box (by simp))), cell_up (cell_box (by simp)), cell_box (by simp)⟩
  · exact ⟨Out.new HN.out (by omega) (by simp; omega), Out.new HN.out (by omega) (by simp), Out.new HN.out (by omega) (by simp), Out.new HN.out (by omega) (by simp)⟩

set_option maxHeartbeats 1000000 in
theorem sync_make (q : Nat) (f : Int) (N : Nat → Prop) (w : World) (hN : ∀ k, N k → k < w.heap.size) :
    Calls Tryz.prog 111 #[.pointer (some ⟨q, 0, none⟩), .int .i64 f] w fun e w' => ∃ v, e = .returned v ∧ StepAt w' q N v (.sy f) ∧ Below w.heap.size w w' := by
  have HN := hid hN
  clear hN
  go_enter Tryz.func111, Tryz.ntmps111
  go_wp2
  go_ret
  have hb : Below w.heap.size w ((w.alloc (.cells #[.pointer (some ⟨q, 0, none⟩)] 52)).alloc (.cells #[.int .i64 f] 3)) := (by repeat (first | with_reducible exact Below.refl _ _ | with_reducible assumption | with_reducible refine Below.drew ?_ | with_reducible refine below_drewN ?_ _ | with_reducible refine Below.alloc ?_ (by simp <;> omega) _ | with_reducible refine Below.setCell ?_ (by simp <;> omega) _))
  refine ⟨_, rfl, ⟨w.heap.size, w.heap.size + 1, by simp, ?_, ?_⟩, hb⟩
  · exact ⟨cell_up (cell_box rfl), cell_box (by simp)⟩
  · exact ⟨Out.new HN.out (by omega) (by simp; omega), Out.new HN.out (by omega) (by simp)⟩

set_option maxHeartbeats 1000000 in
theorem cut_make (q : Nat) (f m : Int) (N : Nat → Prop) (w : World) (hN : ∀ k, N k → k < w.heap.size) :
    Calls Tryz.prog 78 #[.pointer (some ⟨q, 0, none⟩), .int .i64 f, .int .i64 m] w fun e w' => ∃ v, e = .returned v ∧ StepAt w' q N v (.ct f m) ∧ Below w.heap.size w w' := by
  have HN := hid hN
  clear hN
  go_enter Tryz.func78, Tryz.ntmps78
  go_wp2
  go_ret
  have hb : Below w.heap.size w (((w.alloc (.cells #[.pointer (some ⟨q, 0, none⟩)] 52)).alloc (.cells #[.int .i64 f] 3)).alloc (.cells #[.int .i64 m] 3)) := (by repeat (first | with_reducible exact Below.refl _ _ | with_reducible assumption | with_reducible refine Below.drew ?_ | with_reducible refine below_drewN ?_ _ | with_reducible refine Below.alloc ?_ (by simp <;> omega) _ | with_reducible refine Below.setCell ?_ (by simp <;> omega) _))
  refine ⟨_, rfl, ⟨w.heap.size, w.heap.size + 1, w.heap.size + 1 + 1, by simp, ?_, ?_⟩, hb⟩
  · exact ⟨cell_up (cell_up (cell_box rfl)), cell_up (cell_box (by simp)), cell_box (by simp)⟩
  · exact ⟨Out.new HN.out (by omega) (by simp; omega), Out.new HN.out (by omega) (by simp), Out.new HN.out (by omega) (by simp)⟩

theorem df_drawn {w w' : World} {q : Nat} {S : Nat → Prop} (h : DFrame w.drew w' q S) : DFrame w w' q S := ⟨h.os, h.tape, h.output, h.size, h.block⟩

set_option maxHeartbeats 1000000 in
theorem wr_call (q : Nat) (P : Dsk.Parts) (d : DS) (f a : Int) (ss : List Sec) (w : World) (h : DiskP w q P d) (hop : d.ops < 1000000000) (b0 b1 b2 b3 : Nat)
    (hs : StepAt w q (DN q P) (.func (.func 155) #[] #[.pointer (some ⟨b0, 0, none⟩), .pointer (some ⟨b1, 0, none⟩), .pointer (some ⟨b2, 0, none⟩), .pointer (some ⟨b3, 0, none⟩)]) (.wr f a ss)) :
    Calls Tryz.prog 155 #[.pointer (some ⟨b0, 0, none⟩), .pointer (some ⟨b1, 0, none⟩), .pointer (some ⟨b2, 0, none⟩), .pointer (some ⟨b3, 0, none⟩)] w fun e w' => e = .returned (.int .i64 ((Stp.wr f a ss).go d).1) ∧ DiskTo w w' q P ((Stp.wr f a ss).go d).2 := by
  obtain ⟨c0, c1, c2, c3, ao, n, cap, e, ⟨k0, k1, k2, k3⟩, _, hr, hro, hn, hx, hl⟩ := hs
  simp only [Value.func.injEq, Array.mk.injEq, List.cons.injEq, Value.pointer.injEq, Option.some.injEq, Addr.mk.injEq, and_true, true_and] at e
  obtain ⟨rfl, rfl, rfl, rfl⟩ := e
  have c := hid (Dsk.write_call q P d f a ao n cap ss w h hop hx hl hn (fun w' hf => rd_df hf hr hro))
  clear h hr hro hn hx hl hop
  go_enter Tryz.func155, Tryz.ntmps155
  go_wp2_with (go_at_call 156; refine c.out.mono ?_; rintro e w1 ⟨rfl, hp, hf⟩; have HP := hid hp; have HF := hid hf; clear hp hf)
  go_ret
  exact ⟨rfl, HP.out, HF.out⟩

set_option maxHeartbeats 1000000 in
theorem sy_call (q : Nat) (P : Dsk.Parts) (d : DS) (f : Int) (w : World) (h : DiskP w q P d) (hop : d.ops < 1000000000) (b0 b1 : Nat)
    (hs : StepAt w q (DN q P) (.func (.func 157) #[] #[.pointer (some ⟨b0, 0, none⟩), .pointer (some ⟨b1, 0, none⟩)]) (.sy f)) :
    Calls Tryz.prog 157 #[.pointer (some ⟨b0, 0, none⟩), .pointer (some ⟨b1, 0, none⟩)] w fun e w' => e = .returned (.int .i64 ((Stp.sy f).go d).1) ∧ DiskTo w w' q P ((Stp.sy f).go d).2 := by
  obtain ⟨c0, c1, e, ⟨k0, k1⟩, _⟩ := hs
  simp only [Value.func.injEq, Array.mk.injEq, List.cons.injEq, Value.pointer.injEq, Option.some.injEq, Addr.mk.injEq, and_true, true_and] at e
  obtain ⟨rfl, rfl⟩ := e
  have c := hid (Dsk.sync_call q P d f w h hop)
  clear h hop
  go_enter Tryz.func157, Tryz.ntmps157
  go_wp2_with (go_at_call 158; refine c.out.mono ?_; rintro e w1 ⟨rfl, hp, hf⟩; have HP := hid hp; have HF := hid hf; clear hp hf)
  go_ret
  exact ⟨rfl, HP.out, HF.out⟩

abbrev SB3 (b0 b1 b2 q : Nat) (f m : Int) (W : World) : Prop := W.cell? ⟨b0, 0, none⟩ = some (.pointer (some ⟨q, 0, none⟩)) ∧ W.cell? ⟨b1, 0, none⟩ = some (.int .i64 f) ∧ W.cell? ⟨b2, 0, none⟩ = some (.int .i64 m)

set_option maxHeartbeats 1000000 in
theorem ct_call (q : Nat) (P : Dsk.Parts) (d : DS) (f m : Int) (w : World) (h : DiskP w q P d) (hop : d.ops < 1000000000) (b0 b1 b2 : Nat)
    (hs : StepAt w q (DN q P) (.func (.func 103) #[] #[.pointer (some ⟨b0, 0, none⟩), .pointer (some ⟨b1, 0, none⟩), .pointer (some ⟨b2, 0, none⟩)]) (.ct f m)) :
    Calls Tryz.prog 103 #[.pointer (some ⟨b0, 0, none⟩), .pointer (some ⟨b1, 0, none⟩), .pointer (some ⟨b2, 0, none⟩)] w fun e w' => e = .returned (.int .i64 ((Stp.ct f m).go d).1) ∧ DiskTo w w' q P ((Stp.ct f m).go d).2 := by
  obtain ⟨c0, c1, c2, e, ⟨k0, k1, k2⟩, _⟩ := hs
  simp only [Value.func.injEq, Array.mk.injEq, List.cons.injEq, Value.pointer.injEq, Option.some.injEq, Addr.mk.injEq, and_true, true_and] at e
  obtain ⟨rfl, rfl, rfl⟩ := e
  have hd : DiskP w.drew q P d := h.later (Below.refl _ _).drew
  have c := hid (Dsk.cut_call q P d f m w.drew hd hop)
  have cs := hid (Dsk.sectors_call q P d f w.drew hd)
  have H := hid hd
  have HF0 : Hid (DFrame w w.drew q P.all) := hid (DFrame.below (Below.refl _ _).drew)
  obtain ⟨L, hL⟩ : ∃ L, lenD d f = L := ⟨_, rfl⟩
  have hgo : (Stp.ct f m).go d = if (L : Int) ≤ m then (0, d) else cutD d f m := by rw [← hL]; rfl
  rw [hL] at cs
  clear h hop hL hd
  have g0 : SB3 b0 b1 b2 q f m w.drew := ⟨k0, k1, k2⟩
  by_cases hlm : (L : Int) ≤ m
  · rw [if_pos hlm] at hgo
    rw [hgo]
    clear hgo
    go_enter Tryz.func103, Tryz.ntmps103
    go_upto_region 1 with fail
    go_region_held3 (SB3 b0 b1 b2 q f m) (with_reducible assumption) (first | (go_at_call 43; refine cs.out.mono ?_; rintro e w1 ⟨rfl, hw⟩; obtain rfl := hw.symm))
    go_wp2
    go_ret
    exact ⟨rfl, ⟨P, H.out, grew_refl _ _⟩, HF0.out⟩
  · rw [if_neg hlm] at hgo
    rw [hgo]
    clear hgo
    go_enter Tryz.func103, Tryz.ntmps103
    go_upto_region 1 with fail
    go_region_held3 (SB3 b0 b1 b2 q f m) (with_reducible assumption) (first | (go_at_call 43; refine cs.out.mono ?_; rintro e w1 ⟨rfl, hw⟩; obtain rfl := hw.symm))
    go_wp2_with (go_at_call 104; refine c.out.mono ?_; rintro e w1 ⟨rfl, hp, hf⟩; have HP := hid hp; have HF := hid hf; clear hp hf)
    go_ret
    exact ⟨rfl, HP.out, df_drawn HF.out⟩

end Go.Proofs.YtgjgkpnjchflaaaGreatDoor

/- Steps done one behind the other; no statement of the seat is proved here. -/
namespace Go.Proofs.YtgjgkpnjchflaaaGreatDoor
open Go.RowKit Go.Maps
open Dsk (gt hid undrew keep_old keep_cell lt_cell Rd DS FS Sec DiskP DFrame Grew From writeD syncD cutD lenD readD newD known)

theorem put_ops (d : DS) (f : Int) (F : FS) : (d.put f F).ops = d.ops := by unfold Dsk.DS.put; split <;> rfl
theorem crash_ops (d : DS) (k : List Bool) (t : Int) : (Dsk.crashD d k t).ops = d.ops := rfl

theorem go_ops (s : Stp) (d : DS) : (s.go d).2.ops ≤ d.ops + 1 := by
  cases s with
  | wr f a ss =>
    simp only [Stp.go, writeD]
    repeat' split
    all_goals simp [put_ops, crash_ops, Dsk.opsD, Dsk.tickD]
  | sy f =>
    simp only [Stp.go, syncD]
    repeat' split
    all_goals simp [put_ops, crash_ops, Dsk.opsD, Dsk.tickD]
  | ct f m =>
    simp only [Stp.go, cutD]
    repeat' split
    all_goals simp [put_ops, crash_ops, Dsk.opsD, Dsk.tickD]

theorem firstD_ops (l : List Stp) (d : DS) : (firstD l d).2.ops ≤ d.ops + l.length := by
  induction l generalizing d with
  | nil => simp [firstD]
  | cons s r ih =>
    have h1 := go_ops s d
    simp only [firstD]
    split
    · have := ih (s.go d).2; simp only [List.length_cons]; omega
    · simp only [List.length_cons]; omega

theorem firstD_drop {l : List Stp} {i : Nat} {s : Stp} (h : l[i]? = some s) (d : DS) : firstD (l.drop i) d = if (s.go d).1 = 0 then firstD (l.drop (i + 1)) (s.go d).2 else s.go d := by
  have hl : i < l.length := (List.getElem?_eq_some_iff.1 h).1
  rw [List.drop_eq_getElem_cons hl]
  have e : l[i] = s := (List.getElem?_eq_some_iff.1 h).2
  rw [e]
  rfl

set_option maxHeartbeats 2000000 in
set_option maxRecDepth 20000 in
theorem first_call (q : Nat) (P : Dsk.Parts) (d : DS) (lo : Option Addr) (cap : Nat) (l : List Stp) (w : World) (h : DiskP w q P d) (hop : d.ops + l.length ≤ 1000000000) (hs : StepsAt w q (DN q P) lo l) :
    Calls Tryz.prog 83 #[.slice lo l.length cap] w fun e w' => e = .returned (.int .i64 (firstD l d).1) ∧ DiskTo w w' q P (firstD l d).2 := by
  obtain ⟨R, hR⟩ : ∃ R, firstD l d = R := ⟨_, rfl⟩
  rw [hR]
  have HR := hid hR; have H := hid h; have HS := hid hs; have HOP := hid hop
  obtain ⟨L, hL⟩ : ∃ L, l.length = L := ⟨_, rfl⟩
  rw [hL] at HOP ⊢
  have HL := hid hL
  have hLb : L ≤ 1000000000 := by have := HOP.out; omega
  clear h hs hop hR hL
  go_enter Tryz.func83, Tryz.ntmps83
  go_wp2
  go_loopw [8] (fun cc W => ∃ (i : Nat) (P' : Dsk.Parts) (d' : DS), i ≤ L ∧ cc = .int .i64 (i : Int) ∧ Hid (DiskP W q P' d' ∧ Grew P w P' ∧ DFrame w W q P.all ∧ firstD (l.drop i) d' = R ∧ d'.ops ≤ d.ops + i)) (fun cc _ => L - (Lib.intOf cc).toNat)
  case atStart => exact ⟨0, P, d, by omega, rfl, hid ⟨H.out, grew_refl _ _, DFrame.refl _ _ _, by simpa using HR.out, by omega⟩⟩
  case round =>
    obtain ⟨i, P', d', hi, rfl, F⟩ := hrel
    by_cases hiL : i < L
    · obtain ⟨hd, hg, hf, hr, ho⟩ := F.out
      have hs := HS.out.disk hf hg
      obtain ⟨b, off, rfl, hb, hv⟩ := hs (by have := HL.out; omega)
      obtain ⟨s, hsi⟩ : ∃ s, l[i]? = some s := ⟨l[i]'(by have := HL.out; omega), List.getElem?_eq_getElem _⟩
      obtain ⟨v, hc, hst⟩ := hv i s hsi
      rw [firstD_drop hsi] at hr
      have hop' : d'.ops < 1000000000 := by have := HOP.out; omega
      have hgo := go_ops s d'
      have hiI : (i : Int) < (L : Int) := by omega
      have hi0 : (0 : Int) ≤ (i : Int) := by omega
      have HR2 := hid hr; have HG := hid hg; have HF := hid hf; have HO := hid ho; have HGO := hid hgo
      obtain ⟨E, hE⟩ : ∃ E, s.go d' = E := ⟨_, rfl⟩
      obtain ⟨n, cs, rfl, C⟩ : ∃ n cs, v = .func (.func n) #[] cs ∧ ((n = 155 ∨ n = 157 ∨ n = 103) ∧ Calls Tryz.prog n cs wr fun e w' => e = .returned (.int .i64 E.1) ∧ DiskTo wr w' q P' E.2) := by
        rw [← hE]
        cases s with
        | wr f a ss =>
          obtain ⟨b0, b1, b2, b3, ao, n, cap, e, _⟩ := id hst
          subst e
          exact ⟨155, _, rfl, Or.inl rfl, wr_call q P' d' f a ss wr hd hop' b0 b1 b2 b3 hst⟩
        | sy f =>
          obtain ⟨b0, b1, e, _⟩ := id hst
          subst e
          exact ⟨157, _, rfl, Or.inr (Or.inl rfl), sy_call q P' d' f wr hd hop' b0 b1 hst⟩
        | ct f m =>
          obtain ⟨b0, b1, b2, e, _⟩ := id hst
          subst e
          exact ⟨103, _, rfl, Or.inr (Or.inr rfl), ct_call q P' d' f m wr hd hop' b0 b1 b2 hst⟩
      rw [hE] at HR2 HGO
      clear hd hg hf hr ho hs hb hv hsi hst hop' hgo hE F
      obtain ⟨hn, C⟩ := C
      have CC := hid C
      clear C
      obtain ⟨e1, d1⟩ := E
      by_cases he : e1 = 0
      · subst he
        rcases hn with rfl | rfl | rfl
        · go_wp2_with (go_at_call 155; refine CC.out.mono ?_; rintro e w2 ⟨rfl, hp⟩; have HP := hid hp; clear hp)
          go_roundw
          case rel =>
            obtain ⟨⟨P2, h2, g2⟩, f2⟩ := HP.out
            exact ⟨i + 1, P2, d1, by omega, by go_num, hid ⟨h2, grew_trans HG.out g2 HF.out.size, df_trans HF.out HG.out f2, by simpa using HR2.out, by have := HGO.out; have := HO.out; simp at *; omega⟩⟩
          case measure => simp [Lib.intOf]; omega
        · go_wp2_with (go_at_call 157; refine CC.out.mono ?_; rintro e w2 ⟨rfl, hp⟩; have HP := hid hp; clear hp)
          go_roundw
          case rel =>
            obtain ⟨⟨P2, h2, g2⟩, f2⟩ := HP.out
            exact ⟨i + 1, P2, d1, by omega, by go_num, hid ⟨h2, grew_trans HG.out g2 HF.out.size, df_trans HF.out HG.out f2, by simpa using HR2.out, by have := HGO.out; have := HO.out; simp at *; omega⟩⟩
          case measure => simp [Lib.intOf]; omega
        · go_wp2_with (go_at_call 103; refine CC.out.mono ?_; rintro e w2 ⟨rfl, hp⟩; have HP := hid hp; clear hp)
          go_roundw
          case rel =>
            obtain ⟨⟨P2, h2, g2⟩, f2⟩ := HP.out
            exact ⟨i + 1, P2, d1, by omega, by go_num, hid ⟨h2, grew_trans HG.out g2 HF.out.size, df_trans HF.out HG.out f2, by simpa using HR2.out, by have := HGO.out; have := HO.out; simp at *; omega⟩⟩
          case measure => simp [Lib.intOf]; omega
      · have hR3 := HR2.out
        rw [if_neg he] at hR3
        subst hR3
        rcases hn with rfl | rfl | rfl
        · go_wp2_with (go_at_call 155; refine CC.out.mono ?_; rintro e w2 ⟨rfl, hp⟩; have HP := hid hp; clear hp)
          go_ret
          exact ⟨rfl, DiskTo.trans HF.out HG.out HP.out⟩
        · go_wp2_with (go_at_call 157; refine CC.out.mono ?_; rintro e w2 ⟨rfl, hp⟩; have HP := hid hp; clear hp)
          go_ret
          exact ⟨rfl, DiskTo.trans HF.out HG.out HP.out⟩
        · go_wp2_with (go_at_call 103; refine CC.out.mono ?_; rintro e w2 ⟨rfl, hp⟩; have HP := hid hp; clear hp)
          go_ret
          exact ⟨rfl, DiskTo.trans HF.out HG.out HP.out⟩
    · obtain rfl : i = L := by omega
      obtain ⟨hd, hg, hf, hr, ho⟩ := F.out
      rw [List.drop_eq_nil_of_le (by have := HL.out; omega)] at hr
      have hr' : ((0 : Int), d') = R := hr
      subst hr'
      have HD := hid hd; have HG := hid hg; have HF := hid hf
      clear hd hg hf hr ho F
      go_wp2
      go_ret
      exact ⟨rfl, ⟨P', HD.out, HG.out⟩, HF.out⟩

end Go.Proofs.YtgjgkpnjchflaaaGreatDoor

/- Rows of steps, and how they grow; sectors of bytes. No statement of the seat is proved here. -/
namespace Go.Proofs.YtgjgkpnjchflaaaGreatDoor
open Go.RowKit Go.Maps
open Dsk (gt hid undrew keep_old keep_cell lt_cell Rd DS FS Sec DiskP DFrame Grew From writeD syncD cutD lenD readD newD known)

/-- Bytes in sectors. -/
def chunks : Nat → List Nat → List Sec
  | 0, _ => []
  | k + 1, x => x.take 128 :: chunks k (x.drop 128)
theorem chunks_length (k : Nat) (x : List Nat) : (chunks k x).length = k := by
  induction k generalizing x with
  | zero => rfl
  | succ k ih => simp [chunks, ih]
theorem chunks_flatten (k : Nat) (x : List Nat) (h : x.length = k * 128) : (chunks k x).flatten = x := by
  induction k generalizing x with
  | zero => simp at h; subst h; rfl
  | succ k ih =>
    rw [chunks, List.flatten_cons, ih _ (by rw [List.length_drop]; omega), List.take_append_drop]
theorem chunks_each (k : Nat) (x : List Nat) (h : x.length = k * 128) : ∀ s ∈ chunks k x, s.length = 128 := by
  induction k generalizing x with
  | zero => intro s hs; cases hs
  | succ k ih =>
    intro s hs
    rcases List.mem_cons.1 hs with rfl | hs
    · rw [List.length_take]; omega
    · exact ih _ (by rw [List.length_drop]; omega) s hs
theorem chunks_bytes (k : Nat) (x : List Nat) (h : ∀ b ∈ x, b < 256) : ∀ s ∈ chunks k x, ∀ b ∈ s, b < 256 := by
  induction k generalizing x with
  | zero => intro s hs; cases hs
  | succ k ih =>
    intro s hs
    rcases List.mem_cons.1 hs with rfl | hs
    · exact fun b hb => h b (List.mem_of_mem_take hb)
    · exact ih _ (fun b hb => h b (List.mem_of_mem_drop hb)) s hs

theorem Tryz.info133 : (Tryz.prog.info? 133).map (fun i => (i.zero, i.size, i.bytes)) = some (some .nilFunc, 1, 8) := by kernel_rfl
theorem el113 : Cch.El 135 133 .nilFunc 8 := ⟨Tryz.underlying135, by obtain ⟨i, h0, h1, h2, h3⟩ := info_parts Tryz.info133; exact ⟨i, h0, h1, h2, h3⟩, rfl, by decide⟩

/-- These blocks, and the row's own. -/
def NV (N : Nat → Prop) (v : Value) : Nat → Prop := fun k => N k ∨ v.ownBlock = some k

/-- A row of steps that a call makes. -/
structure StRow (w : World) (q : Nat) (N : Nat → Prop) (B : Nat) (v : Value) (us : List Value) (l : List Stp) : Prop where
  row : w.ownsRow 0 133 1 v l.length us
  len : us.length = l.length
  at_ : ∀ (i : Nat) (s : Stp), l[i]? = some s → ∃ u, us[i]? = some u ∧ StepAt w q (NV N v) u s
  blk : ∀ k, v.ownBlock = some k → B ≤ k ∧ k < w.heap.size
  hN : ∀ k, N k → k < B
  hB : B ≤ w.heap.size

theorem StRow.lt {w : World} {q B : Nat} {N : Nat → Prop} {v : Value} {us : List Value} {l : List Stp} (h : StRow w q N B v us l) {k : Nat} (hk : NV N v k) : k < w.heap.size := by
  rcases hk with hk | hk
  · exact Nat.lt_of_lt_of_le (h.hN k hk) h.hB
  · exact (h.blk k hk).2

theorem StRow.nil (w : World) (q : Nat) (N : Nat → Prop) (B : Nat) (hN : ∀ k, N k → k < B) (hB : B ≤ w.heap.size) : StRow w q N B (.slice none 0 0) [] [] :=
  ⟨⟨rfl, Or.inl ⟨rfl, rfl⟩⟩, rfl, fun _ _ h => (by simp at h), fun _ h => (by cases h), hN, hB⟩

theorem StRow.later {w w' : World} {q B : Nat} {N : Nat → Prop} {v : Value} {us : List Value} {l : List Stp} (h : StRow w q N B v us l) (hb : Below w.heap.size w w') : StRow w' q N B v us l :=
  ⟨Cch.own_later h.row hb, h.len, fun i s hs => by
    obtain ⟨u, h1, h2⟩ := h.at_ i s hs
    exact ⟨u, h1, h2.later hb⟩, fun k hk => ⟨(h.blk k hk).1, Nat.lt_of_lt_of_le (h.blk k hk).2 hb.size⟩, h.hN, Nat.le_trans h.hB hb.size⟩

theorem cell_grown {w w' : World} {o : Option Nat} (hg : w.grownBy w' o) {b i : Nat} {v : Value} (hc : w.cell? ⟨b, i, none⟩ = some v) (hb : o ≠ some b) : w'.cell? ⟨b, i, none⟩ = some v := by
  rw [World.cell?_of_block (hg.block b (lt_cell hc) (fun e => hb e.symm))]; exact hc

theorem StRow.push {w w' : World} {q B m c' : Nat} {N : Nat → Prop} {v : Value} {us ys : List Value} {l ls : List Stp} {ao' : Option Addr} (h : StRow w q N B v us l)
    (hy : ∀ (i : Nat) (s : Stp), ls[i]? = some s → ∃ u, ys[i]? = some u ∧ StepAt w q (NV N v) u s) (hl : ys.length = ls.length) (hm : m = ls.length)
    (ho : w'.ownsRow 0 133 1 (.slice ao' (l.length + m) c') (l.length + m) (us ++ ys)) (hg : w.grownBy w' v.ownBlock) (ha : ∀ a, ao' = some a → (v.ownBlock = some a.block ∨ a.block = w.heap.size)) (hlt : ∀ a, ao' = some a → a.block < w'.heap.size) :
    StRow w' q N B (.slice ao' (l.length + m) c') (us ++ ys) (l ++ ls) := by
  have key : ∀ u s, StepAt w q (NV N v) u s → StepAt w' q (NV N (.slice ao' (l.length + m) c')) u s := fun u s hs => by
    refine hs.turn (fun b hb => ⟨Nat.lt_of_lt_of_le hb.1 hg.size, fun hk => ?_⟩) (fun b o x hb hc => cell_grown hg hc (fun e => hb.2 (Or.inr e)))
    rcases hk with hk | hk
    · exact hb.2 (Or.inl hk)
    · cases ao' with
      | none => cases hk
      | some a =>
        have e : a.block = b := by simpa [Value.ownBlock] using hk
        subst e
        rcases ha a rfl with h1 | h1
        · exact hb.2 (Or.inr h1)
        · have := hb.1; omega
  refine ⟨by rw [List.length_append, ← hm]; exact ho, by rw [List.length_append, List.length_append, h.len, hl], fun i s hs => ?_, fun k hk => ?_, h.hN, Nat.le_trans h.hB hg.size⟩
  · rw [List.getElem?_append] at hs
    split at hs
    · obtain ⟨u, h1, h2⟩ := h.at_ i s hs
      exact ⟨u, by rw [List.getElem?_append_left (by rw [h.len]; assumption)]; exact h1, key u s h2⟩
    · obtain ⟨u, h1, h2⟩ := hy _ s hs
      exact ⟨u, by rw [List.getElem?_append_right (by rw [h.len]; omega), h.len]; exact h1, key u s h2⟩
  · cases ao' with
    | none => cases hk
    | some a =>
      have e : a.block = k := by simpa [Value.ownBlock] using hk
      subst e
      refine ⟨?_, hlt a rfl⟩
      rcases ha a rfl with h1 | h1
      · exact (h.blk _ h1).1
      · rw [h1]; exact h.hB

theorem StRow.steps {w : World} {q B n c : Nat} {N : Nat → Prop} {ao : Option Addr} {us : List Value} {l : List Stp} (h : StRow w q N B (.slice ao n c) us l) : n = l.length ∧ StepsAt w q N ao l := by
  have hrow := h.row
  have hn : n = l.length := by
    rcases hrow.2 with ⟨h1, h2⟩ | ⟨g, cap, cur, h1, _⟩
    · simp at h1; omega
    · simp at h1; exact h1.2.1
  refine ⟨hn, fun hl => ?_⟩
  subst hn
  obtain ⟨g, cap, hv, _, hg⟩ := hrow.form hl
  simp only [Value.slice.injEq] at hv
  obtain ⟨rfl, -, -⟩ := hv
  refine ⟨g, 0, rfl, ⟨hg, fun hk => ?_⟩, fun i s hs => ?_⟩
  · have h1 := h.hN g hk
    have h2 := (h.blk g rfl).1
    omega
  · obtain ⟨u, h1, h2⟩ := h.at_ i s hs
    refine ⟨u, ?_, h2.turn (fun b hb => ⟨hb.1, fun hk => hb.2 (Or.inl hk)⟩) (fun _ _ _ _ hc => hc)⟩
    have hi : i < us.length := (List.getElem?_eq_some_iff.1 h1).1
    rw [Nat.zero_add, hrow.cellAt i (by have := h.len; omega)]
    exact h1

end Go.Proofs.YtgjgkpnjchflaaaGreatDoor

/- Regions that draw their order: what is held may grow as the walk goes; records that can be read. No statement of the seat is proved here. -/
namespace Go.Proofs.YtgjgkpnjchflaaaGreatDoor
open Go.RowKit Go.Maps
open Dsk (gt hid undrew keep_old keep_cell lt_cell Rd DS FS Sec DiskP DFrame Grew From writeD syncD cutD lenD readD newD known)
open Cch (wpAnyK)

/-- What is held may be more from here on. -/
theorem wpAnyK_more {P : Program} {ops : Array Oper} {Q : Exit → Act → World → Prop} {md : Region.Mode} {S S' : World → Prop} {E : Nat → Bool} (hSS : ∀ w, S' w → S w) : ∀ {fuel : Nat} {listed : Array Bool} {a : Act} {w : World}, wpAnyK P md ops Q S' E fuel listed a w → wpAnyK P md ops Q S E fuel listed a w
  | 0, _, _, _, h => h
  | _ + 1, _, _, _, h => ⟨h.1, fun i hi => wpOp_mono (fun _ _ h' => ⟨fun hc => hSS _ (h'.1 hc), wpAnyK_more hSS h'.2⟩) (h.2 i hi)⟩

/-- A world that has grown out of another one. -/
abbrev Gr (w W : World) : Prop := Below w.heap.size w W

/-- The same, but for the block of the row o. -/
abbrev Gv (o : Value) (w W : World) : Prop := Cch.Fr (fun b => o.ownBlock = some b) w W
theorem gvt {o : Value} {w a b : World} (h : Gv o w a) (k : Gv o a b) : Gv o w b :=
  ⟨k.os.trans h.os, k.tape.trans h.tape, k.output.trans h.output, Nat.le_trans h.size k.size, fun i hi hn => (k.blk i (Nat.lt_of_lt_of_le hi h.size) hn).trans (h.blk i hi hn)⟩
theorem gv_below {o : Value} {w a : World} (h : Below w.heap.size w a) : Gv o w a := Cch.Fr.of_below h
theorem gv_grown {o : Value} {w a : World} (h : w.grownBy a o.ownBlock) : Gv o w a := ⟨h.os, h.tape, h.output, h.size, fun k hk hn => h.block k hk (fun e => hn e.symm)⟩
theorem gv_cell {o : Value} {w W : World} (h : Gv o w W) {b i : Nat} {v : Value} (hc : w.cell? ⟨b, i, none⟩ = some v) (hb : o.ownBlock ≠ some b) : W.cell? ⟨b, i, none⟩ = some v :=
  (World.cell?_of_block (h.blk b (lt_cell hc) hb)).trans hc

/-- Records that can be read, in blocks that nobody writes to. -/
def RecsO (W : World) (N : Nat → Prop) (ao : Option Addr) (L : Nat) (P : Nat → Int) (D : Nat → List Nat) : Prop :=
  0 < L → ∃ b off, ao = some ⟨b, off, none⟩ ∧ Out W N b ∧ ∀ i, i < L → ∃ a c, W.cell? ⟨b, off + i * 2, none⟩ = some (.int .i64 (P i)) ∧ W.cell? ⟨b, off + i * 2 + 1, none⟩ = some (.slice (some a) 512 c) ∧ Rd W (some a) 512 c (D i) ∧ Out W N a.block

theorem RecsO.turn {w w' : World} {N N' : Nat → Prop} {ao : Option Addr} {L : Nat} {P : Nat → Int} {D : Nat → List Nat} (h : RecsO w N ao L P D) (ho : ∀ b, Out w N b → Out w' N' b) (hc : ∀ b o v, Out w N b → w.cell? ⟨b, o, none⟩ = some v → w'.cell? ⟨b, o, none⟩ = some v) : RecsO w' N' ao L P D := fun hl => by
  obtain ⟨b, off, rfl, hb, hh⟩ := h hl
  refine ⟨b, off, rfl, ho _ hb, fun i hi => ?_⟩
  obtain ⟨a, c, k0, k1, hr, hao⟩ := hh i hi
  refine ⟨a, c, hc _ _ _ hb k0, hc _ _ _ hb k1, ⟨hr.1, hr.2.1, hr.2.2.1, fun hp => ?_⟩, ho _ hao⟩
  obtain ⟨b', off', e, h2⟩ := hr.2.2.2 hp
  obtain rfl := Option.some.inj e
  exact ⟨b', off', rfl, fun t ht => hc _ _ _ hao (h2 t ht)⟩
theorem RecsO.later {w w' : World} {N : Nat → Prop} {ao : Option Addr} {L : Nat} {P : Nat → Int} {D : Nat → List Nat} (h : RecsO w N ao L P D) (hb : Below w.heap.size w w') : RecsO w' N ao L P D :=
  h.turn (fun _ ho => ho.later hb.size) (fun _ _ _ _ hc => keep_old hb hc)
theorem RecsO.disk {w w' : World} {q : Nat} {P P' : Dsk.Parts} {ao : Option Addr} {L : Nat} {Pg : Nat → Int} {D : Nat → List Nat} (h : RecsO w (DN q P) ao L Pg D) (hf : DFrame w w' q P.all) (hg : Grew P w P') : RecsO w' (DN q P') ao L Pg D :=
  h.turn (fun _ ho => ho.grew hf.size hg) (fun _ _ _ ho hc => cell_df hf hc ho)
theorem RecsO.recs {w : World} {N : Nat → Prop} {ao : Option Addr} {L : Nat} {P : Nat → Int} {D : Nat → List Nat} (h : RecsO w N ao L P D) : Jrn.Recs w ao L P D := fun hl => by
  obtain ⟨b, off, rfl, hb, hh⟩ := h hl
  refine ⟨b, off, rfl, fun i hi => ?_⟩
  obtain ⟨a, c, k0, k1, hr, _⟩ := hh i hi
  exact ⟨some a, 512, c, k0, k1, hr⟩

theorem rd_sec {w : World} {ao : Option Addr} {c : Nat} {x : List Nat} (h : Rd w ao 512 c x) : Rd w ao 512 c (chunks 4 x).flatten := by
  rw [chunks_flatten 4 x (by rw [h.1])]; exact h

/-- What a record's writing back is. -/
def backL (P : Nat → Int) (D : Nat → List Nat) (n : Nat) : List Stp := (List.range n).map fun i => .wr 0 ((P i - 1) * 4) (chunks 4 (D i))
theorem backL_succ (P : Nat → Int) (D : Nat → List Nat) (n : Nat) : backL P D (n + 1) = backL P D n ++ [.wr 0 ((P n - 1) * 4) (chunks 4 (D n))] := by simp [backL, List.range_succ]
theorem backL_length (P : Nat → Int) (D : Nat → List Nat) (n : Nat) : (backL P D n).length = n := by simp [backL]
/-- What replay does. -/
def replayL (pg : Int) (P : Nat → Int) (D : Nat → List Nat) (n : Nat) : List Stp := backL P D n ++ [.ct 0 (pg * 4), .sy 0, .ct 1 0]

theorem lit_src (w : World) (us : List Value) (e : TypeId) (h1 : ∀ u ∈ us, u.oneCell' = true) : Cch.Src (w.alloc (.cells us.toArray e)) (some ⟨w.heap.size, 0, none⟩) us.length us.length us :=
  ⟨rfl, fun h => (by cases h), fun ad e j u hu => by
    obtain rfl := Option.some.inj e
    rw [Addr.add_lit, World.cell?_alloc_at _ _ _ _ rfl]
    simpa using hu, h1⟩
theorem step_one {w : World} {q : Nat} {N : Nat → Prop} {v : Value} {s : Stp} (h : StepAt w q N v s) : v.oneCell' = true := by
  cases s with
  | wr f a ss => obtain ⟨b0, b1, b2, b3, ao, n, cap, rfl, _⟩ := h; rfl
  | sy f => obtain ⟨b0, b1, rfl, _⟩ := h; rfl
  | ct f m => obtain ⟨b0, b1, b2, rfl, _⟩ := h; rfl
theorem step_func {w : World} {q : Nat} {N : Nat → Prop} {v : Value} {s : Stp} (h : StepAt w q N v s) : ∃ n cs, v = .func (.func n) #[] cs := by
  cases s with
  | wr f a ss => obtain ⟨b0, b1, b2, b3, ao, n, cap, rfl, _⟩ := h; exact ⟨_, _, rfl⟩
  | sy f => obtain ⟨b0, b1, rfl, _⟩ := h; exact ⟨_, _, rfl⟩
  | ct f m => obtain ⟨b0, b1, b2, rfl, _⟩ := h; exact ⟨_, _, rfl⟩
theorem StepAt.wider {w : World} {q : Nat} {N N' : Nat → Prop} {v : Value} {s : Stp} (h : StepAt w q N v s) (hn : ∀ k, N' k → N k) : StepAt w q N' v s :=
  h.turn (fun _ hb => ⟨hb.1, fun hk => hb.2 (hn _ hk)⟩) (fun _ _ _ _ hc => hc)

/-- A world that grew but for a block of the call's own. -/
theorem below_grown {w W W' : World} {v : Value} (hb : Below w.heap.size w W) (hg : W.grownBy W' v.ownBlock) (hv : ∀ k, v.ownBlock = some k → w.heap.size ≤ k) : Below w.heap.size w W' :=
  ⟨hg.os.trans hb.os, hg.tape.trans hb.tape, hg.output.trans hb.output, Nat.le_trans hb.size hg.size, fun k hk => (hg.block k (Nat.lt_of_lt_of_le hk hb.size) (fun e => by have := hv k e.symm; omega)).trans (hb.block k hk)⟩

end Go.Proofs.YtgjgkpnjchflaaaGreatDoor

/- What replay is; no statement of the seat is proved here. -/
namespace Go.Proofs.YtgjgkpnjchflaaaGreatDoor
open Go.RowKit Go.Maps
open Dsk (gt hid undrew keep_old keep_cell lt_cell Rd DS FS Sec DiskP DFrame Grew From writeD syncD cutD lenD readD newD known op_at)
open Cch (wpAnyK wpAnyK_take wpAnyK_pure wpAnyK_ready wpAnyK_done wp_region_K AllReadyK.cons AllReadyK.nil)

theorem own_bound {w : World} {e : TypeId} {v : Value} {n : Nat} {xs : List Value} (h : w.ownsRow 0 e 1 v n xs) {k : Nat} (hk : v.ownBlock = some k) : k < w.heap.size := by
  rcases h.2 with ⟨h1, _⟩ | ⟨g, cap, cur, h1, _, hg, _⟩
  · subst h1; cases hk
  · subst h1
    have : g = k := by simpa [Value.ownBlock] using hk
    subst this
    rcases Nat.lt_or_ge g w.heap.size with hlt | hge
    · exact hlt
    · rw [Array.getElem?_eq_none hge] at hg; cases hg

set_option maxHeartbeats 4000000 in
set_option maxRecDepth 20000 in
theorem replay_make (q : Nat) (c pg : Int) (m : Nat) (lo : Option Addr) (L cap : Nat) (P : Nat → Int) (D : Nat → List Nat) (N : Nat → Prop) (w : World) (hN : ∀ k, N k → k < w.heap.size)
    (hr : RecsO w N lo L P D) (hL : L ≤ 100000) (hP : ∀ i, i < L → -1000000 ≤ P i ∧ P i ≤ 1000000) (hpg : 0 ≤ pg ∧ pg ≤ 1000000) :
    Calls Tryz.prog 82 #[.pointer (some ⟨q, 0, none⟩), .agg #[.int .i64 c, .int .i64 pg, .int .u64 (m : Int)], .slice lo L cap] w fun e w' => ∃ ao cp, e = .returned (.slice ao (replayL pg P D L).length cp) ∧ StepsAt w' q N ao (replayL pg P D L) ∧ Below w.heap.size w w' := by
  have HN := hid hN; have HR := hid hr; have HP := hid hP
  have A0 : Below w.heap.size w (w.alloc (.cells #[.int .i64 c, .int .i64 pg, .int .u64 (m : Int)] 140)) := Below.alloc (Below.refl _ _) (Nat.le_refl _) _
  have q0 := hid (Jrn.HB.new 140 w c pg m).cells.2.1
  have o0 := hid (StRow.nil (w.alloc (.cells #[.int .i64 c, .int .i64 pg, .int .u64 (m : Int)] 140)) q N (w.heap.size + 1) (fun k hk => Nat.lt_succ_of_lt (hN k hk)) (by simp))
  have A0' := hid A0
  have hpw : IntKind.i64.wrap (pg * 4) = pg * 4 := IntWalk.i64_in _ ⟨by omega, by omega⟩
  clear hN hr hP A0 hpg
  go_enter Tryz.func82, Tryz.ntmps82
  go_wp2
  go_loopw [7, 12] (fun o cc W => ∃ (i : Nat) (us : List Value), i ≤ L ∧ cc = .int .i64 (i : Int) ∧ Hid (StRow W q N (w.heap.size + 1) o us (backL P D i)) ∧ Hid (Below w.heap.size w W) ∧ Hid (W.cell? ⟨w.heap.size, 1, none⟩ = some (.int .i64 pg))) (fun _ cc _ => L - (Lib.intOf cc).toNat)
  case atStart => exact ⟨0, [], by omega, rfl, o0, A0', q0⟩
  case round =>
    obtain ⟨i, us, hi, rfl, OO, BB, QQ⟩ := hrel
    clear o0 A0' q0
    by_cases hiL : i < L
    · obtain ⟨b0, off, rfl, hbo, hc⟩ := HR.out (by omega)
      obtain ⟨a, c1, k0, k1, rd, hao⟩ := hc i hiL
      obtain ⟨p, hp⟩ : ∃ p, P i = p := ⟨_, rfl⟩
      obtain ⟨d, hd⟩ : ∃ d, D i = d := ⟨_, rfl⟩
      rw [hp] at k0; rw [hd] at rd
      have hpr : Hid (-1000000 ≤ p ∧ p ≤ 1000000) := hid (by rw [← hp]; exact HP.out i hiL)
      have hdl : Hid (d.length = 512) := hid rd.1
      have rd5 := hid rd; have ao5 := hid hao
      have hno : Hid (¬ NV N u7 a.block) := hid (fun hk => by
        rcases hk with hk | hk
        · exact hao.2 hk
        · have := (OO.out.blk _ hk).1; have := hao.1; omega)
      have k0' := keep_old BB.out k0
      have k1' := keep_old BB.out k1
      have hbs : Hid (backL P D (i + 1) = backL P D i ++ [.wr 0 ((p - 1) * 4) (chunks 4 d)]) := hid (by rw [backL_succ, hp, hd])
      have hiI : (i : Int) < (L : Int) := by omega
      have hi0 : (0 : Int) ≤ (i : Int) := by omega
      clear k0 k1 rd hao hc hp hd hbo
      go_upto_region 5 with fail
      obtain ⟨r, hr⟩ : ∃ r, r = wr.heap.size := ⟨_, rfl⟩
      obtain ⟨W3, hW3⟩ : ∃ W3, W3 = wr.alloc (.cells #[.int .i64 p, .slice (some a) 512 c1] 168) := ⟨_, rfl⟩
      have hb : Below wr.heap.size wr W3.drew := by rw [hW3]; exact (Below.alloc (Below.refl _ _) (Nat.le_refl _) _).drew
      have YY : Jrn.RB 168 W3.drew r p (some a) 512 c1 := by rw [hW3, hr]; exact (Jrn.RB.new 168 wr p (some a) 512 c1).keep (Below.refl _ _).drew
      have Y0 := hid YY.cells.1
      have Y1 := hid YY.cells.2.1
      have hor : Hid (u7.ownBlock ≠ some r) := hid (fun e => by have := (OO.out.blk _ e).2; omega)
      replace OO := hid (OO.out.later hb); replace BB := hid (gt BB.out hb); replace QQ := hid (keep_old hb QQ.out)
      rw [← hW3, ← hr]
      clear hW3 hr hb YY k0' k1'
      refine wp_region_K (S := Gv u7 W3.drew) (fun _ => false) (by kernel_rfl) (Cch.Fr.refl _ _) (fun hHeld => ?_)
      refine gkp 0 ?_
      refine gkp 1 ?_
      refine gkp 2 ?_
      refine gkt 3 ?_ (h := by intro W hSw; have a0 := gv_cell hSw Y0.out hor.out; have a1 := gv_cell hSw Y1.out hor.out; go_simp; first | done | with_reducible rfl)
      refine gkp 5 ?_
      refine gkt 6 ?_ (h := by intro W hSw; have a0 := gv_cell hSw Y0.out hor.out; have a1 := gv_cell hSw Y1.out hor.out; go_simp; first | done | with_reducible rfl)
      refine gk1 4 (fun K hK => ?_)
      go_simp
      go_at_call 109; refine (place_any _ _ hpr.out).mono ?_; rintro e w4 ⟨rfl, hw⟩; have hb : Below W3.drew.heap.size W3.drew w4 := (by rw [hw]; exact Below.refl _ _); have hR : Gv u7 W3.drew w4 := gv_below hb; replace OO := hid (OO.out.later hb); replace Y0 := hid (keep_old hb Y0.out); replace Y1 := hid (keep_old hb Y1.out); replace BB := hid (gt BB.out hb); replace QQ := hid (keep_old hb QQ.out); clear hw hb
      refine hK.out _ _ hR (fun hHeld => ?_)
      clear hK K
      (try simp only [Act.put, sA, sZ, sS])
      clear hHeld
      refine wpAnyK_more (S' := Gv u7 w4) (fun W h => gvt hR h) ?_
      have hHeld : Gv u7 w4 w4 := Cch.Fr.refl _ _
      clear hR
      refine gk1 7 (fun K hK => ?_)
      go_simp
      go_at_call 110; refine (write_make q 0 ((p - 1) * 4) (some a) 512 c1 (chunks 4 d) (NV N u7) w4 (fun k hk => OO.out.lt hk) (rd_sec (rd5.out.keep BB.out)) (fun _ x hx => (by obtain rfl := Option.some.inj hx; exact ⟨Nat.lt_of_lt_of_le ao5.out.1 BB.out.size, fun hk => hno.out hk⟩)) (by rw [chunks_length]) (chunks_each 4 d (by rw [hdl.out])) (by rw [chunks_length]; omega)).mono ?_; rintro e w5 ⟨u, rfl, hst, hb⟩; have hR : Gv u7 w4 w5 := gv_below hb; replace OO := hid (OO.out.later hb); replace Y0 := hid (keep_old hb Y0.out); replace Y1 := hid (keep_old hb Y1.out); replace BB := hid (gt BB.out hb); replace QQ := hid (keep_old hb QQ.out); obtain ⟨n5, cs5, rfl⟩ := step_func hst; have ST := hid hst; clear hst hb
      refine hK.out _ _ hR (fun hHeld => ?_)
      clear hK K
      (try simp only [Act.put, sA, sZ, sS])
      clear hHeld
      refine wpAnyK_more (S' := Gv u7 w5) (fun W h => gvt hR h) ?_
      have hHeld : Gv u7 w5 w5 := Cch.Fr.refl _ _
      clear hR
      refine gk1 8 (fun K hK => ?_)
      go_simp
      have hb : Below w5.heap.size w5 (w5.alloc (.cells #[.func (.func n5) #[] cs5] 133)) := Below.alloc (Below.refl _ _) (Nat.le_refl _) _; have hR : Gv u7 w5 (w5.alloc (.cells #[.func (.func n5) #[] cs5] 133)) := gv_below hb; replace OO := hid (OO.out.later hb); replace Y0 := hid (keep_old hb Y0.out); replace Y1 := hid (keep_old hb Y1.out); replace BB := hid (gt BB.out hb); replace QQ := hid (keep_old hb QQ.out); replace ST := hid (ST.out.later hb); have SR := hid (lit_src w5 [(.func (.func n5) #[] cs5)] 133 (by intro x hx; simp at hx; subst hx; exact step_one ST.out)); clear hb
      refine hK.out _ _ hR (fun hHeld => ?_)
      clear hK K
      (try simp only [Act.put, sA, sZ, sS])
      clear hHeld
      refine wpAnyK_more (S' := Gv u7 (w5.alloc (.cells #[.func (.func n5) #[] cs5] 133))) (fun W h => gvt hR h) ?_
      have hHeld : Gv u7 (w5.alloc (.cells #[.func (.func n5) #[] cs5] 133)) (w5.alloc (.cells #[.func (.func n5) #[] cs5] 133)) := Cch.Fr.refl _ _
      clear hR
      refine gk1 9 (fun K hK => ?_)
      refine Cch.step_app rfl (.tmp 16) (.tmp 24) el113 rfl u7 (backL P D i).length us rfl OO.out.row (some ⟨w5.heap.size, 0, none⟩) 1 1 [(.func (.func n5) #[] cs5)] rfl SR.out (by rw [backL_length]; omega) ?_; intro a7 c7 w7 ho7 hg7 ha7; have hR : Gv u7 (w5.alloc (.cells #[.func (.func n5) #[] cs5] 133)) w7 := gv_grown hg7; have O7 := hid ho7; have G7 := hid hg7; have A7 := hid ha7; clear ho7 hg7 ha7
      refine hK.out _ _ hR (fun hHeld => ?_)
      clear hK K
      (try simp only [Act.put, sA, sZ, sS])
      clear hR
      refine gkp 10 ?_
      refine wpAnyK_done (by kernel_rfl) ?_ _
      go_wp2
      go_roundw
      case rel =>
        have hlt : ∀ x, a7 = some x → x.block < w7.heap.size := fun x hx => own_bound O7.out (by rw [hx]; rfl)
        have hP7 := OO.out.push (ls := [.wr 0 ((p - 1) * 4) (chunks 4 d)]) (ys := [(.func (.func n5) #[] cs5)]) (m := 1) (fun j s hs => by
          cases j with
          | zero => simp at hs; subst hs; exact ⟨_, rfl, ST.out⟩
          | succ j => simp at hs) rfl rfl O7.out G7.out A7.out hlt
        rw [← hbs.out] at hP7
        refine ⟨i + 1, us ++ [(.func (.func n5) #[] cs5)], by omega, by go_num, hid hP7, hid (below_grown BB.out G7.out (fun k hk => Nat.le_of_succ_le (OO.out.blk k hk).1)), hid (cell_grown G7.out QQ.out (fun e => by have := (OO.out.blk _ e).1; omega))⟩
      case measure => simp [Lib.intOf]; omega
    · obtain rfl : i = L := by omega
      have q1 := QQ.out
      have t1 : Hid True := hid trivial
      go_wp2_with (first
        | (go_at_call 78; clear t1; refine (cut_make q 0 (pg * 4) (NV N u7) wr (fun k hk => OO.out.lt hk)).mono ?_; rintro e w1 ⟨x1, rfl, s1, b1⟩; obtain ⟨n1, cs1, rfl⟩ := step_func s1; replace OO := hid (OO.out.later b1); replace BB := hid (gt BB.out b1); have S1 := hid s1; clear s1 b1 q1 QQ)
        | (go_at_call 111; refine (sync_make q 0 (NV N u7) w1 (fun k hk => OO.out.lt hk)).mono ?_; rintro e w2 ⟨x2, rfl, s2, b2⟩; obtain ⟨n2, cs2, rfl⟩ := step_func s2; replace OO := hid (OO.out.later b2); replace BB := hid (gt BB.out b2); replace S1 := hid (S1.out.later b2); have S2 := hid s2; clear s2 b2)
        | (go_at_call 78; refine (cut_make q 1 0 (NV N u7) w2 (fun k hk => OO.out.lt hk)).mono ?_; rintro e w3 ⟨x3, rfl, s3, b3⟩; obtain ⟨n3, cs3, rfl⟩ := step_func s3; have b4 : Below w3.heap.size w3 (w3.alloc (.cells #[.func (.func n1) #[] cs1, .func (.func n2) #[] cs2, .func (.func n3) #[] cs3] 133)) := Below.alloc (Below.refl _ _) (Nat.le_refl _) _; have SR := hid (lit_src w3 [(.func (.func n1) #[] cs1), (.func (.func n2) #[] cs2), (.func (.func n3) #[] cs3)] 133 (by intro x hx; simp at hx; rcases hx with rfl | rfl | rfl <;> rfl)); replace OO := hid ((OO.out.later b3).later b4); replace BB := hid (gt (gt BB.out b3) b4); replace S1 := hid ((S1.out.later b3).later b4); replace S2 := hid ((S2.out.later b3).later b4); have S3 := hid (s3.later b4); clear s3 b3 b4)
        | ((with_reducible refine Dsk.here_op 38 ?_); refine Cch.wpList_app rfl (.tmp 27) (.tmp 37) el113 rfl u7 (backL P D i).length us rfl OO.out.row (some ⟨w3.heap.size, 0, none⟩) 3 3 [(.func (.func n1) #[] cs1), (.func (.func n2) #[] cs2), (.func (.func n3) #[] cs3)] rfl SR.out (by rw [backL_length]; omega) ?_; intro a7 c7 w7 ho7 hg7 ha7; have O7 := hid ho7; have G7 := hid hg7; have A7 := hid ha7; clear ho7 hg7 ha7))
      go_ret
      have hlt : ∀ x, a7 = some x → x.block < w7.heap.size := fun x hx => own_bound O7.out (by rw [hx]; rfl)
      have hP7 := OO.out.push (ls := [.ct 0 (pg * 4), .sy 0, .ct 1 0]) (ys := [(.func (.func n1) #[] cs1), (.func (.func n2) #[] cs2), (.func (.func n3) #[] cs3)]) (m := 3) (fun j s hs => by
          match j with
          | 0 => simp at hs; subst hs; exact ⟨_, rfl, S1.out⟩
          | 1 => simp at hs; subst hs; exact ⟨_, rfl, S2.out⟩
          | 2 => simp at hs; subst hs; exact ⟨_, rfl, S3.out⟩
          | j + 3 => simp at hs) rfl rfl O7.out G7.out A7.out hlt
      obtain ⟨hn, hst⟩ := hP7.steps
      refine ⟨a7, c7, by rw [hn]; rfl, hst, below_grown BB.out G7.out (fun k hk => Nat.le_of_succ_le (OO.out.blk k hk).1)⟩

end Go.Proofs.YtgjgkpnjchflaaaGreatDoor
