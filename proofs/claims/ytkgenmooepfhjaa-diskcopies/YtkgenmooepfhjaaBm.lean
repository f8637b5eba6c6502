/- What a copy of a file is; no statement of the seat is proved here. -/
import Derived.Test.YtkgenmooepfhjaaBl
namespace Go.Proofs.Ytkgenmooepfhjaa
open Go.RowKit Go.Maps

theorem load60 {W : World} {g o : Nat} {x0 x1 x2 : Value} (h0 : W.cell? ⟨g, o, none⟩ = some x0) (h1 : W.cell? ⟨g, o + 1, none⟩ = some x1) (h2 : W.cell? ⟨g, o + 2, none⟩ = some x2) : (loadVar 60 ⟨g, o, none⟩).run Try.prog W = .ok (.agg #[x0, x1, x2]) W := by
  have hl := run_loadCells_list (P := Try.prog) W ⟨g, o, none⟩ [x0, x1, x2] (fun j v hv => by
    rw [Addr.add_lit]
    rcases j with _ | _ | _ | j
    · simp at hv; rw [← hv]; exact h0
    · simp at hv; rw [← hv]; exact h1
    · simp at hv; rw [← hv]; exact h2
    · simp at hv)
  simp only [List.length_cons, List.length_nil, Nat.zero_add, Nat.reduceAdd] at hl
  simp [loadVar, hl]

theorem results49 {W : World} {tmps : Array Value} {g : Nat} {x0 x1 x2 : Value} (hp : tmps.getD 2 undef = .pointer (some ⟨g, 0, none⟩)) (h0 : W.cell? ⟨g, 0, none⟩ = some x0) (h1 : W.cell? ⟨g, 1, none⟩ = some x1) (h2 : W.cell? ⟨g, 2, none⟩ = some x2) :
    (results Try.f49 tmps).run Try.prog W = .ok (.agg #[x0, x1, x2]) W := by
  have hp' : tmps[2]?.getD undef = .pointer (some ⟨g, 0, none⟩) := by simpa using hp
  simp [results, hp', asAddr, load60 h0 h1 h2]

set_option maxHeartbeats 1000000 in
set_option maxRecDepth 20000 in
theorem copied_any (ao : Option Addr) (cap m n : Nat) (s : Int) (now : List Sec) (D : DataW Unit) (w : World) (sn : ∀ x ∈ now, x.length = 128) (hl : now.length ≤ 100000) (h : w.ownsRow 0 80 128 (.slice ao now.length cap) now.length (secs now)) (hm : w.ownsMap Try.prog 3 secR m n D) :
    Calls Try.prog 49 #[.agg #[.slice ao now.length cap, .int .i64 s, .map (some m)]] w fun e w' => ∃ ao' cap' m', e = .returned (.agg #[.slice ao' now.length cap', .int .i64 s, .map (some m')]) ∧ w'.ownsRow 0 80 128 (.slice ao' now.length cap') now.length (secs now) ∧ w'.ownsMap Try.prog 3 secR m' n D ∧ (∀ a, ao' = some a → w.heap.size ≤ a.block ∧ a.block < w'.heap.size) ∧ w.heap.size ≤ m' ∧ Below w.heap.size w w' := by
  obtain ⟨l, hll⟩ : ∃ l, l = now.length := ⟨_, rfl⟩
  have HL := hid hll
  obtain ⟨w1, hw1⟩ : ∃ w1, w1 = (w.alloc (.cells #[.slice ao l cap, .int .i64 s, .map (some m)] 60)).alloc (.cells #[.slice none 0 0, .int .i64 0, .map none] 60) := ⟨_, rfl⟩
  have hb1 : Below w.heap.size w w1 := by rw [hw1]; exact (by repeat (first | with_reducible exact Below.refl _ _ | with_reducible assumption | with_reducible refine Below.drew ?_ | with_reducible refine below_drewN ?_ _ | with_reducible refine Below.alloc ?_ (by simp <;> omega) _ | with_reducible refine Below.setCell ?_ (by simp <;> omega) _))
  have h1 := row_stay h (w' := w1) (fun a ha => hb1.block _ (row_lt h a ha))
  have hm1 := map_stay hm (w' := w1) (hb1.block _ hm.lt)
  have c58' := clone_secs ao cap now w1 sn hl h1
  rw [← hll] at c58' ⊢
  have c58 := hid c58'
  clear c58'
  have k0 : w1.cell? ⟨w.heap.size, 0, none⟩ = some (.slice ao l cap) := by rw [hw1, World.cell?_alloc_past _ _ _ (by simp), World.cell?_alloc_at _ _ _ _ rfl]; rfl
  have k1 : w1.cell? ⟨w.heap.size, 1, none⟩ = some (.int .i64 s) := by rw [hw1, World.cell?_alloc_past _ _ _ (by simp), World.cell?_alloc_at _ _ _ _ rfl]; rfl
  have k2 : w1.cell? ⟨w.heap.size, 2, none⟩ = some (.map (some m)) := by rw [hw1, World.cell?_alloc_past _ _ _ (by simp), World.cell?_alloc_at _ _ _ _ rfl]; rfl
  have j0 : w1.cell? ⟨w.heap.size + 1, 0, none⟩ = some (.slice none 0 0) := by rw [hw1, World.cell?_alloc_at _ _ _ _ (by simp)]; rfl
  have j1 : w1.cell? ⟨w.heap.size + 1, 1, none⟩ = some (.int .i64 0) := by rw [hw1, World.cell?_alloc_at _ _ _ _ (by simp)]; rfl
  have j2 : w1.cell? ⟨w.heap.size + 1, 2, none⟩ = some (.map none) := by rw [hw1, World.cell?_alloc_at _ _ _ _ (by simp)]; rfl
  have fz0 : ∀ i, w1.frozen? ⟨w.heap.size, i, none⟩ = false := fun i => by rw [hw1, World.frozen?_alloc_past _ _ _ (by simp), World.frozen?_alloc_at _ _ _ _ rfl]
  have fz1 : ∀ i, w1.frozen? ⟨w.heap.size + 1, i, none⟩ = false := fun i => by rw [hw1, World.frozen?_alloc_at _ _ _ _ (by simp)]
  have z1 : w1.heap.size = w.heap.size + 1 + 1 := by rw [hw1]; simp
  have HMW := hid hm.lt
  have HW1 := hid hw1; have HB1 := hid hb1; have HM1 := hid hm1; have HF0 := hid fz0; have HF1 := hid fz1; have Z1 := hid z1
  have HJ0 := hid j0; have HJ1 := hid j1; have HJ2 := hid j2; have HK1 := hid k1; have HK2 := hid k2; have HK0 := hid k0
  clear h hm h1 hm1 hb1 fz0 fz1 z1 hw1 j0 j1 j2 k1 k2 sn
  clear hll
  go_enter Try.func49, Try.ntmps49
  go_wp2_with (first
    | (go_at_call 58; rw [← HW1.out]; refine c58.out.mono ?_; rintro e w2 ⟨ao', cap', rfl, hr2, hab2, hb2⟩; clear c58; have q0 := keep_old hb2 HK0.out; have q1 := keep_old hb2 HK1.out; have q2 := keep_old hb2 HK2.out; have r0 := keep_old hb2 HJ0.out; have r1 := keep_old hb2 HJ1.out; have r2 := keep_old hb2 HJ2.out; have g0 : ∀ i, w2.frozen? ⟨w.heap.size, i, none⟩ = false := (fun i => (keep_frozen hb2 (by show w.heap.size < w1.heap.size; rw [Z1.out]; omega)).trans (HF0.out i)); have g1 : ∀ i, w2.frozen? ⟨w.heap.size + 1, i, none⟩ = false := (fun i => (keep_frozen hb2 (by show w.heap.size + 1 < w1.heap.size; rw [Z1.out]; omega)).trans (HF1.out i)); replace hr2 := hid hr2; replace hab2 := hid hab2; replace hb2 := hid hb2)
    | (go_at_call 59; obtain ⟨W3, hW3⟩ : ∃ W3, W3 = w2.setCell ⟨w.heap.size, 0, none⟩ (.slice ao' l cap') := ⟨_, rfl⟩; rw [← hW3]; have hm3 : W3.ownsMap Try.prog 3 secR m n D := map_stay HM1.out ((by rw [hW3]; exact set_heap _ _ _ _ _ (by have := HMW.out; omega) : W3.heap[m]? = w2.heap[m]?).trans (hb2.out.block m HM1.out.lt)); refine (clone_map m n D W3 hm3).mono ?_; rintro e w4 ⟨rfl, hm4, hb4⟩; have z3 : W3.heap.size = w2.heap.size := (by rw [hW3]; simp); have zz := hb2.out.size; have p0 : w4.cell? ⟨w.heap.size, 0, none⟩ = some (.slice ao' l cap') := keep_old hb4 (by rw [hW3]; exact set_same q0); have p1 : w4.cell? ⟨w.heap.size, 1, none⟩ = some (.int .i64 s) := keep_old hb4 (by rw [hW3, set_off _ _ _ (by omega)]; exact q1); have p2 : w4.cell? ⟨w.heap.size, 2, none⟩ = some (.map (some m)) := keep_old hb4 (by rw [hW3, set_off _ _ _ (by omega)]; exact q2); have o0 : w4.cell? ⟨w.heap.size + 1, 0, none⟩ = some (.slice none 0 0) := keep_old hb4 (by rw [hW3, World.cell?_of_block (set_heap _ _ _ _ _ (by show w.heap.size + 1 ≠ w.heap.size; omega))]; exact r0); have o1 : w4.cell? ⟨w.heap.size + 1, 1, none⟩ = some (.int .i64 0) := keep_old hb4 (by rw [hW3, World.cell?_of_block (set_heap _ _ _ _ _ (by show w.heap.size + 1 ≠ w.heap.size; omega))]; exact r1); have o2 : w4.cell? ⟨w.heap.size + 1, 2, none⟩ = some (.map none) := keep_old hb4 (by rw [hW3, World.cell?_of_block (set_heap _ _ _ _ _ (by show w.heap.size + 1 ≠ w.heap.size; omega))]; exact r2); have G0 : ∀ i, w4.frozen? ⟨w.heap.size, i, none⟩ = false := (fun i => (keep_frozen hb4 (by show w.heap.size < W3.heap.size; have := Z1.out; omega)).trans (by rw [hW3, World.frozen?_setCell]; exact g0 i)); have G1 : ∀ i, w4.frozen? ⟨w.heap.size + 1, i, none⟩ = false := (fun i => (keep_frozen hb4 (by show w.heap.size + 1 < W3.heap.size; have := Z1.out; omega)).trans (by rw [hW3, World.frozen?_setCell]; exact g1 i)); have hr4 : w4.ownsRow 0 80 128 (.slice ao' l cap') l (secs now) := row_stay (by have := hr2.out; exact this) (fun a ha => (hb4.block _ (by rw [z3]; exact (hab2.out a ha).2)).trans (by rw [hW3]; exact set_heap _ _ _ _ _ (by have := (hab2.out a ha).1; have := Z1.out; omega))); have fr4 : Below w.heap.size w w4 := (HB1.out.trans (hb2.out.mono (by have := Z1.out; omega))).trans (⟨by rw [hb4.os, hW3]; rfl, by rw [hb4.tape, hW3]; rfl, by rw [hb4.output, hW3]; rfl, by have := hb4.size; omega, fun k hk => (hb4.block k (by have := Z1.out; omega)).trans (by rw [hW3]; exact set_heap _ _ _ _ _ (by omega))⟩); replace hm4 := hid hm4; replace hr4 := hid hr4; replace fr4 := hid fr4; have G00 := G0 0; have G02 := G0 2; have G10 := G1 0; have G11 := G1 1; have G12 := G1 2; have HZ4 : Hid (w.heap.size + 1 < w4.heap.size ∧ w2.heap.size ≤ W3.heap.size ∧ W3.heap.size ≤ w4.heap.size ∧ w1.heap.size ≤ W3.heap.size) := hid (by have := Z1.out; have := hb4.size; omega); clear q0 q1 q2 r0 r1 r2 g0 g1 hW3 hm3 hb4 G0 G1 z3 zz))
  have hne : w.heap.size + 1 ≠ w.heap.size := by omega
  have hmlt : W3.heap.size < w4.heap.size := hm4.out.lt
  obtain ⟨W5, hW5⟩ : ∃ W5, W5 = (((w4.setCell ⟨w.heap.size, 2, none⟩ (.map (some W3.heap.size))).setCell ⟨w.heap.size + 1, 0, none⟩ (.slice ao' l cap')).setCell ⟨w.heap.size + 1, 1, none⟩ (.int .i64 s)).setCell ⟨w.heap.size + 1, 2, none⟩ (.map (some W3.heap.size)) := ⟨_, rfl⟩
  have b5 : ∀ k, k ≠ w.heap.size → k ≠ w.heap.size + 1 → W5.heap[k]? = w4.heap[k]? := fun k h1 h2 => by rw [hW5, set_heap _ _ _ _ _ h2, set_heap _ _ _ _ _ h2, set_heap _ _ _ _ _ h2, set_heap _ _ _ _ _ h1]
  have z5 : W5.heap.size = w4.heap.size := by rw [hW5]; simp
  have oo : ∀ j, (w4.setCell ⟨w.heap.size, 2, none⟩ (.map (some W3.heap.size))).cell? ⟨w.heap.size + 1, j, none⟩ = w4.cell? ⟨w.heap.size + 1, j, none⟩ := fun j => World.cell?_of_block (set_heap _ _ _ _ _ hne)
  have d0 : W5.cell? ⟨w.heap.size + 1, 0, none⟩ = some (.slice ao' l cap') := by rw [hW5, set_off _ _ _ (by omega), set_off _ _ _ (by omega)]; exact set_same ((oo 0).trans o0)
  have d1 : W5.cell? ⟨w.heap.size + 1, 1, none⟩ = some (.int .i64 s) := by rw [hW5, set_off _ _ _ (by omega)]; exact set_same ((set_off _ _ _ (by omega)).trans ((oo 1).trans o1))
  have d2 : W5.cell? ⟨w.heap.size + 1, 2, none⟩ = some (.map (some W3.heap.size)) := by rw [hW5]; exact set_same ((set_off _ _ _ (by omega)).trans ((set_off _ _ _ (by omega)).trans ((oo 2).trans o2)))
  have hos : W5.os = w4.os ∧ W5.tape = w4.tape ∧ W5.output = w4.output := by rw [hW5]; exact ⟨rfl, rfl, rfl⟩
  rw [← hW5]
  have zz := HZ4.out; have z1 := Z1.out
  refine bodyPost_ret_by (results49 rfl d0 d1 d2) rfl ⟨ao', cap', W3.heap.size, rfl, row_stay hr4.out (fun a ha => b5 _ (by have := (hab2.out a ha).1; omega) (by have := (hab2.out a ha).1; omega)), map_stay hm4.out (b5 _ (by omega) (by omega)), fun a ha => ⟨by have := (hab2.out a ha).1; omega, by have := (hab2.out a ha).2; omega⟩, by omega, ?_⟩
  exact fr4.out.trans ⟨hos.1, hos.2.1, hos.2.2, by omega, fun k hk => b5 k (by omega) (by omega)⟩

end Go.Proofs.Ytkgenmooepfhjaa
