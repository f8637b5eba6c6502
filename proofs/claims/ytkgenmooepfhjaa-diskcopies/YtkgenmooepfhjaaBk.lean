/- The document's example is as it says; no statement of the seat is proved here. -/
import Derived.Test.YtkgenmooepfhjaaBj
namespace Go.Proofs.Ytkgenmooepfhjaa
open Go.RowKit Go.Maps

theorem below_df {B p : Nat} {w W W' : World} {S : Nat → Prop} (hb : Below B w W) (hf : DFrame W W' p S) (hBs : B ≤ W.heap.size) (hp : B ≤ p) (hS : ∀ k, S k → B ≤ k) : Below B w W' :=
  hb.trans ⟨hf.os, hf.tape, hf.output, hf.size, fun k hk => hf.block k (by omega) (by omega) (fun h => by have := hS k h; omega)⟩

def exD : DS := startD (crashD (writeD (newD 9) 0 0 (secB 2 7)).2 [true, false] 5)
theorem ex_facts : (writeD (newD 9) 0 0 (secB 2 7)).1 = 0 ∧ (writeD (newD 9) 0 0 (secB 2 7)).2.off = false ∧ (readD exD 0 0 2).1.length = 256 ∧ (readD exD 0 0 2).2 = 0 ∧ (readD exD 0 0 2).1.getD 127 0 = 7 ∧ (readD exD 0 0 2).1.getD 132 0 = 8 ∧ (readD exD 0 0 2).1.getD 133 0 = 0 := by
  refine ⟨?_, ?_, ?_, ?_, ?_, ?_, ?_⟩ <;> decide +kernel

theorem Grew.base {P P' : Parts} {w : World} {B : Nat} (h : Grew P w P') (hP : ∀ k, P.all k → B ≤ k) (hw : B ≤ w.heap.size) : ∀ k, P'.all k → B ≤ k := fun k hk => by
  rcases h k hk with h | h
  · exact hP k h
  · omega

theorem cnt_le (n : Int) : cntN n ≤ 40 := by unfold cntN; split <;> omega

/-- Write, of sectors that were just made. -/
theorem write_secs (p : Nat) (P : Parts) (d : DS) (f at_ : Int) (k seed g B : Nat) (w : World) (h : DiskP w p P d) (hop : d.ops < 1000000000) (hk : k ≤ 40)
    (ho : w.ownsRow B 5 1 (.slice (some ⟨g, 0, none⟩) (k * 128) (k * 128)) (k * 128) (bs (secB k seed).flatten)) (hg : ¬ P.all g) (hgp : g ≠ p) :
    Calls Try.prog 16 #[.pointer (some ⟨p, 0, none⟩), .int .i64 f, .int .i64 at_, .slice (some ⟨g, 0, none⟩) (k * 128) (k * 128)] w fun e w' => e = .returned (.int .i64 (writeD d f at_ (secB k seed)).1) ∧ (∃ P', DiskP w' p P' (writeD d f at_ (secB k seed)).2 ∧ Grew P w P') ∧ DFrame w w' p P.all :=
  write_call p P d f at_ _ _ _ (secB k seed) w h hop (secB_sn k seed) (by rw [secB_len]; omega) (by rw [secB_len]) (fun w' hf => rd_own (row_stay ho (fun a ha => by
    cases ha
    exact hf.block g (row_lt ho _ rfl) hgp hg)))

theorem all_lt {w : World} {p : Nat} {P : Parts} {d : DS} (h : DiskP w p P d) {k : Nat} (hk : P.all k) : k < w.heap.size := by
  rcases hk with h1 | h1 | h1
  · exact h.b0 k h1
  · exact h.b1 k h1
  · exact h.bk k h1

theorem p_lt {w : World} {p : Nat} {P : Parts} {d : DS} (h : DiskP w p P d) : p < w.heap.size := h.f0.plt

theorem rdB2 (W : World) : RdB (W.alloc (.cells #[.bool true, .bool false] 4)) (some ⟨W.heap.size, 0, none⟩) [true, false] := by
  intro _
  refine ⟨_, _, rfl, fun t ht => ?_⟩
  rw [Nat.zero_add, World.cell?_alloc_at _ _ _ _ rfl]
  rcases t with _ | _ | t
  · rfl
  · rfl
  · exact absurd ht (by simp)

set_option maxHeartbeats 4000000 in
theorem lives_any (w : World) : Calls Try.prog 9 #[] w fun e w' => e = .returned (.bool true) ∧ Below w.heap.size w w' := by
  have c10 := hid (new_yes 9 w (by omega) (by omega))
  obtain ⟨x1, x2, x3, x4, x5, x6, x7⟩ := ex_facts
  have X1 := hid x1; have X2 := hid x2; have X3 := hid x3; have X4 := hid x4; have X5 := hid x5; have X6 := hid x6; have X7 := hid x7
  clear x1 x2 x3 x4 x5 x6 x7
  obtain ⟨p, hp⟩ : ∃ p, p = w.heap.size := ⟨_, rfl⟩
  rw [← hp] at c10
  have HP := hid hp
  clear hp
  go_enter Try.func9, Try.ntmps9
  go_wp2_with (first
    | (go_at_call 10; refine c10.out.mono ?_; rintro e w1 ⟨rfl, ⟨P1, hd1, ha1⟩, hb1⟩; clear c10; replace hd1 := hid hd1; replace ha1 := hid ha1; replace hb1 := hid hb1)
    | (go_at_call 17; refine (sectors_any 2 7 w1 (by omega)).mono ?_; rintro e w2 ⟨rfl, ho2, hb2⟩; replace ho2 := hid ho2; replace hb2 := hid hb2)
    | (go_at_call 16; have hd2 := hd1.out.later hb2.out; have hpl := p_lt hd1.out; refine (write_secs p P1 (newD 9) 0 0 2 7 w1.heap.size w1.heap.size w2 hd2 (by simp [newD]) (by omega) ho2.out (fun h => by have := all_lt hd1.out h; omega) (by omega)).mono ?_; rw [X1.out]; rintro e w3 ⟨rfl, ⟨P3, hd3, hg3⟩, hf3⟩; have hb3 := below_df (hb1.out.trans (hb2.out.mono (Nat.le_of_lt hpl))) hf3 (Nat.le_trans (Nat.le_of_lt hpl) hb2.out.size) (Nat.le_refl p) (fun k hk => Nat.le_of_lt (ha1.out k hk)); have ha3 := hg3.base (fun k hk => Nat.le_of_lt (ha1.out k hk)) (Nat.le_trans (Nat.le_of_lt hpl) hb2.out.size); replace hd3 := hid hd3; replace hb3 := hid hb3; replace ha3 := hid ha3; clear hd1 ha1 hb1 hd2 hf3 hg3 ho2 hb2 hpl)
    | (go_at_call 21; have hb4 : Below w3.heap.size w3 (w3.alloc (.cells #[.bool true, .bool false] 4)) := (Below.refl _ _).alloc (Nat.le_refl _) _; have hd4 := hd3.out.later hb4; have hpl := p_lt hd3.out; have hrd := rdB2 w3; refine (crash_on p P3 _ (some ⟨w3.heap.size, 0, none⟩) 2 [true, false] 5 _ hd4 X2.out hrd (by decide) (by omega) (fun _ a ha => by cases ha; exact ⟨fun h => Nat.lt_irrefl _ (hd3.out.b0 _ h), fun h => Nat.lt_irrefl _ (hd3.out.b1 _ h), by show w3.heap.size ≠ p; omega⟩)).mono ?_; rintro e w5 ⟨rfl, ⟨P5, hd5, hg5⟩, hf5⟩; have hb5 := below_df (hb3.out.trans (hb4.mono (Nat.le_of_lt hpl))) hf5 (Nat.le_trans (Nat.le_of_lt hpl) hb4.size) (Nat.le_refl p) ha3.out; have ha5 := hg5.base ha3.out (Nat.le_trans (Nat.le_of_lt hpl) hb4.size); replace hd5 := hid hd5; replace hb5 := hid hb5; replace ha5 := hid ha5; clear hd3 ha3 hb3 hd4 hf5 hg5 hrd hb4 hpl)
    | (go_at_call 22; have hpl := p_lt hd5.out; refine (start_any p P5 _ w5 hd5.out).mono ?_; rintro e w6 ⟨rfl, ⟨P6, hd6, hg6⟩, hf6⟩; have hb6 := below_df hb5.out hf6 (Nat.le_of_lt hpl) (Nat.le_refl p) (fun k hk => hk.elim); replace hd6 := hid hd6; replace hb6 := hid hb6; clear hd5 ha5 hb5 hf6 hg6 hpl)
    | (go_at_call 14; have hpl := p_lt hd6.out; have crd := read_call p P6 exD 0 0 2 w6 hd6.out (by omega) (by omega); rw [X3.out, X4.out] at crd; refine crd.mono ?_; rintro e w7 ⟨ro, rc, rfl, hrd7, _, hb7⟩; obtain ⟨rb, rf, rfl, hc7⟩ := hrd7.2.2.2 (by omega); have k1 := hc7 127 (by omega); have k2 := hc7 132 (by omega); have k3 := hc7 133 (by omega); rw [X5.out] at k1; rw [X6.out] at k2; rw [X7.out] at k3; replace hb7 := hid (hb6.out.trans (hb7.mono (Nat.le_of_lt hpl))); clear crd hc7 hrd7 hd6 hb6 hpl))
  go_ret
  rw [← HP.out]
  exact ⟨rfl, hb7.out⟩

end Go.Proofs.Ytkgenmooepfhjaa
