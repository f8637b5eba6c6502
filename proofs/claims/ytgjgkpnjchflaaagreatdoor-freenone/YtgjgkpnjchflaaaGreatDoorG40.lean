/- A heap's pager: blocks that must not turn, pages that are got; no statement of the seat is proved here. -/
import Derived.Test.YtgjgkpnjchflaaaGreatDoorG39
import Derived.Test.YtgjgkpnjchflaaaGreatDoorG35
namespace Go.Proofs.YtgjgkpnjchflaaaGreatDoor
open Go.RowKit Go.Maps
open Dsk (gt hid undrew keep_old keep_cell lt_cell Rd)
open Cch (Fr)
open Jrn (Pv2 Row5 numAt RB)

section
variable {arm : Prop} {room croom K : Nat} {p q : Nat} {R : Nat → Prop} {t : RS} {w : World}

/-- One block more that must not turn. -/
def Plus (R : Nat → Prop) (g : Nat) : Nat → Prop := fun b => R b ∨ b = g
theorem PrgAt.more {w' : World} {R' : Nat → Prop} (h : PrgAt arm room croom K w p q R t) (hb : Below w.heap.size w w') (hR : ∀ b, R' b → R b ∨ (w.heap.size ≤ b ∧ b < w'.heap.size)) : PrgAt arm room croom K w' p q R' t := by
  obtain ⟨x, P, C, d, s, n, enc, ms, h⟩ := h
  refine ⟨x, P, C, d, s, n, enc, ms, h.live.later hb, h.q, h.busy, h.com, h.mb, h.mr, fun b hb' hr => ?_, h.sure, h.env, h.ops, h.hm, h.rm, h.nk, h.nm, fun b hb' => ?_⟩
  · rcases hR b hr with h1 | h1
    · exact h.off b hb' h1
    · have := h.live.lt b hb'; omega
  · rcases hR b hb' with h1 | h1
    · exact Nat.lt_of_lt_of_le (h.rl b h1) hb.size
    · exact h1.2
theorem PrgAt.less {R' : Nat → Prop} (h : PrgAt arm room croom K w p q R t) (hR : ∀ b, R' b → R b) : PrgAt arm room croom K w p q R' t := h.more (Below.refl _ _) (fun b hb => Or.inl (hR b hb))
theorem PrgAt.keep {w' : World} (h : PrgAt arm room croom K w p q R t) (hb : Below w.heap.size w w') : PrgAt arm room croom K w' p q R t := h.more hb (fun _ h => Or.inl h)
theorem PrgAt.new {w' : World} {g : Nat} (h : PrgAt arm room croom K w p q R t) (hb : Below w.heap.size w w') (h1 : w.heap.size ≤ g) (h2 : g < w'.heap.size) : PrgAt arm room croom K w' p q (Plus R g) t := h.more hb (fun b hb => by rcases hb with hb | rfl; exact Or.inl hb; exact Or.inr ⟨h1, h2⟩)
/-- Blocks of the caller's own have turned. -/
theorem PrgAt.mine {w' : World} (h : PrgAt arm room croom K w p q R t) (hf : Fr R w w') : PrgAt arm room croom K w' p q R t := by
  obtain ⟨x, P, C, d, s, n, enc, ms, h⟩ := h
  exact ⟨x, P, C, d, s, n, enc, ms, h.live.off hf h.off, h.q, h.busy, h.com, h.mb, h.mr, h.off, h.sure, h.env, h.ops, h.hm, h.rm, h.nk, h.nm, fun b hb => Nat.lt_of_lt_of_le (h.rl b hb) hf.size⟩
theorem PrgAt.up {K' : Nat} (h : PrgAt arm room croom K w p q R t) (hk : K ≤ K') : PrgAt arm room croom K' w p q R t := by
  obtain ⟨x, P, C, d, s, n, enc, ms, h⟩ := h
  have hm : K * 1000 ≤ K' * 1000 := Nat.mul_le_mul_right _ hk
  exact ⟨x, P, C, d, s, n, enc, ms, h.live, h.q, h.busy, h.com, h.mb, h.mr, h.off, h.sure, h.env, Nat.le_trans h.ops hm, Nat.le_trans h.hm hm, h.rm, Nat.le_trans h.nk hk, fun k hk' => Nat.le_trans (h.nm k hk') hk, h.rl⟩
theorem PrgAt.lt (h : PrgAt arm room croom K w p q R t) {b : Nat} (hb : R b) : b < w.heap.size := by
  obtain ⟨x, P, C, d, s, n, enc, ms, h⟩ := h
  exact h.rl b hb

theorem prg_pages (h : PrgAt arm room croom K w p q R t) : Calls Tryz.prog 10 #[.pointer (some ⟨p, 0, none⟩)] w fun e w' => e = .returned (.int .i64 (t.pages.length : Int)) ∧ Below w.heap.size w w' := by
  obtain ⟨x, P, C, d, s, n, enc, ms, h⟩ := h
  have := pages_live p x w h.live.tx.core.hd
  rw [h.live.tx.np] at this
  exact this
theorem prg_busy (h : PrgAt arm room croom K w p q R t) : Calls Tryz.prog 85 #[.pointer (some ⟨p, 0, none⟩)] w fun e w' => e = .returned (.bool t.busy) ∧ Below w.heap.size w w' := by
  obtain ⟨x, P, C, d, s, n, enc, ms, h⟩ := h
  have := busy_live p x w h.live.tx.core.hd
  rw [h.busy] at this
  exact this
/-- A page that is got: its bytes are the caller's own. -/
theorem prg_get (i : Nat) (h : PrgAt arm room croom K w p q R t) (hi : i < t.pages.length) (hK : K ≤ 800) : Calls Tryz.prog 100 #[.pointer (some ⟨p, 0, none⟩), .int .i64 ((i + 1 : Nat) : Int)] w fun e w' => ∃ g cap, e = .returned (.tuple #[.slice (some ⟨g, 0, none⟩) 512 cap, .int .i64 0]) ∧ Row5 w' w.heap.size g cap (t.pages.getD i []) ∧ w.heap.size ≤ g ∧ PrgAt arm room croom (K + 1) w' p q (Plus R g) t ∧ Rok R w w' := by
  obtain ⟨x, P, C, d, s, n, enc, ms, h⟩ := h
  refine (get_own p i x P C d s t.sure n t.pages t.ch enc w h.live.tx hi (by rw [h.sure.f0]; rfl) h.env.on (by have := h.hm; have : K * 1000 ≤ 800 * 1000 := Nat.mul_le_mul_right _ hK; omega)).mono ?_
  rintro e w' ⟨a, cap, rfl, ⟨hr, ho⟩, ha, ⟨C', s', hT, hO, hM, hs, hrm⟩, hf⟩
  obtain ⟨a', cur, e1, e2, _, e3, _⟩ := row5 ho
  obtain rfl := Option.some.inj e1
  have ea : a = ⟨a.block, 0, none⟩ := by
    rcases ho.2 with ⟨h', _⟩ | ⟨g', cap', cur, h', _⟩
    · cases h'
    · simp only [Value.slice.injEq, Option.some.injEq] at h'
      rw [h'.1]
  obtain ⟨⟨P2, C2, s2, enc2, hl, hsup, hs2, hr2⟩, hfr⟩ := h.live.moved hT hM hf hs hrm
  have hmv := h.live.moved hT hM hf hs hrm
  obtain ⟨h1, h2⟩ := h.to (t' := t) hmv rfl rfl rfl rfl h.busy h.com h.mb h.mr h.sure h.env (by omega) (by omega) (by have := h.nk; omega) (fun k hk => by have := h.nm k hk; omega)
  rw [ea] at ho ⊢
  refine ⟨a.block, cap, rfl, ho, ha, ?_, h2⟩
  have hm : K * 1000 ≤ (K + 1) * 1000 := by omega
  have hLv : Live w' p x P C' d s' t.sure n t.pages t.ch enc ms := by
    obtain ⟨ho', _⟩ : (∀ b, Out w (NC p x P C) b → Out w' (NC p x P C') b) ∧ True := ⟨fun b hb => hM.out hf.size hb, trivial⟩
    exact ⟨hT, h.live.mks.move ⟨rfl, rfl, rfl, rfl⟩ (fun k hk => (h.live.mks.each k hk).2) ho' (fun b hb => ⟨fun o v hc => fr_cell hf hc hb.2, fun _ => hf.blk b hb.1 hb.2⟩) (mv_ne h.live.mks.row h.live.tx.chg.map), h.live.sep, fun b o l cc hb => ho' b (h.live.eb b o l cc hb), fun k hk b o l cc hb => ho' b (h.live.ek k hk b o l cc hb)⟩
  refine ⟨x, P, C', d, s', n, enc, ms, hLv, h.q, h.busy, h.com, h.mb, h.mr, fun b hb hR => ?_, h.sure, h.env, Nat.le_trans h.ops hm, by have := h.hm; omega, hrm.trans h.rm, by have := h.nk; omega, fun k hk => by have := h.nm k hk; omega, fun b hb => ?_⟩
  · rcases hb with hb | hb
    · rcases hR with hR | rfl
      · rcases hM b hb with h5 | h5
        · exact h.off b (Or.inl h5) hR
        · have := h.rl b hR; omega
      · exact hO.2 hb
    · rcases hR with hR | rfl
      · exact h.off b (Or.inr hb) hR
      · have : a.block < w.heap.size := h.live.lt a.block (Or.inr hb)
        omega
  · rcases hb with hb | rfl
    · exact Nat.lt_of_lt_of_le (h.rl b hb) hf.size
    · exact hO.1
end
end Go.Proofs.YtgjgkpnjchflaaaGreatDoor

/- What a heap asks of its pager: whether it may be changed, pages; no statement of the seat is proved here. -/
namespace Go.Proofs.YtgjgkpnjchflaaaGreatDoor
open Go.RowKit Go.Maps
open Dsk (gt hid undrew keep_old keep_cell lt_cell Rd)
open Cch (Fr)
open Jrn (Pv2 Row5 numAt RB fr_two)

section
variable {arm : Prop} {room croom K : Nat} {p q : Nat} {R : Nat → Prop} {t : RS} {w : World}

/-- A heap in memory. -/
def HeapAt (w : World) (hb p : Nat) : Prop := w.heap[hb]? = some (.cells #[.pointer (some ⟨p, 0, none⟩)] 63 (0, 0))
theorem HeapAt.cell {w : World} {hb p : Nat} (h : HeapAt w hb p) : w.cell? ⟨hb, 0, none⟩ = some (.pointer (some ⟨p, 0, none⟩)) := by
  unfold HeapAt at h; simp [World.cell?, h]
theorem HeapAt.lt {w : World} {hb p : Nat} (h : HeapAt w hb p) : hb < w.heap.size := (Array.getElem?_eq_some_iff.1 h).1
theorem HeapAt.keep {w w' : World} {hb p : Nat} (h : HeapAt w hb p) (b : Below w.heap.size w w') : HeapAt w' hb p := (b.block hb h.lt).trans h
theorem HeapAt.fr {E : Nat → Prop} {w w' : World} {hb p : Nat} (h : HeapAt w hb p) (f : Fr E w w') (hE : ¬ E hb) : HeapAt w' hb p := (f.blk hb h.lt hE).trans h
theorem HeapAt.rok {R : Nat → Prop} {w w' : World} {hb p : Nat} (h : HeapAt w hb p) (f : Rok R w w') (hR : R hb) : HeapAt w' hb p := (f.at_ hR h.lt).trans h

theorem Rok.of_below {w w' : World} (h : Below w.heap.size w w') : Rok R w w' := Fr.of_below h
theorem Rok.after {R' : Nat → Prop} {w w0 w1 : World} (h0 : Below w.heap.size w w0) (h1 : Rok R' w0 w1) (hR : ∀ b, R b → R' b) : Rok R w w1 := (Fr.of_below h0).trans h1 (fun j _ hj => ⟨fun h => hj.1 (hR j h), hj.2⟩)
theorem Rok.then {R' : Nat → Prop} {w w1 w2 : World} (h : Rok R w w1) (k : Rok R' w1 w2) (hR : ∀ b, R b → R' b) : Rok R w w2 := h.trans k (fun j _ hj => ⟨fun h => hj.1 (hR j h), hj.2⟩)
theorem Rok.mine {S : Nat → Prop} {w w1 w2 : World} (h : Rok R w w1) (k : Fr S w1 w2) (hS : ∀ b, S b → w.heap.size ≤ b) : Rok R w w2 := h.trans k (fun j hj h => by have := hS j h; omega)
theorem Rok.below {w w1 w2 : World} (h : Rok R w w1) (k : Below w1.heap.size w1 w2) : Rok R w w2 := h.trans (Fr.of_below (S := fun _ => False) k) (fun _ _ h => h.elim)

set_option maxHeartbeats 1000000 in
theorem has_any8 (hb : Nat) (n : Int) (h : PrgAt arm room croom K w p q R t) (hh : HeapAt w hb p) :
    Calls Tryz.prog 37 #[.pointer (some ⟨hb, 0, none⟩), .int .i64 n] w fun e w' => e = .returned (.bool (decide (1 < n) && decide (n ≤ (t.pages.length : Int)))) ∧ Below w.heap.size w w' := by
  have c := hh.cell
  have CP := hid (prg_pages h)
  clear h hh
  generalize (t.pages.length : Int) = L at *
  by_cases h1 : 1 < n
  · rw [show (decide (1 < n) && decide (n ≤ L)) = decide (n ≤ L) by simp [h1]]
    go_enter Tryz.func37, Tryz.ntmps37
    go_wp2_with (go_at_call 10; refine CP.out.mono ?_; rintro e w1 ⟨rfl, hb1⟩; have B1 := hid hb1; clear hb1)
    go_ret
    exact ⟨rfl, B1.out⟩
  · rw [show (decide (1 < n) && decide (n ≤ L)) = false by simp [h1]]
    go_enter Tryz.func37, Tryz.ntmps37
    go_wp2
    go_ret
    exact ⟨rfl, Below.refl _ _⟩

set_option maxHeartbeats 1000000 in
theorem within_yes (h : PrgAt arm room croom K w p q R t) (hb : t.busy = true) :
    Calls Tryz.prog 45 #[.pointer (some ⟨p, 0, none⟩)] w fun e w' => e = .returned (.int .i64 0) ∧ Below w.heap.size w w' := by
  have CB := hid (prg_busy h)
  rw [hb] at CB
  clear h
  go_enter Tryz.func45, Tryz.ntmps45
  go_wp2_with (go_at_call 85; refine CB.out.mono ?_; rintro e w1 ⟨rfl, hb1⟩; have B1 := hid hb1; clear hb1)
  go_ret
  exact ⟨rfl, B1.out⟩

theorem agg81 (W : World) : (isAgg 81).run Tryz.prog W = .ok true W := by kernel_rfl
theorem size81 (W : World) : (Go.sizeOf 81).run Tryz.prog W = .ok 2 W := by kernel_rfl
theorem agg83 (W : World) : (isAgg 83).run Tryz.prog W = .ok true W := by kernel_rfl
theorem size83 (W : World) : (Go.sizeOf 83).run Tryz.prog W = .ok 2 W := by kernel_rfl
theorem agg118 (W : World) : (isAgg 118).run Tryz.prog W = .ok true W := by kernel_rfl
theorem size118 (W : World) : (Go.sizeOf 118).run Tryz.prog W = .ok 2 W := by kernel_rfl

set_option maxHeartbeats 1000000 in
theorem hget_yes (hb i : Nat) (h : PrgAt arm room croom K w p q R t) (hh : HeapAt w hb p) (hi : i < t.pages.length) (hK : K ≤ 800) :
    Calls Tryz.prog 63 #[.pointer (some ⟨hb, 0, none⟩), .int .i64 ((i + 1 : Nat) : Int)] w fun e w' => ∃ g cap, e = .returned (.tuple #[Pv2 ((i + 1 : Nat) : Int) g 0 cap, .int .i64 0]) ∧ Row5 w' w.heap.size g cap (t.pages.getD i []) ∧ w.heap.size ≤ g ∧ PrgAt arm room croom (K + 1) w' p q (Plus R g) t ∧ Rok R w w' := by
  have B0 := hid (show Below w.heap.size w (w.alloc (.cells #[.int .i64 0, .slice none 0 0] 81)) from Below.alloc (Below.refl _ _) (Nat.le_refl _) _)
  have C1 := hid (prg_get i (h.new B0.out (Nat.le_refl _) (by simp)) hi hK)
  have HX := hid (RB.new 81 w 0 none 0 0)
  have c0 := (hh.keep B0.out).cell
  generalize ((i + 1 : Nat) : Int) = z at *
  clear h hh
  unfold Pv2
  go_enter Tryz.func63, Tryz.ntmps63
  go_wp2_with (go_at_call 100; refine C1.out.mono ?_; rintro e w1 ⟨g, cap, rfl, hr, hg, hP, hok⟩; have R1 := hid hr; have HG := hid hg; have P1 := hid hP; have K1 := hid hok; have X1 := hid (show RB 81 w1 w.heap.size 0 none 0 0 from (hok.at_ (Or.inr rfl) (by simp)).trans HX.out); obtain ⟨x0, x1, x2, x3⟩ := X1.out.cells; clear hr hg hP hok)
  refine bodyPost_ret (Jrn.ret_rec rfl agg81 size81 rfl (RB.set X1.out _ _ _ _)) rfl ?_
  have hz : w.heap.size + 1 ≤ g := by have := HG.out; simpa using this
  refine ⟨g, cap, rfl, (R1.out.fr (fr_two _ _ _ _) (by omega)).base (by simp), by omega, ?_, ?_⟩
  · exact (P1.out.mine (fr_imp (fr_two w1 w.heap.size _ _) (fun b hb => Or.inl (Or.inr hb)))).less (fun b hb => by rcases hb with hb | hb; exact Or.inl (Or.inl hb); exact Or.inr hb)
  · exact (Rok.after B0.out K1.out (fun b hb => Or.inl hb)).mine (fr_two w1 w.heap.size _ _) (fun b hb => by omega)

set_option maxHeartbeats 1000000 in
theorem hget_no (hb : Nat) (z : Int) (h : PrgAt arm room croom K w p q R t) (hh : HeapAt w hb p) (hz : (decide (1 ≤ z) && decide (z ≤ (t.pages.length : Int))) = false) :
    Calls Tryz.prog 63 #[.pointer (some ⟨hb, 0, none⟩), .int .i64 z] w fun e w' => e = .returned (.tuple #[.agg #[.int .i64 z, .slice none 0 0], .int .i64 11]) ∧ PrgAt arm room croom (K + 1) w' p q R t ∧ Rok R w w' := by
  have B0 := hid (show Below w.heap.size w (w.alloc (.cells #[.int .i64 0, .slice none 0 0] 81)) from Below.alloc (Below.refl _ _) (Nat.le_refl _) _)
  have C1 := hid (prg_get_range z (h.new B0.out (Nat.le_refl _) (by simp)) hz)
  have HX := hid (RB.new 81 w 0 none 0 0)
  have c0 := (hh.keep B0.out).cell
  clear h hh hz
  go_enter Tryz.func63, Tryz.ntmps63
  go_wp2_with (go_at_call 100; refine C1.out.mono ?_; rintro e w1 ⟨rfl, hP, hok⟩; have P1 := hid hP; have K1 := hid hok; have X1 := hid (show RB 81 w1 w.heap.size 0 none 0 0 from (hok.at_ (Or.inr rfl) (by simp)).trans HX.out); obtain ⟨x0, x1, x2, x3⟩ := X1.out.cells; clear hP hok)
  refine bodyPost_ret (Jrn.ret_rec rfl agg81 size81 rfl (RB.set X1.out _ _ _ _)) rfl ?_
  refine ⟨rfl, ?_, ?_⟩
  · exact (P1.out.mine (fr_imp (fr_two w1 w.heap.size _ _) (fun b hb => Or.inr hb))).less (fun b hb => Or.inl hb)
  · exact (Rok.after B0.out K1.out (fun b hb => Or.inl hb)).mine (fr_two w1 w.heap.size _ _) (fun b hb => by omega)

set_option maxHeartbeats 1000000 in
/-- The first page, for a call that changes nothing. -/
theorem root_yes (hb : Nat) (h : PrgAt arm room croom K w p q R t) (hh : HeapAt w hb p) (hi : 0 < t.pages.length) (hK : K ≤ 800) :
    Calls Tryz.prog 31 #[.pointer (some ⟨hb, 0, none⟩)] w fun e w' => ∃ g cap, e = .returned (.tuple #[Pv2 1 g 0 cap, .int .i64 0]) ∧ Row5 w' w.heap.size g cap (t.pages.getD 0 []) ∧ w.heap.size ≤ g ∧ PrgAt arm room croom (K + 1) w' p q (Plus R g) t ∧ Rok R w w' := by
  have B0 := hid (show Below w.heap.size w (w.alloc (.cells #[.int .i64 0, .slice none 0 0] 83)) from Below.alloc (Below.refl _ _) (Nat.le_refl _) _)
  have C1 := hid (hget_yes hb 0 (h.new B0.out (Nat.le_refl _) (by simp)) (hh.keep B0.out) hi hK)
  have HX := hid (RB.new 83 w 0 none 0 0)
  have HL := hid hh.lt
  clear h hh
  unfold Pv2 at *
  go_enter Tryz.func31, Tryz.ntmps31
  go_wp2_with (go_at_call 63; refine C1.out.mono ?_; rintro e w1 ⟨g, cap, rfl, hr, hg, hP, hok⟩; have R1 := hid hr; have HG := hid hg; have P1 := hid hP; have K1 := hid hok; have X1 := hid ((show RB 83 w1 w.heap.size 0 none 0 0 from (hok.at_ (Or.inr rfl) (by simp)).trans HX.out).keep (Below.alloc (Below.refl _ _) (Nat.le_refl _) (.cells #[.int .i64 1, .slice (some ⟨g, 0, none⟩) 512 cap] 81))); obtain ⟨x0, x1, x2, x3⟩ := X1.out.cells; have S1 := hid hok.size; clear hr hg hP hok)
  refine bodyPost_ret (Jrn.ret_rec rfl agg83 size83 rfl (RB.set X1.out _ _ _ _)) rfl ?_
  have hz : w.heap.size + 1 ≤ g := by have := HG.out; simpa using this
  have BA : Below w1.heap.size w1 (w1.alloc (.cells #[.int .i64 1, .slice (some ⟨g, 0, none⟩) 512 cap] 81)) := Below.alloc (Below.refl _ _) (Nat.le_refl _) _
  refine ⟨g, cap, rfl, ((R1.out.keep BA).fr (fr_two _ _ _ _) (by omega)).base (by simp), by omega, ?_, ?_⟩
  · exact ((P1.out.keep BA).mine (fr_imp (fr_two _ w.heap.size _ _) (fun b hb => Or.inl (Or.inr hb)))).less (fun b hb => by rcases hb with hb | hb; exact Or.inl (Or.inl hb); exact Or.inr hb)
  · exact ((Rok.after B0.out K1.out (fun b hb => Or.inl hb)).below BA).mine (fr_two _ w.heap.size _ _) (fun b hb => by omega)

set_option maxHeartbeats 1000000 in
theorem root_no (hb : Nat) (h : PrgAt arm room croom K w p q R t) (hh : HeapAt w hb p) (hi : t.pages.length = 0) :
    Calls Tryz.prog 31 #[.pointer (some ⟨hb, 0, none⟩)] w fun e w' => e = .returned (.tuple #[.agg #[.int .i64 1, .slice none 0 0], .int .i64 11]) ∧ PrgAt arm room croom (K + 1) w' p q R t ∧ Rok R w w' := by
  have B0 := hid (show Below w.heap.size w (w.alloc (.cells #[.int .i64 0, .slice none 0 0] 83)) from Below.alloc (Below.refl _ _) (Nat.le_refl _) _)
  have C1 := hid (hget_no hb 1 (h.new B0.out (Nat.le_refl _) (by simp)) (hh.keep B0.out) (by rw [hi]; rfl))
  have HX := hid (RB.new 83 w 0 none 0 0)
  have HL := hid hh.lt
  clear h hh
  go_enter Tryz.func31, Tryz.ntmps31
  go_wp2_with (go_at_call 63; refine C1.out.mono ?_; rintro e w1 ⟨rfl, hP, hok⟩; have P1 := hid hP; have K1 := hid hok; have X1 := hid ((show RB 83 w1 w.heap.size 0 none 0 0 from (hok.at_ (Or.inr rfl) (by simp)).trans HX.out).keep (Below.alloc (Below.refl _ _) (Nat.le_refl _) (.cells #[.int .i64 1, .slice none 0 0] 81))); obtain ⟨x0, x1, x2, x3⟩ := X1.out.cells; clear hP hok)
  refine bodyPost_ret (Jrn.ret_rec rfl agg83 size83 rfl (RB.set X1.out _ _ _ _)) rfl ?_
  have BA : Below w1.heap.size w1 (w1.alloc (.cells #[.int .i64 1, .slice none 0 0] 81)) := Below.alloc (Below.refl _ _) (Nat.le_refl _) _
  refine ⟨rfl, ?_, ?_⟩
  · exact ((P1.out.keep BA).mine (fr_imp (fr_two _ w.heap.size _ _) (fun b hb => Or.inr hb))).less (fun b hb => Or.inl hb)
  · exact ((Rok.after B0.out K1.out (fun b hb => Or.inl hb)).below BA).mine (fr_two _ w.heap.size _ _) (fun b hb => by omega)

set_option maxHeartbeats 1000000 in
/-- The first page, for a call in a transaction. -/
theorem changing_yes (hb : Nat) (h : PrgAt arm room croom K w p q R t) (hh : HeapAt w hb p) (hbz : t.busy = true) (hi : 0 < t.pages.length) (hK : K ≤ 800) :
    Calls Tryz.prog 34 #[.pointer (some ⟨hb, 0, none⟩)] w fun e w' => ∃ g cap, e = .returned (.tuple #[Pv2 1 g 0 cap, .int .i64 0]) ∧ Row5 w' w.heap.size g cap (t.pages.getD 0 []) ∧ w.heap.size ≤ g ∧ PrgAt arm room croom (K + 1) w' p q (Plus R g) t ∧ Rok R w w' := by
  have B0 := hid (show Below w.heap.size w (w.alloc (.cells #[.int .i64 0, .slice none 0 0] 83)) from Below.alloc (Below.refl _ _) (Nat.le_refl _) _)
  have P0 := hid (h.new B0.out (Nat.le_refl _) (by simp))
  have CW := hid (within_yes P0.out hbz)
  have C1 := hid (fun W (hW : Below (w.alloc (.cells #[.int .i64 0, .slice none 0 0] 83)).heap.size (w.alloc (.cells #[.int .i64 0, .slice none 0 0] 83)) W) => root_yes hb (P0.out.keep hW) ((hh.keep B0.out).keep hW) hi hK)
  have HX := hid (RB.new 83 w 0 none 0 0)
  have c0 := (hh.keep B0.out).cell
  clear h hh
  unfold Pv2 at *
  go_enter Tryz.func34, Tryz.ntmps34
  go_wp2_with (first
    | (go_at_call 45; refine CW.out.mono ?_; rintro e w0 ⟨rfl, hb0⟩; have B1 := hid hb0; clear hb0)
    | (go_at_call 31; refine (C1.out w0 B1.out).mono ?_; rintro e w1 ⟨g, cap, rfl, hr, hg, hP, hok⟩; have R1 := hid hr; have HG := hid hg; have P1 := hid hP; have K1 := hid hok; have X1 := hid (show RB 83 w1 w.heap.size 0 none 0 0 from (hok.at_ (Or.inr rfl) (HX.out.keep B1.out).lt).trans (HX.out.keep B1.out)); obtain ⟨x0, x1, x2, x3⟩ := X1.out.cells; clear hr hg hP hok))
  refine bodyPost_ret (Jrn.ret_rec rfl agg83 size83 rfl (RB.set X1.out _ _ _ _)) rfl ?_
  have hz : w.heap.size + 1 ≤ g := by have := HG.out; have h2 := B1.out.size; simp at h2; omega
  refine ⟨g, cap, rfl, (R1.out.fr (fr_two _ _ _ _) (by omega)).base (by have h2 := B1.out.size; simp at h2; omega), by omega, ?_, ?_⟩
  · exact (P1.out.mine (fr_imp (fr_two _ w.heap.size _ _) (fun b hb => Or.inl (Or.inr hb)))).less (fun b hb => by rcases hb with hb | hb; exact Or.inl (Or.inl hb); exact Or.inr hb)
  · exact (Rok.after (gt B0.out B1.out) K1.out (fun b hb => Or.inl hb)).mine (fr_two _ w.heap.size _ _) (fun b hb => by omega)
end
end Go.Proofs.YtgjgkpnjchflaaaGreatDoor
