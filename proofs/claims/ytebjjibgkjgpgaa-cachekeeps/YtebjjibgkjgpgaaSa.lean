/- A cache and the document's side by side; what an act makes of one; no statement of the seat is proved here. -/
import Derived.Test.YtebjjibgkjgpgaaRn
import Derived.Test.YtebjjibgkjgpgaaRo
import Derived.Test.YtebjjibgkjgpgaaEf
import Derived.Test.YtebjjibgkjgpgaaFc
import Derived.Test.YtebjjibgkjgpgaaOa
namespace Go.Proofs.Ytebjjibgkjgpgaa
open Go.RowKit Go.Maps

theorem rput_call (m sb so cap : Nat) (R : RParts) (s : CS) (k : Int) (b : List Nat) (w : World) (h : RP w m R s) (h1 : 1 ≤ k) (hr : Rd w (some ⟨sb, so, none⟩) 512 cap b) (hsb : ¬ R.S m sb) (hn : R.ps.length < 1000000) (hnd : (s.l.map Row.page).Nodup) :
    Calls Try.prog 32 #[.pointer (some ⟨m, 0, none⟩), .int .i64 k, .slice (some ⟨sb, so, none⟩) 512 cap] w fun e w' => e = .returned (.int .i64 0) ∧ ∃ R', RStep w w' m R R' (s.put k b) := by
  cases ho : idx s.l k with
  | none => exact rput_none m sb so cap R.ps.length R s k b w h h1 hr hn rfl hnd ho
  | some i => exact rput_some m sb so cap i R s k b w h h1 hr hsb hn hnd ho

/-- What an act makes of a cache. -/
def CS.did (s : CS) (x : Av) : CS :=
  if x.k = 0 then (if x.p < 1 ∨ x.sh = true then s else s.put x.p (pageB x.s)) else if x.k = 1 then s.get x.p else if x.k = 3 then (s.pin x.p).1 else if x.k = 4 then (s.free x.p).1
  else if x.k = 5 then (s.mark x.p (decide (x.s % 2 = 0))).1 else if x.k = 6 then (s.drop x.p).1 else if x.k = 7 then s.clear else s

structure OkS (N : Nat) (s : CS) : Prop where
  len : s.l.length ≤ N
  hit : s.hit ≤ N
  miss : s.miss ≤ N
  pins : ∀ r ∈ s.l, r.pins ≤ N

theorem OkS.up {N M : Nat} {s : CS} (h : OkS N s) (hm : N ≤ M) : OkS M s := ⟨by have := h.len; omega, by have := h.hit; omega, by have := h.miss; omega, fun r hr => by have := h.pins r hr; omega⟩
theorem shedL_sub (p : Row → Bool) (n : Nat) (l : List Row) : (shedL p n l).Sublist l := by
  induction l generalizing n with
  | nil => cases n <;> simp [shedL]
  | cons r l ih =>
    cases n with
    | zero => simp [shedL]
    | succ n =>
      simp only [shedL]
      split
      · exact (ih n).cons r
      · exact (ih (n + 1)).cons_cons r
theorem OkS.sub {N : Nat} {s : CS} {l : List Row} (h : OkS N s) (hl : l.Sublist s.l) : OkS N { s with l := l } := ⟨by have := h.len; have := hl.length_le; simp only; omega, h.hit, h.miss, fun r hr => h.pins r (hl.mem hr)⟩
theorem rowFor_pins {N : Nat} {s : CS} (h : OkS N s) (k : Int) : (s.rowFor k).pins ≤ N := by
  unfold CS.rowFor
  cases hf : s.find k with
  | none => exact Nat.zero_le _
  | some r => exact h.pins r (List.mem_of_find?_eq_some hf)
theorem others_sub (s : CS) (k : Int) : (s.others k).Sublist s.l := List.filter_sublist
theorem OkS.put {N : Nat} {s : CS} (h : OkS N s) (k : Int) (b : List Nat) : OkS (N + 1) (s.put k b) := by
  have h1 : OkS (N + 1) { s with l := s.putL k b } := by
    refine ⟨?_, by have := h.hit; simp only; omega, by have := h.miss; simp only; omega, fun r hr => ?_⟩
    · have := (others_sub s k).length_le; have := h.len; simp only [CS.putL, List.length_append, List.length_cons, List.length_nil]; omega
    · rcases List.mem_append.1 hr with h2 | h2
      · have := h.pins r ((others_sub s k).mem h2); omega
      · simp at h2; rw [h2]; have := rowFor_pins h k; simp only; omega
  exact h1.sub (shedL_sub _ _ _)
theorem OkS.get {N : Nat} {s : CS} (h : OkS N s) (k : Int) : OkS (N + 1) (s.get k) := by
  unfold CS.get
  cases hf : s.find k with
  | none => exact ⟨by have := h.len; simp only; omega, by have := h.hit; simp only; omega, by have := h.miss; simp only; omega, fun r hr => by have := h.pins r hr; omega⟩
  | some r =>
    refine ⟨?_, by have := h.hit; simp only; omega, by have := h.miss; simp only; omega, fun q hq => ?_⟩
    · have := (others_sub s k).length_le; have := h.len; simp only [List.length_append, List.length_cons, List.length_nil]; omega
    · rcases List.mem_append.1 hq with h2 | h2
      · have := h.pins q ((others_sub s k).mem h2); omega
      · simp at h2; rw [h2]; have := h.pins r (List.mem_of_find?_eq_some hf); omega
theorem OkS.upd {N : Nat} {s : CS} (h : OkS N s) (k : Int) (f : Row → Row) (hf : ∀ r ∈ s.l, (f r).pins ≤ N + 1) : OkS (N + 1) (s.upd k f) := by
  refine ⟨by have := h.len; simp only [CS.upd, List.length_map]; omega, by have := h.hit; simp only [CS.upd]; omega, by have := h.miss; simp only [CS.upd]; omega, fun r hr => ?_⟩
  simp only [CS.upd, List.mem_map] at hr
  obtain ⟨q, hq, rfl⟩ := hr
  split
  · exact hf q hq
  · have := h.pins q hq; omega
theorem OkS.did {N : Nat} {s : CS} (h : OkS N s) (x : Av) : OkS (N + 1) (s.did x) := by
  have h0 : OkS (N + 1) s := h.up (by omega)
  unfold CS.did
  repeat' split
  · exact h0
  · exact h.put _ _
  · exact h.get _
  · unfold CS.pin; split
    · exact h0
    · exact h.upd _ _ (fun r hr => by have := h.pins r hr; simp only; omega)
  · unfold CS.free; split
    · exact h0
    · split
      · exact h0
      · exact h.upd _ _ (fun r hr => by have := h.pins r hr; simp only; omega)
  · unfold CS.mark; split
    · exact h0
    · exact h.upd _ _ (fun r hr => by have := h.pins r hr; simp only; omega)
  · unfold CS.drop; split
    · exact h0
    · split
      · exact h0.sub (others_sub s _)
      · exact h0
  · exact h0.sub (shedL_sub _ _ _)
  · exact h0

/-- A cache and the document's, made since w0. -/
structure Both (w0 W : World) (c m : Nat) (C : Parts) (R : RParts) (s t : CS) : Prop where
  cp : CP W c C s
  rp : RP W m R t
  cn : ∀ k, C.S c k → w0.heap.size ≤ k
  rn : ∀ k, R.S m k → w0.heap.size ≤ k
  bl : Below w0.heap.size w0 W
/-- An act that lies beside them. -/
def Box (xb : Nat) (x : Av) (W : World) : Prop := W.heap[xb]? = some (.cells (avV x).toArray 29 (0, 0))
section
variable {w0 W W' : World} {c m xb : Nat} {x : Av} {C C' : Parts} {R R' : RParts} {s t s' t' : CS}
theorem Both.later (h : Both w0 W c m C R s t) (hb : Below W.heap.size W W') : Both w0 W' c m C R s t := ⟨h.cp.later hb, h.rp.later hb, h.cn, h.rn, gt h.bl hb⟩
theorem Both.left (h : Both w0 W c m C R s t) (st : Step W W' c C C' s') : Both w0 W' c m C' R s' t := by
  refine ⟨st.cp, h.rp.beside h.cp st.fr, fun k hk => ?_, h.rn, ?_⟩
  · rcases st.gr k hk with h4 | h4
    · exact h.cn k h4
    · have := h.bl.size; omega
  · exact ((Fr.of_below (S := fun _ => False) h.bl).trans st.fr (fun j hj hs => by have := h.cn j hs; omega)).below
theorem Both.right (h : Both w0 W c m C R s t) (st : RStep W W' m R R' t') : Both w0 W' c m C R' s t' := by
  refine ⟨h.cp.beside h.rp st.fr, st.rp, h.cn, fun k hk => ?_, ?_⟩
  · rcases st.gr k hk with h4 | h4
    · exact h.rn k h4
    · have := h.bl.size; omega
  · exact ((Fr.of_below (S := fun _ => False) h.bl).trans st.fr (fun j hj hs => by have := h.rn j hs; omega)).below
theorem Box.lt (h : Box xb x W) : xb < W.heap.size := (Array.getElem?_eq_some_iff.1 h).1
theorem Box.later (h : Box xb x W) (hb : Below W.heap.size W W') : Box xb x W' := (hb.block _ h.lt).trans h
theorem Box.left (h : Box xb x W) (b : Both w0 W c m C R s t) (st : Step W W' c C C' s') : Box xb x W' := (st.fr.blk _ h.lt (fun hS => by
  rcases b.cp.kind hS with ⟨es, cl, h3⟩ | ⟨cur', t', h3, h4⟩
  · rw [h] at h3; cases h3
  · rw [h] at h3; cases h3; rcases h4 with h' | h' <;> exact absurd h' (by decide))).trans h
theorem Box.right (h : Box xb x W) (b : Both w0 W c m C R s t) (st : RStep W W' m R R' t') : Box xb x W' := (st.fr.blk _ h.lt (fun hS => by
  obtain ⟨cur, t', h1, h2⟩ := b.rp.kind (Or.inl hS)
  rw [h] at h1; cases h1; rcases h2 with h' | h' | h' <;> exact absurd h' (by decide))).trans h
theorem Box.cells (h : Box xb x W) : W.cell? ⟨xb, 0, none⟩ = some (.int .i64 x.k) ∧ W.cell? ⟨xb, 1, none⟩ = some (.int .i64 x.p) ∧ W.cell? ⟨xb, 2, none⟩ = some (.int .u8 (x.s : Int)) ∧ W.cell? ⟨xb, 3, none⟩ = some (.bool x.sh) := ⟨hd_cell h 0, hd_cell h 1, hd_cell h 2, hd_cell h 3⟩
theorem Box.new (W : World) (x : Av) : Box W.heap.size x (W.alloc (.cells #[.int .i64 x.k, .int .i64 x.p, .int .u8 (x.s : Int), .bool x.sh] 29)) := heap_alloc_new W _
end

set_option maxRecDepth 20000 in
set_option maxHeartbeats 1000000 in
theorem bytes_no (k p : Int) (s : Nat) (w : World) : Calls Try.prog 17 #[.agg #[.int .i64 k, .int .i64 p, .int .u8 (s : Int), .bool true]] w fun e w' => ∃ g, e = .returned (.slice (some ⟨g, 0, none⟩) 1 1) ∧ Below w.heap.size w w' := by
  go_enter Try.func17, Try.ntmps17
  go_wp2
  go_ret
  exact ⟨_, rfl, (by repeat (first | with_reducible exact Below.refl _ _ | with_reducible assumption | with_reducible refine Below.drew ?_ | with_reducible refine below_drewN ?_ _ | with_reducible refine Below.alloc ?_ (by simp <;> omega) _ | with_reducible refine Below.setCell ?_ (by simp <;> omega) _))⟩

set_option maxRecDepth 20000 in
set_option maxHeartbeats 1000000 in
theorem bytes_yes (k p : Int) (s : Nat) (w : World) : Calls Try.prog 17 #[.agg #[.int .i64 k, .int .i64 p, .int .u8 (s : Int), .bool false]] w fun e w' => ∃ g, w.heap.size ≤ g ∧ e = .returned (.slice (some ⟨g, 0, none⟩) 512 512) ∧ Rd w' (some ⟨g, 0, none⟩) 512 512 (pageB s) ∧ Below w.heap.size w w' := by
  have k1 := hid (fun w => page_any s w)
  go_enter Try.func17, Try.ntmps17
  go_wp2_with (go_at_call 20; refine (k1.out _).mono ?_; rintro e w1 ⟨_, rfl, hr, hb, _⟩; have HR := hid hr; have HB := hid hb; clear hr hb)
  go_ret
  exact ⟨_, by simp, rfl, by simpa using HR.out, gt ((Below.refl _ w).alloc (Nat.le_refl _) _) HB.out⟩

end Go.Proofs.Ytebjjibgkjgpgaa
