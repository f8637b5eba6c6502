/- Which pages may go; a page turns; a copy of bytes; no statement of the seat is proved here. -/
import Derived.Test.YtebjjibgkjgpgaaDd
namespace Go.Proofs.Ytebjjibgkjgpgaa
open Go.RowKit Go.Maps

def p56 (r : Row) : Bool := decide (r.pins = 0)
def p52 (k : Int) (r : Row) : Bool := decide (r.page ≠ k) && (decide (r.pins = 0) && !r.dirty)

set_option maxHeartbeats 1000000 in
theorem which56 (b : Nat) (x : Ent) (w : World) (h : EntAt w b x) : Calls Try.prog 56 #[.pointer (some ⟨b, 0, none⟩)] w fun e w' => e = .returned (.bool (p56 x.row)) ∧ w' = w := by
  have c1 := h.pins
  clear h
  go_enter Try.func56, Try.ntmps56
  go_wp2
  go_ret
  refine ⟨?_, rfl⟩
  show Ending.returned (Value.bool _) = _
  congr 2
  unfold p56
  cases x.row.pins with
  | zero => rfl
  | succ n => simp; omega

set_option maxHeartbeats 1000000 in
theorem which52_same (e eb : Nat) (w : World) (hc : w.cell? ⟨eb, 0, none⟩ = some (.pointer (some ⟨e, 0, none⟩))) :
    Calls Try.prog 52 #[.pointer (some ⟨e, 0, none⟩), .pointer (some ⟨eb, 0, none⟩)] w fun r w' => r = .returned (.bool false) ∧ w' = w := by
  have h1 := ptr_eq w e
  go_enter Try.func52, Try.ntmps52
  go_wp2
  go_ret
  exact ⟨rfl, rfl⟩
set_option maxHeartbeats 1000000 in
theorem which52_else (b e eb : Nat) (x y : Ent) (w : World) (hb : EntAt w b x) (he : EntAt w e y) (hne : b ≠ e) (hc : w.cell? ⟨eb, 0, none⟩ = some (.pointer (some ⟨e, 0, none⟩))) :
    Calls Try.prog 52 #[.pointer (some ⟨b, 0, none⟩), .pointer (some ⟨eb, 0, none⟩)] w fun r w' => r = .returned (.bool (decide (x.row.pins = 0) && !x.row.dirty)) ∧ w' = w := by
  have h1 := ptr_ne hb he hne
  have c1 := hb.pins; have c2 := hb.dirty
  clear hb he
  rcases Nat.eq_zero_or_pos x.row.pins with hz | hz
  · rw [hz] at c1 ⊢
    simp only [Int.ofNat_zero] at c1
    cases hd : x.row.dirty
    · rw [hd] at c2
      go_enter Try.func52, Try.ntmps52
      go_wp2
      go_ret
      exact ⟨rfl, rfl⟩
    · rw [hd] at c2
      go_enter Try.func52, Try.ntmps52
      go_wp2
      go_ret
      exact ⟨rfl, rfl⟩
  · have h2 : ¬ x.row.pins = 0 := by omega
    have h3 : ¬ (x.row.pins : Int) = 0 := by omega
    have e1 : (decide (x.row.pins = 0) && !x.row.dirty) = false := by simp [h2]
    rw [e1]
    go_enter Try.func52, Try.ntmps52
    go_wp2
    go_ret
    exact ⟨rfl, rfl⟩

/-! ### a page turns in its place -/

theorem chain_upd {E : Nat → Ent} {e : Nat} {x : Ent} (hb : x.bef = (E e).bef) (ha : x.aft = (E e).aft) {l : List Nat} (h : Chain E l) : Chain (upd E e x) l := by
  refine h.stay (fun b _ => ?_) (fun b _ => ?_)
  · unfold upd; split
    · rename_i h1; rw [h1]; exact ha
    · rfl
  · unfold upd; split
    · rename_i h1; rw [h1]; exact hb
    · rfl

theorem CP.turn {w w' : World} {c e : Nat} {C : Parts} {s : CS} (h : CP w c C s) (he : e ∈ C.ks) {x : Ent} (hx : EntAt w' e x) (hb : x.bef = (C.E e).bef) (ha : x.aft = (C.E e).aft) (hp : x.row.page = (C.E e).row.page)
    (hblk : ∀ k, k < w.heap.size → C.S c k → k ≠ e → w'.heap[k]? = w.heap[k]?) : CP w' c { C with E := upd C.E e x } { s with l := rowsOf C.ks (upd C.E e x) } := by
  have hch : e ≠ c := fun h0 => h.nc (h0 ▸ List.mem_cons_of_mem _ he)
  have hcm : C.m ≠ e := fun h0 => h.nm (h0 ▸ List.mem_cons_of_mem _ he)
  have hpg : ∀ b, ((upd C.E e x) b).row.page = (C.E b).row.page := fun b => by
    unfold upd; split
    · rename_i h1; rw [h1]; exact hp
    · rfl
  have hpo : pagesOf C.ks (upd C.E e x) = pagesOf C.ks C.E := List.map_congr_left (fun b _ => hpg b)
  refine CP.mk' ((hblk c h.clt (Or.inl rfl) hch.symm).trans h.hd) ?_ ⟨fun b hb => ?_, chain_upd hb ha h.rg.ch, h.rg.nd⟩ rfl (by show (pagesOf C.ks (upd C.E e x)).Nodup; rw [hpo]; exact h.pn) ?_ h.rm
  · refine MapAt.imp (h.mp.stay (hblk _ h.mp.lt (Or.inr (Or.inl rfl)) hcm)) rfl (fun k _ => ?_)
    show lk C.ks C.E k = lk C.ks (upd C.E e x) k
    unfold lk
    congr 1
    funext b
    rw [hpg b]
  · by_cases hbe : b = e
    · subst hbe; show EntAt w' b (upd C.E b x b); rw [upd_same]; exact hx
    · show EntAt w' b (upd C.E e x b)
      rw [upd_other _ _ hbe]
      exact (h.rg.en b hb).stay (hblk b (h.rg.en b hb).lt (Or.inr (Or.inr hb)) hbe)
  · intro r hr
    obtain ⟨b, hb, rfl⟩ := List.mem_map.1 hr
    have := h.wf (C.E b).row (by rw [h.ls]; exact List.mem_map.2 ⟨b, hb, rfl⟩)
    rw [hpg b]
    exact this

/-- The head's counters turn. -/
theorem CP.hits {w w' : World} {c : Nat} {C : Parts} {s : CS} (h : CP w c C s) (hit miss : Nat) (hd : w'.heap[c]? = some (.cells (hdC C.m C.h s.room hit miss).toArray 52 (0, 0))) (hblk : ∀ k, k < w.heap.size → C.S c k → k ≠ c → w'.heap[k]? = w.heap[k]?) :
    CP w' c C { s with hit := hit, miss := miss } :=
  ⟨hd, h.mp.stay (hblk _ h.mp.lt (Or.inr (Or.inl rfl)) h.mc), h.rg.stay (fun b hb => hblk b (h.rg.en b hb).lt (Or.inr (Or.inr hb)) (fun h0 => h.nc (h0 ▸ hb))), h.ls, h.pg, h.wf, h.rm⟩

theorem EntAt.copy {w : World} {e : Nat} {x : Ent} (h : EntAt w e x) {b : List Nat} (hb : b.length = 512) :
    EntAt (w.setRow e ((cellsE x).take 1 ++ (bs b ++ (cellsE x).drop (1 + (bs b).length))).toArray) e (x.wBytes b) ∧ ∀ k, k ≠ e → (w.setRow e ((cellsE x).take 1 ++ (bs b ++ (cellsE x).drop (1 + (bs b).length))).toArray).heap[k]? = w.heap[k]? := by
  have e1 : (cellsE x).take 1 ++ (bs b ++ (cellsE x).drop (1 + (bs b).length)) = cellsE (x.wBytes b) := by
    have e2 : (cellsE x).drop (1 + (bs b).length) = tailE x := by
      rw [bs_length, hb, Nat.add_comm, cellsE, List.drop_succ_cons, List.drop_append_of_le_length (by rw [bs_length, h.len]; exact Nat.le_refl _), List.drop_of_length_le (by rw [bs_length, h.len]; exact Nat.le_refl _), List.nil_append]
    rw [e2]
    rfl
  rw [e1]
  refine ⟨⟨?_, hb⟩, fun k hk => ?_⟩
  · exact setRow_heap _ _ _ _ _ _ h.blk
  · exact setRow_other _ _ _ _ hk

end Go.Proofs.Ytebjjibgkjgpgaa
