/- What each call of a cache does: pins and marks; no statement of the seat is proved here. -/
import Derived.Test.YtebjjibgkjgpgaaEa
namespace Go.Proofs.Ytebjjibgkjgpgaa
open Go.RowKit Go.Maps

/-- What a call on a cache leaves. -/
structure Step (w w' : World) (c : Nat) (C C' : Parts) (s' : CS) : Prop where
  cp : CP w' c C' s'
  fr : Fr (C.S c) w w'
  gr : ∀ k, C'.S c k → C.S c k ∨ w.heap.size ≤ k

theorem Step.same {w : World} {c : Nat} {C : Parts} {s : CS} (h : CP w c C s) : Step w w c C C s := ⟨h, Fr.refl _ w, fun _ h => Or.inl h⟩

def CS.pin (s : CS) (k : Int) : CS × Int := match s.find k with | none => (s, 5) | some _ => (s.upd k (fun r => { r with pins := r.pins + 1 }), 0)
def CS.free (s : CS) (k : Int) : CS × Int := match s.find k with | none => (s, 5) | some r => if r.pins = 0 then (s, 6) else (s.upd k (fun r => { r with pins := r.pins - 1 }), 0)
def CS.mark (s : CS) (k : Int) (d : Bool) : CS × Int := match s.find k with | none => (s, 5) | some _ => (s.upd k (fun r => { r with dirty := d }), 0)
def CS.drop (s : CS) (k : Int) : CS × Int := match s.find k with | none => (s, 5) | some r => if r.pins = 0 then ({ s with l := s.others k }, 0) else (s, 6)

theorem others_of {w : World} {c : Nat} {C : Parts} {s : CS} (h : CP w c C s) {k : Int} {e : Nat} (he : lk C.ks C.E k = some e) {xs ys : List Nat} (hks : C.ks = xs ++ e :: ys) : s.others k = rowsOf (xs ++ ys) C.E := by
  have h1 := (lk_iff h.pn).1 he
  have hpn := h.pn
  rw [hks] at hpn
  simp only [pagesOf, List.map_append, List.map_cons] at hpn
  have n1 := List.nodup_append.1 hpn
  have n2 := List.nodup_cons.1 n1.2.1
  have ex : ∀ x ∈ xs, ((C.E x).row.page != k) = true := fun x hx => by
    have := n1.2.2 _ (List.mem_map.2 ⟨x, hx, rfl⟩) (C.E e).row.page (by simp)
    rw [h1.2] at this
    simpa using this
  have ey : ∀ x ∈ ys, ((C.E x).row.page != k) = true := fun x hx => by
    have : (C.E x).row.page ≠ k := fun h0 => n2.1 (List.mem_map.2 ⟨x, hx, by rw [h0, h1.2]⟩)
    simpa using this
  unfold CS.others
  rw [h.ls, hks]
  simp only [rowsOf, List.map_append, List.map_cons, List.filter_append, List.filter_cons, h1.2, bne_self_eq_false, if_false, Bool.false_eq_true]
  congr 1
  · refine List.filter_eq_self.2 (fun r hr => ?_)
    obtain ⟨x, hx, rfl⟩ := List.mem_map.1 hr
    exact ex x hx
  · refine List.filter_eq_self.2 (fun r hr => ?_)
    obtain ⟨x, hx, rfl⟩ := List.mem_map.1 hr
    exact ey x hx
theorem others_none {w : World} {c : Nat} {C : Parts} {s : CS} (h : CP w c C s) {k : Int} (he : lk C.ks C.E k = none) : s.others k = s.l := by
  refine List.filter_eq_self.2 (fun r hr => ?_)
  rw [h.ls] at hr
  obtain ⟨x, hx, rfl⟩ := List.mem_map.1 hr
  simpa using lk_none he x hx

theorem step_turn {w : World} {c e i : Nat} {C : Parts} {s : CS} (h : CP w c C s) {k : Int} (he : lk C.ks C.E k = some e) {v : Value} {x : Ent} {f : Row → Row} (hx : EntAt (w.setCell ⟨e, i, none⟩ v) e x) (hb : x.bef = (C.E e).bef) (ha : x.aft = (C.E e).aft) (hp : x.row.page = (C.E e).row.page) (hf : x.row = f (C.E e).row) :
    ∃ C', Step w (w.setCell ⟨e, i, none⟩ v) c C C' (s.upd k f) := by
  have hm := ((lk_iff h.pn).1 he).1
  have h1 := h.turn hm hx hb ha hp (fun k _ _ hk => set_heap w e i k v hk)
  rw [rows_upd h he f x hf] at h1
  exact ⟨_, h1, (Fr.refl _ w).set (Or.inl (Or.inr (Or.inr (List.mem_cons_of_mem _ hm)))) _, fun _ h => Or.inl h⟩

set_option maxHeartbeats 1000000 in
theorem pin_call (c : Nat) (C : Parts) (s : CS) (k : Int) (w : World) (h : CP w c C s) (hk : (Lit.int .i64 k).wf = true) (hb : ∀ r ∈ s.l, r.pins ≤ 1000000) :
    Calls Try.prog 25 #[.pointer (some ⟨c, 0, none⟩), .int .i64 k] w fun e w' => e = .returned (.int .i64 (s.pin k).2) ∧ ∃ C', Step w w' c C C' (s.pin k).1 := by
  cases ho : lk C.ks C.E k with
  | none =>
    have k1 := hid (find_at c C s k w h hk none ho)
    have e1 : s.pin k = (s, 5) := by unfold CS.pin; rw [h.find_none ho]
    rw [e1]
    have HH := hid h
    clear h e1
    go_enter Try.func25, Try.ntmps25
    go_wp2_with (go_at_call 47; refine k1.out.mono ?_; rintro e w1 ⟨rfl, h0⟩; obtain rfl := h0.symm; simp only [ptr, lkE])
    go_ret
    exact ⟨rfl, _, Step.same HH.out⟩
  | some b =>
    have k1 := hid (find_at c C s k w h hk (some b) ho)
    have e1 : s.pin k = (s.upd k (fun r => { r with pins := r.pins + 1 }), 0) := by unfold CS.pin; rw [h.find_some ho]
    have hm := ((lk_iff h.pn).1 ho).1
    have hen := h.rg.en b (List.mem_cons_of_mem _ hm)
    have c1 := hen.pins; have f1 := hen.frozen 513
    have hbb := hb (C.E b).row (by rw [h.ls]; exact List.mem_map.2 ⟨b, hm, rfl⟩)
    have hw : IntKind.i64.wrap (((C.E b).row.pins : Int) + 1) = (((C.E b).row.pins + 1 : Nat) : Int) := by rw [IntWalk.i64_in _ ⟨by omega, by omega⟩]; omega
    have hend := hid (step_turn h ho (f := fun r => { r with pins := r.pins + 1 }) (hen.setPins ((C.E b).row.pins + 1)) rfl rfl rfl rfl)
    rw [e1]
    clear h e1 hen hb
    go_enter Try.func25, Try.ntmps25
    go_wp2_with (go_at_call 47; refine k1.out.mono ?_; rintro e w1 ⟨rfl, h0⟩; obtain rfl := h0.symm; simp only [ptr, lkE])
    go_ret
    exact ⟨rfl, hend.out⟩

set_option maxHeartbeats 1000000 in
theorem free_call (c : Nat) (C : Parts) (s : CS) (k : Int) (w : World) (h : CP w c C s) (hk : (Lit.int .i64 k).wf = true) (hb : ∀ r ∈ s.l, r.pins ≤ 1000000) :
    Calls Try.prog 26 #[.pointer (some ⟨c, 0, none⟩), .int .i64 k] w fun e w' => e = .returned (.int .i64 (s.free k).2) ∧ ∃ C', Step w w' c C C' (s.free k).1 := by
  cases ho : lk C.ks C.E k with
  | none =>
    have k1 := hid (find_at c C s k w h hk none ho)
    have e1 : s.free k = (s, 5) := by unfold CS.free; rw [h.find_none ho]
    rw [e1]
    have HH := hid h
    clear h e1
    go_enter Try.func26, Try.ntmps26
    go_wp2_with (go_at_call 47; refine k1.out.mono ?_; rintro e w1 ⟨rfl, h0⟩; obtain rfl := h0.symm; simp only [ptr, lkE])
    go_ret
    exact ⟨rfl, _, Step.same HH.out⟩
  | some b =>
    have k1 := hid (find_at c C s k w h hk (some b) ho)
    have hm := ((lk_iff h.pn).1 ho).1
    have hen := h.rg.en b (List.mem_cons_of_mem _ hm)
    have c1 := hen.pins; have f1 := hen.frozen 513
    rcases Nat.eq_zero_or_pos (C.E b).row.pins with hz | hz
    · have e1 : s.free k = (s, 6) := by unfold CS.free; rw [h.find_some ho]; simp [hz]
      rw [hz] at c1
      simp only [Int.ofNat_zero] at c1
      rw [e1]
      have HH := hid h
      clear h e1 hen
      go_enter Try.func26, Try.ntmps26
      go_wp2_with (go_at_call 47; refine k1.out.mono ?_; rintro e w1 ⟨rfl, h0⟩; obtain rfl := h0.symm; simp only [ptr, lkE])
      go_ret
      exact ⟨rfl, _, Step.same HH.out⟩
    · have e1 : s.free k = (s.upd k (fun r => { r with pins := r.pins - 1 }), 0) := by unfold CS.free; rw [h.find_some ho]; simp only; rw [if_neg (by omega)]
      have hz1 : ¬ (C.E b).row.pins = 0 := by omega
      have hz2 : ¬ ((C.E b).row.pins : Int) = 0 := by omega
      have hbb := hb (C.E b).row (by rw [h.ls]; exact List.mem_map.2 ⟨b, hm, rfl⟩)
      have hw : IntKind.i64.wrap (((C.E b).row.pins : Int) - 1) = (((C.E b).row.pins - 1 : Nat) : Int) := by rw [IntWalk.i64_in _ ⟨by omega, by omega⟩]; omega
      have hend := hid (step_turn h ho (f := fun r => { r with pins := r.pins - 1 }) (hen.setPins ((C.E b).row.pins - 1)) rfl rfl rfl rfl)
      rw [e1]
      clear h e1 hen hb
      go_enter Try.func26, Try.ntmps26
      go_wp2_with (go_at_call 47; refine k1.out.mono ?_; rintro e w1 ⟨rfl, h0⟩; obtain rfl := h0.symm; simp only [ptr, lkE])
      go_ret
      exact ⟨rfl, hend.out⟩

set_option maxHeartbeats 1000000 in
theorem mark_call (c : Nat) (C : Parts) (s : CS) (k : Int) (d : Bool) (w : World) (h : CP w c C s) (hk : (Lit.int .i64 k).wf = true) :
    Calls Try.prog 27 #[.pointer (some ⟨c, 0, none⟩), .int .i64 k, .bool d] w fun e w' => e = .returned (.int .i64 (s.mark k d).2) ∧ ∃ C', Step w w' c C C' (s.mark k d).1 := by
  cases ho : lk C.ks C.E k with
  | none =>
    have k1 := hid (find_at c C s k w h hk none ho)
    have e1 : s.mark k d = (s, 5) := by unfold CS.mark; rw [h.find_none ho]
    rw [e1]
    have HH := hid h
    clear h e1
    go_enter Try.func27, Try.ntmps27
    go_wp2_with (go_at_call 47; refine k1.out.mono ?_; rintro e w1 ⟨rfl, h0⟩; obtain rfl := h0.symm; simp only [ptr, lkE])
    go_ret
    exact ⟨rfl, _, Step.same HH.out⟩
  | some b =>
    have k1 := hid (find_at c C s k w h hk (some b) ho)
    have e1 : s.mark k d = (s.upd k (fun r => { r with dirty := d }), 0) := by unfold CS.mark; rw [h.find_some ho]
    have hm := ((lk_iff h.pn).1 ho).1
    have hen := h.rg.en b (List.mem_cons_of_mem _ hm)
    have c1 := hen.dirty; have f1 := hen.frozen 514
    have hend := hid (step_turn h ho (f := fun r => { r with dirty := d }) (hen.setDirty d) rfl rfl rfl rfl)
    rw [e1]
    clear h e1 hen
    go_enter Try.func27, Try.ntmps27
    go_wp2_with (go_at_call 47; refine k1.out.mono ?_; rintro e w1 ⟨rfl, h0⟩; obtain rfl := h0.symm; simp only [ptr, lkE])
    go_ret
    exact ⟨rfl, hend.out⟩

set_option maxHeartbeats 1000000 in
theorem drop_call (c : Nat) (C : Parts) (s : CS) (k : Int) (w : World) (h : CP w c C s) (hk : (Lit.int .i64 k).wf = true) :
    Calls Try.prog 28 #[.pointer (some ⟨c, 0, none⟩), .int .i64 k] w fun e w' => e = .returned (.int .i64 (s.drop k).2) ∧ ∃ C', Step w w' c C C' (s.drop k).1 := by
  cases ho : lk C.ks C.E k with
  | none =>
    have k1 := hid (find_at c C s k w h hk none ho)
    have e1 : s.drop k = (s, 5) := by unfold CS.drop; rw [h.find_none ho]
    rw [e1]
    have HH := hid h
    clear h e1
    go_enter Try.func28, Try.ntmps28
    go_wp2_with (go_at_call 47; refine k1.out.mono ?_; rintro e w1 ⟨rfl, h0⟩; obtain rfl := h0.symm; simp only [ptr, lkE])
    go_ret
    exact ⟨rfl, _, Step.same HH.out⟩
  | some b =>
    have k1 := hid (find_at c C s k w h hk (some b) ho)
    have hm := ((lk_iff h.pn).1 ho).1
    have hen := h.rg.en b (List.mem_cons_of_mem _ hm)
    have c1 := hen.pins
    rcases Nat.eq_zero_or_pos (C.E b).row.pins with hz | hz
    · obtain ⟨xs, ys, hks, _⟩ := h.idx ho
      have e1 : s.drop k = ({ s with l := rowsOf (xs ++ ys) C.E }, 0) := by unfold CS.drop; rw [h.find_some ho]; simp [hz, others_of h ho hks]
      rw [hz] at c1
      simp only [Int.ofNat_zero] at c1
      have k2 := hid (remove_cp c b xs ys C s w h hks)
      rw [e1]
      have HKS := hid hks
      clear h e1 hen hks
      go_enter Try.func28, Try.ntmps28
      go_wp2_with (first | (go_at_call 47; refine k1.out.mono ?_; rintro e w1 ⟨rfl, h0⟩; obtain rfl := h0.symm; simp only [ptr, lkE]) | (go_at_call 55; refine k2.out.mono ?_; rintro e w2 ⟨rfl, C2, h2, h3⟩; have H2 := hid h2; have H3 := hid h3; clear h2 h3))
      go_ret
      refine ⟨rfl, C2, H2.out, H3.out.fr, fun j hj => Or.inl ?_⟩
      rcases hj with rfl | rfl | hj
      · exact Or.inl rfl
      · exact Or.inr (Or.inl H3.out.m)
      · refine Or.inr (Or.inr ?_)
        rw [H3.out.h, H3.out.ks] at hj
        rw [HKS.out]
        simp only [List.mem_cons, List.mem_append] at hj ⊢
        rcases hj with h | h | h <;> simp [h]
    · have e1 : s.drop k = (s, 6) := by unfold CS.drop; rw [h.find_some ho]; simp only; rw [if_neg (by omega)]
      have hz1 : 0 < (C.E b).row.pins := hz
      rw [e1]
      have HH := hid h
      clear h e1 hen
      go_enter Try.func28, Try.ntmps28
      go_wp2_with (go_at_call 47; refine k1.out.mono ?_; rintro e w1 ⟨rfl, h0⟩; obtain rfl := h0.symm; simp only [ptr, lkE])
      go_ret
      exact ⟨rfl, _, Step.same HH.out⟩

end Go.Proofs.Ytebjjibgkjgpgaa
