/- Regions that draw their order: what is held may grow as the walk goes. Laws of my own after the kit's. No statement of the seat is proved here. -/
import Derived.Test.YtjlahomjhadnkaaAa
import Derived.Deep.RegionHeld3
namespace Go.Proofs.Ytjlahomjhadnkaa
open Go.RowKit Go.Maps

section
variable {P : Program} {ops : Array Oper} {Q : Exit → Act → World → Prop} {md : Region.Mode} {S : World → Prop} {E : Nat → Bool}

/-- Every late operation waits for number i. -/
def waits (md : Region.Mode) (ops : Array Oper) (E : Nat → Bool) (i : Nat) : Bool := (List.range ops.size).all fun j => !E j || (match ops[j]? with | some o => o.after.any (fun e => Region.binds md e && e.on == i) | none => true)
theorem waits_spec {i : Nat} (h : waits md ops E i = true) {j : Nat} {oj : Oper} (hj : ops[j]? = some oj) (hE : E j = true) : ∃ e ∈ oj.after, Region.binds md e = true ∧ e.on = i := by
  have hl : j < ops.size := (Array.getElem?_eq_some_iff.1 hj).1
  have := List.all_eq_true.1 h j (by simpa using hl)
  simp only [hE, hj, Bool.not_true, Bool.false_or] at this
  obtain ⟨k, hk, hp⟩ := Array.any_eq_true.1 this
  simp only [Bool.and_eq_true, beq_iff_eq] at hp
  exact ⟨_, Array.getElem_mem hk, hp.1, hp.2⟩

/-- Has a late one come? -/
def came (E : Nat → Bool) (listed : Array Bool) : Bool := (List.range listed.size).any fun j => E j && listed.getD j false

theorem came_set {listed : Array Bool} {j : Nat} (h : came E listed = false) (hj : E j = false) : came E (listed.setIfInBounds j true) = false := by
  simp only [came, List.any_eq_false, List.mem_range, Array.size_setIfInBounds, Bool.and_eq_true, not_and, Bool.not_eq_true] at h ⊢
  intro k hk hE
  by_cases hjk : j = k
  · subst hjk; rw [hj] at hE; cases hE
  · rw [getD_set_ne _ hjk]; exact h k hk hE
theorem came_mono {listed : Array Bool} {j : Nat} (h : came E (listed.setIfInBounds j true) = false) : came E listed = false := by
  simp only [came, List.any_eq_false, List.mem_range, Array.size_setIfInBounds, Bool.and_eq_true, not_and, Bool.not_eq_true] at h ⊢
  intro k hk hE
  have := h k hk hE
  by_cases hjk : j = k
  · subst hjk; simp [hk] at this
  · rw [getD_set_ne _ hjk] at this; exact this

/-- Whatever order is picked from here on; S holds behind every operation, as long as no late one has come. -/
def wpAnyK (P : Program) (md : Region.Mode) (ops : Array Oper) (Q : Exit → Act → World → Prop) (S : World → Prop) (E : Nat → Bool) : Nat → Array Bool → Act → World → Prop
  | 0, listed, a, w => Region.ready md ops listed = [] ∧ Q .normal a w
  | fuel + 1, listed, a, w =>
    (Region.ready md ops listed = [] → Q .normal a w) ∧
    ∀ i ∈ Region.ready md ops listed, wpOp P ops Q i (fun a' w' => (came E (listed.setIfInBounds i true) = false → S w') ∧ wpAnyK P md ops Q S E fuel (listed.setIfInBounds i true) a' w') a w

theorem wpAny_of_K : ∀ (fuel : Nat) (listed : Array Bool) (a : Act) (w : World), wpAnyK P md ops Q S E fuel listed a w → wpAny P md ops Q fuel listed a w
  | 0, _, _, _, h => h
  | fuel + 1, _, _, _, h => ⟨h.1, fun i hi => wpOp_mono (fun a' w' h' => wpAny_of_K fuel _ a' w' h'.2) (h.2 i hi)⟩

/-- An operation that yields the same in each world that may come ahead of it: it is taken first. T: what it asks; T holds as long as i may come. -/
theorem wpAnyK_first {T : World → Prop} {i : Nat} {oi : Oper} {v : Value} (hi : ops[i]? = some oi) (hsel : ∀ (j : Nat) (o : Oper) cs b, ops[j]? = some o → o.op ≠ .select cs b)
    (hQ : ∀ c a w, Q (.panic c) (a.put oi.dst v) w → Q (.panic c) a w) (hEi : E i = false) (hT : (∀ w, T w) ∨ (T = S ∧ waits md ops E i = true)) :
    ∀ (fuel : Nat) (listed : Array Bool) (a : Act) (w : World),
      (∀ j oj, ops[j]? = some oj → j ≠ i → listed.getD j true = false → (∀ e ∈ oj.after, Region.binds md e = true → e.on ≠ i) → oi.apart ops oj = true) →
      i ∈ Region.ready md ops listed → YieldsIf P ops T oi v a → T w → (came E (listed.setIfInBounds i true) = false → S w) → ((∀ w, T w) ∨ came E listed = false) →
      wpAnyK P md ops Q S E fuel (listed.setIfInBounds i true) (a.put oi.dst v) w → wpAnyK P md ops Q S E (fuel + 1) listed a w := by
  intro fuel
  induction fuel with
  | zero =>
    intro listed a w _ hr hy hTw hS hc H
    refine ⟨fun h => (by rw [h] at hr; cases hr), fun j hj => ?_⟩
    by_cases hji : j = i
    · subst hji; exact hy.wpOp hi hTw ⟨hS, H⟩
    · have := ready_mono hj hji
      rw [H.1] at this
      cases this
  | succ fuel ih =>
    intro listed a w hfree hr hy hTw hS hc H
    refine ⟨fun h => (by rw [h] at hr; cases hr), fun j hj => ?_⟩
    by_cases hji : j = i
    · subst hji; exact hy.wpOp hi hTw ⟨hS, H⟩
    · have h1 := H.2 j (ready_mono hj hji)
      obtain ⟨hjun, oj, hoj, hall⟩ := mem_ready.1 hj
      have hnot : ∀ e ∈ oj.after, Region.binds md e = true → e.on ≠ i := fun e he hb heq => by
        have h1 := hall e he hb
        have h0 := (mem_ready.1 hr).1
        rw [heq] at h1
        rcases Nat.lt_or_ge i listed.size with h' | h'
        · simp [h'] at h0 h1; rw [h0] at h1; cases h1
        · simp [Array.getElem?_eq_none h'] at h1
      have h2 := wpOp_putIf hoj (hfree j oj hoj hji hjun hnot) (fun cs b => hsel i oi cs b hi) (fun cs b => hsel j oj cs b hoj) hQ hy h1
      have hfree' : ∀ k ok, ops[k]? = some ok → k ≠ i → (listed.setIfInBounds j true).getD k true = false →
          (∀ e ∈ ok.after, Region.binds md e = true → e.on ≠ i) → oi.apart ops ok = true := fun k ok hk hki hun hno => by
        refine hfree k ok hk hki ?_ hno
        by_cases hjk : j = k
        · subst hjk; exact hjun
        · rw [getD_set_ne true hjk] at hun; exact hun
      have hjE : waits md ops E i = true → E j = false := fun hw => by
        cases hcj : E j
        · rfl
        · obtain ⟨e, he, hb, heq⟩ := waits_spec hw hoj hcj
          exact absurd heq (hnot e he hb)
      refine wpOp_mono (fun a' w' h3 => ?_) h2
      have e := Array.setIfInBounds_comm (xs := listed) true true hji
      have hS' : came E ((listed.setIfInBounds j true).setIfInBounds i true) = false → S w' := fun hcc => h3.2.1 (by rw [e] at hcc; exact hcc)
      have hTc : T w' ∧ ((∀ w, T w) ∨ came E (listed.setIfInBounds j true) = false) := by
        rcases hT with h | ⟨h, hw⟩
        · exact ⟨h w', Or.inl h⟩
        · rcases hc with h' | h'
          · exact ⟨h' w', Or.inl h'⟩
          · have hcj := came_set h' (hjE hw)
            refine ⟨?_, Or.inr hcj⟩
            rw [h]
            exact hS' (came_set hcj hEi)
      refine ⟨fun hcc => hS' ?_, ih (listed.setIfInBounds j true) a' w' hfree' (ready_mono hr (Ne.symm hji)) h3.1 hTc.1 hS' hTc.2 ?_⟩
      · exact came_set hcc hEi
      · rw [e]; exact h3.2.2
theorem wpAnyK_take {i : Nat} {oi : Oper} {v : Value} {fuel : Nat} {listed : Array Bool} {a : Act} {w : World} (hi : ops[i]? = some oi)
    (hs : Region.noSelect ops = true) (hf : Region.free md ops listed i = true) (hr : (Region.ready md ops listed).contains i = true) (hE : (!E i && waits md ops E i && !came E listed) = true)
    (hQ : ∀ c a w, Q (.panic c) (a.put oi.dst v) w → Q (.panic c) a w) (hy : YieldsIf P ops S oi v a) (hS : S w)
    (h : wpAnyK P md ops Q S E fuel (listed.setIfInBounds i true) (a.put oi.dst v) w) : wpAnyK P md ops Q S E (fuel + 1) listed a w := by
  simp only [Bool.and_eq_true, Bool.not_eq_true'] at hE
  exact wpAnyK_first hi (Region.noSelect_spec hs) hQ hE.1.1 (Or.inr ⟨rfl, hE.1.2⟩) fuel listed a w (Region.free_spec hi hf) (by simpa using hr) hy hS (fun _ => hS) (Or.inr hE.2) h
/-- One that asks nothing of the world, ahead of the late ones. -/
theorem wpAnyK_pure {i : Nat} {oi : Oper} {v : Value} {fuel : Nat} {listed : Array Bool} {a : Act} {w : World} (hi : ops[i]? = some oi)
    (hs : Region.noSelect ops = true) (hf : Region.free md ops listed i = true) (hr : (Region.ready md ops listed).contains i = true) (hE : E i = false)
    (hQ : ∀ c a w, Q (.panic c) (a.put oi.dst v) w → Q (.panic c) a w) (hy : YieldsIf P ops (fun _ => True) oi v a) (hS : S w ∨ came E listed = true)
    (h : wpAnyK P md ops Q S E fuel (listed.setIfInBounds i true) (a.put oi.dst v) w) : wpAnyK P md ops Q S E (fuel + 1) listed a w :=
  wpAnyK_first (T := fun _ => True) hi (Region.noSelect_spec hs) hQ hE (Or.inl fun _ => trivial) fuel listed a w (Region.free_spec hi hf) (by simpa using hr) hy trivial (fun hc => by
    rcases hS with h | h
    · exact h
    · rw [came_mono hc] at h; cases h) (Or.inl fun _ => trivial) h

def AllReadyK (P : Program) (md : Region.Mode) (ops : Array Oper) (Q : Exit → Act → World → Prop) (S : World → Prop) (E : Nat → Bool) (fuel : Nat) (listed : Array Bool) (a : Act) (w : World) (rs : List Nat) : Prop :=
  ∀ i ∈ rs, wpOp P ops Q i (fun a' w' => (came E (listed.setIfInBounds i true) = false → S w') ∧ wpAnyK P md ops Q S E fuel (listed.setIfInBounds i true) a' w') a w
theorem AllReadyK.nil {fuel : Nat} {listed : Array Bool} {a : Act} {w : World} : AllReadyK P md ops Q S E fuel listed a w [] := fun _ h => by cases h
theorem AllReadyK.cons {fuel : Nat} {listed : Array Bool} {a : Act} {w : World} {i : Nat} {o : Oper} {rs : List Nat} (ho : ops[i]? = some o)
    (h : ∀ K' : Act → World → Prop, Shut (∀ a w, S w → (S w → wpAnyK P md ops Q S E fuel (listed.setIfInBounds i true) a w) → K' a w) → if Region.wanted o (yielded ops a.tmps) = true then Oper.wp P o a w K' Q else K' (a.put o.dst undef) w)
    (hs : AllReadyK P md ops Q S E fuel listed a w rs) : AllReadyK P md ops Q S E fuel listed a w (i :: rs) := fun j hj => by
  rcases List.mem_cons.1 hj with rfl | hj
  · exact wpOp_step ho (fun K' hK => h K' (fun a w hS hW => hK a w ⟨fun _ => hS, hW hS⟩))
  · exact hs j hj
/-- A late one, or one behind: S need not hold behind it. -/
theorem AllReadyK.late {fuel : Nat} {listed : Array Bool} {a : Act} {w : World} {i : Nat} {o : Oper} {rs : List Nat} (ho : ops[i]? = some o) (hE : came E (listed.setIfInBounds i true) = true)
    (h : ∀ K' : Act → World → Prop, Shut (∀ a w, wpAnyK P md ops Q S E fuel (listed.setIfInBounds i true) a w → K' a w) → if Region.wanted o (yielded ops a.tmps) = true then Oper.wp P o a w K' Q else K' (a.put o.dst undef) w)
    (hs : AllReadyK P md ops Q S E fuel listed a w rs) : AllReadyK P md ops Q S E fuel listed a w (i :: rs) := fun j hj => by
  rcases List.mem_cons.1 hj with rfl | hj
  · exact wpOp_step ho (fun K' hK => h K' (fun a w hW => hK a w ⟨fun hc => (by rw [hE] at hc; cases hc), hW⟩))
  · exact hs j hj
theorem wpAnyK_ready {rs : List Nat} {fuel : Nat} {listed : Array Bool} {a : Act} {w : World} (hr : Region.ready md ops listed = rs) (hne : rs ≠ [])
    (h : AllReadyK P md ops Q S E fuel listed a w rs) : wpAnyK P md ops Q S E (fuel + 1) listed a w := ⟨fun h0 => absurd (hr ▸ h0) hne, hr ▸ h⟩
theorem wpAnyK_done {listed : Array Bool} {a : Act} {w : World} (hr : Region.ready md ops listed = []) (h : Q .normal a w) :
    ∀ fuel, wpAnyK P md ops Q S E fuel listed a w
  | 0 => ⟨hr, h⟩
  | _ + 1 => ⟨fun _ => h, by rw [hr]; simp⟩
theorem wp_region_K {id : Nat} {a : Act} {w : World} (E : Nat → Bool) (hm : P.follows .mixedOrders = true) (hS : S w.drew)
    (h : S w.drew → wpAnyK P .any ops Q S E ops.size (Array.replicate ops.size false) a w.drew) : (Code.region id ops true).wp P Q a w :=
  wp_region_any hm (wpAny_of_K _ _ _ _ (h hS))
/-- What is held may be more from here on. -/
theorem wpAnyK_more {S' : World → Prop} (hSS : ∀ w, S' w → S w) : ∀ {fuel : Nat} {listed : Array Bool} {a : Act} {w : World}, wpAnyK P md ops Q S' E fuel listed a w → wpAnyK P md ops Q S E fuel listed a w
  | 0, _, _, _, h => h
  | _ + 1, _, _, _, h => ⟨h.1, fun i hi => wpOp_mono (fun _ _ h' => ⟨fun hc => hSS _ (h'.1 hc), wpAnyK_more hSS h'.2⟩) (h.2 i hi)⟩
end


/-- A world that has grown out of another one. -/
abbrev Gr (w W : World) : Prop := Below w.heap.size w W

end Go.Proofs.Ytjlahomjhadnkaa
