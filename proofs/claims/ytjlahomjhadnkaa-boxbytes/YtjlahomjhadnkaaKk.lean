/- Laws of mine for regions that draw their order, with late operations, with their side facts found by themselves; no statement of the seat is proved here. -/
import Derived.Test.YtjlahomjhadnkaaKl
import Derived.Test.YtjlahomjhadnkaaKh
namespace Go.Proofs.Ytjlahomjhadnkaa
open Go.RowKit
section
variable {P : Program} {l : List Oper} {Q : Exit → Act → World → Prop} {md : Region.Mode} {S : World → Prop} {E : Nat → Bool} {oi : Oper} {v : Value} {fuel : Nat} {listed : Array Bool} {a a' : Act} {w : World}
theorem gkt (i : Nat) (k : wpAnyK P md l.toArray Q S E fuel (listed.setIfInBounds i true) a' w)
    (hi : l[i]? = some oi := by exact rfl) (hs : Region.noSelect l.toArray = true := by kernel_rfl) (hf : Region.free md l.toArray listed i = true := by kernel_rfl) (hr : (Region.ready md l.toArray listed).contains i = true := by kernel_rfl)
    (hE : (!E i && waits md l.toArray E i && !came E listed) = true := by kernel_rfl)
    (hQ : ∀ c a w, Q (.panic c) (a.put oi.dst v) w → Q (.panic c) a w := by exact fun _ _ _ h => h) (hw : Region.wanted oi (yielded l.toArray a.tmps) = true := by rfl)
    (h : ∀ w, S w → (execOp a.eval oi).run P w = .ok (.value v) w := by intro W hSw; go_simp; first | done | with_reducible rfl) (hS : S w := by assumption)
    (hA : a.put oi.dst v = a' := by (try simp only [Act.put, sA, sZ, sS]); rfl) : wpAnyK P md l.toArray Q S E (fuel + 1) listed a w :=
  wpAnyK_take (at_op _ _ _ hi) hs hf hr hE hQ (Or.inl ⟨hw, h⟩) hS (hA ▸ k)
theorem gkp (i : Nat) (k : wpAnyK P md l.toArray Q S E fuel (listed.setIfInBounds i true) a' w)
    (hi : l[i]? = some oi := by exact rfl) (hs : Region.noSelect l.toArray = true := by kernel_rfl) (hf : Region.free md l.toArray listed i = true := by kernel_rfl) (hr : (Region.ready md l.toArray listed).contains i = true := by kernel_rfl)
    (hE : E i = false := by kernel_rfl)
    (hQ : ∀ c a w, Q (.panic c) (a.put oi.dst v) w → Q (.panic c) a w := by exact fun _ _ _ h => h) (hw : Region.wanted oi (yielded l.toArray a.tmps) = true := by rfl)
    (h : ∀ w, True → (execOp a.eval oi).run P w = .ok (.value v) w := by intro W hSw; go_simp; first | done | with_reducible rfl) (hS : S w ∨ came E listed = true := by first | exact Or.inl (by assumption) | exact Or.inr (by kernel_rfl))
    (hA : a.put oi.dst v = a' := by (try simp only [Act.put, sA, sZ, sS]); rfl) : wpAnyK P md l.toArray Q S E (fuel + 1) listed a w :=
  wpAnyK_pure (at_op _ _ _ hi) hs hf hr hE hQ (Or.inl ⟨hw, h⟩) hS (hA ▸ k)
theorem gku (i : Nat) (k : wpAnyK P md l.toArray Q S E fuel (listed.setIfInBounds i true) a' w)
    (hi : l[i]? = some oi := by exact rfl) (hs : Region.noSelect l.toArray = true := by kernel_rfl) (hf : Region.free md l.toArray listed i = true := by kernel_rfl) (hr : (Region.ready md l.toArray listed).contains i = true := by kernel_rfl)
    (hE : E i = false := by kernel_rfl)
    (hQ : ∀ c a w, Q (.panic c) (a.put oi.dst undef) w → Q (.panic c) a w := by exact fun _ _ _ h => h) (hw : Region.wanted oi (yielded l.toArray a.tmps) = false := by kernel_rfl)
    (hS : S w ∨ came E listed = true := by first | exact Or.inl (by assumption) | exact Or.inr (by kernel_rfl))
    (hA : a.put oi.dst undef = a' := by (try simp only [Act.put, sA, sZ, sS]); rfl) : wpAnyK P md l.toArray Q S E (fuel + 1) listed a w :=
  wpAnyK_pure (at_op _ _ _ hi) hs hf hr hE hQ (Or.inr ⟨hw, rfl⟩) hS (hA ▸ k)
theorem gk1 (i : Nat) (h : ∀ K' : Act → World → Prop, Shut (∀ a w, S w → (S w → wpAnyK P md l.toArray Q S E fuel (listed.setIfInBounds i true) a w) → K' a w) → if Region.wanted oi (yielded l.toArray a.tmps) = true then Oper.wp P oi a w K' Q else K' (a.put oi.dst undef) w)
    (hi : l[i]? = some oi := by exact rfl) (hr : Region.ready md l.toArray listed = [i] := by kernel_rfl) : wpAnyK P md l.toArray Q S E (fuel + 1) listed a w :=
  wpAnyK_ready (rs := [i]) hr (by simp) (AllReadyK.cons (at_op _ _ _ hi) h AllReadyK.nil)
theorem gkl (i : Nat) (h : ∀ K' : Act → World → Prop, Shut (∀ a w, wpAnyK P md l.toArray Q S E fuel (listed.setIfInBounds i true) a w → K' a w) → if Region.wanted oi (yielded l.toArray a.tmps) = true then Oper.wp P oi a w K' Q else K' (a.put oi.dst undef) w)
    (hi : l[i]? = some oi := by exact rfl) (hr : Region.ready md l.toArray listed = [i] := by kernel_rfl) (hE : came E (listed.setIfInBounds i true) = true := by kernel_rfl) : wpAnyK P md l.toArray Q S E (fuel + 1) listed a w :=
  wpAnyK_ready (rs := [i]) hr (by simp) (AllReadyK.late (at_op _ _ _ hi) hE h AllReadyK.nil)
end
end Go.Proofs.Ytjlahomjhadnkaa
