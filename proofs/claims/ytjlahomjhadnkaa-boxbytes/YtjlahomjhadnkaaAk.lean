/- The document's example, and Kind; no statement of the seat is proved here. -/
import Derived.Test.YtjlahomjhadnkaaAj
namespace Go.Proofs.Ytjlahomjhadnkaa
open Go.RowKit Go.Maps

def exR (b : Nat) : Sh := .mk 0 (some ⟨b, 0, none⟩) 3 3 [(1, 2), (1, 2), (1, 2)] none 0 0 []
def exS (a b : Nat) : Sh := .mk 3 none 0 0 [] (some ⟨a, 0, none⟩) 1 1 [exR b]
theorem ex_flat (a b : Nat) : (exS a b).flat 1 = [(1, exS a b), (1, exR b)] := by
  rw [flat_eq, show seenL 1 (exS a b) = [exR b] from rfl]
  have : (exR b).flat (din (exS a b).k (exR b).k 1) = [(1, exR b)] := by
    rw [flat_eq, show seenL _ (exR b) = [] from rfl]; rfl
  simp [this]
theorem ex_check (a b : Nat) : checkN (exS a b) = 9 := by
  unfold checkN
  rw [ex_flat]
  rfl
theorem ex_in {W : World} {a b : Nat} {t u : TypeId} (ha : W.heap[a]? = some (.cells #[.int .i64 0, .slice (some ⟨b, 0, none⟩) 3 3, .slice none 0 0] t)) (hb : W.heap[b]? = some (.cells #[.int .i64 1, .int .i64 2, .int .i64 1, .int .i64 2, .int .i64 1, .int .i64 2] u)) : In (fun b => b < W.heap.size) W (exS a b) := by
  have la : a < W.heap.size := (Array.getElem?_eq_some_iff.1 ha).1
  have lb : b < W.heap.size := (Array.getElem?_eq_some_iff.1 hb).1
  intro q hq
  rw [nodes_eq, show nodesL (exS a b).ps = [exR b] from rfl] at hq
  simp at hq
  rcases hq with rfl | rfl
  · exact { kI := by simp [exS, Sh.k], xl := rfl, xm := Nat.le_refl _, xb := by simp [exS, Sh.xn], x0 := fun _ => ⟨rfl, rfl⟩, xr := .inl rfl, pl := rfl, pm := Nat.le_refl _, pb := by simp [exS, Sh.pn], p0 := fun h => by simp [exS, Sh.po] at h, pr := .inr ⟨a, 0, rfl, la, fun i p hi => by
      match i, hi with
      | 0, hi =>
        simp [exS, Sh.ps] at hi
        subst hi
        refine ⟨?_, ?_, ?_⟩ <;> simp [World.cell?, ha, exR, Sh.k, Sh.xo, Sh.xn, Sh.xc, Sh.po, Sh.pn, Sh.pc]
      | i + 1, hi => simp [exS, Sh.ps] at hi⟩ }
  · exact { kI := by simp [exR, Sh.k], xl := rfl, xm := Nat.le_refl _, xb := by simp [exR, Sh.xn], x0 := fun h => by simp [exR, Sh.xo] at h, xr := .inr ⟨b, 0, rfl, lb, fun i p hi => by
      match i, hi with
      | 0, hi => simp [exR, Sh.xy] at hi; subst hi; refine ⟨?_, ?_⟩ <;> simp [World.cell?, hb]
      | 1, hi => simp [exR, Sh.xy] at hi; subst hi; refine ⟨?_, ?_⟩ <;> simp [World.cell?, hb]
      | 2, hi => simp [exR, Sh.xy] at hi; subst hi; refine ⟨?_, ?_⟩ <;> simp [World.cell?, hb]
      | i + 3, hi => simp [exR, Sh.xy] at hi⟩, pl := rfl, pm := Nat.le_refl _, pb := by simp [exR, Sh.pn], p0 := fun _ => ⟨rfl, rfl⟩, pr := .inl rfl }

end Go.Proofs.Ytjlahomjhadnkaa
