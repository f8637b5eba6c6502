/- Check, Empty, and the document's example; no statement of the seat is proved here. -/
import Derived.Test.YtjlahomjhadnkaaAi
namespace Go.Proofs.Ytjlahomjhadnkaa
open Go.RowKit Go.Maps

/-- What Check answers. -/
def checkV (D P X : Nat) (k : Int) (g p : Bool) : Int := if 16 < D then 10 else if 1000 < P ∨ 4000 < X then 12 else if k = 0 ∨ g = false then 9 else if p = false then 11 else 0
def checkN (s : Sh) : Int := checkV (depthN (s.flat 1)) (partsN (s.flat 1)) (ptsN (s.flat 1)) s.k (allB goodB (s.flat 1)) (allB (fun q => placedB q.xy) (s.flat 1))
theorem In.grow {w W : World} {s : Sh} (h : In (fun b => b < w.heap.size) w s) (hb : Below w.heap.size w W) : In (fun b => b < W.heap.size) W s := h.of fun b hb' => ⟨hb.block b hb', Nat.lt_of_lt_of_le hb' hb.size⟩
theorem ptsN_le (l : List (Nat × Sh)) : ptsN l ≤ 4001 := by unfold ptsN; omega
theorem partsN_le (l : List (Nat × Sh)) : partsN l ≤ 1001 := by unfold partsN; omega

end Go.Proofs.Ytjlahomjhadnkaa
