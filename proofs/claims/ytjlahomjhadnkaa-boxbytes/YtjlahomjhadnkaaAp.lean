/- What the document asks of one shape; no statement of the seat is proved here. -/
import Derived.Test.YtjlahomjhadnkaaAo
namespace Go.Proofs.Ytjlahomjhadnkaa
open Go.RowKit Go.Maps

/-- Is a shape, without its parts' own, as the document has it? -/
def fitB (s : Sh) : Bool := if s.k = 0 then ringB s.xy && (s.ps.length == 0) else if s.k = 1 then decide (s.xy.length ≤ 1) && (s.ps.length == 0) else if s.k = 2 then !(s.xy.length == 1) && (s.ps.length == 0) else (decide (3 ≤ s.k) && decide (s.k ≤ 7)) && (s.xy.length == 0)

end Go.Proofs.Ytjlahomjhadnkaa
