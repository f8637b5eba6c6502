/- Points that a shape of a kind may have, and parts; no statement of the seat is proved here. -/
import Derived.Test.YtjlahomjhadnkaaAg
import Derived.Laws.StructEq
namespace Go.Proofs.Ytjlahomjhadnkaa
open Go.RowKit Go.Maps

def ringB (l : List (Int × Int)) : Bool := decide (4 ≤ l.length) && (l.getD 0 (0, 0) == l.getD (l.length - 1) (0, 0))
/-- May these be a shape's points? -/
def gpB (k : Int) (l : List (Int × Int)) : Bool := if k = 0 then ringB l else if k = 1 then decide (l.length ≤ 1) else if k = 2 then !(l.length == 1) else l.length == 0

theorem part41 (W : World) (a b : Value) : (part 3 #[a, b] 0).run Try.prog W = .ok a W ∧ (part 3 #[a, b] 1).run Try.prog W = .ok b W := ⟨by kernel_rfl, by kernel_rfl⟩
theorem point_eqlIn (a b c d : Int) (W : World) : (Op.equalIn 10000 23 (.agg #[.int .i64 a, .int .i64 b]) (.agg #[.int .i64 c, .int .i64 d])).run Try.prog W = .ok ((a, b) == (c, d)) W := by
  have e3 : ∀ (x y : Int), (Op.equalIn 9999 3 (.int .i64 x) (.int .i64 y)).run Try.prog W = .ok (x == y) W := fun x y => run_equalIn_int W 9998 3 .i64 .i64 x y Try.underlying3
  rw [show (10000 : Nat) = 9999 + 1 from rfl, run_equalIn_struct W 9999 23 _ _ (by simp [Program.fieldsOf, Try.underlying23]) (by kernel_rfl)]
  simp only [Program.fieldsOf, Try.underlying23, Op.eqFields]
  simp [part41, e3, Sem.run_bind, Result.andThen]
  by_cases h1 : a = c <;> by_cases h2 : b = d <;> simp [h1, h2]
theorem point_eql (a b c d : Int) (W : World) : (binOp .eql 23 (.agg #[.int .i64 a, .int .i64 b]) (.agg #[.int .i64 c, .int .i64 d])).run Try.prog W = .ok (.bool ((a, b) == (c, d))) W := by
  rw [run_eql_struct, point_eqlIn]; rfl
theorem point_neq (a b c d : Int) (W : World) : (binOp .neq 23 (.agg #[.int .i64 a, .int .i64 b]) (.agg #[.int .i64 c, .int .i64 d])).run Try.prog W = .ok (.bool (!((a, b) == (c, d)))) W := by
  rw [run_neq_struct, point_eqlIn]; rfl
/-- Is a shape, without its parts' own, as told? -/
def goodB (s : Sh) : Bool := isK s.k && gpB s.k s.xy && s.ps.all fun p => decide (rlo s.k ≤ p.k) && decide (p.k ≤ rhi s.k)
end Go.Proofs.Ytjlahomjhadnkaa
