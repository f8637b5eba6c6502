/- The law OctetPuts, its ground: bytes with a string behind, and what stays as it was; no statement of the seat is proved here. -/
import Derived.Test.YtieachnejicafaaBf
import Derived.Test.YtieachnejicafaaBp
import Derived.Test.YtieachnejicafaaBq
import Derived.Test.YtieachnejicafaaBs
import Derived.Deep.AppendSrc
import Derived.Deep.DeepCutAuto
namespace Go.Proofs.Ytieachnejicafaa
open Go.RowKit

theorem op_at (l : List Oper) (i : Nat) (o : Oper) (h : l[i]? = some o) : l.toArray[i]? = some o := by simpa using h

theorem run_append_str (w : World) (B ty g n cap : Nat) (xs : List Value) (hown : w.ownsRow B 5 1 (.slice (some ⟨g, 0, none⟩) n cap) n xs) (S : ByteArray) (hroom : n + S.size ≤ cap) :
    ∃ w', (Builtin.append_ #[22, 9] ty #[.slice (some ⟨g, 0, none⟩) n cap, .string S]).run Try.prog w = .ok (.slice (some ⟨g, 0, none⟩) (n + S.size) cap) w' ∧
      w'.ownsRow B 5 1 (.slice (some ⟨g, 0, none⟩) (n + S.size) cap) (n + S.size) (xs ++ byteCells S) ∧ w.grownBy w' (some g) := by
  obtain ⟨i, hi, hz0, hz1, hz2⟩ := info_parts Try.info5
  have hl : (byteCells S).length = S.size := byteCells_length S
  have hlen : (xs ++ byteCells S).length = (n + S.size) * 1 := by rw [List.length_append, hown.1, hl]; omega
  rcases hown.2 with ⟨h, _⟩ | ⟨g', cap', cur, h, hbg, hg, hnc, hcm, hcs, htake⟩
  · simp at h
  · simp only [Value.slice.injEq, Option.some.injEq, Addr.mk.injEq, and_true, true_and] at h
    obtain ⟨rfl, rfl⟩ := h
    have hfit : n + (byteCells S).length ≤ cur.size := by omega
    have h1 : ∀ u ∈ byteCells S, u.oneCell' = true := (Src.ofString (P := Try.prog) w (tx := 9) Try.underlying9 S).one
    have hf := firstCells_string (P := Try.prog) S w
    have hst := run_storeCells_at Try.prog g n 5 (byteCells S) 0 cur w hg (by simpa using hfit) h1
    simp only [Nat.add_zero] at hst
    refine ⟨w.setRow g (cur.toList.take n ++ byteCells S ++ cur.toList.drop (n + (byteCells S).length)).toArray, ?_, ⟨hlen, .inr ⟨g, cap, _, rfl, hbg, setRow_heap w g cur _ 5 _ hg, hroom, hcm, ?_, ?_⟩⟩, ⟨rfl, rfl, rfl, by simp, fun k _ hk => setRow_other w g k _ (fun e => hk (by simp [e]))⟩⟩
    · simp [Builtin.append_, run_underlying Try.underlying22, run_underlying Try.underlying9, sizeOf, typeInfo, hi, hz1, Builtin.lenOf, hroom, hf, Addr.add_lit, hst]
    · simp only [List.size_toArray, List.length_append, List.length_take, List.length_drop, Array.length_toList]
      omega
    · rw [Nat.mul_one] at htake
      rw [htake, ← hlen]
      exact List.take_left

theorem wpList_append_str {w : World} {ops : Array Oper} {rest : List Oper} {o : Oper} {a : Act} {Q : Exit → Act → World → Prop} (hgd : o.guard = none) (s x : Operand)
    (ho : o.op = .call { callee := .builtin .append, args := #[s, x], argTypes := #[22, 9] }) (B g n cap : Nat) (xs : List Nat) (hs : a.eval s = .slice (some ⟨g, 0, none⟩) n cap) (hown : w.ownsRow B 5 1 (.slice (some ⟨g, 0, none⟩) n cap) n (bs xs))
    (S : ByteArray) (ys : List Nat) (hx : a.eval x = .string S) (hys : byteCells S = bs ys) (hroom : n + S.size ≤ cap) (hB : B ≤ w.heap.size)
    (h : ∀ w', w'.ownsRow B 5 1 (.slice (some ⟨g, 0, none⟩) (n + S.size) cap) (n + S.size) (bs (xs ++ ys)) → Below B w w' → wpList Try.prog ops Q rest (a.put o.dst (.slice (some ⟨g, 0, none⟩) (n + S.size) cap)) w') : wpList Try.prog ops Q (o :: rest) a w := by
  refine wpList_plain hgd fun K hK => ?_
  obtain ⟨w', hrun, r1, r2⟩ := run_append_str w B o.type g n cap (bs xs) hown S hroom
  unfold Oper.wp
  simp [execOp, ho, resolve, invoke, builtin, hs, hx, hrun, Result.andThen]
  refine hK _ _ (h w' (by rw [bs_append, ← hys]; exact r1) ((Below.refl B w).grown r2 hB fun k hk => (hown.lt k hk).1))

def spareN : List Nat := [115, 112, 97, 114, 101, 32, 114, 111, 111, 109]

theorem Rd.pre {w : World} {ao : Option Addr} {n m cap : Nat} {xs ys : List Nat} (h : Rd w ao n cap (xs ++ ys)) (hm : xs.length = m) : Rd w ao m cap xs := by
  obtain ⟨hl, hc, hno, hat⟩ := h
  simp at hl
  refine ⟨hm, by omega, fun h => ⟨by have := (hno h).1; omega, (hno h).2⟩, fun hp => ?_⟩
  obtain ⟨b, off, e, hcell⟩ := hat (by omega)
  refine ⟨b, off, e, fun t ht => ?_⟩
  rw [hcell t (by omega)]
  simp [List.getD, List.getElem?_append_left (show t < xs.length by omega)]

theorem says_owned {w : World} {f : Nat} {args : Array Value} {B m : Nat} {ys : List Nat} {S : ByteArray} (hS : S = str ys)
    (h : Calls Try.prog f args w fun e w' => ∃ r, e = .returned r ∧ w'.ownsRow B 5 1 r m (bs ys) ∧ Below w.heap.size w w') : Calls Try.prog f args w (Says w S) :=
  h.mono fun _ _ ⟨r, he, ho, hb⟩ => by
    obtain ⟨ao, cap, rfl, hr⟩ := rd_owned ho
    exact ⟨_, _, _, he, fun _ hW => hS ▸ conv_rd (hr.keep hW) 22 9 5 Try.underlying22 Try.underlying5 Try.underlying9, hb⟩

/-- What stays as it was: the value's cells, and the bytes with what lies behind them. -/
def Env (w : World) (p g n : Nat) (N Z : Int) (l : Bool) (xs : List Nat) (W : World) : Prop :=
  W.cell? ⟨p, 1, none⟩ = some (.int .u64 N) ∧ W.cell? ⟨p, 2, none⟩ = some (.int .i64 Z) ∧ W.cell? ⟨p, 3, none⟩ = some (.bool l) ∧ Rd W (some ⟨g, 0, none⟩) (n + 10) (n + 50) (xs ++ spareN) ∧ Below w.heap.size w W

theorem Env.keep {w : World} {p g n : Nat} {N Z : Int} {l : Bool} {xs : List Nat} {W W' : World} (h : Env w p g n N Z l xs W) (hb : Below W.heap.size W W') : Env w p g n N Z l xs W' :=
  ⟨keep_old hb h.1, keep_old hb h.2.1, keep_old hb h.2.2.1, h.2.2.2.1.keep hb, gt h.2.2.2.2 hb⟩

end Go.Proofs.Ytieachnejicafaa
