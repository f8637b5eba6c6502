/- How slices of bytes lie in memory, how the call's own are appended to, and the sixteen cells of the table; no statement of the seat is proved here. -/
import Derived.Test.YtlaojlnndphnlaaDoorRows
import Derived.Test.YtlaojlnndphnlaaDoorNa
import Derived.WalkKit
import Derived.WalkSpells
import Derived.WalkLawsBesides
import Derived.Laws.BitsAllLaws
import Derived.Laws.BytesArg
import Derived.Laws.AppendOwnNone
import Derived.Deep.OwnRows
import Derived.Deep.LoopGhost
import Derived.BigRegion
import Derived.Deep.RegionWith
import Derived.Deep.RegionHeld3
import Derived.Lib.OthersKept
namespace Go.Proofs.YtlaojlnndphnlaaDoor
open Go.RowKit

theorem gt {w a b : World} (h : Below w.heap.size w a) (k : Below a.heap.size a b) : Below w.heap.size w b := h.trans (k.mono h.size)

theorem hid {p : Prop} (h : p) : Hid p := h

theorem undrew {w w' : World} (h : Below w.drew.heap.size w.drew w') : Below w.heap.size w w' := ⟨h.os, h.tape, h.output, h.size, h.block⟩

theorem lt_cell {w : World} {a : Addr} {v : Value} (h : w.cell? a = some v) : a.block < w.heap.size := by
  rcases Nat.lt_or_ge a.block w.heap.size with h1 | h1
  · exact h1
  · exfalso
    have h2 : w.heap[a.block]? = none := Array.getElem?_eq_none h1
    simp [World.cell?, h2] at h

theorem keep_cell {B : Nat} {w w' : World} (h : Below B w w') {a : Addr} {v : Value} (hc : w.cell? a = some v) (hB : a.block < B) : w'.cell? a = some v := by
  rw [World.cell?_of_block (h.block a.block hB)]; exact hc

theorem keep_old {w w' : World} (h : Below w.heap.size w w') {a : Addr} {v : Value} (hc : w.cell? a = some v) : w'.cell? a = some v := keep_cell h hc (lt_cell hc)

theorem keep_frozen {B : Nat} {w w' : World} (h : Below B w w') {a : Addr} (hB : a.block < B) : w'.frozen? a = w.frozen? a := World.frozen?_of_block (h.block a.block hB)

def bs (xs : List Nat) : List Value := xs.map fun x : Nat => Value.int .u8 (x : Int)
def str (xs : List Nat) : ByteArray := ⟨(xs.map UInt8.ofNat).toArray⟩

theorem bs_length (xs : List Nat) : (bs xs).length = xs.length := by simp [bs]
theorem bs_append (xs ys : List Nat) : bs (xs ++ ys) = bs xs ++ bs ys := by simp [bs]
theorem bs_one (xs : List Nat) : ∀ u ∈ bs xs, u.oneCell' = true := by
  intro u hu
  obtain ⟨x, _, rfl⟩ := List.mem_map.1 hu
  rfl
theorem bs_get (xs : List Nat) (t : Nat) (h : t < xs.length) : (bs xs)[t]? = some (.int .u8 ((xs.getD t 0 : Nat) : Int)) := by
  simp [bs, List.getElem?_map, List.getElem?_eq_getElem h, List.getD]
theorem bs_get' (xs : List Nat) (t : Nat) (u : Value) (h : (bs xs)[t]? = some u) : t < xs.length ∧ u = .int .u8 ((xs.getD t 0 : Nat) : Int) := by
  have hl : t < xs.length := by
    have := (List.getElem?_eq_some_iff.1 h).1
    simpa [bs] using this
  rw [bs_get xs t hl] at h
  exact ⟨hl, (Option.some.inj h).symm⟩
theorem str_size (xs : List Nat) : (str xs).size = xs.length := by simp [str, ByteArray.size]

/-- A slice of bytes that can be read. -/
def Rd (w : World) (ao : Option Addr) (n cap : Nat) (xs : List Nat) : Prop :=
  xs.length = n ∧ n ≤ cap ∧ (ao = none → n = 0 ∧ cap = 0) ∧
    (0 < n → ∃ b off, ao = some ⟨b, off, none⟩ ∧ ∀ t, t < n → w.cell? ⟨b, off + t, none⟩ = some (.int .u8 ((xs.getD t 0 : Nat) : Int)))

theorem Rd.keep {w w' : World} {ao : Option Addr} {n cap : Nat} {xs : List Nat} (h : Rd w ao n cap xs) (hb : Below w.heap.size w w') : Rd w' ao n cap xs := by
  refine ⟨h.1, h.2.1, h.2.2.1, fun hn => ?_⟩
  obtain ⟨b, off, e, hc⟩ := h.2.2.2 hn
  exact ⟨b, off, e, fun t ht => keep_old hb (hc t ht)⟩

theorem Rd.nil (w : World) : Rd w none 0 0 [] := ⟨rfl, Nat.le_refl _, fun _ => ⟨rfl, rfl⟩, fun h => by omega⟩

theorem rd_own {w : World} {B g n cap : Nat} {xs : List Nat} (h : w.ownsRow B 5 1 (.slice (some ⟨g, 0, none⟩) n cap) n (bs xs)) : Rd w (some ⟨g, 0, none⟩) n cap xs := by
  have hl : xs.length = n := by simpa [bs] using h.1
  refine ⟨hl, ?_, fun h => (by cases h), fun _ => ⟨g, 0, rfl, fun t ht => ?_⟩⟩
  · rcases h.2 with ⟨h', _⟩ | ⟨g', cap', cur, h', _, _, hnc, _⟩
    · simp at h'
    · simp only [Value.slice.injEq, Option.some.injEq, Addr.mk.injEq, and_true, true_and] at h'
      rw [h'.2]; exact hnc
  · rw [Nat.zero_add, h.cellAt t (by omega), bs_get xs t (by omega)]

theorem Tryd.info5 : (Tryd.prog.info? 5).map (fun i => (i.zero, i.size, i.bytes)) = some (some (.int .u8 0), 1, 1) := by kernel_rfl

theorem make_any (n cap : Nat) (h : n ≤ cap) (hc : cap ≤ 281474976710656) (w : World) :
    (Instr.makeSlice 22 (.int .i64 (n : Int)) (.int .i64 (cap : Int))).run Tryd.prog w = .ok (.slice (some ⟨w.heap.size, 0, none⟩) n cap) (w.alloc (.cells (Array.replicate cap (.int .u8 0)) 5)) := by
  obtain ⟨i, hi, hz0, hz1, hz2⟩ := info_parts Tryd.info5
  have hr := run_make (P := Tryd.prog) w 22 5 i (.int .u8 0) Tryd.underlying22 hi hz0 .i64 .i64 n cap (by omega) (by omega) (by rw [hz2]; omega) (by omega)
  simp only [Int.toNat_natCast, hz1, Nat.mul_one] at hr
  rw [hr, show Array.replicate cap (Value.int .u8 0) = (List.replicate cap (Value.int .u8 0)).toArray by simp, ← toList_madeCells_one, Array.toArray_toList]
  rfl

theorem own_of_row {w : World} {B g n cap : Nat} {cur : List Value} {xs : List Nat} (hB : B ≤ g) (hg : w.heap[g]? = some (.cells cur.toArray 5 (0, 0))) (hcap : cur.length = cap) (hm : cap ≤ 9223372036854775807)
    (hx : cur.take n = bs xs) (hn : xs.length = n) (hnc : n ≤ cap) : w.ownsRow B 5 1 (.slice (some ⟨g, 0, none⟩) n cap) n (bs xs) :=
  ⟨by simp [bs, hn], .inr ⟨g, cap, cur.toArray, rfl, hB, hg, hnc, hm, by simp [hcap], by simpa using hx⟩⟩

/-- A guard for a walk: the next operation writes slot k. -/
theorem here_op (k : Nat) {P : Program} {ops : Array Oper} {Q : Exit → Act → World → Prop} {a : Act} {w : World} {rest : List Oper} {op : Op} {t : TypeId} {pos : String} {after : Array Edge} {gd : Option (Nat × Bool)}
    (h : wpList P ops Q (⟨some k, op, t, pos, after, gd⟩ :: rest) a w) : wpList P ops Q (⟨some k, op, t, pos, after, gd⟩ :: rest) a w := h

/-- 'append' onto a slice of the call's own, of bytes that can be read. -/
theorem wpList_append_rd {w : World} {ops : Array Oper} {rest : List Oper} {o : Oper} {a : Act} {Q : Exit → Act → World → Prop} (hgd : o.guard = none) (s x : Operand)
    (ho : o.op = .call { callee := .builtin .append, args := #[s, x], argTypes := #[22, 22] }) (B : Nat) (v : Value) (n : Nat) (xs : List Nat) (hs : a.eval s = v) (hown : w.ownsRow B 5 1 v n (bs xs))
    (ao : Option Addr) (m c : Nat) (ys : List Nat) (hx : a.eval x = .slice ao m c) (hr : Rd w ao m c ys) (hb : n + m ≤ 140737488355328) (hB : B ≤ w.heap.size)
    (h : ∀ v' w', w'.ownsRow B 5 1 v' (n + m) (bs (xs ++ ys)) → Below B w w' → wpList Tryd.prog ops Q rest (a.put o.dst v') w') : wpList Tryd.prog ops Q (o :: rest) a w := by
  obtain ⟨i5, hi5, hz0, hz1, hz2⟩ := info_parts Tryd.info5
  obtain ⟨hl, hc, hno, hat⟩ := hr
  cases ao with
  | none =>
    obtain ⟨rfl, rfl⟩ := hno rfl
    obtain rfl : ys = [] := List.eq_nil_of_length_eq_zero hl
    refine wpList_append_own_none hgd s x 22 ho B 5 i5 1 Tryd.underlying22 hi5 v n (bs xs) hs hown hx ?_
    exact h v w (by simpa using hown) (Below.refl _ _)
  | some ad =>
    refine wpList_append_own w hgd s x 22 ho B 5 i5 (.int .u8 0) 1 1 Tryd.underlying22 hi5 hz0 hz1 hz2 rfl (by decide) v n (bs xs) hs hown ad m c (bs ys) hx (by simp [bs, hl]) ?_ (bs_one ys) (by unfold maxLen; omega) (by omega) hB ?_
    · intro j u hu
      obtain ⟨hj, rfl⟩ := bs_get' ys j u hu
      obtain ⟨b, off, e, hcell⟩ := hat (by omega)
      simp only [Option.some.injEq] at e
      subst e
      rw [Addr.add_lit]
      exact hcell j (by omega)
    · intro v' w' h1 h2 _
      refine h v' w' (by rw [bs_append]; exact h1) ((Below.refl B w).grown h2 hB fun k hk => (hown.lt k hk).1)

/-- What a slice of the call's own is, as what can be read. -/
theorem rd_owned {w : World} {B n : Nat} {v : Value} {xs : List Nat} (h : w.ownsRow B 5 1 v n (bs xs)) : ∃ ao cap, v = .slice ao n cap ∧ Rd w ao n cap xs := by
  rcases h.2 with ⟨rfl, rfl⟩ | ⟨g, cap, cur, rfl, _⟩
  · obtain rfl : xs = [] := by have := h.1; simp [bs] at this; exact this
    exact ⟨none, 0, rfl, Rd.nil w⟩
  · exact ⟨_, _, rfl, rd_own h⟩

/-- The table of sixteen, as the walks ask for it. -/
def Tab (w : World) : Prop := ∀ k : Nat, k < 16 → w.cell? ⟨0, k, none⟩ = some (.int .u32 ((txn 4 k : Nat) : Int))
theorem Tab.keep {w w' : World} (h : Tab w) (hb : Below w.heap.size w w') : Tab w' := fun k hk => keep_old hb (h k hk)

end Go.Proofs.YtlaojlnndphnlaaDoor
