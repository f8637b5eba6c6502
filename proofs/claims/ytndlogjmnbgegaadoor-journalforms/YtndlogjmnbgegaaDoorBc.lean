/- The bytes of heads and records, as numbers; and what HeadBytes returns; no statement of the seat is proved here. -/
import Derived.Test.YtndlogjmnbgegaaDoorBa
import Derived.Test.YtndlogjmnbgegaaDoorBb
import Derived.Test.YtndlogjmnbgegaaDoorAg
import Derived.Lib.SlBytesConst
namespace Go.Proofs.YtndlogjmnbgegaaDoor
open Go.RowKit

def mag : List Nat := [104, 97, 99, 104, 117, 114]
/-- What a head's sum is of. -/
def hd22 (c p n : Nat) : List Nat := mag ++ putN c 4 false ++ putN p 4 false ++ putN n 8 false
def hd26 (c p n : Nat) : List Nat := hd22 c p n ++ putN (addN 0 (hd22 c p n)) 4 false
/-- A head's sector. -/
def headN (c p n : Nat) (wh : Bool) : List Nat := hd26 c p n ++ List.replicate 101 0 ++ [if wh then 165 else 0]
def rec12 (p n : Nat) : List Nat := putN p 4 false ++ putN n 8 false
def chkN (p n : Nat) (d : List Nat) : Nat := addN 0 (rec12 p n ++ d)
/-- A record's sectors. -/
def recN (p n : Nat) (d : List Nat) : List Nat := putN p 4 false ++ putN (chkN p n d) 4 false ++ List.replicate 120 0 ++ d

theorem putN_length (v s : Nat) (l : Bool) : (putN v s l).length = s := up_length _ _ _
theorem up_bytes (F : Nat → Nat) (hF : ∀ i, F i < 256) (i k : Nat) : ∀ x ∈ up F i k, x < 256 := by
  induction k generalizing i with
  | zero => intro x h; cases h
  | succ k ih =>
    intro x h
    simp only [up, List.mem_cons] at h
    rcases h with rfl | h
    · exact hF i
    · exact ih _ x h
theorem putN_bytes (v s : Nat) (l : Bool) : ∀ x ∈ putN v s l, x < 256 := up_bytes _ (fun _ => by omega) _ _
theorem app_bytes {a b : List Nat} (ha : ∀ x ∈ a, x < 256) (hb : ∀ x ∈ b, x < 256) : ∀ x ∈ a ++ b, x < 256 := by
  intro x h
  rcases List.mem_append.1 h with h | h
  · exact ha x h
  · exact hb x h
theorem zero_bytes (k : Nat) : ∀ x ∈ List.replicate k 0, x < 256 := by
  intro x h
  have := List.eq_of_mem_replicate h
  omega
theorem mag_bytes : ∀ x ∈ mag, x < 256 := by decide
theorem hd22_length (c p n : Nat) : (hd22 c p n).length = 22 := by simp [hd22, putN_length, mag]
theorem hd22_bytes (c p n : Nat) : ∀ x ∈ hd22 c p n, x < 256 := app_bytes (app_bytes (app_bytes mag_bytes (putN_bytes _ _ _)) (putN_bytes _ _ _)) (putN_bytes _ _ _)
theorem hd26_length (c p n : Nat) : (hd26 c p n).length = 26 := by simp [hd26, putN_length, hd22_length]
theorem hd26_bytes (c p n : Nat) : ∀ x ∈ hd26 c p n, x < 256 := app_bytes (hd22_bytes _ _ _) (putN_bytes _ _ _)
theorem headN_length (c p n : Nat) (wh : Bool) : (headN c p n wh).length = 128 := by simp [headN, hd26_length]
theorem headN_bytes (c p n : Nat) (wh : Bool) : ∀ x ∈ headN c p n wh, x < 256 := app_bytes (app_bytes (hd26_bytes _ _ _) (zero_bytes _)) (by intro x h; cases wh <;> simp at h <;> omega)
theorem rec12_length (p n : Nat) : (rec12 p n).length = 12 := by simp [rec12, putN_length]
theorem rec12_bytes (p n : Nat) : ∀ x ∈ rec12 p n, x < 256 := app_bytes (putN_bytes _ _ _) (putN_bytes _ _ _)
theorem chkN_lt (p n : Nat) {d : List Nat} (hd : ∀ x ∈ d, x < 256) : chkN p n d < 4294967296 := addN_lt (by decide) (app_bytes (rec12_bytes _ _) hd)
theorem recN_length (p n : Nat) (d : List Nat) : (recN p n d).length = 128 + d.length := by simp [recN, putN_length]; omega
theorem recN_bytes (p n : Nat) {d : List Nat} (hd : ∀ x ∈ d, x < 256) : ∀ x ∈ recN p n d, x < 256 := app_bytes (app_bytes (app_bytes (putN_bytes _ _ _) (putN_bytes _ _ _)) (zero_bytes _)) hd

/-- A box with a head in it. -/
def HB (t : TypeId) (W : World) (q : Nat) (c p : Int) (n : Nat) : Prop := W.heap[q]? = some (.cells #[.int .i64 c, .int .i64 p, .int .u64 (n : Int)] t (0, 0))
theorem HB.cells {t : TypeId} {W : World} {q : Nat} {c p : Int} {n : Nat} (h : HB t W q c p n) :
    W.cell? ⟨q, 0, none⟩ = some (.int .i64 c) ∧ W.cell? ⟨q, 1, none⟩ = some (.int .i64 p) ∧ W.cell? ⟨q, 2, none⟩ = some (.int .u64 (n : Int)) ∧ W.frozen? ⟨q, 0, none⟩ = false ∧ W.frozen? ⟨q, 1, none⟩ = false ∧ W.frozen? ⟨q, 2, none⟩ = false := by
  unfold HB at h
  simp [World.cell?, World.frozen?, h]
theorem HB.lt {t : TypeId} {W : World} {q : Nat} {c p : Int} {n : Nat} (h : HB t W q c p n) : q < W.heap.size := lt_of_block h
theorem HB.keep {t : TypeId} {W W' : World} {q : Nat} {c p : Int} {n : Nat} (h : HB t W q c p n) (hb : Below W.heap.size W W') : HB t W' q c p n := by
  unfold HB; rw [hb.block q h.lt]; exact h
theorem HB.new (t : TypeId) (w : World) (c p : Int) (n : Nat) : HB t (w.alloc (.cells #[.int .i64 c, .int .i64 p, .int .u64 (n : Int)] t)) w.heap.size c p n := heap_alloc_new w _
theorem HB.under {t : TypeId} {W W' : World} {q : Nat} {c p : Int} {n : Nat} {B : Nat} (h : HB t W q c p n) (hb : Below B W W') (hq : q < B) : HB t W' q c p n := by
  unfold HB; rw [hb.block q hq]; exact h

theorem rd_lit (w : World) (xs : List Nat) (n : Nat) (C : Array Value) (m : Nat × Nat) (hC : C = (bs xs).toArray) (hn : xs.length = n) : Rd (w.alloc (.cells C 5 m)) (some ⟨w.heap.size, 0, none⟩) n n xs := by
  subst hC
  refine ⟨hn, Nat.le_refl _, fun h => (by cases h), fun _ => ⟨_, _, rfl, fun t ht => ?_⟩⟩
  rw [Nat.zero_add, World.cell?_alloc_mark]
  have := bs_get xs t (by omega)
  simpa using this

theorem splice_rep (N : Nat) (xs : List Nat) : splice (List.replicate N (Value.int .u8 0)) 0 (bs xs) = bs (xs ++ List.replicate (N - xs.length) 0) := by
  have h1 : (bs xs).length = xs.length := bs_length xs
  rw [bs_append]
  unfold splice
  rw [h1]
  simp [bs]

theorem make_lit (z : Int) (K : Nat) (hz : z = (K : Int)) (hK : K ≤ 1000) (w : World) :
    (Instr.makeSlice 30 (.int .i64 z) (.int .i64 z)).run Tryd.prog w = .ok (.slice (some ⟨w.heap.size, 0, none⟩) K K) (w.alloc (.cells (Array.replicate K (.int .u8 0)) 5)) := by
  subst hz
  exact make_any K K (Nat.le_refl _) (by omega) w

set_option maxHeartbeats 400000 in
theorem head_no (c p : Int) (n : Nat) (wh : Bool) (w : World) (h : hgood c p = false) :
    Calls Tryd.prog 13 #[.agg #[.int .i64 c, .int .i64 p, .int .u64 (n : Int)], .bool wh] w fun e w' => e = .returned (.slice none 0 0) ∧ Below w.heap.size w w' := by
  have cg := hid (hgood_any c p n)
  rw [h] at cg
  clear h
  go_enter Tryd.func13, Tryd.ntmps13
  go_wp2_with (go_at_call 36; refine (cg.out _).mono ?_; rintro e w1 ⟨rfl, hb1⟩)
  go_ret
  exact ⟨rfl, gt (Below.alloc (Below.refl _ _) (Nat.le_refl _) _) hb1⟩

end Go.Proofs.YtndlogjmnbgegaaDoor
