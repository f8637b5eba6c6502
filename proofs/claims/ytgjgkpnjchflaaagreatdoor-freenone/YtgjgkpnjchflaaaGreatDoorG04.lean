/- What Sectors (both), lives, counted and both good return; no statement of the seat is proved here. -/
import Derived.Test.YtgjgkpnjchflaaaGreatDoorG02
import Derived.Lib.AppendZerosOnto
import Derived.Test.YtgjgkpnjchflaaaGreatDoorG03
import Derived.Lib.SlBytesConst
namespace Go.Proofs.YtgjgkpnjchflaaaGreatDoor.Jrn
open Go.RowKit

/-- How many sectors a journal of n records has. -/
def secN (n : Int) : Int := 1 + min (max n 0) 4000 * 5

set_option maxHeartbeats 400000 in
theorem sectors_any (n : Int) (w : World) : Calls Tryz.prog 106 #[.int .i64 n] w fun e w' => e = .returned (.int .i64 (secN n)) ∧ w' = w := by
  obtain ⟨k, hk, hs⟩ : ∃ k : Int, (0 ≤ k ∧ k ≤ 4000) ∧ min (max n 0) 4000 = k := ⟨_, by omega, rfl⟩
  have hS : secN n = 1 + k * 5 := by unfold secN; rw [hs]
  rw [hS]
  go_enter Tryz.func106, Tryz.ntmps106
  go_wp2
  go_ret
  exact ⟨rfl, rfl⟩

def ctd (n : Int) : Bool := decide (0 ≤ n) && decide (n ≤ 4000)
theorem ctd_iff (n : Int) : ctd n = true ↔ 0 ≤ n ∧ n ≤ 4000 := by simp [ctd]

set_option maxHeartbeats 400000 in
theorem counted_any (n : Int) (w : World) : Calls Tryz.prog 183 #[.int .i64 n] w fun e w' => e = .returned (.bool (ctd n)) ∧ w' = w := by
  unfold ctd
  by_cases h : 0 ≤ n <;> by_cases h' : n ≤ 4000
  all_goals
    go_enter Tryz.func183, Tryz.ntmps183
    go_wp2
    go_ret
    simp [h, h']

/-- A head's value. -/
def headV (c p : Int) (n : Nat) : Value := .agg #[.int .i64 c, .int .i64 p, .int .u64 (n : Int)]
def hgood (c p : Int) : Bool := ctd c && ctd p
theorem hgood_iff (c p : Int) : hgood c p = true ↔ (0 ≤ c ∧ c ≤ 4000) ∧ 0 ≤ p ∧ p ≤ 4000 := by simp [hgood, ctd_iff]

set_option maxHeartbeats 400000 in
theorem hgood_any (c p : Int) (n : Nat) (w : World) : Calls Tryz.prog 152 #[.agg #[.int .i64 c, .int .i64 p, .int .u64 (n : Int)]] w fun e w' => e = .returned (.bool (hgood c p)) ∧ Below w.heap.size w w' := by
  have c1 := hid (counted_any c)
  have c2 := hid (counted_any p)
  unfold hgood
  generalize ctd c = b1 at *
  generalize ctd p = b2 at *
  cases b1 with
  | true =>
    go_enter Tryz.func152, Tryz.ntmps152
    go_wp2_with (first | (go_at_call 183; refine (c1.out _).mono ?_; rintro e w1 ⟨rfl, hw1⟩; obtain rfl := hw1.symm; clear c1) | (go_at_call 183; refine (c2.out _).mono ?_; rintro e w1 ⟨rfl, hw1⟩; obtain rfl := hw1.symm))
    go_ret
    exact ⟨by simp, Below.alloc (Below.refl _ _) (Nat.le_refl _) _⟩
  | false =>
    go_enter Tryz.func152, Tryz.ntmps152
    go_wp2_with (go_at_call 183; refine (c1.out _).mono ?_; rintro e w1 ⟨rfl, hw1⟩; obtain rfl := hw1.symm)
    go_ret
    exact ⟨by simp, Below.alloc (Below.refl _ _) (Nat.le_refl _) _⟩

def rgood (p : Int) (n : Nat) : Bool := decide (1 ≤ p) && decide (p ≤ 4000) && decide (n = 512)
theorem rgood_iff (p : Int) (n : Nat) : rgood p n = true ↔ (1 ≤ p ∧ p ≤ 4000) ∧ n = 512 := by simp [rgood]

set_option maxHeartbeats 400000 in
theorem rgood_any (p : Int) (ao : Option Addr) (n cap : Nat) (w : World) : Calls Tryz.prog 153 #[.agg #[.int .i64 p, .slice ao n cap]] w fun e w' => e = .returned (.bool (rgood p n)) ∧ Below w.heap.size w w' := by
  by_cases h2 : n = 512
  · subst h2
    by_cases h : 1 ≤ p
    · by_cases h' : p ≤ 4000
      · skip
        rw [show rgood p 512 = true by exact (rgood_iff _ _).2 ⟨⟨by omega, by omega⟩, rfl⟩]
        go_enter Tryz.func153, Tryz.ntmps153
        go_wp2
        go_ret
        exact ⟨rfl, Below.alloc (Below.refl _ _) (Nat.le_refl _) _⟩
      · skip
        rw [show rgood p 512 = false by rw [Bool.eq_false_iff, Ne, rgood_iff]; omega]
        go_enter Tryz.func153, Tryz.ntmps153
        go_wp2
        go_ret
        exact ⟨rfl, Below.alloc (Below.refl _ _) (Nat.le_refl _) _⟩
    · skip
      rw [show rgood p 512 = false by rw [Bool.eq_false_iff, Ne, rgood_iff]; omega]
      go_enter Tryz.func153, Tryz.ntmps153
      go_wp2
      go_ret
      exact ⟨rfl, Below.alloc (Below.refl _ _) (Nat.le_refl _) _⟩
  · have h3 : ((n : Int) == 512) = false := by simp; omega
    by_cases h : 1 ≤ p
    · by_cases h' : p ≤ 4000
      · skip
        rw [show rgood p n = false by rw [Bool.eq_false_iff, Ne, rgood_iff]; omega]
        go_enter Tryz.func153, Tryz.ntmps153
        go_wp2
        go_ret
        exact ⟨rfl, Below.alloc (Below.refl _ _) (Nat.le_refl _) _⟩
      · skip
        rw [show rgood p n = false by rw [Bool.eq_false_iff, Ne, rgood_iff]; omega]
        go_enter Tryz.func153, Tryz.ntmps153
        go_wp2
        go_ret
        exact ⟨rfl, Below.alloc (Below.refl _ _) (Nat.le_refl _) _⟩
    · skip
      rw [show rgood p n = false by rw [Bool.eq_false_iff, Ne, rgood_iff]; omega]
      go_enter Tryz.func153, Tryz.ntmps153
      go_wp2
      go_ret
      exact ⟨rfl, Below.alloc (Below.refl _ _) (Nat.le_refl _) _⟩

end Go.Proofs.YtgjgkpnjchflaaaGreatDoor.Jrn

/- Noughts appended to a slice of the call's own ('append' of a 'make'), and what slices.Grow does with a full one; no statement of the seat is proved here. -/
namespace Go.Proofs.YtgjgkpnjchflaaaGreatDoor.Jrn
open Go.RowKit

theorem zero_cells (k : Nat) : Builtin.zeroCells (Value.int .u8 0).cells k = (bs (List.replicate k 0)).toArray := by
  apply Array.ext'
  simp [Builtin.zeroCells, bs, Value.cells]
  apply List.ext_getElem
  · simp
  · intro i h1 h2
    simp [Nat.mod_one]

theorem run_append_zeros (B : Nat) (ty : TypeId) (v : Value) (n : Nat) (xs : List Nat) (w : World) (hown : w.ownsRow B 5 1 v n (bs xs)) (k : Nat) (hk : 0 < k) (hb : n + k ≤ 140737488355328) (hB : B ≤ w.heap.size) :
    ∃ v' w', (Builtin.append_ #[79, 3] ty #[v, .int .i64 (k : Int)]).run Tryz.prog w = .ok v' w' ∧ w'.ownsRow B 5 1 v' (n + k) (bs (xs ++ List.replicate k 0)) ∧ w.grownBy w' v.ownBlock := by
  obtain ⟨i5, hi5, hz0, hz1, hz2⟩ := info_parts Tryz.info5
  have hlx : xs.length = n := by simpa [bs] using hown.1
  have hlen : (bs (xs ++ List.replicate k 0)).length = (n + k) * 1 := by simp [bs, hlx]
  have t30 := Tryz.underlying79
  have t3 := Tryz.underlying3
  have hw : IntKind.i64.wrap (k : Int) = k := by rw [IntKind.wrap_i64]; omega
  have hneg : ¬ ((k : Int) < 0) := by omega
  have h48i : ¬ (281474976710656 < (k : Int) * (i5.bytes : Int)) := by rw [hz2]; omega
  have grown : ∀ (old : Nat), old < n + k → ∀ (row : Option Nat) (C : Array Value), C = (bs (xs ++ List.replicate k 0)).toArray ++ Builtin.zeroCells (Value.int .u8 0).cells (grownCap w (n + k) old 5 - (n + k)) →
      (w.drew.alloc (.cells C 5)).ownsRow B 5 1 (.slice (some ⟨w.heap.size, 0, none⟩) (n + k) (grownCap w (n + k) old 5)) (n + k) (bs (xs ++ List.replicate k 0)) ∧ w.grownBy (w.drew.alloc (.cells C 5)) row := by
    intro old ho row C hC
    subst hC
    have hge := grownCap_ge w (n + k) old 5
    have hcm := grownCap_le_maxLen w (n + k) old 5 (by unfold maxLen; omega)
    refine ⟨⟨hlen, .inr ⟨w.heap.size, _, _, rfl, hB, heap_alloc_new w.drew _, hge, hcm, ?_, ?_⟩⟩, ⟨rfl, rfl, rfl, by simp, fun j hj _ => Below.heap_alloc w.drew _ j hj⟩⟩
    · rw [zero_cells]; simp [bs]; omega
    · rw [← hlen]; simp
  rcases hown.2 with ⟨rfl, rfl⟩ | ⟨g, cap, cur, rfl, hbg, hg, hnc, hcm, hcs, htake⟩
  · obtain rfl : xs = [] := List.eq_nil_of_length_eq_zero hlx
    have hr := Lib.run_append_nil_zeros (P := Tryz.prog) w 79 3 ty 5 i5 (.int .u8 0) .i64 .i64 t30 t3 hi5 hz0 k (by omega) (by rw [hz1]; omega) (by omega) (by rw [hz2]; omega)
    have hgr := grown 0 (by omega) (Value.ownBlock (.slice none 0 0)) _ rfl
    simp only [Nat.zero_add, List.nil_append] at hgr ⊢
    refine ⟨_, _, hr, ?_⟩
    rw [zero_cells k]
    exact hgr
  · by_cases hroom : n + k ≤ cap
    · have hst := run_storeCells_at Tryz.prog g n 5 (bs (List.replicate k 0)) 0 cur w hg (by simp [bs, hcs]; omega) (bs_one _)
      simp only [Nat.add_zero] at hst
      have hr : (Builtin.append_ #[79, 3] ty #[.slice (some ⟨g, 0, none⟩) n cap, .int .i64 (k : Int)]).run Tryz.prog w = .ok (.slice (some ⟨g, 0, none⟩) (n + k) cap) (w.setRow g (cur.toList.take n ++ bs (List.replicate k 0) ++ cur.toList.drop (n + (bs (List.replicate k 0)).length)).toArray) := by
        simp [Builtin.append_, run_underlying t30, run_underlying t3, sizeOf, typeInfo, zeroValue, hi5, hz0, asInt, asIntOf, hw, hneg, h48i, hroom, Addr.add_lit, hz1, zero_cells, hst]
        intro h0
        omega
      refine ⟨_, _, hr, ⟨hlen, .inr ⟨g, cap, _, rfl, hbg, setRow_heap w g cur _ 5 _ hg, hroom, hcm, ?_, ?_⟩⟩, ⟨rfl, rfl, rfl, by simp, fun j _ hj => setRow_other w g j _ (fun e => hj (by simp [Value.ownBlock, e]))⟩⟩
      · simp [bs, hcs]; omega
      · rw [← hlen]
        have : cur.toList.take n = bs xs := by simpa using htake
        rw [this, bs_append]
        exact List.take_left
    · have holds : ∀ j u, (bs xs)[j]? = some u → w.cell? ((⟨g, 0, none⟩ : Addr).add j) = some u := hown.cells (g := g) rfl
      have hold : (Builtin.firstCells i5.size n (.slice (some ⟨g, 0, none⟩) n cap)).run Tryz.prog w.drew = .ok (bs xs).toArray w.drew := run_firstCells_some w.drew i5.size n ⟨g, 0, none⟩ n cap (bs xs) (by simp [bs, hz1, hlx]) (by simpa using holds)
      have hr := Lib.run_append_grow_zeros (P := Tryz.prog) w 79 3 ty 5 i5 (.int .u8 0) .i64 .i64 t30 t3 hi5 hz0 (some ⟨g, 0, none⟩) n cap (bs xs) hold k (by omega) (by omega) (by omega) (by omega) (by rw [hz2]; omega) (by rw [hz2]; exact growslice_fits (by omega) (by omega))
      have hgr := grown cap (by omega) (Value.ownBlock (.slice (some ⟨g, 0, none⟩) n cap)) _ rfl
      refine ⟨_, _, hr, ?_⟩
      rw [zero_cells k]
      simpa [bs_append] using hgr

/-- The same, for the walk. -/
theorem wpList_append_zeros {w : World} {ops : Array Oper} {rest : List Oper} {o : Oper} {a : Act} {Q : Exit → Act → World → Prop} (hgd : o.guard = none) (s x : Operand)
    (ho : o.op = .call { callee := .builtin .append, args := #[s, x], argTypes := #[79, 3] }) (B : Nat) (v : Value) (n : Nat) (xs : List Nat) (hs : a.eval s = v) (hown : w.ownsRow B 5 1 v n (bs xs))
    (k : Nat) (hx : a.eval x = .int .i64 (k : Int)) (hk : 0 < k) (hb : n + k ≤ 140737488355328) (hB : B ≤ w.heap.size)
    (h : ∀ v' w', w'.ownsRow B 5 1 v' (n + k) (bs (xs ++ List.replicate k 0)) → Below B w w' → wpList Tryz.prog ops Q rest (a.put o.dst v') w') : wpList Tryz.prog ops Q (o :: rest) a w := by
  obtain ⟨v', w', hr, h1, h2⟩ := run_append_zeros B o.type v n xs w hown k hk hb hB
  exact Lib.wpList_append_run w hgd s x 79 3 ho v _ hs hx v' w' hr (h v' w' h1 ((Below.refl B w).grown h2 hB fun j hj => (hown.lt j hj).1))

/-- What slices.Grow makes of a slice of the call's own. -/
theorem own_cut {w : World} {B n m : Nat} {g cap : Nat} {xs ys : List Nat} (h : w.ownsRow B 5 1 (.slice (some ⟨g, 0, none⟩) (n + m) cap) (n + m) (bs (xs ++ ys))) (hl : xs.length = n) : w.ownsRow B 5 1 (.slice (some ⟨g, 0, none⟩) n cap) n (bs xs) := by
  rcases h.2 with ⟨h', _⟩ | ⟨g', cap', cur, h', hb, hg, hnc, hm, hs, ht⟩
  · cases h'
  · simp only [Value.slice.injEq, Option.some.injEq, Addr.mk.injEq, and_true, true_and] at h'
    obtain ⟨rfl, rfl⟩ := h'
    refine ⟨by simp [bs, hl], .inr ⟨g, cap, cur, rfl, hb, hg, by omega, hm, hs, ?_⟩⟩
    have := congrArg (List.take n) ht
    rw [List.take_take, bs_append, List.take_append_of_le_length (by simp [bs, hl])] at this
    rw [show min n ((n + m) * 1) = n * 1 by omega] at this
    rw [this]
    exact List.take_of_length_le (by simp [bs, hl])

set_option maxHeartbeats 400000 in
theorem grow_any (B g n k : Nat) (xs : List Nat) (w : World) (hown : w.ownsRow B 5 1 (.slice (some ⟨g, 0, none⟩) n n) n (bs xs)) (hb : n + k ≤ 140737488355328) (hB : B ≤ w.heap.size) :
    Calls Tryz.prog 162 #[.slice (some ⟨g, 0, none⟩) n n, .int .i64 (k : Int)] w fun e w' => ∃ v, e = .returned v ∧ w'.ownsRow B 5 1 v n (bs xs) ∧ Below B w w' := by
  have hown' := hid hown
  have hlx : xs.length = n := by simpa [bs] using hown.1
  by_cases hk : k = 0
  · subst hk
    have h0 : ¬ (0 : Int) < 0 := by omega
    go_enter Tryz.func162, Tryz.ntmps162
    go_wp2
    go_ret
    exact ⟨_, rfl, hown'.out, Below.refl _ _⟩
  · have hk' : 0 < (k : Int) := by omega
    have hlx' := hid hlx
    clear hown hlx
    go_enter Tryz.func162, Tryz.ntmps162
    go_wp2_with (at_builtin; refine wpList_append_zeros rfl (.tmp 20) (.tmp 21) rfl B _ n xs rfl hown'.out k rfl (by omega) hb hB ?_; intro v1 w1 ho1 hb1; obtain ⟨g1, cap1, hv1, hc1⟩ : ∃ g1 cap1, v1 = .slice (some ⟨g1, 0, none⟩) (n + k) cap1 ∧ n + k ≤ cap1 ∧ cap1 ≤ 9223372036854775807 := (by rcases ho1.2 with ⟨_, h'⟩ | ⟨g', cap', cur, h', _, _, hnc, hm, _⟩; (exfalso; omega); exact ⟨g', cap', h', hnc, by unfold maxLen at hm; omega⟩); subst hv1; replace ho1 := hid ho1)
    go_ret
    exact ⟨_, rfl, own_cut ho1.out hlx'.out, hb1⟩

end Go.Proofs.YtgjgkpnjchflaaaGreatDoor.Jrn

/- The bytes of heads and records, as numbers; and what HeadBytes returns; no statement of the seat is proved here. -/
namespace Go.Proofs.YtgjgkpnjchflaaaGreatDoor.Jrn
open Go.RowKit

def mag : List Nat := [104, 97, 99, 104, 117, 114]
/-- What a head's sum is of. -/
def hd22 (c p n : Nat) : List Nat := mag ++ putN c 4 false ++ putN p 4 false ++ putN n 8 false
def hd26 (c p n : Nat) : List Nat := hd22 c p n ++ putN (addN 0 (hd22 c p n)) 4 false
/-- A head's sector. -/
def headN (c p n : Nat) (wh : Bool) : List Nat := hd26 c p n ++ List.replicate 101 0 ++ [if wh then 165 else 0]
def rec12 (p n : Nat) : List Nat := putN p 4 false ++ putN n 8 false
def chkN (p n : Nat) (d : List Nat) : Nat := addN 0 (rec12 p n ++ d)
/-- A record's sectors. -/
def recN (p n : Nat) (d : List Nat) : List Nat := putN p 4 false ++ putN (chkN p n d) 4 false ++ List.replicate 120 0 ++ d

theorem putN_length (v s : Nat) (l : Bool) : (putN v s l).length = s := up_length _ _ _
theorem up_bytes (F : Nat → Nat) (hF : ∀ i, F i < 256) (i k : Nat) : ∀ x ∈ up F i k, x < 256 := by
  induction k generalizing i with
  | zero => intro x h; cases h
  | succ k ih =>
    intro x h
    simp only [up, List.mem_cons] at h
    rcases h with rfl | h
    · exact hF i
    · exact ih _ x h
theorem putN_bytes (v s : Nat) (l : Bool) : ∀ x ∈ putN v s l, x < 256 := up_bytes _ (fun _ => by omega) _ _
theorem app_bytes {a b : List Nat} (ha : ∀ x ∈ a, x < 256) (hb : ∀ x ∈ b, x < 256) : ∀ x ∈ a ++ b, x < 256 := by
  intro x h
  rcases List.mem_append.1 h with h | h
  · exact ha x h
  · exact hb x h
theorem zero_bytes (k : Nat) : ∀ x ∈ List.replicate k 0, x < 256 := by
  intro x h
  have := List.eq_of_mem_replicate h
  omega
theorem mag_bytes : ∀ x ∈ mag, x < 256 := by decide
theorem hd22_length (c p n : Nat) : (hd22 c p n).length = 22 := by simp [hd22, putN_length, mag]
theorem hd22_bytes (c p n : Nat) : ∀ x ∈ hd22 c p n, x < 256 := app_bytes (app_bytes (app_bytes mag_bytes (putN_bytes _ _ _)) (putN_bytes _ _ _)) (putN_bytes _ _ _)
theorem hd26_length (c p n : Nat) : (hd26 c p n).length = 26 := by simp [hd26, putN_length, hd22_length]
theorem hd26_bytes (c p n : Nat) : ∀ x ∈ hd26 c p n, x < 256 := app_bytes (hd22_bytes _ _ _) (putN_bytes _ _ _)
theorem headN_length (c p n : Nat) (wh : Bool) : (headN c p n wh).length = 128 := by simp [headN, hd26_length]
theorem headN_bytes (c p n : Nat) (wh : Bool) : ∀ x ∈ headN c p n wh, x < 256 := app_bytes (app_bytes (hd26_bytes _ _ _) (zero_bytes _)) (by intro x h; cases wh <;> simp at h <;> omega)
theorem rec12_length (p n : Nat) : (rec12 p n).length = 12 := by simp [rec12, putN_length]
theorem rec12_bytes (p n : Nat) : ∀ x ∈ rec12 p n, x < 256 := app_bytes (putN_bytes _ _ _) (putN_bytes _ _ _)
theorem chkN_lt (p n : Nat) {d : List Nat} (hd : ∀ x ∈ d, x < 256) : chkN p n d < 4294967296 := addN_lt (by decide) (app_bytes (rec12_bytes _ _) hd)
theorem recN_length (p n : Nat) (d : List Nat) : (recN p n d).length = 128 + d.length := by simp [recN, putN_length]; omega
theorem recN_bytes (p n : Nat) {d : List Nat} (hd : ∀ x ∈ d, x < 256) : ∀ x ∈ recN p n d, x < 256 := app_bytes (app_bytes (app_bytes (putN_bytes _ _ _) (putN_bytes _ _ _)) (zero_bytes _)) hd

/-- A box with a head in it. -/
def HB (t : TypeId) (W : World) (q : Nat) (c p : Int) (n : Nat) : Prop := W.heap[q]? = some (.cells #[.int .i64 c, .int .i64 p, .int .u64 (n : Int)] t (0, 0))
theorem HB.cells {t : TypeId} {W : World} {q : Nat} {c p : Int} {n : Nat} (h : HB t W q c p n) :
    W.cell? ⟨q, 0, none⟩ = some (.int .i64 c) ∧ W.cell? ⟨q, 1, none⟩ = some (.int .i64 p) ∧ W.cell? ⟨q, 2, none⟩ = some (.int .u64 (n : Int)) ∧ W.frozen? ⟨q, 0, none⟩ = false ∧ W.frozen? ⟨q, 1, none⟩ = false ∧ W.frozen? ⟨q, 2, none⟩ = false := by
  unfold HB at h
  simp [World.cell?, World.frozen?, h]
theorem HB.lt {t : TypeId} {W : World} {q : Nat} {c p : Int} {n : Nat} (h : HB t W q c p n) : q < W.heap.size := lt_of_block h
theorem HB.keep {t : TypeId} {W W' : World} {q : Nat} {c p : Int} {n : Nat} (h : HB t W q c p n) (hb : Below W.heap.size W W') : HB t W' q c p n := by
  unfold HB; rw [hb.block q h.lt]; exact h
theorem HB.new (t : TypeId) (w : World) (c p : Int) (n : Nat) : HB t (w.alloc (.cells #[.int .i64 c, .int .i64 p, .int .u64 (n : Int)] t)) w.heap.size c p n := heap_alloc_new w _
theorem HB.under {t : TypeId} {W W' : World} {q : Nat} {c p : Int} {n : Nat} {B : Nat} (h : HB t W q c p n) (hb : Below B W W') (hq : q < B) : HB t W' q c p n := by
  unfold HB; rw [hb.block q hq]; exact h

theorem rd_lit (w : World) (xs : List Nat) (n : Nat) (C : Array Value) (m : Nat × Nat) (hC : C = (bs xs).toArray) (hn : xs.length = n) : Rd (w.alloc (.cells C 5 m)) (some ⟨w.heap.size, 0, none⟩) n n xs := by
  subst hC
  refine ⟨hn, Nat.le_refl _, fun h => (by cases h), fun _ => ⟨_, _, rfl, fun t ht => ?_⟩⟩
  rw [Nat.zero_add, World.cell?_alloc_mark]
  have := bs_get xs t (by omega)
  simpa using this

theorem splice_rep (N : Nat) (xs : List Nat) : splice (List.replicate N (Value.int .u8 0)) 0 (bs xs) = bs (xs ++ List.replicate (N - xs.length) 0) := by
  have h1 : (bs xs).length = xs.length := bs_length xs
  rw [bs_append]
  unfold splice
  rw [h1]
  simp [bs]

theorem make_lit (z : Int) (K : Nat) (hz : z = (K : Int)) (hK : K ≤ 1000) (w : World) :
    (Instr.makeSlice 79 (.int .i64 z) (.int .i64 z)).run Tryz.prog w = .ok (.slice (some ⟨w.heap.size, 0, none⟩) K K) (w.alloc (.cells (Array.replicate K (.int .u8 0)) 5)) := by
  subst hz
  exact make_any K K (Nat.le_refl _) (by omega) w

set_option maxHeartbeats 400000 in
theorem head_no (c p : Int) (n : Nat) (wh : Bool) (w : World) (h : hgood c p = false) :
    Calls Tryz.prog 119 #[.agg #[.int .i64 c, .int .i64 p, .int .u64 (n : Int)], .bool wh] w fun e w' => e = .returned (.slice none 0 0) ∧ Below w.heap.size w w' := by
  have cg := hid (hgood_any c p n)
  rw [h] at cg
  clear h
  go_enter Tryz.func119, Tryz.ntmps119
  go_wp2_with (go_at_call 152; refine (cg.out _).mono ?_; rintro e w1 ⟨rfl, hb1⟩)
  go_ret
  exact ⟨rfl, gt (Below.alloc (Below.refl _ _) (Nat.le_refl _) _) hb1⟩

end Go.Proofs.YtgjgkpnjchflaaaGreatDoor.Jrn

/- Copies into a slice of the call's own, and Put in the form that the walks ask for; no statement of the seat is proved here. -/
namespace Go.Proofs.YtgjgkpnjchflaaaGreatDoor.Jrn
open Go.RowKit

/-- 'copy' into a slice of the call's own, from place off on. -/
theorem wpList_copy_in {w : World} {ops : Array Oper} {rest : List Oper} {o : Oper} {a : Act} {Q : Exit → Act → World → Prop} (hgd : o.guard = none) (d s : Operand)
    (ho : o.op = .call { callee := .builtin .copy, args := #[d, s], argTypes := #[79, 79] }) (B g N off : Nat) (ys : List Nat) (hown : w.ownsRow B 5 1 (.slice (some ⟨g, 0, none⟩) N N) N (bs ys))
    (dLen dCap : Nat) (hd : a.eval d = .slice (some ⟨g, off, none⟩) dLen dCap) (hdl : off + dLen = N) (so : Option Addr) (n c : Nat) (xs : List Nat) (hs : a.eval s = .slice so n c) (hr : Rd w so n c xs) (hn : n ≤ dLen)
    (h : ∀ w', w'.ownsRow B 5 1 (.slice (some ⟨g, 0, none⟩) N N) N (bs (ys.take off ++ xs ++ ys.drop (off + n))) → Below B w w' → wpList Tryz.prog ops Q rest (a.put o.dst (goInt n)) w') : wpList Tryz.prog ops Q (o :: rest) a w := by
  have hly : ys.length = N := by simpa [bs] using hown.1
  have hlx := hr.1
  rcases hown.2 with ⟨h', _⟩ | ⟨g', cap', cur, h', hb, hg, hnc, hm, hsz, ht⟩
  · cases h'
  simp only [Value.slice.injEq, Option.some.injEq, Addr.mk.injEq, and_true, true_and] at h'
  obtain ⟨rfl, rfl⟩ := h'
  have hcur : cur.toList = bs ys := by
    rw [← ht]
    exact (List.take_of_length_le (by simp [hsz])).symm
  have hg' : w.heap[g]? = some (.cells (bs ys).toArray 5 (0, 0)) := by rw [hg, ← hcur]
  have hbl : (bs xs).length = n := by simp [bs, hlx]
  refine wpList_copy_splice hgd d s 79 79 ho 5 Tryz.underlying79 (by kernel_rfl) _ _ _ _ _ _ hd hs g off (bs ys) 5 hg' (bs xs) (by rw [hbl]; exact (Nat.min_eq_left hn).symm) (fun hp => ?_) (by rw [hbl]; simp [bs, hly]; omega) (bs_one xs) B w (Below.refl _ _) hb ?_
  · rw [hbl] at hp
    obtain ⟨b, o2, e, hc⟩ := hr.2.2.2 hp
    refine ⟨rfl, _, e, fun j v hv => ?_⟩
    obtain ⟨hj, rfl⟩ := bs_get' xs j v hv
    rw [Addr.add_lit]
    exact hc j (by omega)
  · intro w' hg2 hb2
    rw [hbl]
    refine h w' ?_ hb2
    have hsp : splice (bs ys) off (bs xs) = bs (ys.take off ++ xs ++ ys.drop (off + n)) := by
      unfold splice
      rw [hbl, bs_append, bs_append]
      simp [bs]
    refine own_of_row hb (hsp ▸ hg2.out) ?_ (by unfold maxLen at hm; omega) ?_ ?_ (Nat.le_refl _)
    · simp [bs]; omega
    · exact List.take_of_length_le (by simp [bs]; omega)
    · simp; omega

theorem put4 (ao : Option Addr) (n cap m : Nat) (xs : List Nat) (v : Nat) (w : World) (h : Rd w ao n cap xs) (hn : n ≤ 100000) (hm : m = n + 4) :
    Calls Tryz.prog 114 #[.slice ao n cap, .int .u64 (v : Int), .int .i64 4, .bool false] w fun e w' => ∃ g, e = .returned (.slice (some ⟨g, 0, none⟩) m m) ∧ w.heap.size ≤ g ∧ Rd w' (some ⟨g, 0, none⟩) m m (xs ++ putN v 4 false) ∧ Below w.heap.size w w' := by
  subst hm
  exact (put_any ao n cap xs v 4 4 false w h (by omega) (by omega) (by decide)).mono fun e w' ⟨he, ho, hb⟩ => ⟨_, he, Nat.le_refl _, rd_own ho, hb⟩

theorem put8 (ao : Option Addr) (n cap m : Nat) (xs : List Nat) (v : Nat) (w : World) (h : Rd w ao n cap xs) (hn : n ≤ 100000) (hm : m = n + 8) :
    Calls Tryz.prog 114 #[.slice ao n cap, .int .u64 (v : Int), .int .i64 8, .bool false] w fun e w' => ∃ g, e = .returned (.slice (some ⟨g, 0, none⟩) m m) ∧ w.heap.size ≤ g ∧ Rd w' (some ⟨g, 0, none⟩) m m (xs ++ putN v 8 false) ∧ Below w.heap.size w w' := by
  subst hm
  exact (put_any ao n cap xs v 8 8 false w h (by omega) (by omega) (by decide)).mono fun e w' ⟨he, ho, hb⟩ => ⟨_, he, Nat.le_refl _, rd_own ho, hb⟩

theorem own_zeros (w : World) (K : Nat) (hK : K ≤ 1000) : (w.alloc (.cells (Array.replicate K (.int .u8 0)) 5)).ownsRow w.heap.size 5 1 (.slice (some ⟨w.heap.size, 0, none⟩) K K) K (bs (List.replicate K 0)) := by
  refine own_of_row (cur := List.replicate K (.int .u8 0)) (Nat.le_refl _) (copy_hg w K) (by simp) (by omega) ?_ (by simp) (Nat.le_refl _)
  simp [bs]

theorem own_base {w : World} {B B' n : Nat} {v : Value} {xs : List Value} (h : w.ownsRow B' 5 1 v n xs) (hB : B ≤ B') : w.ownsRow B 5 1 v n xs := by
  refine ⟨h.1, ?_⟩
  rcases h.2 with h1 | ⟨g, cap, cur, e, hb, h2⟩
  · exact Or.inl h1
  · exact Or.inr ⟨g, cap, cur, e, by omega, h2⟩

theorem HB.keep2 {t : TypeId} {W W' : World} {q : Nat} {c p : Int} {n : Nat} {o : Obj} (h : HB t W q c p n) (hb : Below (W.alloc o).heap.size (W.alloc o) W') : HB t W' q c p n := (h.keep (Below.alloc (Below.refl _ _) (Nat.le_refl _) o)).keep hb
theorem gt2 {w a b : World} {o : Obj} (h : Below w.heap.size w a) (k : Below (a.alloc o).heap.size (a.alloc o) b) : Below w.heap.size w b := gt (Below.alloc h h.size o) k

/-- A store into a slice of the call's own. -/
theorem own_store {w : World} {B g n cap : Nat} {xs : List Nat} (h : w.ownsRow B 5 1 (.slice (some ⟨g, 0, none⟩) n cap) n (bs xs)) (i v : Nat) :
    (w.setCell ⟨g, i, none⟩ (.int .u8 (v : Int))).ownsRow B 5 1 (.slice (some ⟨g, 0, none⟩) n cap) n (bs (xs.set i v)) := by
  have := (h.stored i (.int .u8 (v : Int))).1
  rwa [show (bs xs).set i (.int .u8 (v : Int)) = bs (xs.set i v) by simp [bs, List.map_set]] at this

end Go.Proofs.YtgjgkpnjchflaaaGreatDoor.Jrn

/- What HeadBytes returns; no statement of the seat is proved here. -/
namespace Go.Proofs.YtgjgkpnjchflaaaGreatDoor.Jrn
open Go.RowKit

theorem head_rows (c p n : Nat) : (List.replicate 128 0).take 0 ++ hd26 c p n ++ (List.replicate 128 0).drop (0 + 26) = headN c p n false := by
  unfold headN
  simp only [List.take_zero, List.nil_append, List.drop_replicate, List.append_assoc, Bool.false_eq_true, if_false]
  rfl

theorem head_mark (c p n : Nat) : (headN c p n false).set 127 165 = headN c p n true := by
  unfold headN
  rw [List.set_append_right _ _ (by simp [hd26_length])]
  simp [hd26_length]

theorem cell127 {w : World} {B g : Nat} {c p n : Nat} (h : w.ownsRow B 5 1 (.slice (some ⟨g, 0, none⟩) 128 128) 128 (bs (headN c p n false))) : w.cell? ⟨g, 127, none⟩ = some (.int .u8 0) := by
  rw [h.cellAt 127 (by omega), bs_get _ _ (by rw [headN_length]; omega)]
  have : (headN c p n false).getD 127 0 = 0 := by
    unfold headN
    simp [List.getD, hd26_length]
  rw [this]
  rfl

set_option maxHeartbeats 1000000 in
theorem head_yes (c p n : Nat) (wh : Bool) (w : World) (hc : c ≤ 4000) (hp : p ≤ 4000) (hT : Tab w) :
    Calls Tryz.prog 119 #[.agg #[.int .i64 (c : Int), .int .i64 (p : Int), .int .u64 (n : Int)], .bool wh] w fun e w' => ∃ g, e = .returned (.slice (some ⟨g, 0, none⟩) 128 128) ∧ w'.ownsRow w.heap.size 5 1 (.slice (some ⟨g, 0, none⟩) 128 128) 128 (bs (headN c p n wh)) ∧ Below w.heap.size w w' := by
  have cg := hid (hgood_any (c : Int) (p : Int) n)
  rw [(hgood_iff (c : Int) (p : Int)).2 (by omega)] at cg
  have kc := fun (w : World) (C : Array Value) (n c : Nat) => Lib.run_convert_bytes_const (P := Tryz.prog) w 79 5 C n c Tryz.underlying79 Tryz.underlying5
  have hT' := hid hT
  have h0 : Hid (HB 140 (w.alloc (.cells #[.int .i64 c, .int .i64 p, .int .u64 (n : Int)] 140)) w.heap.size c p n) := hid (HB.new 140 w c p n)
  obtain ⟨K, hK⟩ : ∃ K : Nat, K = 128 := ⟨_, rfl⟩
  have hmk := make_lit 128 K (by omega) (by omega)
  have hK' := hid hK
  obtain ⟨S, hS⟩ : ∃ S, S = addN 0 (hd22 c p n) := ⟨_, rfl⟩
  have hS1 : S < 4294967296 := by rw [hS]; exact addN_lt (by decide) (hd22_bytes _ _ _)
  have hS' := hid hS
  have tA : Hid True := hid trivial
  have tB : Hid True := hid trivial
  have tC : Hid True := hid trivial
  clear hT hK hS
  go_enter Tryz.func119, Tryz.ntmps119
  go_wp2_with (first
    | (go_at_call 152; refine (cg.out _).mono ?_; rintro e w1 ⟨rfl, hb1⟩; have h1 := hid (h0.out.keep hb1); have B1 := hid (gt (Below.alloc (Below.refl _ _) (Nat.le_refl _) _) hb1); obtain ⟨q0, q1, q2, _, _, _⟩ := h1.out.cells; have hl1 := h1.out.lt; have hne1 : ¬ w.heap.size = w1.heap.size := (by omega); clear cg hb1)
    | (go_at_call 114; clear tA; refine (put4 _ 6 6 10 mag c _ (rd_lit w1 mag 6 _ _ rfl rfl) (by omega) (by omega)).mono ?_; rintro e w2 ⟨g2, rfl, hg2, r2, hb2⟩; have h2 := hid (h1.out.keep2 hb2); have B2 := hid (gt2 B1.out hb2); replace r2 := hid r2; clear hb2 q0 q1 q2 kc hne1; obtain ⟨q0, q1, q2, _, _, _⟩ := h2.out.cells)
    | (go_at_call 114; clear tB; refine (put4 _ 10 10 14 _ p _ r2.out (by omega) (by omega)).mono ?_; rintro e w3 ⟨g3, rfl, hg3, r3, hb3⟩; have h3 := hid (h2.out.keep hb3); have B3 := hid (gt B2.out hb3); replace r3 := hid r3; clear hb3 q0 q1 q2; obtain ⟨q0, q1, q2, _, _, _⟩ := h3.out.cells)
    | (go_at_call 114; clear tC; refine (put8 _ 14 14 22 _ n _ r3.out (by omega) (by omega)).mono ?_; rintro e w4 ⟨g4, rfl, hg4, r4, hb4⟩; have B4 := hid (gt B3.out hb4); replace r4 : Hid (Rd w4 (some ⟨g4, 0, none⟩) 22 22 (hd22 c p n)) := hid r4; clear hb4 q0 q1 q2)
    | (go_at_call 149; refine (of_any _ 22 22 _ _ r4.out (hd22_bytes _ _ _) (by omega) (hT'.out.keep B4.out)).mono ?_; rintro e w5 ⟨rfl, hw5⟩; obtain rfl := hw5.symm; rw [← hS'.out])
    | (go_at_call 114; refine (put4 _ 22 22 26 _ S _ r4.out (by omega) (by omega)).mono ?_; rintro e w6 ⟨g6, rfl, hg6, r6, hb6⟩; have B6 := hid (gt B4.out hb6); replace r6 : Hid (Rd w6 (some ⟨g6, 0, none⟩) 26 26 (hd26 c p n)) := hid (by rw [hS'.out] at r6; exact r6); clear hb6)
    | ((with_reducible refine here_op 33 ?_); refine wpList_copy_in rfl (.tmp 31) (.tmp 32) rfl w6.heap.size w6.heap.size K 0 (List.replicate K 0) (own_zeros w6 K (by have := hK'.out; omega)) K K rfl (by omega) (some ⟨g6, 0, none⟩) 26 26 (hd26 c p n) rfl (r6.out.keep (Below.alloc (Below.refl _ _) (Nat.le_refl _) _)) (by have := hK'.out; omega) ?_; intro w7 ho7 hb7; clear hmk; have hK2 := hK'.out; subst hK2; rw [head_rows] at ho7; have B7 := hid ((Below.alloc B6.out B6.out.size _).trans (hb7.mono B6.out.size)); have hg7 := B6.out.size; have c7 := cell127 ho7; have f7 := ho7.frozenAt 127; replace ho7 := hid (own_base ho7 hg7); clear hb7))
  all_goals go_ret
  · exact ⟨_, rfl, by rw [← head_mark]; exact own_store ho7.out 127 165, Below.setCell B7.out hg7 _⟩
  · exact ⟨_, rfl, ho7.out, B7.out⟩

end Go.Proofs.YtgjgkpnjchflaaaGreatDoor.Jrn
