/- Noughts appended to a slice of the call's own ('append' of a 'make'), and what slices.Grow does with a full one; no statement of the seat is proved here. -/
import Derived.Test.YtndlogjmnbgegaaDoorAa
import Derived.Lib.AppendZerosOnto
namespace Go.Proofs.YtndlogjmnbgegaaDoor
open Go.RowKit

theorem zero_cells (k : Nat) : Builtin.zeroCells (Value.int .u8 0).cells k = (bs (List.replicate k 0)).toArray := by
  apply Array.ext'
  simp [Builtin.zeroCells, bs, Value.cells]
  apply List.ext_getElem
  · simp
  · intro i h1 h2
    simp [Nat.mod_one]

theorem run_append_zeros (B : Nat) (ty : TypeId) (v : Value) (n : Nat) (xs : List Nat) (w : World) (hown : w.ownsRow B 5 1 v n (bs xs)) (k : Nat) (hk : 0 < k) (hb : n + k ≤ 140737488355328) (hB : B ≤ w.heap.size) :
    ∃ v' w', (Builtin.append_ #[30, 3] ty #[v, .int .i64 (k : Int)]).run Tryd.prog w = .ok v' w' ∧ w'.ownsRow B 5 1 v' (n + k) (bs (xs ++ List.replicate k 0)) ∧ w.grownBy w' v.ownBlock := by
  obtain ⟨i5, hi5, hz0, hz1, hz2⟩ := info_parts Tryd.info5
  have hlx : xs.length = n := by simpa [bs] using hown.1
  have hlen : (bs (xs ++ List.replicate k 0)).length = (n + k) * 1 := by simp [bs, hlx]
  have t30 := Tryd.underlying30
  have t3 := Tryd.underlying3
  have hw : IntKind.i64.wrap (k : Int) = k := by rw [IntKind.wrap_i64]; omega
  have hneg : ¬ ((k : Int) < 0) := by omega
  have h48i : ¬ (281474976710656 < (k : Int) * (i5.bytes : Int)) := by rw [hz2]; omega
  have grown : ∀ (old : Nat), old < n + k → ∀ (row : Option Nat) (C : Array Value), C = (bs (xs ++ List.replicate k 0)).toArray ++ Builtin.zeroCells (Value.int .u8 0).cells (grownCap w (n + k) old 5 - (n + k)) →
      (w.drew.alloc (.cells C 5)).ownsRow B 5 1 (.slice (some ⟨w.heap.size, 0, none⟩) (n + k) (grownCap w (n + k) old 5)) (n + k) (bs (xs ++ List.replicate k 0)) ∧ w.grownBy (w.drew.alloc (.cells C 5)) row := by
    intro old ho row C hC
    subst hC
    have hge := grownCap_ge w (n + k) old 5
    have hcm := grownCap_le_maxLen w (n + k) old 5 (by unfold maxLen; omega)
    refine ⟨⟨hlen, .inr ⟨w.heap.size, _, _, rfl, hB, heap_alloc_new w.drew _, hge, hcm, ?_, ?_⟩⟩, ⟨rfl, rfl, rfl, by simp, fun j hj _ => Below.heap_alloc w.drew _ j hj⟩⟩
    · rw [zero_cells]; simp [bs]; omega
    · rw [← hlen]; simp
  rcases hown.2 with ⟨rfl, rfl⟩ | ⟨g, cap, cur, rfl, hbg, hg, hnc, hcm, hcs, htake⟩
  · obtain rfl : xs = [] := List.eq_nil_of_length_eq_zero hlx
    have hr := Lib.run_append_nil_zeros (P := Tryd.prog) w 30 3 ty 5 i5 (.int .u8 0) .i64 .i64 t30 t3 hi5 hz0 k (by omega) (by rw [hz1]; omega) (by omega) (by rw [hz2]; omega)
    have hgr := grown 0 (by omega) (Value.ownBlock (.slice none 0 0)) _ rfl
    simp only [Nat.zero_add, List.nil_append] at hgr ⊢
    refine ⟨_, _, hr, ?_⟩
    rw [zero_cells k]
    exact hgr
  · by_cases hroom : n + k ≤ cap
    · have hst := run_storeCells_at Tryd.prog g n 5 (bs (List.replicate k 0)) 0 cur w hg (by simp [bs, hcs]; omega) (bs_one _)
      simp only [Nat.add_zero] at hst
      have hr : (Builtin.append_ #[30, 3] ty #[.slice (some ⟨g, 0, none⟩) n cap, .int .i64 (k : Int)]).run Tryd.prog w = .ok (.slice (some ⟨g, 0, none⟩) (n + k) cap) (w.setRow g (cur.toList.take n ++ bs (List.replicate k 0) ++ cur.toList.drop (n + (bs (List.replicate k 0)).length)).toArray) := by
        simp [Builtin.append_, run_underlying t30, run_underlying t3, sizeOf, typeInfo, zeroValue, hi5, hz0, asInt, asIntOf, hw, hneg, h48i, hroom, Addr.add_lit, hz1, zero_cells, hst]
        intro h0
        omega
      refine ⟨_, _, hr, ⟨hlen, .inr ⟨g, cap, _, rfl, hbg, setRow_heap w g cur _ 5 _ hg, hroom, hcm, ?_, ?_⟩⟩, ⟨rfl, rfl, rfl, by simp, fun j _ hj => setRow_other w g j _ (fun e => hj (by simp [Value.ownBlock, e]))⟩⟩
      · simp [bs, hcs]; omega
      · rw [← hlen]
        have : cur.toList.take n = bs xs := by simpa using htake
        rw [this, bs_append]
        exact List.take_left
    · have holds : ∀ j u, (bs xs)[j]? = some u → w.cell? ((⟨g, 0, none⟩ : Addr).add j) = some u := hown.cells (g := g) rfl
      have hold : (Builtin.firstCells i5.size n (.slice (some ⟨g, 0, none⟩) n cap)).run Tryd.prog w.drew = .ok (bs xs).toArray w.drew := run_firstCells_some w.drew i5.size n ⟨g, 0, none⟩ n cap (bs xs) (by simp [bs, hz1, hlx]) (by simpa using holds)
      have hr := Lib.run_append_grow_zeros (P := Tryd.prog) w 30 3 ty 5 i5 (.int .u8 0) .i64 .i64 t30 t3 hi5 hz0 (some ⟨g, 0, none⟩) n cap (bs xs) hold k (by omega) (by omega) (by omega) (by omega) (by rw [hz2]; omega) (by rw [hz2]; exact growslice_fits (by omega) (by omega))
      have hgr := grown cap (by omega) (Value.ownBlock (.slice (some ⟨g, 0, none⟩) n cap)) _ rfl
      refine ⟨_, _, hr, ?_⟩
      rw [zero_cells k]
      simpa [bs_append] using hgr

/-- The same, for the walk. -/
theorem wpList_append_zeros {w : World} {ops : Array Oper} {rest : List Oper} {o : Oper} {a : Act} {Q : Exit → Act → World → Prop} (hgd : o.guard = none) (s x : Operand)
    (ho : o.op = .call { callee := .builtin .append, args := #[s, x], argTypes := #[30, 3] }) (B : Nat) (v : Value) (n : Nat) (xs : List Nat) (hs : a.eval s = v) (hown : w.ownsRow B 5 1 v n (bs xs))
    (k : Nat) (hx : a.eval x = .int .i64 (k : Int)) (hk : 0 < k) (hb : n + k ≤ 140737488355328) (hB : B ≤ w.heap.size)
    (h : ∀ v' w', w'.ownsRow B 5 1 v' (n + k) (bs (xs ++ List.replicate k 0)) → Below B w w' → wpList Tryd.prog ops Q rest (a.put o.dst v') w') : wpList Tryd.prog ops Q (o :: rest) a w := by
  obtain ⟨v', w', hr, h1, h2⟩ := run_append_zeros B o.type v n xs w hown k hk hb hB
  exact Lib.wpList_append_run w hgd s x 30 3 ho v _ hs hx v' w' hr (h v' w' h1 ((Below.refl B w).grown h2 hB fun j hj => (hown.lt j hj).1))

/-- What slices.Grow makes of a slice of the call's own. -/
theorem own_cut {w : World} {B n m : Nat} {g cap : Nat} {xs ys : List Nat} (h : w.ownsRow B 5 1 (.slice (some ⟨g, 0, none⟩) (n + m) cap) (n + m) (bs (xs ++ ys))) (hl : xs.length = n) : w.ownsRow B 5 1 (.slice (some ⟨g, 0, none⟩) n cap) n (bs xs) := by
  rcases h.2 with ⟨h', _⟩ | ⟨g', cap', cur, h', hb, hg, hnc, hm, hs, ht⟩
  · cases h'
  · simp only [Value.slice.injEq, Option.some.injEq, Addr.mk.injEq, and_true, true_and] at h'
    obtain ⟨rfl, rfl⟩ := h'
    refine ⟨by simp [bs, hl], .inr ⟨g, cap, cur, rfl, hb, hg, by omega, hm, hs, ?_⟩⟩
    have := congrArg (List.take n) ht
    rw [List.take_take, bs_append, List.take_append_of_le_length (by simp [bs, hl])] at this
    rw [show min n ((n + m) * 1) = n * 1 by omega] at this
    rw [this]
    exact List.take_of_length_le (by simp [bs, hl])

set_option maxHeartbeats 400000 in
theorem grow_any (B g n k : Nat) (xs : List Nat) (w : World) (hown : w.ownsRow B 5 1 (.slice (some ⟨g, 0, none⟩) n n) n (bs xs)) (hb : n + k ≤ 140737488355328) (hB : B ≤ w.heap.size) :
    Calls Tryd.prog 38 #[.slice (some ⟨g, 0, none⟩) n n, .int .i64 (k : Int)] w fun e w' => ∃ v, e = .returned v ∧ w'.ownsRow B 5 1 v n (bs xs) ∧ Below B w w' := by
  have hown' := hid hown
  have hlx : xs.length = n := by simpa [bs] using hown.1
  by_cases hk : k = 0
  · subst hk
    have h0 : ¬ (0 : Int) < 0 := by omega
    go_enter Tryd.func38, Tryd.ntmps38
    go_wp2
    go_ret
    exact ⟨_, rfl, hown'.out, Below.refl _ _⟩
  · have hk' : 0 < (k : Int) := by omega
    have hlx' := hid hlx
    clear hown hlx
    go_enter Tryd.func38, Tryd.ntmps38
    go_wp2_with (at_builtin; refine wpList_append_zeros rfl (.tmp 20) (.tmp 21) rfl B _ n xs rfl hown'.out k rfl (by omega) hb hB ?_; intro v1 w1 ho1 hb1; obtain ⟨g1, cap1, hv1, hc1⟩ : ∃ g1 cap1, v1 = .slice (some ⟨g1, 0, none⟩) (n + k) cap1 ∧ n + k ≤ cap1 ∧ cap1 ≤ 9223372036854775807 := (by rcases ho1.2 with ⟨_, h'⟩ | ⟨g', cap', cur, h', _, _, hnc, hm, _⟩; (exfalso; omega); exact ⟨g', cap', h', hnc, by unfold maxLen at hm; omega⟩); subst hv1; replace ho1 := hid ho1)
    go_ret
    exact ⟨_, rfl, own_cut ho1.out hlx'.out, hb1⟩

end Go.Proofs.YtndlogjmnbgegaaDoor
