/- The law SumBits at short and long bytes, and where the second row is the shorter one; the walk alone. -/
import Derived.Test.YtlaojlnndphnlaaDoorBf
import Derived.Deep.AppendLies
namespace Go.Proofs.YtlaojlnndphnlaaDoor
open Go.RowKit

set_option maxHeartbeats 400000 in
theorem bits_long (bo : Option Addr) (bn bc : Nat) (k : Int) (co : Option Addr) (cn cc : Nat) (w : World) (hT : Tab w) (h : bn = 0 ∨ 2000 < bn ∨ 2000 < cn) :
    Calls Tryd.prog 5 #[.slice bo bn bc, .int .u64 k, .slice co cn cc] w fun e w' => e = .returned (.bool true) ∧ Below w.heap.size w w' := by
  have lv := hid (lives_any w hT)
  clear hT
  by_cases h0 : bn = 0
  · subst h0
    clear h
    go_enter Tryd.func5, Tryd.ntmps5
    go_wp2_with (go_at_call 6; refine lv.out.mono ?_; rintro e w1 ⟨rfl, hb1⟩)
    go_ret
    exact ⟨rfl, hb1⟩
  · have h0' : ((bn : Int) == 0) = false := by simp; omega
    by_cases hb : (2000 : Int) < (bn : Int)
    · clear h h0
      go_enter Tryd.func5, Tryd.ntmps5
      go_wp2_with (go_at_call 6; refine lv.out.mono ?_; rintro e w1 ⟨rfl, hb1⟩)
      go_ret
      exact ⟨rfl, hb1⟩
    · have hc : (2000 : Int) < (cn : Int) := by omega
      clear h h0
      go_enter Tryd.func5, Tryd.ntmps5
      go_wp2_with (go_at_call 6; refine lv.out.mono ?_; rintro e w1 ⟨rfl, hb1⟩)
      go_ret
      exact ⟨rfl, hb1⟩

theorem bs_set (xs : List Nat) (i c : Nat) : (bs xs).set i (.int .u8 (c : Int)) = bs (xs.set i c) := by
  simp [bs, List.map_set]

/-- The bit that is turned, as the walk reckons it. -/
theorem turn_ex (k n : Nat) (hn : 0 < n) (hn2 : n ≤ 2000) : ∃ K q r p : Nat, K < 8 * n ∧ q < n ∧ r < 8 ∧ p < 256 ∧ p ≠ 0 ∧ ((k : Int).tmod (8 * (n : Int))) = (K : Int) ∧ (K : Int).tdiv 8 = (q : Int) ∧ (K : Int).tmod 8 = (r : Int) ∧ IntKind.u8.wrap (2 ^ r) = (p : Int) := by
  have hK : k % (8 * n) < 8 * n := Nat.mod_lt _ (by omega)
  refine ⟨k % (8 * n), k % (8 * n) / 8, k % (8 * n) % 8, 2 ^ (k % (8 * n) % 8), hK, by omega, by omega, ?_, ?_, ?_, ?_, ?_, ?_⟩
  · exact Nat.lt_of_lt_of_le (Nat.pow_lt_pow_right (by omega) (show k % (8 * n) % 8 < 8 by omega)) (by decide)
  · exact Nat.pos_iff_ne_zero.1 (Nat.pow_pos (by omega))
  · rw [Int.tmod_eq_emod_of_nonneg (by omega)]; simp
  · rw [Int.tdiv_eq_ediv_of_nonneg (by omega)]; simp
  · rw [Int.tmod_eq_emod_of_nonneg (by omega)]; simp
  · have : k % (8 * n) % 8 < 8 := by omega
    generalize k % (8 * n) % 8 = r at *
    have e : r = 0 ∨ r = 1 ∨ r = 2 ∨ r = 3 ∨ r = 4 ∨ r = 5 ∨ r = 6 ∨ r = 7 := by omega
    rcases e with rfl | rfl | rfl | rfl | rfl | rfl | rfl | rfl <;> decide

theorem addN_ne {xs ys : List Nat} (h : fold (0 ^^^ 4294967295) xs ≠ fold (0 ^^^ 4294967295) ys) : addN 0 xs ≠ addN 0 ys := by
  intro e
  apply h
  unfold addN at e
  have h2 := congrArg (fun n => n ^^^ 4294967295) e
  simpa [Nat.xor_assoc] using h2

/-- One bit of the row x is turned: what the walk asks of it, and what both sums are. -/
theorem turned {w w1 : World} {g cx bn : Nat} {bo : Option Addr} {bc : Nat} {bl : List Nat} (hT : Tab w) (hb : Rd w bo bn bc bl) (hbx : ∀ x ∈ bl, x < 256) (hbn : bn ≤ 2000) (hB : Below w.heap.size w w1) (hg : w.heap.size ≤ g)
    (ho : w1.ownsRow w.heap.size 5 1 (.slice (some ⟨g, 0, none⟩) bn cx) bn (bs bl)) (q p : Nat) (hq : q < bn) (hp : p < 256) (hp0 : p ≠ 0) :
    ∃ (c0 c1 : Int) (X0 X1 : Nat), w1.cell? ⟨g, q, none⟩ = some (.int .u8 c0) ∧ w1.frozen? ⟨g, q, none⟩ = false ∧ bits .xor .u8 c0 (p : Int) = c1 ∧ ((X1 : Int) == (X0 : Int)) = false ∧
      Calls Tryd.prog 7 #[.slice (some ⟨g, 0, none⟩) bn cx] (w1.setCell ⟨g, q, none⟩ (.int .u8 c1)) (fun e w' => e = .returned (.int .u32 (X1 : Int)) ∧ w' = w1.setCell ⟨g, q, none⟩ (.int .u8 c1)) ∧
      Calls Tryd.prog 7 #[.slice bo bn bc] (w1.setCell ⟨g, q, none⟩ (.int .u8 c1)) (fun e w' => e = .returned (.int .u32 (X0 : Int)) ∧ w' = w1.setCell ⟨g, q, none⟩ (.int .u8 c1)) ∧
      Below w.heap.size w (w1.setCell ⟨g, q, none⟩ (.int .u8 c1)) := by
  have hl := hb.1
  have h8 := get_lt hbx (i := q) (by omega)
  have hc8 : bl.getD q 0 ^^^ p < 256 := Nat.xor_lt_two_pow (n := 8) h8 hp
  have hs := (ho.stored q (.int .u8 ((bl.getD q 0 ^^^ p : Nat) : Int))).1
  rw [bs_set] at hs
  have hBs : Below w.heap.size w (w1.setCell ⟨g, q, none⟩ (.int .u8 ((bl.getD q 0 ^^^ p : Nat) : Int))) := Below.setCell hB hg _
  have hx' : ∀ x ∈ bl.set q (bl.getD q 0 ^^^ p), x < 256 := by
    intro x hx
    rcases List.mem_or_eq_of_mem_set hx with h | rfl
    · exact hbx x h
    · exact hc8
  refine ⟨_, _, addN 0 bl, addN 0 (bl.set q (bl.getD q 0 ^^^ p)), (by rw [ho.cellAt q (by omega), bs_get bl q (by omega)]), ho.frozenAt q, u8_xor_nat _ p h8 hp, ?_, of_any _ _ _ _ _ (rd_own hs) hx' (by omega) (hT.keep hBs), of_any _ _ _ _ _ (hb.keep hBs) hbx (by omega) (hT.keep hBs), hBs⟩
  have hne := addN_ne (fold_set (show 0 ^^^ 4294967295 < 4294967296 by decide) hbx q (bl.getD q 0 ^^^ p) (by omega) hc8 (fun e => hp0 (by
    have h2 := congrArg (fun n => bl.getD q 0 ^^^ n) e
    simp only [xor_cancel, Nat.xor_self] at h2
    exact h2)))
  exact beq_eq_false_iff_ne.2 fun e => hne (Int.ofNat_inj.1 e)

set_option maxHeartbeats 1000000 in
theorem bits_less (bo : Option Addr) (bn bc : Nat) (bl : List Nat) (k : Nat) (co : Option Addr) (cn cc : Nat) (w : World) (hT : Tab w)
    (hb : Rd w bo bn bc bl) (hbx : ∀ x ∈ bl, x < 256) (h0 : 0 < bn) (hbn : bn ≤ 2000) (hcn : cn < bn) :
    Calls Tryd.prog 5 #[.slice bo bn bc, .int .u64 (k : Int), .slice co cn cc] w fun e w' => e = .returned (.bool true) ∧ Below w.heap.size w w' := by
  have h0' : ((bn : Int) == 0) = false := by simp; omega
  obtain ⟨K, q, r, p, hK, hq, hr, hp, hp0, e1, e2, e3, e4⟩ := turn_ex k bn h0 hbn
  have g1 : decide ((2000 : Int) < (bn : Int)) = false := by simp; omega
  have g2 : decide ((2000 : Int) < (cn : Int)) = false := by simp; omega
  have g3 : decide ((cn : Int) < (bn : Int)) = true := by simp; omega
  have hb' := hid hb
  have hT' := hid hT
  have hbx' := hid hbx
  have hp0' := hid hp0
  clear hT hb hbx hp0
  go_enter Tryd.func5, Tryd.ntmps5
  go_wp2_with (first
    | ((with_reducible refine here_op 29 ?_); refine wpList_append_rd rfl (.tmp 27) (.tmp 28) rfl w.heap.size _ 0 [] rfl (World.ownsRow_made w #[] 0 (Nat.le_refl _) (by decide) rfl) bo bn bc bl rfl (hb'.out.keep (Below.alloc (Below.refl _ _) (Nat.le_refl _) _)) (by omega) (by simp) ?_; intro v1 w1 ho1 hb1; replace hb1 := hid ((Below.alloc (Below.refl _ _) (Nat.le_refl _) _).trans hb1); rw [Nat.zero_add, List.nil_append] at ho1; obtain ⟨g, cx, hv, hg1, hg2⟩ := ho1.form h0; subst hv; obtain ⟨c0, c1, X0, X1, f1, f2, f3, f4, f5, f6, f7⟩ := turned hT'.out hb'.out hbx'.out hbn hb1.out hg1 ho1 q p hq hp hp0'.out; replace ho1 := hid ho1; replace f5 := hid f5; replace f6 := hid f6; replace f7 := hid f7)
    | ((go_at_call 7); refine f5.out.mono ?_; rintro e y ⟨rfl, hy⟩; subst hy; clear f5)
    | ((go_at_call 7); refine f6.out.mono ?_; rintro e y ⟨rfl, hy⟩; subst hy; clear f6)
    | ((go_at_call 6); refine (lives_any _ (hT'.out.keep f7.out)).mono ?_; rintro e y ⟨rfl, hy⟩))
  go_ret
  exact ⟨rfl, gt f7.out hy⟩

end Go.Proofs.YtlaojlnndphnlaaDoor
