/- Copies into a slice of the call's own, and Put in the form that the walks ask for; no statement of the seat is proved here. -/
import Derived.Test.YtndlogjmnbgegaaDoorBc
namespace Go.Proofs.YtndlogjmnbgegaaDoor
open Go.RowKit

/-- 'copy' into a slice of the call's own, from place off on. -/
theorem wpList_copy_in {w : World} {ops : Array Oper} {rest : List Oper} {o : Oper} {a : Act} {Q : Exit → Act → World → Prop} (hgd : o.guard = none) (d s : Operand)
    (ho : o.op = .call { callee := .builtin .copy, args := #[d, s], argTypes := #[30, 30] }) (B g N off : Nat) (ys : List Nat) (hown : w.ownsRow B 5 1 (.slice (some ⟨g, 0, none⟩) N N) N (bs ys))
    (dLen dCap : Nat) (hd : a.eval d = .slice (some ⟨g, off, none⟩) dLen dCap) (hdl : off + dLen = N) (so : Option Addr) (n c : Nat) (xs : List Nat) (hs : a.eval s = .slice so n c) (hr : Rd w so n c xs) (hn : n ≤ dLen)
    (h : ∀ w', w'.ownsRow B 5 1 (.slice (some ⟨g, 0, none⟩) N N) N (bs (ys.take off ++ xs ++ ys.drop (off + n))) → Below B w w' → wpList Tryd.prog ops Q rest (a.put o.dst (goInt n)) w') : wpList Tryd.prog ops Q (o :: rest) a w := by
  have hly : ys.length = N := by simpa [bs] using hown.1
  have hlx := hr.1
  rcases hown.2 with ⟨h', _⟩ | ⟨g', cap', cur, h', hb, hg, hnc, hm, hsz, ht⟩
  · cases h'
  simp only [Value.slice.injEq, Option.some.injEq, Addr.mk.injEq, and_true, true_and] at h'
  obtain ⟨rfl, rfl⟩ := h'
  have hcur : cur.toList = bs ys := by
    rw [← ht]
    exact (List.take_of_length_le (by simp [hsz])).symm
  have hg' : w.heap[g]? = some (.cells (bs ys).toArray 5 (0, 0)) := by rw [hg, ← hcur]
  have hbl : (bs xs).length = n := by simp [bs, hlx]
  refine wpList_copy_splice hgd d s 30 30 ho 5 Tryd.underlying30 (by kernel_rfl) _ _ _ _ _ _ hd hs g off (bs ys) 5 hg' (bs xs) (by rw [hbl]; exact (Nat.min_eq_left hn).symm) (fun hp => ?_) (by rw [hbl]; simp [bs, hly]; omega) (bs_one xs) B w (Below.refl _ _) hb ?_
  · rw [hbl] at hp
    obtain ⟨b, o2, e, hc⟩ := hr.2.2.2 hp
    refine ⟨rfl, _, e, fun j v hv => ?_⟩
    obtain ⟨hj, rfl⟩ := bs_get' xs j v hv
    rw [Addr.add_lit]
    exact hc j (by omega)
  · intro w' hg2 hb2
    rw [hbl]
    refine h w' ?_ hb2
    have hsp : splice (bs ys) off (bs xs) = bs (ys.take off ++ xs ++ ys.drop (off + n)) := by
      unfold splice
      rw [hbl, bs_append, bs_append]
      simp [bs]
    refine own_of_row hb (hsp ▸ hg2.out) ?_ (by unfold maxLen at hm; omega) ?_ ?_ (Nat.le_refl _)
    · simp [bs]; omega
    · exact List.take_of_length_le (by simp [bs]; omega)
    · simp; omega

theorem put4 (ao : Option Addr) (n cap m : Nat) (xs : List Nat) (v : Nat) (w : World) (h : Rd w ao n cap xs) (hn : n ≤ 100000) (hm : m = n + 4) :
    Calls Tryd.prog 31 #[.slice ao n cap, .int .u64 (v : Int), .int .i64 4, .bool false] w fun e w' => ∃ g, e = .returned (.slice (some ⟨g, 0, none⟩) m m) ∧ w.heap.size ≤ g ∧ Rd w' (some ⟨g, 0, none⟩) m m (xs ++ putN v 4 false) ∧ Below w.heap.size w w' := by
  subst hm
  exact (put_any ao n cap xs v 4 4 false w h (by omega) (by omega) (by decide)).mono fun e w' ⟨he, ho, hb⟩ => ⟨_, he, Nat.le_refl _, rd_own ho, hb⟩

theorem put8 (ao : Option Addr) (n cap m : Nat) (xs : List Nat) (v : Nat) (w : World) (h : Rd w ao n cap xs) (hn : n ≤ 100000) (hm : m = n + 8) :
    Calls Tryd.prog 31 #[.slice ao n cap, .int .u64 (v : Int), .int .i64 8, .bool false] w fun e w' => ∃ g, e = .returned (.slice (some ⟨g, 0, none⟩) m m) ∧ w.heap.size ≤ g ∧ Rd w' (some ⟨g, 0, none⟩) m m (xs ++ putN v 8 false) ∧ Below w.heap.size w w' := by
  subst hm
  exact (put_any ao n cap xs v 8 8 false w h (by omega) (by omega) (by decide)).mono fun e w' ⟨he, ho, hb⟩ => ⟨_, he, Nat.le_refl _, rd_own ho, hb⟩

theorem own_zeros (w : World) (K : Nat) (hK : K ≤ 1000) : (w.alloc (.cells (Array.replicate K (.int .u8 0)) 5)).ownsRow w.heap.size 5 1 (.slice (some ⟨w.heap.size, 0, none⟩) K K) K (bs (List.replicate K 0)) := by
  refine own_of_row (cur := List.replicate K (.int .u8 0)) (Nat.le_refl _) (copy_hg w K) (by simp) (by omega) ?_ (by simp) (Nat.le_refl _)
  simp [bs]

theorem own_base {w : World} {B B' n : Nat} {v : Value} {xs : List Value} (h : w.ownsRow B' 5 1 v n xs) (hB : B ≤ B') : w.ownsRow B 5 1 v n xs := by
  refine ⟨h.1, ?_⟩
  rcases h.2 with h1 | ⟨g, cap, cur, e, hb, h2⟩
  · exact Or.inl h1
  · exact Or.inr ⟨g, cap, cur, e, by omega, h2⟩

theorem HB.keep2 {t : TypeId} {W W' : World} {q : Nat} {c p : Int} {n : Nat} {o : Obj} (h : HB t W q c p n) (hb : Below (W.alloc o).heap.size (W.alloc o) W') : HB t W' q c p n := (h.keep (Below.alloc (Below.refl _ _) (Nat.le_refl _) o)).keep hb
theorem gt2 {w a b : World} {o : Obj} (h : Below w.heap.size w a) (k : Below (a.alloc o).heap.size (a.alloc o) b) : Below w.heap.size w b := gt (Below.alloc h h.size o) k

/-- A store into a slice of the call's own. -/
theorem own_store {w : World} {B g n cap : Nat} {xs : List Nat} (h : w.ownsRow B 5 1 (.slice (some ⟨g, 0, none⟩) n cap) n (bs xs)) (i v : Nat) :
    (w.setCell ⟨g, i, none⟩ (.int .u8 (v : Int))).ownsRow B 5 1 (.slice (some ⟨g, 0, none⟩) n cap) n (bs (xs.set i v)) := by
  have := (h.stored i (.int .u8 (v : Int))).1
  rwa [show (bs xs).set i (.int .u8 (v : Int)) = bs (xs.set i v) by simp [bs, List.map_set]] at this

end Go.Proofs.YtndlogjmnbgegaaDoor
