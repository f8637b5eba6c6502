/- What the document's own Parse reads, against what the program reads: the arithmetic of it; no statement of the seat is proved here. -/
import Derived.Test.YtbpcekhfjkodcaaCf
import Derived.Test.YtbpcekhfjkodcaaDa
import Derived.Test.YtbpcekhfjkodcaaDe
namespace Go.Proofs.Ytbpcekhfjkodcaa
open Go.RowKit

/-- The cells that the document's own Parse reads, and what is left. -/
def refCs (leaf : Bool) : Nat → Option (List Nat) → List C × Option (List Nat)
  | 0, o => ([], o)
  | _ + 1, none => ([], none)
  | k + 1, some xs => ((rdC leaf (some xs)).1 :: (refCs leaf k (rdC leaf (some xs)).2).1, (refCs leaf k (rdC leaf (some xs)).2).2)

theorem refCs_none (leaf : Bool) (k : Nat) : refCs leaf k none = ([], none) := by cases k <;> rfl
theorem ref_ok (leaf : Bool) : ∀ (k : Nat) (o : Option (List Nat)), (refCs leaf k o).2.isSome = true → rdCs leaf k o = (refCs leaf k o).1
  | 0, o, _ => rfl
  | k + 1, none, h => by simp [refCs] at h
  | k + 1, some xs, h => by
    simp only [refCs] at h
    simp only [refCs, rdCs]
    cases hc : (rdC leaf (some xs)).2 with
    | none => rw [hc, refCs_none] at h; cases h
    | some ys =>
      rw [hc] at h
      simp only [Option.isSome_some, if_true]
      rw [ref_ok leaf k (some ys) h]
theorem ref_bad (leaf : Bool) : ∀ (k : Nat) (xs : List Nat), (refCs leaf k (some xs)).2 = none → (rdCs leaf k (some xs)).length < k
  | 0, xs, h => by simp [refCs] at h
  | k + 1, xs, h => by
    simp only [refCs] at h
    simp only [rdCs]
    cases hc : (rdC leaf (some xs)).2 with
    | none => simp
    | some ys =>
      rw [hc] at h
      have := ref_bad leaf k ys h
      simp only [Option.isSome_some, if_true, List.length_cons]
      omega

def By (o : Option (List Nat)) : Prop := ∀ xs, o = some xs → ∀ x ∈ xs, x < 256
theorem by_var {o : Option (List Nat)} (h : By o) (most : Nat) : By (varO most o).2 := by
  intro ys hy
  cases o with
  | none => simp [varO] at hy
  | some xs =>
    simp only [varO] at hy
    split at hy
    · simp at hy
    · simp only [Option.some.injEq] at hy; subst hy; exact drop_by (h xs rfl) _
theorem by_bytes {o : Option (List Nat)} (h : By o) (k : Nat) : By (bytesO k o).2 := by
  intro ys hy
  cases o with
  | none => simp [bytesO] at hy
  | some xs =>
    simp only [bytesO] at hy
    split at hy
    · simp only [Option.some.injEq] at hy; subst hy; exact drop_by (h xs rfl) _
    · simp at hy
theorem by_rdC (leaf : Bool) {o : Option (List Nat)} (h : By o) : By (rdC leaf o).2 ∧ I64 (rdC leaf o).1.k := by
  unfold rdC
  cases leaf
  · exact ⟨by_var (by_num h 4) _, zag_in _ (var_lt' (by_num h 4) _)⟩
  · refine ⟨?_, zag_in _ (var_lt' h _)⟩
    simp only [if_true, rdL, rl4]
    have h3 : By (rl3 o).2 := by_bytes (by_var (by_var h _) _) _
    split
    · exact by_num h3 4
    · exact h3
theorem rdCs_k (leaf : Bool) : ∀ (k : Nat) (o : Option (List Nat)), By o → ∀ a ∈ rdCs leaf k o, I64 a.k
  | 0, _, _ => by simp [rdCs]
  | k + 1, o, h => by
    intro a ha
    simp only [rdCs] at ha
    split at ha
    · rcases List.mem_cons.1 ha with rfl | h2
      · exact (by_rdC leaf h).2
      · exact rdCs_k leaf k _ (by_rdC leaf h).1 a h2
    · cases ha
theorem by_r3 {xs : List Nat} (hx : ∀ x ∈ xs, x < 256) : By (r3 xs).2 := by
  have h0 : By (some xs) := fun ys e => by simp only [Option.some.injEq] at e; subst e; exact hx
  exact by_num (by_num (by_num h0 1) 2) 4

theorem page_count (leaf : Bool) (r : Int) (cs : List C) (h : hasN leaf r cs = true) : (r2 (pageN leaf r cs)).1 = cs.length := by
  simp only [hasN, Bool.and_eq_true, decide_eq_true_eq] at h
  obtain ⟨hg, hs⟩ := h
  have hn : cs.length < 65536 := by have := len_le leaf cs; unfold sizeN at hs; omega
  have hm : uN (if leaf then 1 else 2) < 256 := by cases leaf <;> decide
  have hul : uN (cs.length : Int) = cs.length := by unfold uN; omega
  obtain ⟨t, ht⟩ : ∃ t, t = putN (uN r) 4 false ++ (allN leaf cs ++ zs (512 - (hd7 leaf cs.length r ++ allN leaf cs).length)) := ⟨_, rfl⟩
  have e0 : pageN leaf r cs = putN (uN (if leaf then 1 else 2)) 1 false ++ (putN (uN (cs.length : Int)) 2 false ++ t) := by rw [ht]; simp [pageN, padN, hd7]
  unfold r2 r1
  rw [e0, num1_put _ hm]
  simp only
  rw [hul, num2_put _ hn]

/-- What the document's own Parse says of a page. -/
def refP (xs : List Nat) : Bool := (refCs (rnL xs) (r2 xs).1 (r3 xs).2).2.isSome && (hasN (rnL xs) ((r3 xs).1 : Nat) (refCs (rnL xs) (r2 xs).1 (r3 xs).2).1 && decide (pageN (rnL xs) ((r3 xs).1 : Nat) (refCs (rnL xs) (r2 xs).1 (r3 xs).2).1 = xs))
theorem r3_some (xs : List Nat) (h : xs.length = 512) : ∃ ys, (r3 xs).2 = some ys := by
  have e1 : r1 xs = (psum xs 1 false 1, some (xs.drop 1)) := by unfold r1; simp only [numO]; rw [if_pos (by omega)]
  have e2 : r2 xs = (psum (xs.drop 1) 2 false 2, some ((xs.drop 1).drop 2)) := by unfold r2; rw [e1]; simp only [numO]; rw [if_pos (by simp; omega)]
  unfold r3
  rw [e2]
  simp only [numO]
  rw [if_pos (by simp; omega)]
  exact ⟨_, rfl⟩
theorem ref_is (xs : List Nat) (hl : xs.length = 512) : refP xs = isP xs ∧ (isP xs = true → (refCs (rnL xs) (r2 xs).1 (r3 xs).2).1 = rnC xs) := by
  obtain ⟨ys, hy⟩ := r3_some xs hl
  cases hs : (refCs (rnL xs) (r2 xs).1 (r3 xs).2).2 with
  | some zs' =>
    have he := ref_ok (rnL xs) (r2 xs).1 (r3 xs).2 (by rw [hs]; rfl)
    have he' : rnC xs = (refCs (rnL xs) (r2 xs).1 (r3 xs).2).1 := he
    refine ⟨?_, fun _ => he'.symm⟩
    unfold refP isP
    rw [hs, ← he']
    simp
  | none =>
    have hb : (rnC xs).length < (r2 xs).1 := by
      unfold rnC
      rw [hy] at hs ⊢
      exact ref_bad _ _ ys hs
    have hP : isP xs = false := by
      cases hi : isP xs with
      | false => rfl
      | true =>
        exfalso
        unfold isP at hi
        simp only [Bool.and_eq_true, decide_eq_true_eq] at hi
        have hc := page_count (rnL xs) ((r3 xs).1 : Nat) (rnC xs) hi.1
        rw [hi.2] at hc
        omega
    refine ⟨?_, fun h => by rw [hP] at h; cases h⟩
    unfold refP
    rw [hP, hs]
    simp

end Go.Proofs.Ytbpcekhfjkodcaa

namespace Go.Proofs.Ytbpcekhfjkodcaa
open Go.RowKit

/-- A box with one of the document's cells in it. -/
def CX (W : World) (t : Nat) (k c l : Int) (o : Option Addr) (n m : Nat) (x : Int) : Prop := W.heap[t]? = some (.cells #[.int .i64 k, .int .i64 c, .int .i64 l, .slice o n m, .int .i64 x] 69 (0, 0))
section
variable {W W' : World} {t : Nat} {k c l x : Int} {o : Option Addr} {n m : Nat}
theorem CX.cells (h : CX W t k c l o n m x) : W.cell? ⟨t, 0, none⟩ = some (.int .i64 k) ∧ W.cell? ⟨t, 1, none⟩ = some (.int .i64 c) ∧ W.cell? ⟨t, 2, none⟩ = some (.int .i64 l) ∧ W.cell? ⟨t, 3, none⟩ = some (.slice o n m) ∧ W.cell? ⟨t, 4, none⟩ = some (.int .i64 x) := by
  unfold CX at h
  simp [World.cell?, h]
theorem CX.fz (h : CX W t k c l o n m x) (i : Nat) : W.frozen? ⟨t, i, none⟩ = false := by
  unfold CX at h
  simp [World.frozen?, h]
theorem CX.lt (h : CX W t k c l o n m x) : t < W.heap.size := lt_of_block h
theorem CX.keep (h : CX W t k c l o n m x) (hb : Below W.heap.size W W') : CX W' t k c l o n m x := by
  unfold CX; rw [hb.block t h.lt]; exact h
theorem CX.grown {p : Nat} (h : CX W t k c l o n m x) (hg : W.grownBy W' (some p)) (hne : t ≠ p) : CX W' t k c l o n m x := by
  unfold CX; rw [hg.block t h.lt (by simpa using hne)]; exact h
theorem CX.new (W : World) (k c l : Int) (o : Option Addr) (n m : Nat) (x : Int) : CX (W.alloc (.cells #[.int .i64 k, .int .i64 c, .int .i64 l, .slice o n m, .int .i64 x] 69)) W.heap.size k c l o n m x := heap_alloc_new W _
theorem CX.set3 (h : CX W t k c l o n m x) (o' : Option Addr) (n' m' : Nat) : CX (W.setCell ⟨t, 3, none⟩ (.slice o' n' m')) t k c l o' n' m' x := by
  have h1 := heap_setCell_same W t 3 _ 69 (.slice o' n' m') h
  unfold CX
  rw [h1]; simp
theorem CX.set4 (h : CX W t k c l o n m x) (x' : Int) : CX (W.setCell ⟨t, 4, none⟩ (.int .i64 x')) t k c l o n m x' := by
  have h1 := heap_setCell_same W t 4 _ 69 (.int .i64 x') h
  unfold CX
  rw [h1]; simp
end
theorem CX.src {W : World} {t : Nat} {k c l x : Int} {o : Option Addr} {n m : Nat} {p i : Nat} {u : Value} {z : Option (List Nat)} (h : CX W t k c l o n m x) (hs : RSrc W p z) : RSrc (W.setCell ⟨t, i, none⟩ u) p z := by
  refine hs.five (five_set h (by decide)) (heap_setCell_other _ _ p _ ?_)
  obtain ⟨C, hp⟩ := hs.block
  intro e
  simp only at e
  subst e
  unfold CX at h
  rw [hp] at h
  simp only [Option.some.injEq, Obj.cells.injEq] at h
  exact absurd h.2.1 (by decide)
theorem CX.five {W : World} {t : Nat} {k c l x : Int} {o : Option Addr} {n m : Nat} {i : Nat} {u : Value} (h : CX W t k c l o n m x) : Five W (W.setCell ⟨t, i, none⟩ u) := five_set h (by decide)
theorem CX.set0 {W : World} {t : Nat} {k c l x : Int} {o : Option Addr} {n m : Nat} (h : CX W t k c l o n m x) (k' : Int) : CX (W.setCell ⟨t, 0, none⟩ (.int .i64 k')) t k' c l o n m x := by
  have h1 := heap_setCell_same W t 0 _ 69 (.int .i64 k') h
  unfold CX
  rw [h1]; simp
theorem CX.set1 {W : World} {t : Nat} {k c l x : Int} {o : Option Addr} {n m : Nat} (h : CX W t k c l o n m x) (c' : Int) : CX (W.setCell ⟨t, 1, none⟩ (.int .i64 c')) t k c' l o n m x := by
  have h1 := heap_setCell_same W t 1 _ 69 (.int .i64 c') h
  unfold CX
  rw [h1]; simp
theorem CX.set2 {W : World} {t : Nat} {k c l x : Int} {o : Option Addr} {n m : Nat} (h : CX W t k c l o n m x) (l' : Int) : CX (W.setCell ⟨t, 2, none⟩ (.int .i64 l')) t k c l' o n m x := by
  have h1 := heap_setCell_same W t 2 _ 69 (.int .i64 l') h
  unfold CX
  rw [h1]; simp


theorem own_grown9 {W W' : World} {B p n : Nat} {v : Value} {xs : List Value} {C : Array Value} {m : Nat × Nat} (h : W.ownsRow B 69 5 v n xs) (hp : W.heap[p]? = some (.cells C 68 m)) (hg : W.grownBy W' (some p)) : W'.ownsRow B 69 5 v n xs := by
  refine ⟨h.1, ?_⟩
  rcases h.2 with h1 | ⟨g, cap, cur, e, hb, hgg, h2⟩
  · exact Or.inl h1
  · refine Or.inr ⟨g, cap, cur, e, hb, ?_, h2⟩
    rw [hg.block g (lt_of_block hgg) (by intro e; cases e; rw [hp] at hgg; simp only [Option.some.injEq, Obj.cells.injEq] at hgg; exact absurd hgg.2.1 (by decide))]
    exact hgg
theorem five_own9 {W W' : World} {B n : Nat} {v : Value} {xs : List Value} (h : W.ownsRow B 69 5 v n xs) (hg : W.grownBy W' v.ownBlock) : Five W W' := by
  intro b C m hx
  rw [hg.block b (lt_of_block hx) ?_]
  · exact hx
  · intro hv
    obtain ⟨hl, ⟨rfl, rfl⟩ | ⟨g', cap, cur, rfl, hb', hg', rest⟩⟩ := h
    · simp [Value.ownBlock] at hv
    · simp [Value.ownBlock] at hv
      subst hv
      rw [hx] at hg'
      simp only [Option.some.injEq, Obj.cells.injEq] at hg'
      exact absurd hg'.2.1 (by decide)
theorem own_out9 {W W' : World} {B t n : Nat} {v : Value} {xs : List Value} (h : W.ownsRow B 69 5 v n xs) (hf : ∀ k, k ≠ t → k < W.heap.size → W'.heap[k]? = W.heap[k]?) (ht : v.ownBlock ≠ some t) : W'.ownsRow B 69 5 v n xs := by
  refine ⟨h.1, ?_⟩
  rcases h.2 with h1 | ⟨g, cap, cur, e, hb, hgg, h2⟩
  · exact Or.inl h1
  · refine Or.inr ⟨g, cap, cur, e, hb, ?_, h2⟩
    rw [hf g (fun hgt => ht (by rw [e, ← hgt]; rfl)) (lt_of_block hgg)]
    exact hgg
theorem ret_node9 {fn : Func} {a u : Tmp} (h : fn.results = #[.cell a 33, .tmp u]) {tmps : Array Value} {W : World} {q : Nat} {leaf : Bool} {r : Int} {co : Option Addr} {cn cc : Nat}
    (hp : tmps.getD a undef = .pointer (some ⟨q, 0, none⟩)) (hb : NB 33 W q leaf r co cn cc) : (results fn tmps).run Try.prog W = .ok (.tuple #[.agg #[.bool leaf, .int .i64 r, .slice co cn cc], tmps.getD u undef]) W := by
  have hu : ∃ fs, Try.prog.underlying 33 = some (.struct fs) := by
    have : (match Try.prog.underlying 33 with | some (.struct _) => true | _ => false) = true := by kernel_rfl
    cases hd : Try.prog.underlying 33 with
    | none => rw [hd] at this; cases this
    | some d => rw [hd] at this; cases d <;> simp at this ⊢
  obtain ⟨fs, hu⟩ := hu
  have hl := run_loadVar_row (P := Try.prog) W q 33 33 _ (0, 0) _ hb hu rfl (by kernel_rfl)
  rw [results_cell_tmp h, hp]
  simp [asAddr, hl]

set_option maxHeartbeats 1000000 in
theorem rparse_len (ao : Option Addr) (n cap : Nat) (w : World) (hn : n ≠ 512) :
    Calls Try.prog 10 #[.slice ao n cap] w fun e w' => e = .returned (.tuple #[.agg #[.bool false, .int .i64 0, .slice none 0 0], .int .i64 9]) ∧ Below w.heap.size w w' := by
  have q0 := hid (NB.new 33 w false 0 none 0 0)
  have b0 : Hid (Below w.heap.size w (w.alloc (.cells #[.bool false, .int .i64 0, .slice none 0 0] 33))) := hid (ext1 _)
  have h1 : ((n : Int) == 512) = false := by simp; omega
  have h2 : ((n : Int) != 512) = true := by simp; omega
  clear hn
  go_enter Try.func10, Try.ntmps10
  go_wp2
  (try simp only [Exit.inBlock, Exit.then])
  refine bodyPost_ret (ret_node9 (a := 2) (u := 3) (by kernel_rfl) rfl q0.out) rfl ?_
  exact ⟨rfl, b0.out⟩

theorem rbytes9_yes (leaf : Bool) (r : Int) (co : Option Addr) (cn cc : Nat) (cs : List C) (w : World) (h : Cs w co cn cc cs) (hf : Few cs) (hh : hasN leaf r cs = true) :
    Calls Try.prog 18 #[.agg #[.bool leaf, .int .i64 r, .slice co cn cc]] w fun e w' => ∃ ao cap, e = .returned (.slice ao 512 cap) ∧ Rd w' ao 512 cap (pageN leaf r cs) ∧ Below w.heap.size w w' := by
  cases leaf
  · exact rbytes9_false r co cn cc cs w h hf hh
  · exact rbytes9_true r co cn cc cs w h hf hh
/-- The bytes that a node's own Bytes tell. -/
def bN (leaf : Bool) (r : Int) (cs : List C) : List Nat := if hasN leaf r cs then pageN leaf r cs else []
theorem rbytes9_str (leaf : Bool) (r : Int) (co : Option Addr) (cn cc : Nat) (cs : List C) (w : World) (h : Cs w co cn cc cs) (hf : Few cs) :
    Calls Try.prog 18 #[.agg #[.bool leaf, .int .i64 r, .slice co cn cc]] w fun e w' => ∃ ao n cap, e = .returned (.slice ao n cap) ∧ Rd w' ao n cap (bN leaf r cs) ∧ Below w.heap.size w w' := by
  unfold bN
  cases hh : hasN leaf r cs with
  | false => exact (rbytes9_no leaf r co cn cc cs w h hf hh).mono fun e w' ⟨a, b⟩ => ⟨none, 0, 0, a, Rd.nil _, b⟩
  | true => exact (rbytes9_yes leaf r co cn cc cs w h hf hh).mono fun e w' ⟨ao, cap, a, b, c⟩ => ⟨ao, 512, cap, a, b, c⟩

theorem refCs_len (leaf : Bool) : ∀ (k : Nat) (o : Option (List Nat)), (refCs leaf k o).1.length ≤ k
  | 0, _ => by simp [refCs]
  | k + 1, none => by simp [refCs]
  | k + 1, some xs => by have := refCs_len leaf k (rdC leaf (some xs)).2; simp [refCs]; omega
theorem refCs_b (leaf : Bool) : ∀ (k : Nat) (o : Option (List Nat)), ∀ a ∈ (refCs leaf k o).1, a.b.length ≤ 96
  | 0, _ => by simp [refCs]
  | k + 1, none => by simp [refCs]
  | k + 1, some xs => by
    intro a ha
    simp only [refCs] at ha
    rcases List.mem_cons.1 ha with rfl | h
    · exact rdC_b leaf _
    · exact refCs_b leaf k _ a h
abbrev SK1 (p : Nat) (z : Int) (W : World) : Prop := W.cell? ⟨p, 1, none⟩ = some (.int .i64 z)
theorem str_beq9 (a b : List Nat) (ha : ∀ x ∈ a, x < 256) (hb : ∀ x ∈ b, x < 256) : ((str a).toList == (str b).toList) = decide (a = b) := by
  rw [str_list, str_list]
  rw [Bool.eq_iff_iff, beq_iff_eq, decide_eq_true_eq]
  constructor
  · intro h
    have h1 := congrArg (List.map UInt8.toNat) h
    rw [List.map_map, List.map_map] at h1
    have e : ∀ l : List Nat, (∀ x ∈ l, x < 256) → l.map (UInt8.toNat ∘ UInt8.ofNat) = l := by
      intro l hl
      conv => rhs; rw [← List.map_id l]
      apply List.map_congr_left
      intro x hx
      simp [Nat.mod_eq_of_lt (hl x hx)]
    rw [e a ha, e b hb] at h1
    exact h1
  · intro h; rw [h]
abbrev SE9 (p q : Nat) (z : Int) (leaf : Bool) (r : Int) (co : Option Addr) (cn cc : Nat) (ao : Option Addr) (cap : Nat) (sx : ByteArray) (W : World) : Prop :=
  W.cell? ⟨p, 1, none⟩ = some (.int .i64 z) ∧ (W.cell? ⟨q, 0, none⟩ = some (.bool leaf) ∧ W.cell? ⟨q, 1, none⟩ = some (.int .i64 r) ∧ W.cell? ⟨q, 2, none⟩ = some (.slice co cn cc)) ∧ (convert 25 9 (.slice ao 512 cap)).run Try.prog W = .ok (.string sx) W

set_option maxHeartbeats 8000000 in
set_option maxRecDepth 20000 in
theorem rparse_true (ao : Option Addr) (cap : Nat) (xs : List Nat) (w : World) (h : Rd w ao 512 cap xs) (hx : ∀ x ∈ xs, x < 256) (hL : rnL xs = true) :
    Calls Try.prog 10 #[.slice ao 512 cap] w fun e w' => Below w.heap.size w w' ∧ ((isP xs = false ∧ e = .returned (.tuple #[.agg #[.bool false, .int .i64 0, .slice none 0 0], .int .i64 9])) ∨
      (isP xs = true ∧ ∃ co cn cc cs, e = .returned (.tuple #[.agg #[.bool true, .int .i64 ((r3 xs).1 : Nat), .slice co cn cc], .int .i64 0]) ∧ Cs w' co cn cc cs ∧ cs.map nrm = rnC xs)) := by
  have q2n := hid (NB.new 33 w false 0 none 0 0)
  have B0 : Hid (Below w.heap.size w (w.alloc (.cells #[.bool false, .int .i64 0, .slice none 0 0] 33))) := hid (ext1 _)
  have c32 := hid (rread_ok ao 512 cap xs _ (h.keep B0.out) hx (by omega) (by omega))
  have cb := hid (fun p W (hs : RSrc W p (some xs)) => rbyte_src p (some xs) W hs)
  have c2 := hid (fun p W (hs : RSrc W p (r1 xs).2) => rnum_src p 2 (r1 xs).2 W hs (by omega) (by omega))
  have c3 := hid (fun p W (hs : RSrc W p (r2 xs).2) => rnum_src p 4 (r2 xs).2 W hs (by omega) (by omega))
  change Hid (∀ p W, RSrc W p (some xs) → Calls Try.prog 33 #[.pointer (some ⟨p, 0, none⟩)] W fun e w' => e = .returned (.int .u8 ((((r1 xs).1 % 256 : Nat)) : Int)) ∧ RSrc w' p (r1 xs).2 ∧ W.grownBy w' (some p)) at cb
  change Hid (∀ p W, RSrc W p (r1 xs).2 → Calls Try.prog 34 #[.pointer (some ⟨p, 0, none⟩), .int .i64 ((2 : Nat) : Int), .bool false] W fun e w' => e = .returned (.int .u64 ((r2 xs).1 : Nat)) ∧ RSrc w' p (r2 xs).2 ∧ W.grownBy w' (some p)) at c2
  change Hid (∀ p W, RSrc W p (r2 xs).2 → Calls Try.prog 34 #[.pointer (some ⟨p, 0, none⟩), .int .i64 ((4 : Nat) : Int), .bool false] W fun e w' => e = .returned (.int .u64 ((r3 xs).1 : Nat)) ∧ RSrc w' p (r3 xs).2 ∧ W.grownBy w' (some p)) at c3
  have hK : (r2 xs).1 ≤ 65535 := rK_le xs hx
  have hV3 : (r3 xs).1 < 4294967296 := by
    have hby : By (r2 xs).2 := by_num (by_num (fun ys e => by simp only [Option.some.injEq] at e; subst e; exact hx) 1) 2
    unfold r3
    cases h4 : (r2 xs).2 with
    | none => simp [numO]
    | some us =>
      simp only [numO]
      split
      · rename_i hl
        have := psum_bound us 4 (hby us h4) hl
        simpa using this
      · simp
  obtain ⟨hri1, hri2⟩ := ref_is xs h.1
  unfold refP at hri1
  rw [hL] at hri1 hri2
  have hx' := hid hx
  have h' := hid h
  obtain ⟨sx, hsx⟩ : ∃ sx, sx = str xs := ⟨_, rfl⟩
  have cvx : Hid (∀ W, Rd W ao 512 cap xs → (convert 25 9 (.slice ao 512 cap)).run Try.prog W = .ok (.string sx) W) := hid (fun W hr => by rw [hsx]; exact conv_rd hr 25 9 5 Try.underlying25 Try.underlying5 (by kernel_rfl))
  have hrl := refCs_len true (r2 xs).1 (r3 xs).2
  have hrb := refCs_b true (r2 xs).1 (r3 xs).2
  have hfew : Hid (∀ W co cn cc (cs : List C), Cs W co cn cc cs → cs.map nrm = (refCs true (r2 xs).1 (r3 xs).2).1 → Few cs) := hid (fun W co cn cc cs hc he => ⟨by have h1 := congrArg List.length he; simp only [List.length_map] at h1; omega, fun a ha => by
    have h1 : nrm a ∈ (refCs true (r2 xs).1 (r3 xs).2).1 := by rw [← he]; exact List.mem_map.2 ⟨a, ha, rfl⟩
    have h2 := hrb (nrm a) h1
    have h3 := (hc.ok a ha).rd.1
    have h4 : (nrm a).b = a.b := rfl
    rw [h4] at h2
    omega⟩)
  obtain ⟨RF, hRF⟩ : ∃ RF, RF = refCs true (r2 xs).1 (r3 xs).2 := ⟨_, rfl⟩
  rw [← hRF] at hri1 hri2 hfew
  have hst : Hid (decide (bN true ((r3 xs).1 : Nat) RF.1 = xs) = (hasN true ((r3 xs).1 : Nat) RF.1 && decide (pageN true ((r3 xs).1 : Nat) RF.1 = xs))) := hid (by
    unfold bN
    cases hasN true ((r3 xs).1 : Nat) RF.1 with
    | true => simp
    | false =>
      simp only [Bool.false_eq_true, if_false, Bool.false_and]
      have : ([] : List Nat) ≠ xs := by intro e; have := h.1; rw [← e] at this; simp at this
      simp [this])
  rw [← hst.out] at hri1
  have cbt : Hid (∀ W co cn cc (cs : List C), Cs W co cn cc cs → cs.map nrm = RF.1 → Calls Try.prog 18 #[.agg #[.bool true, .int .i64 ((r3 xs).1 : Nat), .slice co cn cc]] W fun e w' => ∃ ao n cap, e = .returned (.slice ao n cap) ∧ Rd w' ao n cap (bN true ((r3 xs).1 : Nat) RF.1) ∧ Below W.heap.size W w') := hid (fun W co cn cc cs hc he => by
    have := rbytes9_str true ((r3 xs).1 : Nat) co cn cc cs W hc (hfew.out W co cn cc cs hc he)
    have e1 : bN true ((r3 xs).1 : Nat) cs = bN true ((r3 xs).1 : Nat) RF.1 := by unfold bN; rw [← he, has_nrm, page_nrm]
    rw [e1] at this
    exact this)
  have hb8 : Hid (∀ W co cn cc (cs : List C), Cs W co cn cc cs → cs.map nrm = RF.1 → ∀ x ∈ bN true ((r3 xs).1 : Nat) RF.1, x < 256) := hid (fun W co cn cc cs hc he x hx => by
    unfold bN at hx
    split at hx
    · rw [← he, page_nrm] at hx; exact pageN_by8 true _ cs hc.ok x hx
    · cases hx)
  generalize rnC xs = RC at *
  generalize isP xs = IP at *
  unfold rnL at hL
  generalize (r1 xs).1 % 256 = LB at *
  generalize r1 xs = R1 at *
  obtain ⟨v1, o1⟩ := R1
  generalize r3 xs = R3 at *
  obtain ⟨v3, o3⟩ := R3
  generalize r2 xs = R2 at *
  obtain ⟨K, o2⟩ := R2
  simp only at *
  generalize bN true (v3 : Int) RF.1 = BN at *
  obtain ⟨RL, RO⟩ := RF
  simp only at *
  obtain ⟨i69, hi69, hz0, hz1, hz2⟩ := info_parts Try.info69
  have HI := hid hi69; have HZ0 := hid hz0; have HZ1 := hid hz1; have HZ2 := hid hz2
  replace hRF := hid hRF
  replace hri1 := hid hri1; replace hri2 := hid hri2; replace hsx := hid hsx
  clear h hi69 hz0 hz1 hz2 hx hrl hrb hfew hst
  go_enter Try.func10, Try.ntmps10
  go_wp2_with (first
    | (go_at_call 32; refine c32.out.mono ?_; rintro e w1 ⟨p, rfl, hp, hs, hb⟩; have S1 := hid hs; have BC := hid (show w.grownBy w1 (some p) from grow_below (gt B0.out hb)); have QC := hid (q2n.out.keep hb); have hpq := hid (show w.heap.size < p from (by simp at hp; omega)); clear hs hb hp)
    | (go_at_call 33; refine (cb.out p _ S1.out).mono ?_; rintro e w2 ⟨rfl, hs, hg⟩; have S2 := hid hs; replace BC := hid (grow_trans BC.out hg); replace QC := hid (QC.out.grown hg (by have := hpq.out; omega)); clear hs hg; obtain ⟨q5, hq5⟩ : ∃ q5, q5 = w2.heap.size := ⟨_, rfl⟩; have hpn := hid (show p < q5 from (by have := S2.out.lt; omega)); have t1 : Hid True := hid trivial)
    | (go_at_call 34; clear t1; rw [← hq5]; have E5 : Below w2.heap.size w2 (w2.alloc (.cells #[.bool true, .int .i64 0, .slice none 0 0] 33)) := ext1 _; have NC := hid (NB.new 33 w2 true 0 none 0 0); rw [← hq5] at NC; refine (c2.out p _ (S2.out.keep E5)).mono ?_; rintro e w3 ⟨rfl, hs, hg⟩; have S3 := hid hs; replace BC := hid (grow_trans BC.out (grow_below E5)); replace QC := hid (QC.out.keep E5); replace BC := hid (grow_trans BC.out hg); replace QC := hid (QC.out.grown hg (by have := hpq.out; omega)); replace NC := hid (NC.out.grown hg (by have := hpn.out; omega)); clear hg; clear hs E5; replace hq5 := hid hq5)
    | (go_at_call 34; refine (c3.out p _ S3.out).mono ?_; rintro e w4 ⟨rfl, hs, hg⟩; have S4 := hid hs; replace BC := hid (grow_trans BC.out hg); replace QC := hid (QC.out.grown hg (by have := hpq.out; omega)); replace NC := hid (NC.out.grown hg (by have := hpn.out; omega)); clear hg; clear hs; obtain ⟨n0, n1, n2⟩ := NC.out.cells; have nf := NC.out.fz 1))
  obtain ⟨w5, hw5⟩ : ∃ w5, w5 = w4.setCell ⟨q5, 1, none⟩ (.int .i64 (v3 : Int)) := ⟨_, rfl⟩
  rw [← hw5]
  obtain ⟨B, hB⟩ : ∃ B, B = w5.heap.size := ⟨_, rfl⟩
  have hqB : Hid (q5 < B) := hid (by rw [hB, hw5]; simpa using NC.out.lt)
  have N5 := hid (show NB 33 w5 q5 true (v3 : Int) none 0 0 by rw [hw5]; exact NC.out.set1 _)
  have Q5 := hid (show NB 33 w5 w.heap.size false 0 none 0 0 by rw [hw5]; unfold NB; rw [heap_setCell_other _ _ _ _ (by have := hpn.out; have := hpq.out; simp; omega)]; exact QC.out)
  have S5' := hid (show RSrc w5 p o3 by rw [hw5]; exact S4.out.five (five_set NC.out (by decide)) (heap_setCell_other _ _ _ _ (by have := hpn.out; simp; omega)))
  have W5 := hid (show Below w.heap.size w w5 by rw [hw5]; exact below_set (below_grown (Below.refl _ _) BC.out (by have := hpq.out; omega) (Nat.le_refl _)) (by have := hpn.out; have := hpq.out; simp; omega) _)
  replace hB := hid hB
  clear hw5 n0 n1 n2 nf cb c2 c3 c32 S1 S2 S3 S4 QC NC BC B0 q2n
  go_loopw [7] (fun c W => ∃ (k i : Nat) (l : List C) (o : Option (List Nat)) (co : Option Addr) (cc : Nat), i + k = K ∧ c = .int .u64 (k : Int) ∧ l.length = i ∧ Hid (l.map nrm ++ (refCs true k o).1 = RL ∧ (refCs true k o).2 = RO ∧ (∀ a ∈ l, Ck5 W a) ∧ RSrc W p o ∧ NB 33 W q5 true (v3 : Int) co i cc ∧ NB 33 W w.heap.size false 0 none 0 0 ∧ W.ownsRow B 69 5 (.slice co i cc) i (cv l) ∧ Below w.heap.size w W ∧ B ≤ W.heap.size)) (fun c _ => (intOf c).toNat)
  case atStart => exact ⟨K, 0, [], o3, none, 0, by omega, rfl, rfl, hid ⟨by rw [List.map_nil, List.nil_append, ← hRF.out], by rw [← hRF.out], by simp, S5'.out, N5.out, Q5.out, World.ownsRow_nil _ _ _ _, W5.out, by rw [hB.out]; exact Nat.le_refl _⟩⟩
  case round =>
    obtain ⟨k, i, l, o, co, cc, hi, rfl, hll, HH⟩ := hrel
    obtain ⟨hE, hO2, hA, hS, hN, hQ, hO, hW, hBW⟩ := HH.out
    have A := hid hA; have S := hid hS; have N := hid hN; have Q := hid hQ; have O := hid hO; have BW := hid hW
    replace hE := hid hE; replace hO2 := hid hO2
    replace hBW := hid hBW
    clear hA hS hN hQ hO hW HH S5' N5 Q5 W5
    obtain ⟨n0, n1, n2⟩ := N.out.cells
    by_cases hgo : 0 < k ∧ o.isSome = true
    · obtain ⟨hk0, hos⟩ := hgo
      obtain ⟨ys, rfl⟩ := Option.isSome_iff_exists.1 hos
      obtain ⟨k', rfl⟩ : ∃ k', k = k' + 1 := ⟨k - 1, by omega⟩
      have hEs := hE.out
      have hOs := hO2.out
      simp only [refCs] at hEs hOs
      obtain ⟨CB', hcb⟩ := S.out.block
      have hcb' := hid hcb
      have hz := (show wr.cell? ⟨p, 1, none⟩ = some (.int .i64 0) by obtain ⟨⟨b, off, n, cap', hp, _⟩, _⟩ := S.out; exact (two_of hp).2.1)
      have hplt := S.out.lt
      have hby : By (some ys) := fun zs' e => by simp only [Option.some.injEq] at e; subst e; exact S.out.2
      have hk1 : (0 : Int) < ((k' + 1 : Nat) : Int) := by omega
      have hk2 : ((k' + 1 : Nat) : Int) - 1 = (k' : Int) := by omega
      have hcl : (cv l).length = i * 5 := by rw [cv_length, hll]
      obtain ⟨t, ht⟩ : ∃ t, t = wr.heap.size := ⟨_, rfl⟩
      have CZ := hid (CX.new wr 0 0 0 none 0 0 0)
      have EZ : Below wr.heap.size wr (wr.alloc (.cells #[.int .i64 0, .int .i64 0, .int .i64 0, .slice none 0 0, .int .i64 0] 69)) := ext1 _
      have SZ := hid (S.out.keep EZ)
      have EZ' := hid EZ
      have hlt5 := N.out.lt
      rw [← ht] at CZ
      have htp := hid (show t ≠ p by omega)
      have ht5 : q5 < t := by omega
      have htw := hid (show wr.heap.size ≤ t by omega)
      have hnt : ¬ q5 = t := by omega
      replace hEs := hid hEs; replace hOs := hid hOs
      replace ht := hid ht
      have hI65 : i ≤ 65535 := by omega
      have hown : Hid (∀ Y : World, (∀ k, k ≠ t → k < wr.heap.size → k ≠ p → Y.heap[k]? = wr.heap[k]?) → Y.ownsRow B 69 5 (.slice co i cc) i (cv l)) := hid (fun Y hY => by
        refine ⟨O.out.1, ?_⟩
        rcases O.out.2 with h1 | ⟨g, cap, cur, e, hb, hgg, h2⟩
        · exact Or.inl h1
        · refine Or.inr ⟨g, cap, cur, e, hb, ?_, h2⟩
          have hgl := lt_of_block hgg
          rw [hY g (by have := ht.out; omega) hgl (by intro e; subst e; rw [hcb'.out] at hgg; simp only [Option.some.injEq, Obj.cells.injEq] at hgg; exact absurd hgg.2.1 (by decide))]
          exact hgg)
      have hnb : Hid (∀ Y : World, (∀ k, k ≠ t → k < wr.heap.size → k ≠ p → Y.heap[k]? = wr.heap[k]?) → NB 33 Y q5 true (v3 : Int) co i cc ∧ NB 33 Y w.heap.size false 0 none 0 0) := hid (fun Y hY => by
        have h1 := Q.out.lt
        constructor
        · unfold NB; rw [hY q5 (by omega) hlt5 (by have := hpn.out; omega)]; exact N.out
        · unfold NB; rw [hY _ (by have := ht.out; omega) h1 (by have := hpq.out; omega)]; exact Q.out)
      have hfr : Hid (∀ (Y : World) (j : Nat) (u : Value), wr.grownBy Y (some p) → ∀ k, k ≠ t → k < wr.heap.size → k ≠ p → (Y.setCell ⟨t, j, none⟩ u).heap[k]? = wr.heap[k]?) := hid (fun Y j u hg k h1 h2 h3 => by rw [heap_setCell_other _ _ k _ (by simpa using h1)]; exact hg.block k h2 (by simpa using h3))
      clear hcb hos hE hO2 EZ hk0 O
      have hU1 := var_lt' hby 18446744073709551615
      have cz := hid (rzag_any (rl1 (some ys)).1 hU1)
      have hl2 : (rl2 (some ys)).1 ≤ 20000 := by
        unfold rl2
        cases h2 : (rl1 (some ys)).2 with
        | none => simp [varO]
        | some zs' =>
          simp only [varO]
          split
          · simp
          · simp only; omega
      have cl := hid (rlocal_any ((rl2 (some ys)).1 : Nat))
      have cA := hid (fun W (hs : RSrc W p (some ys)) => rvar_src p 18446744073709551615 (some ys) W hs)
      have cB := hid (fun W (hs : RSrc W p (rl1 (some ys)).2) => rvar_src p 20000 (rl1 (some ys)).2 W hs)
      have cC := hid (fun W (hs : RSrc W p (rl2 (some ys)).2) => rbytes_src p (locN ((rl2 (some ys)).1 : Nat)) (rl2 (some ys)).2 W hs)
      have cD := hid (fun W (hs : RSrc W p (rl3 (some ys)).2) => rnum_src p 4 (rl3 (some ys)).2 W hs (by omega) (by omega))
      change Hid (∀ W, RSrc W p (some ys) → Calls Try.prog 35 #[.pointer (some ⟨p, 0, none⟩), .int .u64 ((18446744073709551615 : Nat) : Int)] W fun e w' => e = .returned (.int .u64 ((rl1 (some ys)).1 : Nat)) ∧ RSrc w' p (rl1 (some ys)).2 ∧ W.grownBy w' (some p)) at cA
      change Hid (∀ W, RSrc W p (rl1 (some ys)).2 → Calls Try.prog 35 #[.pointer (some ⟨p, 0, none⟩), .int .u64 ((20000 : Nat) : Int)] W fun e w' => e = .returned (.int .u64 ((rl2 (some ys)).1 : Nat)) ∧ RSrc w' p (rl2 (some ys)).2 ∧ W.grownBy w' (some p)) at cB
      change Hid (∀ W, RSrc W p (rl2 (some ys)).2 → Calls Try.prog 36 #[.pointer (some ⟨p, 0, none⟩), .int .i64 ((locN ((rl2 (some ys)).1 : Nat) : Nat) : Int)] W fun e w' => ∃ ao n c, e = .returned (.slice ao n c) ∧ Rd w' ao n c (rl3 (some ys)).1 ∧ (∀ x ∈ (rl3 (some ys)).1, x < 256) ∧ (0 < n → ∀ b o, ao = some ⟨b, o, none⟩ → T5 w' b) ∧ RSrc w' p (rl3 (some ys)).2 ∧ W.grownBy w' (some p)) at cC
      have hx4 : (numO 4 (rl3 (some ys)).2).1 < 4294967296 := by
        have h3 : By (rl3 (some ys)).2 := by_bytes (by_var (by_var hby _) _) _
        cases h4 : (rl3 (some ys)).2 with
        | none => simp [numO]
        | some us =>
          simp only [numO]
          split
          · rename_i hl
            have := psum_bound us 4 (h3 us h4) hl
            simpa using this
          · simp
      have hkI := hid (zag_in _ hU1)
      have hrdL : rdC true (some ys) = rdL (some ys) := rfl
      unfold rdL rl4 rlS at hrdL
      have hb96 := hid (rdC_b true (some ys))
      rw [hrdL] at hb96
      simp only at hb96
      generalize numO 4 (rl3 (some ys)).2 = N4 at *
      obtain ⟨x4, o4⟩ := N4
      generalize rl3 (some ys) = R3' at *
      obtain ⟨b3, o3'⟩ := R3'
      generalize rl2 (some ys) = R2' at *
      obtain ⟨l2, o2'⟩ := R2'
      generalize hR1 : rl1 (some ys) = R1' at *
      obtain ⟨u1, o1'⟩ := R1'
      have hkI2 : Hid (I64 (zagN u1)) := hid (by have h1 := hkI.out; have h2 : (varO 18446744073709551615 (some ys)).1 = u1 := congrArg Prod.fst hR1; rw [h2] at h1; exact h1)
      simp only at *
      generalize locN (l2 : Nat) = L2 at *
      generalize zagN u1 = zk at *
      replace hrdL := hid hrdL
      clear hU1 hkI hR1
      have t1 : Hid True := hid trivial
      by_cases hsp : (b3.length : Int) < (l2 : Int)
      · have hsp2 : Hid (decide ((b3.length : Int) < (l2 : Int)) = true) := hid (by simpa using hsp)
        go_wp2_with (first
          | (go_at_call 35; clear t1; rw [← ht.out]; refine (cA.out _ SZ.out).mono ?_; rintro e y1 ⟨rfl, hs, hg⟩; have S1 := hid hs; have C1 := hid (CZ.out.grown hg htp.out); have G1 := hid (grow_trans (grow_below EZ'.out) hg); have F1 := hid ((five_below EZ'.out).trans (SZ.out.grown5 hg)); clear hs hg; obtain ⟨y0, y1', y2', y3', y4'⟩ := C1.out.cells; have f0 := C1.out.fz 0)
          | (go_at_call 27; refine (cz.out _).mono ?_; rintro e yz ⟨rfl, hw⟩; obtain rfl := hw.symm)
          | (go_at_call 35; refine (cB.out _ (C1.out.src S1.out)).mono ?_; rintro e y2 ⟨rfl, hs, hg⟩; have S2 := hid hs; have C2 := hid ((C1.out.set0 zk).grown hg htp.out); have G2 := hid (grow_trans (grow1 G1.out htw.out) hg); have F2 := hid ((F1.out.trans C1.out.five).trans ((C1.out.src S1.out).grown5 hg)); clear hs hg y0 y1' y2' y3' y4' f0; obtain ⟨y0, y1', y2', y3', y4'⟩ := C2.out.cells; have f2 := C2.out.fz 2)
          | (go_at_call 29; refine (cl.out _).mono ?_; rintro e yl ⟨rfl, hw⟩; obtain rfl := hw.symm)
          | (go_at_call 36; refine (cC.out _ (C2.out.src S2.out)).mono ?_; rintro e y3 ⟨a3, n3, m3, rfl, hr, h8, h5, hs, hg⟩; have S3 := hid hs; have C3 := hid ((C2.out.set2 (l2 : Int)).grown hg htp.out); have G3 := hid (grow_trans (grow1 G2.out htw.out) hg); have F3 := hid ((F2.out.trans C2.out.five).trans ((C2.out.src S2.out).grown5 hg)); have RD3 := hid hr; have H83 := hid h8; have H53 := hid h5; have hn3 := hr.1; rw [hn3] at hsp; clear hs hg hr h8 h5 y0 y1' y2' y3' y4' f2; obtain ⟨y0, y1', y2', y3', y4'⟩ := C3.out.cells; have f3 := C3.out.fz 3)
          | (go_at_call 34; refine (cD.out _ (C3.out.src S3.out)).mono ?_; rintro e y4 ⟨rfl, hs, hg⟩; have S4 := hid hs; have C4 := hid ((C3.out.set3 a3 n3 m3).grown hg htp.out); have GY := hid (grow_trans (grow1 G3.out htw.out) hg); have F34 := hid (C3.out.five.trans ((C3.out.src S3.out).grown5 hg)); have F4 := hid (F3.out.trans F34.out); clear hs hg y0 y1' y2' y3' y4' f3; obtain ⟨y0, y1', y2', y3', y4'⟩ := C4.out.cells; have f4 := C4.out.fz 4; have FY := hid (F4.out.trans (CX.five (i := 4) (u := .int .i64 (x4 : Int)) C4.out)); have SY := hid (CX.src (i := 4) (u := .int .i64 (x4 : Int)) C4.out S4.out); have F35 := hid (F34.out.trans (CX.five (i := 4) (u := .int .i64 (x4 : Int)) C4.out)); have KY := hid (show Ck5 (y4.setCell ⟨t, 4, none⟩ (.int .i64 (x4 : Int))) ((⟨zk, 0, (l2 : Int), a3, n3, m3, (x4 : Int), b3⟩ : C)) from ⟨{ rd := RD3.out.five H53.out F35.out, by8 := H83.out, kI := hkI2.out, cI := ⟨by simp, by simp⟩, lI := ⟨by simp only; omega, by simp only; omega⟩, xI := ⟨by simp only; omega, by simp only; omega⟩, nB := by have := hb96.out; simp only [big]; omega }, fun hn b o e => (H53.out hn b o e).five F35.out⟩); obtain ⟨n0', n1', n2'⟩ := (N.out.grown GY.out (by have := hpn.out; omega)).cells)
          | (have NY := (hnb.out (y4.setCell ⟨t, 4, none⟩ (.int .i64 (x4 : Int))) (hfr.out _ _ _ GY.out)).1; have hoy := hown.out (y4.setCell ⟨t, 4, none⟩ (.int .i64 (x4 : Int))) (hfr.out _ _ _ GY.out); (with_reducible refine here_op 75 ?_); refine wpList_append_own _ rfl (.tmp 72) (.tmp 74) 31 rfl B 69 i69 (.agg #[.int .i64 0, .int .i64 0, .int .i64 0, .slice none 0 0, .int .i64 0]) 5 56 Try.underlying31 HI.out HZ0.out HZ1.out HZ2.out rfl (by decide) (.slice co i cc) i (cv l) rfl (hoy.alloc _) ⟨(y4).heap.size, 0, none⟩ 1 1 (cv [(⟨zk, 0, (l2 : Int), a3, n3, m3, (x4 : Int), b3⟩ : C)]) rfl rfl (by have := five_cells (y4.setCell ⟨t, 4, none⟩ (.int .i64 (x4 : Int))) ((⟨zk, 0, (l2 : Int), a3, n3, m3, (x4 : Int), b3⟩ : C)) 69; simpa using this) (cv_one ((⟨zk, 0, (l2 : Int), a3, n3, m3, (x4 : Int), b3⟩ : C))) (by unfold maxLen; omega) (by omega) (by have h1 := hBW.out; have h2 := GY.out.size; simp; omega) ?_; intro v6 w6 ho6 hg6 hnil6; obtain ⟨ao6, cap6, rfl⟩ := row_form ho6; have O6 := hid ho6; have F6 := hid (five_own9 (hoy.alloc _) hg6); have G6 := hid (below_own (hoy.alloc _) hg6 (Nat.le_refl _) (by have h1 := hBW.out; have h2 := GY.out.size; simp; omega)); have N6 := hid (show NB 33 w6 q5 true (v3 : Int) co i cc from (by unfold NB; rw [G6.out.block q5 hqB.out]; exact NY.keep (ext1 _))); have c6 := N6.out.cells.2.2; have f6 := N6.out.fz 2; clear ho6 hg6 hnil6 NY hoy))
        have QY := (hnb.out (y4.setCell ⟨t, 4, none⟩ (.int .i64 (x4 : Int))) (hfr.out _ _ _ GY.out)).2
        have EY : Below (y4.setCell ⟨t, 4, none⟩ (.int .i64 (x4 : Int))).heap.size (y4.setCell ⟨t, 4, none⟩ (.int .i64 (x4 : Int))) ((y4.setCell ⟨t, 4, none⟩ (.int .i64 (x4 : Int))).alloc (.cells #[.int .i64 ((⟨zk, 0, (l2 : Int), a3, n3, m3, (x4 : Int), b3⟩ : C)).k, .int .i64 ((⟨zk, 0, (l2 : Int), a3, n3, m3, (x4 : Int), b3⟩ : C)).c, .int .i64 ((⟨zk, 0, (l2 : Int), a3, n3, m3, (x4 : Int), b3⟩ : C)).l, .slice ((⟨zk, 0, (l2 : Int), a3, n3, m3, (x4 : Int), b3⟩ : C)).o ((⟨zk, 0, (l2 : Int), a3, n3, m3, (x4 : Int), b3⟩ : C)).n ((⟨zk, 0, (l2 : Int), a3, n3, m3, (x4 : Int), b3⟩ : C)).m, .int .i64 ((⟨zk, 0, (l2 : Int), a3, n3, m3, (x4 : Int), b3⟩ : C)).x] 69)) := ext1 _
        have F7 : Five (y4.setCell ⟨t, 4, none⟩ (.int .i64 (x4 : Int))) (w6.setCell ⟨q5, 2, none⟩ (.slice ao6 (i + 1) cap6)) := ((five_below EY).trans F6.out).trans (five_set N6.out (by decide))
        have hwB : w.heap.size < B := by have h1 := hqB.out; have h2 := hpn.out; have h3 := hpq.out; omega
        have hq5w : w.heap.size < q5 := by have h2 := hpn.out; have h3 := hpq.out; omega
        have hrd : (rdC true (some ys)).1 = nrm ((⟨zk, 0, (l2 : Int), a3, n3, m3, (x4 : Int), b3⟩ : C)) ∧ (rdC true (some ys)).2 = o4 := (by have h1 := hrdL.out; rw [hsp2.out] at h1; simp only [if_true] at h1; rw [h1]; exact ⟨rfl, rfl⟩)
        rw [hrd.1, hrd.2] at hEs
        rw [hrd.2] at hOs
        refine ⟨⟨k', i + 1, l ++ [(⟨zk, 0, (l2 : Int), a3, n3, m3, (x4 : Int), b3⟩ : C)], o4, ao6, cap6, by omega, by go_num, by simp [hll], hid ⟨?_, hOs.out, ?_, ?_, N6.out.set ao6 (i + 1) cap6, ?_, ?_, ?_, ?_⟩⟩, by simp [intOf]⟩
        · rw [List.map_append, List.append_assoc]
          exact hEs.out
        · intro b hb
          rcases List.mem_append.1 hb with hb | hb
          · exact (A.out b hb).five (FY.out.trans F7)
          · simp at hb; subst hb; exact KY.out.five F7
        · refine SY.out.five F7 ?_
          rw [heap_setCell_other _ _ _ _ (by have := hpn.out; simp; omega), G6.out.block p (by have := hpn.out; have := hqB.out; omega), EY.block p SY.out.lt]
        · unfold NB
          rw [heap_setCell_other _ _ _ _ (by simp; omega), G6.out.block _ hwB]
          exact QY.keep (ext1 _)
        · rw [cv_append]
          exact ownsRow_setCell_below O6.out (by simpa using hqB.out) _
        · exact below_set (Below.trans (Below.trans (below_set (below_grown BW.out GY.out (by have := hpq.out; omega) (Nat.le_refl _)) (by have h1 := BW.out.size; have h2 := htw.out; simp; omega) _) (EY.mono (by have h1 := BW.out.size; have h2 := GY.out.size; simp; omega))) (G6.out.mono (by omega))) (by simp; omega) _
        · have h1 := G6.out.size
          have h2 := hBW.out
          have h3 := GY.out.size
          simp at h1 ⊢
          omega
      · have hsp2 : Hid (decide ((b3.length : Int) < (l2 : Int)) = false) := hid (by simpa using hsp)
        go_wp2_with (first
          | (go_at_call 35; clear t1; rw [← ht.out]; refine (cA.out _ SZ.out).mono ?_; rintro e y1 ⟨rfl, hs, hg⟩; have S1 := hid hs; have C1 := hid (CZ.out.grown hg htp.out); have G1 := hid (grow_trans (grow_below EZ'.out) hg); have F1 := hid ((five_below EZ'.out).trans (SZ.out.grown5 hg)); clear hs hg; obtain ⟨y0, y1', y2', y3', y4'⟩ := C1.out.cells; have f0 := C1.out.fz 0)
          | (go_at_call 27; refine (cz.out _).mono ?_; rintro e yz ⟨rfl, hw⟩; obtain rfl := hw.symm)
          | (go_at_call 35; refine (cB.out _ (C1.out.src S1.out)).mono ?_; rintro e y2 ⟨rfl, hs, hg⟩; have S2 := hid hs; have C2 := hid ((C1.out.set0 zk).grown hg htp.out); have G2 := hid (grow_trans (grow1 G1.out htw.out) hg); have F2 := hid ((F1.out.trans C1.out.five).trans ((C1.out.src S1.out).grown5 hg)); clear hs hg y0 y1' y2' y3' y4' f0; obtain ⟨y0, y1', y2', y3', y4'⟩ := C2.out.cells; have f2 := C2.out.fz 2)
          | (go_at_call 29; refine (cl.out _).mono ?_; rintro e yl ⟨rfl, hw⟩; obtain rfl := hw.symm)
          | (go_at_call 36; refine (cC.out _ (C2.out.src S2.out)).mono ?_; rintro e y3 ⟨a3, n3, m3, rfl, hr, h8, h5, hs, hg⟩; have S3 := hid hs; have C3 := hid ((C2.out.set2 (l2 : Int)).grown hg htp.out); have G3 := hid (grow_trans (grow1 G2.out htw.out) hg); have F3 := hid ((F2.out.trans C2.out.five).trans ((C2.out.src S2.out).grown5 hg)); have RD3 := hid hr; have H83 := hid h8; have H53 := hid h5; have hn3 := hr.1; rw [hn3] at hsp; clear hs hg hr h8 h5 y0 y1' y2' y3' y4' f2; obtain ⟨y0, y1', y2', y3', y4'⟩ := C3.out.cells; have f3 := C3.out.fz 3; have GY := G3; have FY := hid (F3.out.trans (CX.five (i := 3) (u := .slice a3 n3 m3) C3.out)); have SY := hid (CX.src (i := 3) (u := .slice a3 n3 m3) C3.out S3.out); have KY := hid (show Ck5 (y3.setCell ⟨t, 3, none⟩ (.slice a3 n3 m3)) ((⟨zk, 0, (l2 : Int), a3, n3, m3, 0, b3⟩ : C)) from ⟨{ rd := RD3.out.five H53.out C3.out.five, by8 := H83.out, kI := hkI2.out, cI := ⟨by simp, by simp⟩, lI := ⟨by simp only; omega, by simp only; omega⟩, xI := ⟨by simp, by simp⟩, nB := by have := hb96.out; simp only [big]; omega }, fun hn b o e => (H53.out hn b o e).five C3.out.five⟩); obtain ⟨n0', n1', n2'⟩ := (N.out.grown G3.out (by have := hpn.out; omega)).cells)
          | (have NY := (hnb.out (y3.setCell ⟨t, 3, none⟩ (.slice a3 n3 m3)) (hfr.out _ _ _ GY.out)).1; have hoy := hown.out (y3.setCell ⟨t, 3, none⟩ (.slice a3 n3 m3)) (hfr.out _ _ _ GY.out); (with_reducible refine here_op 75 ?_); refine wpList_append_own _ rfl (.tmp 72) (.tmp 74) 31 rfl B 69 i69 (.agg #[.int .i64 0, .int .i64 0, .int .i64 0, .slice none 0 0, .int .i64 0]) 5 56 Try.underlying31 HI.out HZ0.out HZ1.out HZ2.out rfl (by decide) (.slice co i cc) i (cv l) rfl (hoy.alloc _) ⟨(y3).heap.size, 0, none⟩ 1 1 (cv [(⟨zk, 0, (l2 : Int), a3, n3, m3, 0, b3⟩ : C)]) rfl rfl (by have := five_cells (y3.setCell ⟨t, 3, none⟩ (.slice a3 n3 m3)) ((⟨zk, 0, (l2 : Int), a3, n3, m3, 0, b3⟩ : C)) 69; simpa using this) (cv_one ((⟨zk, 0, (l2 : Int), a3, n3, m3, 0, b3⟩ : C))) (by unfold maxLen; omega) (by omega) (by have h1 := hBW.out; have h2 := GY.out.size; simp; omega) ?_; intro v6 w6 ho6 hg6 hnil6; obtain ⟨ao6, cap6, rfl⟩ := row_form ho6; have O6 := hid ho6; have F6 := hid (five_own9 (hoy.alloc _) hg6); have G6 := hid (below_own (hoy.alloc _) hg6 (Nat.le_refl _) (by have h1 := hBW.out; have h2 := GY.out.size; simp; omega)); have N6 := hid (show NB 33 w6 q5 true (v3 : Int) co i cc from (by unfold NB; rw [G6.out.block q5 hqB.out]; exact NY.keep (ext1 _))); have c6 := N6.out.cells.2.2; have f6 := N6.out.fz 2; clear ho6 hg6 hnil6 NY hoy))
        have QY := (hnb.out (y3.setCell ⟨t, 3, none⟩ (.slice a3 n3 m3)) (hfr.out _ _ _ GY.out)).2
        have EY : Below (y3.setCell ⟨t, 3, none⟩ (.slice a3 n3 m3)).heap.size (y3.setCell ⟨t, 3, none⟩ (.slice a3 n3 m3)) ((y3.setCell ⟨t, 3, none⟩ (.slice a3 n3 m3)).alloc (.cells #[.int .i64 ((⟨zk, 0, (l2 : Int), a3, n3, m3, 0, b3⟩ : C)).k, .int .i64 ((⟨zk, 0, (l2 : Int), a3, n3, m3, 0, b3⟩ : C)).c, .int .i64 ((⟨zk, 0, (l2 : Int), a3, n3, m3, 0, b3⟩ : C)).l, .slice ((⟨zk, 0, (l2 : Int), a3, n3, m3, 0, b3⟩ : C)).o ((⟨zk, 0, (l2 : Int), a3, n3, m3, 0, b3⟩ : C)).n ((⟨zk, 0, (l2 : Int), a3, n3, m3, 0, b3⟩ : C)).m, .int .i64 ((⟨zk, 0, (l2 : Int), a3, n3, m3, 0, b3⟩ : C)).x] 69)) := ext1 _
        have F7 : Five (y3.setCell ⟨t, 3, none⟩ (.slice a3 n3 m3)) (w6.setCell ⟨q5, 2, none⟩ (.slice ao6 (i + 1) cap6)) := ((five_below EY).trans F6.out).trans (five_set N6.out (by decide))
        have hwB : w.heap.size < B := by have h1 := hqB.out; have h2 := hpn.out; have h3 := hpq.out; omega
        have hq5w : w.heap.size < q5 := by have h2 := hpn.out; have h3 := hpq.out; omega
        have hrd : (rdC true (some ys)).1 = nrm ((⟨zk, 0, (l2 : Int), a3, n3, m3, 0, b3⟩ : C)) ∧ (rdC true (some ys)).2 = o3' := (by have h1 := hrdL.out; rw [hsp2.out] at h1; simp only [Bool.false_eq_true, if_false] at h1; rw [h1]; exact ⟨rfl, rfl⟩)
        rw [hrd.1, hrd.2] at hEs
        rw [hrd.2] at hOs
        refine ⟨⟨k', i + 1, l ++ [(⟨zk, 0, (l2 : Int), a3, n3, m3, 0, b3⟩ : C)], o3', ao6, cap6, by omega, by go_num, by simp [hll], hid ⟨?_, hOs.out, ?_, ?_, N6.out.set ao6 (i + 1) cap6, ?_, ?_, ?_, ?_⟩⟩, by simp [intOf]⟩
        · rw [List.map_append, List.append_assoc]
          exact hEs.out
        · intro b hb
          rcases List.mem_append.1 hb with hb | hb
          · exact (A.out b hb).five (FY.out.trans F7)
          · simp at hb; subst hb; exact KY.out.five F7
        · refine SY.out.five F7 ?_
          rw [heap_setCell_other _ _ _ _ (by have := hpn.out; simp; omega), G6.out.block p (by have := hpn.out; have := hqB.out; omega), EY.block p SY.out.lt]
        · unfold NB
          rw [heap_setCell_other _ _ _ _ (by simp; omega), G6.out.block _ hwB]
          exact QY.keep (ext1 _)
        · rw [cv_append]
          exact ownsRow_setCell_below O6.out (by simpa using hqB.out) _
        · exact below_set (Below.trans (Below.trans (below_set (below_grown BW.out GY.out (by have := hpq.out; omega) (Nat.le_refl _)) (by have h1 := BW.out.size; have h2 := htw.out; simp; omega) _) (EY.mono (by have h1 := BW.out.size; have h2 := GY.out.size; simp; omega))) (G6.out.mono (by omega))) (by simp; omega) _
        · have h1 := G6.out.size
          have h2 := hBW.out
          have h3 := GY.out.size
          simp at h1 ⊢
          omega

    · have hfin : (refCs true k o).1 = [] ∧ (refCs true k o).2 = o := by
        cases k with
        | zero => exact ⟨rfl, rfl⟩
        | succ k =>
          cases o with
          | none => exact ⟨rfl, rfl⟩
          | some ys => exact absurd ⟨by omega, rfl⟩ hgo
      have hRL : l.map nrm = RL := by rw [← hE.out, hfin.1, List.append_nil]
      have hRO : o = RO := by rw [← hO2.out, hfin.2]
      have hkz : k = 0 ∨ (0 < k ∧ o = none) := by
        cases k with
        | zero => exact Or.inl rfl
        | succ k => right; refine ⟨by omega, ?_⟩; cases o with | none => rfl | some ys => exact absurd ⟨by omega, rfl⟩ hgo
      replace hRL := hid hRL
      subst hRO
      have hCs := hid (cs_own (B := B) (t := 69) hll O.out (fun a ha => (A.out a ha).ok))
      have Z : ∃ z : Int, (z = 0 ↔ o.isSome = true) ∧ wr.cell? ⟨p, 1, none⟩ = some (.int .i64 z) := by
        cases o with
        | none => obtain ⟨z, hz, hp⟩ := S.out; exact ⟨z, by simp [hz], (two_of hp).2.1⟩
        | some ys => obtain ⟨⟨b, off, n, cap', hp, _⟩, _⟩ := S.out; exact ⟨0, by simp, (two_of hp).2.1⟩
      obtain ⟨z, hz, hzc⟩ := Z
      have hHx := hid (h'.out.keep BW.out)
      clear hE hO2 hfin hgo A O n0 n1 n2
      rcases hkz with rfl | ⟨hk0, rfl⟩
      · by_cases hz0 : z = 0
        · subst hz0
          have hos : o.isSome = true := hz.1 rfl
          rw [hos, Bool.true_and] at hri1
          clear hz hos
          go_upto_region 20 with fail
          have g1 : SE9 p q5 0 true (v3 : Int) co i cc ao cap sx wr.drew := ⟨hzc, (N.out.keep (Below.refl _ _).drew).cells, cvx.out _ (hHx.out.keep (Below.refl _ _).drew)⟩
          have XK := hid (hCs.out.keep (show Below wr.heap.size wr wr.drew from (Below.refl _ _).drew))
          replace N := hid (N.out.keep (show Below wr.heap.size wr wr.drew from (Below.refl _ _).drew))
          replace Q := hid (Q.out.keep (show Below wr.heap.size wr wr.drew from (Below.refl _ _).drew))
          replace BW := hid BW.out.drew
          have h8 := hid (hb8.out _ _ _ _ _ hCs.out hRL.out)
          obtain ⟨DX, hDX⟩ : ∃ DX, DX = decide (BN = xs) := ⟨_, rfl⟩
          rw [← hDX] at hri1
          obtain ⟨sb, hsb⟩ : ∃ sb, sb = str BN := ⟨_, rfl⟩
          have hne : Hid ((sb.toList == sx.toList) = DX) := hid (by rw [hsb, hsx.out, hDX]; exact str_beq9 BN xs h8.out hx'.out)
          replace hsb := hid hsb
          clear hDX
          cases DX with
          | true =>
            refine wp_region_K (S := SE9 p q5 0 true (v3 : Int) co i cc ao cap sx) (fun _ => false) (by kernel_rfl) (g1) (fun hHeld => ?_)
            refine gkp 0 ?_
            refine gkp 1 ?_
            refine gkp 2 ?_
            refine gkt 3 ?_ (h := by intro W hSw; obtain ⟨y0, ⟨y1, y2, y3⟩, y4⟩ := hSw; go_simp; first | done | with_reducible rfl)
            refine gkp 4 ?_ (v := .bool false) (h := by intro W hSw; go_simp <;> first | done | simp)
            refine gkp 5 ?_
            refine gkt 6 ?_ (h := by intro W hSw; obtain ⟨y0, ⟨y1, y2, y3⟩, y4⟩ := hSw; go_simp; first | done | with_reducible rfl)
            refine gkp 9 ?_
            refine gkt 10 ?_ (h := by intro W hSw; obtain ⟨y0, ⟨y1, y2, y3⟩, y4⟩ := hSw; go_simp; first | done | with_reducible rfl)
            refine gk1 7 (fun K hK => ?_)
            go_simp
            go_at_call 18; refine (cbt.out _ _ _ _ _ XK.out hRL.out).mono ?_; rintro e w7 ⟨ao7, n7, c7, rfl, hr7, hb⟩; have hR : SE9 p q5 0 true (v3 : Int) co i cc ao cap sx w7 := ⟨keep_old hb hHeld.1, ⟨keep_old hb hHeld.2.1.1, keep_old hb hHeld.2.1.2.1, keep_old hb hHeld.2.1.2.2⟩, cvx.out _ (h'.out.keep (gt BW.out hb))⟩; have CV := conv_rd (P := Try.prog) hr7 25 9 5 Try.underlying25 Try.underlying5 (by kernel_rfl); rw [← hsb.out] at CV; have CV7 := hid CV; replace BW := hid (gt BW.out hb); replace N := hid (N.out.keep hb); replace Q := hid (Q.out.keep hb); replace XK := hid (XK.out.keep hb); clear hb hr7 CV
            refine hK.out _ _ hR (fun hHeld => ?_)
            clear hK K
            (try simp only [Act.put, sA, sZ, sS])
            have hH2 : (SE9 p q5 0 true (v3 : Int) co i cc ao cap sx) w7 ∧ (convert 25 9 (.slice ao7 n7 c7)).run Try.prog w7 = .ok (.string sb) w7 := ⟨hHeld, CV7.out⟩
            refine wpAnyK_more (S' := (fun W => (SE9 p q5 0 true (v3 : Int) co i cc ao cap sx) W ∧ (convert 25 9 (.slice ao7 n7 c7)).run Try.prog W = .ok (.string sb) W)) (fun _ h => h.1) ?_
            clear hHeld
            refine gkt 8 ?_ (h := by intro W hSw; obtain ⟨⟨y0, ⟨y1, y2, y3⟩, y4⟩, y5⟩ := hSw; go_simp; first | done | with_reducible rfl)
            refine gkp 11 ?_ (v := .bool false) (h := by intro W hSw; have hh := hne.out; go_simp <;> first | done | simp [hh] | simp_all)
            refine gkp 12 ?_
            refine wpAnyK_done (by kernel_rfl) ?_ _
            have hIP : IP = true := hri1.out.symm
            obtain ⟨u0, u1, u2⟩ := N.out.cells
            obtain ⟨v0, v1', v2⟩ := Q.out.cells
            have f0 := Q.out.fz 0; have f1 := Q.out.fz 1; have f2 := Q.out.fz 2
            clear hHx g1
            go_wp2
            (try simp only [Exit.inBlock, Exit.then])
            refine bodyPost_ret (ret_node9 (a := 2) (u := 3) (by kernel_rfl) rfl (Q.out.set3 true (v3 : Int) co i cc)) rfl ?_
            refine ⟨below_set (below_set (below_set BW.out (by simp) _) (by simp) _) (by simp) _, Or.inr ⟨hIP, co, i, cc, l, rfl, ?_, by rw [← hri2.out hIP]; exact hRL.out⟩⟩
            exact Cs.other Q.out (fun k hk => by rw [heap_setCell_other _ _ k _ (by simpa using hk), heap_setCell_other _ _ k _ (by simpa using hk), heap_setCell_other _ _ k _ (by simpa using hk)]) XK.out
          | false =>
            refine wp_region_K (S := SE9 p q5 0 true (v3 : Int) co i cc ao cap sx) (fun _ => false) (by kernel_rfl) (g1) (fun hHeld => ?_)
            refine gkp 0 ?_
            refine gkp 1 ?_
            refine gkp 2 ?_
            refine gkt 3 ?_ (h := by intro W hSw; obtain ⟨y0, ⟨y1, y2, y3⟩, y4⟩ := hSw; go_simp; first | done | with_reducible rfl)
            refine gkp 4 ?_ (v := .bool false) (h := by intro W hSw; go_simp <;> first | done | simp)
            refine gkp 5 ?_
            refine gkt 6 ?_ (h := by intro W hSw; obtain ⟨y0, ⟨y1, y2, y3⟩, y4⟩ := hSw; go_simp; first | done | with_reducible rfl)
            refine gkp 9 ?_
            refine gkt 10 ?_ (h := by intro W hSw; obtain ⟨y0, ⟨y1, y2, y3⟩, y4⟩ := hSw; go_simp; first | done | with_reducible rfl)
            refine gk1 7 (fun K hK => ?_)
            go_simp
            go_at_call 18; refine (cbt.out _ _ _ _ _ XK.out hRL.out).mono ?_; rintro e w7 ⟨ao7, n7, c7, rfl, hr7, hb⟩; have hR : SE9 p q5 0 true (v3 : Int) co i cc ao cap sx w7 := ⟨keep_old hb hHeld.1, ⟨keep_old hb hHeld.2.1.1, keep_old hb hHeld.2.1.2.1, keep_old hb hHeld.2.1.2.2⟩, cvx.out _ (h'.out.keep (gt BW.out hb))⟩; have CV := conv_rd (P := Try.prog) hr7 25 9 5 Try.underlying25 Try.underlying5 (by kernel_rfl); rw [← hsb.out] at CV; have CV7 := hid CV; replace BW := hid (gt BW.out hb); replace N := hid (N.out.keep hb); replace Q := hid (Q.out.keep hb); replace XK := hid (XK.out.keep hb); clear hb hr7 CV
            refine hK.out _ _ hR (fun hHeld => ?_)
            clear hK K
            (try simp only [Act.put, sA, sZ, sS])
            have hH2 : (SE9 p q5 0 true (v3 : Int) co i cc ao cap sx) w7 ∧ (convert 25 9 (.slice ao7 n7 c7)).run Try.prog w7 = .ok (.string sb) w7 := ⟨hHeld, CV7.out⟩
            refine wpAnyK_more (S' := (fun W => (SE9 p q5 0 true (v3 : Int) co i cc ao cap sx) W ∧ (convert 25 9 (.slice ao7 n7 c7)).run Try.prog W = .ok (.string sb) W)) (fun _ h => h.1) ?_
            clear hHeld
            refine gkt 8 ?_ (h := by intro W hSw; obtain ⟨⟨y0, ⟨y1, y2, y3⟩, y4⟩, y5⟩ := hSw; go_simp; first | done | with_reducible rfl)
            refine gkp 11 ?_ (v := .bool true) (h := by intro W hSw; have hh := hne.out; go_simp <;> first | done | simp [hh] | simp_all)
            refine gkp 12 ?_
            refine wpAnyK_done (by kernel_rfl) ?_ _
            have hIP : IP = false := hri1.out.symm
            obtain ⟨v0, v1', v2⟩ := Q.out.cells
            have f0 := Q.out.fz 0; have f1 := Q.out.fz 1; have f2 := Q.out.fz 2
            clear hHx g1
            go_wp2
            (try simp only [Exit.inBlock, Exit.then])
            refine bodyPost_ret (ret_node9 (a := 2) (u := 3) (by kernel_rfl) rfl (Q.out.set3 false 0 none 0 0)) rfl ?_
            exact ⟨below_set (below_set (below_set BW.out (by simp) _) (by simp) _) (by simp) _, Or.inl ⟨hIP, rfl⟩⟩
        · have hon : o.isSome = false := by
            cases h1 : o.isSome with
            | false => rfl
            | true => exact absurd (hz.2 h1) hz0
          have hIP : IP = false := by have := hri1.out; rw [hon, Bool.false_and] at this; exact this.symm
          replace hz0 := hid hz0
          clear hz hon
          go_upto_region 20 with fail
          have g1 : SK1 p z wr.drew := hzc
          refine wp_region_K (S := SK1 p z) (fun _ => false) (by kernel_rfl) (g1) (fun hHeld => ?_)
          refine gkp 0 ?_
          refine gkp 1 ?_
          refine gkp 2 ?_
          refine gkt 3 ?_ (h := by intro W hSw; have y0 := hSw; go_simp; first | done | with_reducible rfl)
          refine gkp 4 ?_ (v := .bool true) (h := by intro W hSw; go_simp <;> first | done | simp [hz0.out])
          refine gkp 5 ?_
          refine gku 6 ?_
          refine gku 7 ?_
          refine gku 8 ?_
          refine gku 9 ?_
          refine gku 10 ?_
          refine gku 11 ?_
          refine gkp 12 ?_
          refine wpAnyK_done (by kernel_rfl) ?_ _
          replace BW := hid BW.out.drew
          obtain ⟨v0, v1', v2⟩ := Q.out.cells
          have f0 := Q.out.fz 0; have f1 := Q.out.fz 1; have f2 := Q.out.fz 2
          clear hHx g1
          go_wp2
          (try simp only [Exit.inBlock, Exit.then])
          refine bodyPost_ret (ret_node9 (a := 2) (u := 3) (by kernel_rfl) rfl ((Q.out.keep (Below.refl _ _).drew).set3 false 0 none 0 0)) rfl ?_
          exact ⟨below_set (below_set (below_set BW.out (by simp) _) (by simp) _) (by simp) _, Or.inl ⟨hIP, rfl⟩⟩
      · have hz0 : z ≠ 0 := fun e => by have := hz.1 e; simp at this
        have hz2 : (z == 0) = false := by simpa using hz0
        have hk1 : (0 : Int) < (k : Int) := by omega
        have hIP : IP = false := by have := hri1.out; rw [show (none : Option (List Nat)).isSome = false from rfl, Bool.false_and] at this; exact this.symm
        replace hz0 := hid hz0
        clear hz
        go_upto_region 20 with fail
        have g1 : SK1 p z wr.drew := hzc
        refine wp_region_K (S := SK1 p z) (fun _ => false) (by kernel_rfl) (g1) (fun hHeld => ?_)
        refine gkp 0 ?_
        refine gkp 1 ?_
        refine gkp 2 ?_
        refine gkt 3 ?_ (h := by intro W hSw; have y0 := hSw; go_simp; first | done | with_reducible rfl)
        refine gkp 4 ?_ (v := .bool true) (h := by intro W hSw; go_simp <;> first | done | simp [hz0.out])
        refine gkp 5 ?_
        refine gku 6 ?_
        refine gku 7 ?_
        refine gku 8 ?_
        refine gku 9 ?_
        refine gku 10 ?_
        refine gku 11 ?_
        refine gkp 12 ?_
        refine wpAnyK_done (by kernel_rfl) ?_ _
        replace BW := hid BW.out.drew
        obtain ⟨v0, v1', v2⟩ := Q.out.cells
        have f0 := Q.out.fz 0; have f1 := Q.out.fz 1; have f2 := Q.out.fz 2
        clear hHx g1
        go_wp2
        (try simp only [Exit.inBlock, Exit.then])
        refine bodyPost_ret (ret_node9 (a := 2) (u := 3) (by kernel_rfl) rfl ((Q.out.keep (Below.refl _ _).drew).set3 false 0 none 0 0)) rfl ?_
        exact ⟨below_set (below_set (below_set BW.out (by simp) _) (by simp) _) (by simp) _, Or.inl ⟨hIP, rfl⟩⟩


set_option maxHeartbeats 8000000 in
set_option maxRecDepth 20000 in
theorem rparse_false (ao : Option Addr) (cap : Nat) (xs : List Nat) (w : World) (h : Rd w ao 512 cap xs) (hx : ∀ x ∈ xs, x < 256) (hL : rnL xs = false) :
    Calls Try.prog 10 #[.slice ao 512 cap] w fun e w' => Below w.heap.size w w' ∧ ((isP xs = false ∧ e = .returned (.tuple #[.agg #[.bool false, .int .i64 0, .slice none 0 0], .int .i64 9])) ∨
      (isP xs = true ∧ ∃ co cn cc cs, e = .returned (.tuple #[.agg #[.bool false, .int .i64 ((r3 xs).1 : Nat), .slice co cn cc], .int .i64 0]) ∧ Cs w' co cn cc cs ∧ cs.map nrm = rnC xs)) := by
  have q2n := hid (NB.new 33 w false 0 none 0 0)
  have B0 : Hid (Below w.heap.size w (w.alloc (.cells #[.bool false, .int .i64 0, .slice none 0 0] 33))) := hid (ext1 _)
  have c32 := hid (rread_ok ao 512 cap xs _ (h.keep B0.out) hx (by omega) (by omega))
  have cb := hid (fun p W (hs : RSrc W p (some xs)) => rbyte_src p (some xs) W hs)
  have c2 := hid (fun p W (hs : RSrc W p (r1 xs).2) => rnum_src p 2 (r1 xs).2 W hs (by omega) (by omega))
  have c3 := hid (fun p W (hs : RSrc W p (r2 xs).2) => rnum_src p 4 (r2 xs).2 W hs (by omega) (by omega))
  change Hid (∀ p W, RSrc W p (some xs) → Calls Try.prog 33 #[.pointer (some ⟨p, 0, none⟩)] W fun e w' => e = .returned (.int .u8 ((((r1 xs).1 % 256 : Nat)) : Int)) ∧ RSrc w' p (r1 xs).2 ∧ W.grownBy w' (some p)) at cb
  change Hid (∀ p W, RSrc W p (r1 xs).2 → Calls Try.prog 34 #[.pointer (some ⟨p, 0, none⟩), .int .i64 ((2 : Nat) : Int), .bool false] W fun e w' => e = .returned (.int .u64 ((r2 xs).1 : Nat)) ∧ RSrc w' p (r2 xs).2 ∧ W.grownBy w' (some p)) at c2
  change Hid (∀ p W, RSrc W p (r2 xs).2 → Calls Try.prog 34 #[.pointer (some ⟨p, 0, none⟩), .int .i64 ((4 : Nat) : Int), .bool false] W fun e w' => e = .returned (.int .u64 ((r3 xs).1 : Nat)) ∧ RSrc w' p (r3 xs).2 ∧ W.grownBy w' (some p)) at c3
  have hK : (r2 xs).1 ≤ 65535 := rK_le xs hx
  have hV3 : (r3 xs).1 < 4294967296 := by
    have hby : By (r2 xs).2 := by_num (by_num (fun ys e => by simp only [Option.some.injEq] at e; subst e; exact hx) 1) 2
    unfold r3
    cases h4 : (r2 xs).2 with
    | none => simp [numO]
    | some us =>
      simp only [numO]
      split
      · rename_i hl
        have := psum_bound us 4 (hby us h4) hl
        simpa using this
      · simp
  obtain ⟨hri1, hri2⟩ := ref_is xs h.1
  unfold refP at hri1
  rw [hL] at hri1 hri2
  have hx' := hid hx
  have h' := hid h
  obtain ⟨sx, hsx⟩ : ∃ sx, sx = str xs := ⟨_, rfl⟩
  have cvx : Hid (∀ W, Rd W ao 512 cap xs → (convert 25 9 (.slice ao 512 cap)).run Try.prog W = .ok (.string sx) W) := hid (fun W hr => by rw [hsx]; exact conv_rd hr 25 9 5 Try.underlying25 Try.underlying5 (by kernel_rfl))
  have hrl := refCs_len false (r2 xs).1 (r3 xs).2
  have hrb := refCs_b false (r2 xs).1 (r3 xs).2
  have hfew : Hid (∀ W co cn cc (cs : List C), Cs W co cn cc cs → cs.map nrm = (refCs false (r2 xs).1 (r3 xs).2).1 → Few cs) := hid (fun W co cn cc cs hc he => ⟨by have h1 := congrArg List.length he; simp only [List.length_map] at h1; omega, fun a ha => by
    have h1 : nrm a ∈ (refCs false (r2 xs).1 (r3 xs).2).1 := by rw [← he]; exact List.mem_map.2 ⟨a, ha, rfl⟩
    have h2 := hrb (nrm a) h1
    have h3 := (hc.ok a ha).rd.1
    have h4 : (nrm a).b = a.b := rfl
    rw [h4] at h2
    omega⟩)
  obtain ⟨RF, hRF⟩ : ∃ RF, RF = refCs false (r2 xs).1 (r3 xs).2 := ⟨_, rfl⟩
  rw [← hRF] at hri1 hri2 hfew
  have hst : Hid (decide (bN false ((r3 xs).1 : Nat) RF.1 = xs) = (hasN false ((r3 xs).1 : Nat) RF.1 && decide (pageN false ((r3 xs).1 : Nat) RF.1 = xs))) := hid (by
    unfold bN
    cases hasN false ((r3 xs).1 : Nat) RF.1 with
    | true => simp
    | false =>
      simp only [Bool.false_eq_true, if_false, Bool.false_and]
      have : ([] : List Nat) ≠ xs := by intro e; have := h.1; rw [← e] at this; simp at this
      simp [this])
  rw [← hst.out] at hri1
  have cbt : Hid (∀ W co cn cc (cs : List C), Cs W co cn cc cs → cs.map nrm = RF.1 → Calls Try.prog 18 #[.agg #[.bool false, .int .i64 ((r3 xs).1 : Nat), .slice co cn cc]] W fun e w' => ∃ ao n cap, e = .returned (.slice ao n cap) ∧ Rd w' ao n cap (bN false ((r3 xs).1 : Nat) RF.1) ∧ Below W.heap.size W w') := hid (fun W co cn cc cs hc he => by
    have := rbytes9_str false ((r3 xs).1 : Nat) co cn cc cs W hc (hfew.out W co cn cc cs hc he)
    have e1 : bN false ((r3 xs).1 : Nat) cs = bN false ((r3 xs).1 : Nat) RF.1 := by unfold bN; rw [← he, has_nrm, page_nrm]
    rw [e1] at this
    exact this)
  have hb8 : Hid (∀ W co cn cc (cs : List C), Cs W co cn cc cs → cs.map nrm = RF.1 → ∀ x ∈ bN false ((r3 xs).1 : Nat) RF.1, x < 256) := hid (fun W co cn cc cs hc he x hx => by
    unfold bN at hx
    split at hx
    · rw [← he, page_nrm] at hx; exact pageN_by8 false _ cs hc.ok x hx
    · cases hx)
  generalize rnC xs = RC at *
  generalize isP xs = IP at *
  unfold rnL at hL
  generalize (r1 xs).1 % 256 = LB at *
  generalize r1 xs = R1 at *
  obtain ⟨v1, o1⟩ := R1
  generalize r3 xs = R3 at *
  obtain ⟨v3, o3⟩ := R3
  generalize r2 xs = R2 at *
  obtain ⟨K, o2⟩ := R2
  simp only at *
  generalize bN false (v3 : Int) RF.1 = BN at *
  obtain ⟨RL, RO⟩ := RF
  simp only at *
  obtain ⟨i69, hi69, hz0, hz1, hz2⟩ := info_parts Try.info69
  have HI := hid hi69; have HZ0 := hid hz0; have HZ1 := hid hz1; have HZ2 := hid hz2
  replace hRF := hid hRF
  replace hri1 := hid hri1; replace hri2 := hid hri2; replace hsx := hid hsx
  clear h hi69 hz0 hz1 hz2 hx hrl hrb hfew hst
  go_enter Try.func10, Try.ntmps10
  go_wp2_with (first
    | (go_at_call 32; refine c32.out.mono ?_; rintro e w1 ⟨p, rfl, hp, hs, hb⟩; have S1 := hid hs; have BC := hid (show w.grownBy w1 (some p) from grow_below (gt B0.out hb)); have QC := hid (q2n.out.keep hb); have hpq := hid (show w.heap.size < p from (by simp at hp; omega)); clear hs hb hp)
    | (go_at_call 33; refine (cb.out p _ S1.out).mono ?_; rintro e w2 ⟨rfl, hs, hg⟩; have S2 := hid hs; replace BC := hid (grow_trans BC.out hg); replace QC := hid (QC.out.grown hg (by have := hpq.out; omega)); clear hs hg; obtain ⟨q5, hq5⟩ : ∃ q5, q5 = w2.heap.size := ⟨_, rfl⟩; have hpn := hid (show p < q5 from (by have := S2.out.lt; omega)); have t1 : Hid True := hid trivial)
    | (go_at_call 34; clear t1; rw [← hq5]; have E5 : Below w2.heap.size w2 (w2.alloc (.cells #[.bool false, .int .i64 0, .slice none 0 0] 33)) := ext1 _; have NC := hid (NB.new 33 w2 false 0 none 0 0); rw [← hq5] at NC; refine (c2.out p _ (S2.out.keep E5)).mono ?_; rintro e w3 ⟨rfl, hs, hg⟩; have S3 := hid hs; replace BC := hid (grow_trans BC.out (grow_below E5)); replace QC := hid (QC.out.keep E5); replace BC := hid (grow_trans BC.out hg); replace QC := hid (QC.out.grown hg (by have := hpq.out; omega)); replace NC := hid (NC.out.grown hg (by have := hpn.out; omega)); clear hg; clear hs E5; replace hq5 := hid hq5)
    | (go_at_call 34; refine (c3.out p _ S3.out).mono ?_; rintro e w4 ⟨rfl, hs, hg⟩; have S4 := hid hs; replace BC := hid (grow_trans BC.out hg); replace QC := hid (QC.out.grown hg (by have := hpq.out; omega)); replace NC := hid (NC.out.grown hg (by have := hpn.out; omega)); clear hg; clear hs; obtain ⟨n0, n1, n2⟩ := NC.out.cells; have nf := NC.out.fz 1))
  obtain ⟨w5, hw5⟩ : ∃ w5, w5 = w4.setCell ⟨q5, 1, none⟩ (.int .i64 (v3 : Int)) := ⟨_, rfl⟩
  rw [← hw5]
  obtain ⟨B, hB⟩ : ∃ B, B = w5.heap.size := ⟨_, rfl⟩
  have hqB : Hid (q5 < B) := hid (by rw [hB, hw5]; simpa using NC.out.lt)
  have N5 := hid (show NB 33 w5 q5 false (v3 : Int) none 0 0 by rw [hw5]; exact NC.out.set1 _)
  have Q5 := hid (show NB 33 w5 w.heap.size false 0 none 0 0 by rw [hw5]; unfold NB; rw [heap_setCell_other _ _ _ _ (by have := hpn.out; have := hpq.out; simp; omega)]; exact QC.out)
  have S5' := hid (show RSrc w5 p o3 by rw [hw5]; exact S4.out.five (five_set NC.out (by decide)) (heap_setCell_other _ _ _ _ (by have := hpn.out; simp; omega)))
  have W5 := hid (show Below w.heap.size w w5 by rw [hw5]; exact below_set (below_grown (Below.refl _ _) BC.out (by have := hpq.out; omega) (Nat.le_refl _)) (by have := hpn.out; have := hpq.out; simp; omega) _)
  replace hB := hid hB
  clear hw5 n0 n1 n2 nf cb c2 c3 c32 S1 S2 S3 S4 QC NC BC B0 q2n
  go_loopw [7] (fun c W => ∃ (k i : Nat) (l : List C) (o : Option (List Nat)) (co : Option Addr) (cc : Nat), i + k = K ∧ c = .int .u64 (k : Int) ∧ l.length = i ∧ Hid (l.map nrm ++ (refCs false k o).1 = RL ∧ (refCs false k o).2 = RO ∧ (∀ a ∈ l, Ck5 W a) ∧ RSrc W p o ∧ NB 33 W q5 false (v3 : Int) co i cc ∧ NB 33 W w.heap.size false 0 none 0 0 ∧ W.ownsRow B 69 5 (.slice co i cc) i (cv l) ∧ Below w.heap.size w W ∧ B ≤ W.heap.size)) (fun c _ => (intOf c).toNat)
  case atStart => exact ⟨K, 0, [], o3, none, 0, by omega, rfl, rfl, hid ⟨by rw [List.map_nil, List.nil_append, ← hRF.out], by rw [← hRF.out], by simp, S5'.out, N5.out, Q5.out, World.ownsRow_nil _ _ _ _, W5.out, by rw [hB.out]; exact Nat.le_refl _⟩⟩
  case round =>
    obtain ⟨k, i, l, o, co, cc, hi, rfl, hll, HH⟩ := hrel
    obtain ⟨hE, hO2, hA, hS, hN, hQ, hO, hW, hBW⟩ := HH.out
    have A := hid hA; have S := hid hS; have N := hid hN; have Q := hid hQ; have O := hid hO; have BW := hid hW
    replace hE := hid hE; replace hO2 := hid hO2
    replace hBW := hid hBW
    clear hA hS hN hQ hO hW HH S5' N5 Q5 W5
    obtain ⟨n0, n1, n2⟩ := N.out.cells
    by_cases hgo : 0 < k ∧ o.isSome = true
    · obtain ⟨hk0, hos⟩ := hgo
      obtain ⟨ys, rfl⟩ := Option.isSome_iff_exists.1 hos
      obtain ⟨k', rfl⟩ : ∃ k', k = k' + 1 := ⟨k - 1, by omega⟩
      have hEs := hE.out
      have hOs := hO2.out
      simp only [refCs] at hEs hOs
      obtain ⟨CB', hcb⟩ := S.out.block
      have hcb' := hid hcb
      have hz := (show wr.cell? ⟨p, 1, none⟩ = some (.int .i64 0) by obtain ⟨⟨b, off, n, cap', hp, _⟩, _⟩ := S.out; exact (two_of hp).2.1)
      have hplt := S.out.lt
      have hby : By (some ys) := fun zs' e => by simp only [Option.some.injEq] at e; subst e; exact S.out.2
      have hk1 : (0 : Int) < ((k' + 1 : Nat) : Int) := by omega
      have hk2 : ((k' + 1 : Nat) : Int) - 1 = (k' : Int) := by omega
      have hcl : (cv l).length = i * 5 := by rw [cv_length, hll]
      obtain ⟨t, ht⟩ : ∃ t, t = wr.heap.size := ⟨_, rfl⟩
      have CZ := hid (CX.new wr 0 0 0 none 0 0 0)
      have EZ : Below wr.heap.size wr (wr.alloc (.cells #[.int .i64 0, .int .i64 0, .int .i64 0, .slice none 0 0, .int .i64 0] 69)) := ext1 _
      have SZ := hid (S.out.keep EZ)
      have EZ' := hid EZ
      have hlt5 := N.out.lt
      rw [← ht] at CZ
      have htp := hid (show t ≠ p by omega)
      have ht5 : q5 < t := by omega
      have htw := hid (show wr.heap.size ≤ t by omega)
      have hnt : ¬ q5 = t := by omega
      replace hEs := hid hEs; replace hOs := hid hOs
      replace ht := hid ht
      have hI65 : i ≤ 65535 := by omega
      have hown : Hid (∀ Y : World, (∀ k, k ≠ t → k < wr.heap.size → k ≠ p → Y.heap[k]? = wr.heap[k]?) → Y.ownsRow B 69 5 (.slice co i cc) i (cv l)) := hid (fun Y hY => by
        refine ⟨O.out.1, ?_⟩
        rcases O.out.2 with h1 | ⟨g, cap, cur, e, hb, hgg, h2⟩
        · exact Or.inl h1
        · refine Or.inr ⟨g, cap, cur, e, hb, ?_, h2⟩
          have hgl := lt_of_block hgg
          rw [hY g (by have := ht.out; omega) hgl (by intro e; subst e; rw [hcb'.out] at hgg; simp only [Option.some.injEq, Obj.cells.injEq] at hgg; exact absurd hgg.2.1 (by decide))]
          exact hgg)
      have hnb : Hid (∀ Y : World, (∀ k, k ≠ t → k < wr.heap.size → k ≠ p → Y.heap[k]? = wr.heap[k]?) → NB 33 Y q5 false (v3 : Int) co i cc ∧ NB 33 Y w.heap.size false 0 none 0 0) := hid (fun Y hY => by
        have h1 := Q.out.lt
        constructor
        · unfold NB; rw [hY q5 (by omega) hlt5 (by have := hpn.out; omega)]; exact N.out
        · unfold NB; rw [hY _ (by have := ht.out; omega) h1 (by have := hpq.out; omega)]; exact Q.out)
      have hfr : Hid (∀ (Y : World) (j : Nat) (u : Value), wr.grownBy Y (some p) → ∀ k, k ≠ t → k < wr.heap.size → k ≠ p → (Y.setCell ⟨t, j, none⟩ u).heap[k]? = wr.heap[k]?) := hid (fun Y j u hg k h1 h2 h3 => by rw [heap_setCell_other _ _ k _ (by simpa using h1)]; exact hg.block k h2 (by simpa using h3))
      clear hcb hos hE hO2 EZ hk0 O
      have cA := hid (fun W (hs : RSrc W p (some ys)) => rnum_src p 4 (some ys) W hs (by omega) (by omega))
      have cB := hid (fun W (hs : RSrc W p (numO 4 (some ys)).2) => rvar_src p 18446744073709551615 (numO 4 (some ys)).2 W hs)
      have hU := var_lt' (by_num hby 4) 18446744073709551615
      have cz := hid (rzag_any _ hU)
      have hkI2 := hid (zag_in _ hU)
      have hc4 : (numO 4 (some ys)).1 < 4294967296 := by
        simp only [numO]
        split
        · rename_i hl
          have := psum_bound ys 4 S.out.2 hl
          simpa using this
        · simp
      have hrdL : rdC false (some ys) = rdA (some ys) := rfl
      unfold rdA at hrdL
      generalize varO 18446744073709551615 (numO 4 (some ys)).2 = V2 at *
      obtain ⟨u1, o2'⟩ := V2
      generalize numO 4 (some ys) = N4 at *
      obtain ⟨x4, o1'⟩ := N4
      simp only at *
      generalize zagN u1 = zk at *
      replace hrdL := hid hrdL
      clear hU
      go_wp2_with (first
        | (go_at_call 34; rw [← ht.out]; refine (cA.out _ SZ.out).mono ?_; rintro e y1 ⟨rfl, hs, hg⟩; have S1 := hid hs; have C1 := hid (CZ.out.grown hg htp.out); have G1 := hid (grow_trans (grow_below EZ'.out) hg); have F1 := hid ((five_below EZ'.out).trans (SZ.out.grown5 hg)); clear hs hg; obtain ⟨y0, y1', y2', y3', y4'⟩ := C1.out.cells; have f1 := C1.out.fz 1)
        | (go_at_call 35; refine (cB.out _ (C1.out.src S1.out)).mono ?_; rintro e y2 ⟨rfl, hs, hg⟩; have S2 := hid hs; have C2 := hid ((C1.out.set1 (x4 : Int)).grown hg htp.out); have GY := hid (grow_trans (grow1 G1.out htw.out) hg); have F2 := hid ((F1.out.trans C1.out.five).trans ((C1.out.src S1.out).grown5 hg)); clear hs hg y0 y1' y2' y3' y4' f1; obtain ⟨y0, y1', y2', y3', y4'⟩ := C2.out.cells; have f0 := C2.out.fz 0; have FY := hid (F2.out.trans (CX.five (i := 0) (u := .int .i64 zk) C2.out)); have SY := hid (CX.src (i := 0) (u := .int .i64 zk) C2.out S2.out); have KY := hid (show Ck5 (y2.setCell ⟨t, 0, none⟩ (.int .i64 zk)) ((⟨zk, (x4 : Int), 0, none, 0, 0, 0, []⟩ : C)) from ⟨{ rd := Rd.nil _, by8 := by simp, kI := hkI2.out, cI := ⟨by simp only; omega, by simp only; omega⟩, lI := ⟨by simp, by simp⟩, xI := ⟨by simp, by simp⟩, nB := by simp [big] }, fun hn => by simp at hn⟩); obtain ⟨n0', n1', n2'⟩ := (N.out.grown GY.out (by have := hpn.out; omega)).cells)
        | (go_at_call 27; refine (cz.out _).mono ?_; rintro e yz ⟨rfl, hw⟩; obtain rfl := hw.symm)
        | (have NY := (hnb.out (y2.setCell ⟨t, 0, none⟩ (.int .i64 zk)) (hfr.out _ _ _ GY.out)).1; have hoy := hown.out (y2.setCell ⟨t, 0, none⟩ (.int .i64 zk)) (hfr.out _ _ _ GY.out); (with_reducible refine here_op 75 ?_); refine wpList_append_own _ rfl (.tmp 72) (.tmp 74) 31 rfl B 69 i69 (.agg #[.int .i64 0, .int .i64 0, .int .i64 0, .slice none 0 0, .int .i64 0]) 5 56 Try.underlying31 HI.out HZ0.out HZ1.out HZ2.out rfl (by decide) (.slice co i cc) i (cv l) rfl (hoy.alloc _) ⟨(y2).heap.size, 0, none⟩ 1 1 (cv [(⟨zk, (x4 : Int), 0, none, 0, 0, 0, []⟩ : C)]) rfl rfl (by have := five_cells (y2.setCell ⟨t, 0, none⟩ (.int .i64 zk)) ((⟨zk, (x4 : Int), 0, none, 0, 0, 0, []⟩ : C)) 69; simpa using this) (cv_one ((⟨zk, (x4 : Int), 0, none, 0, 0, 0, []⟩ : C))) (by unfold maxLen; omega) (by omega) (by have h1 := hBW.out; have h2 := GY.out.size; simp; omega) ?_; intro v6 w6 ho6 hg6 hnil6; obtain ⟨ao6, cap6, rfl⟩ := row_form ho6; have O6 := hid ho6; have F6 := hid (five_own9 (hoy.alloc _) hg6); have G6 := hid (below_own (hoy.alloc _) hg6 (Nat.le_refl _) (by have h1 := hBW.out; have h2 := GY.out.size; simp; omega)); have N6 := hid (show NB 33 w6 q5 false (v3 : Int) co i cc from (by unfold NB; rw [G6.out.block q5 hqB.out]; exact NY.keep (ext1 _))); have c6 := N6.out.cells.2.2; have f6 := N6.out.fz 2; clear ho6 hg6 hnil6 NY hoy))
      have QY := (hnb.out (y2.setCell ⟨t, 0, none⟩ (.int .i64 zk)) (hfr.out _ _ _ GY.out)).2
      have EY : Below (y2.setCell ⟨t, 0, none⟩ (.int .i64 zk)).heap.size (y2.setCell ⟨t, 0, none⟩ (.int .i64 zk)) ((y2.setCell ⟨t, 0, none⟩ (.int .i64 zk)).alloc (.cells #[.int .i64 ((⟨zk, (x4 : Int), 0, none, 0, 0, 0, []⟩ : C)).k, .int .i64 ((⟨zk, (x4 : Int), 0, none, 0, 0, 0, []⟩ : C)).c, .int .i64 ((⟨zk, (x4 : Int), 0, none, 0, 0, 0, []⟩ : C)).l, .slice ((⟨zk, (x4 : Int), 0, none, 0, 0, 0, []⟩ : C)).o ((⟨zk, (x4 : Int), 0, none, 0, 0, 0, []⟩ : C)).n ((⟨zk, (x4 : Int), 0, none, 0, 0, 0, []⟩ : C)).m, .int .i64 ((⟨zk, (x4 : Int), 0, none, 0, 0, 0, []⟩ : C)).x] 69)) := ext1 _
      have F7 : Five (y2.setCell ⟨t, 0, none⟩ (.int .i64 zk)) (w6.setCell ⟨q5, 2, none⟩ (.slice ao6 (i + 1) cap6)) := ((five_below EY).trans F6.out).trans (five_set N6.out (by decide))
      have hwB : w.heap.size < B := by have h1 := hqB.out; have h2 := hpn.out; have h3 := hpq.out; omega
      have hq5w : w.heap.size < q5 := by have h2 := hpn.out; have h3 := hpq.out; omega
      have hrd : (rdC false (some ys)).1 = nrm ((⟨zk, (x4 : Int), 0, none, 0, 0, 0, []⟩ : C)) ∧ (rdC false (some ys)).2 = o2' := (by have h1 := hrdL.out; rw [h1]; exact ⟨rfl, rfl⟩)
      rw [hrd.1, hrd.2] at hEs
      rw [hrd.2] at hOs
      refine ⟨⟨k', i + 1, l ++ [(⟨zk, (x4 : Int), 0, none, 0, 0, 0, []⟩ : C)], o2', ao6, cap6, by omega, by go_num, by simp [hll], hid ⟨?_, hOs.out, ?_, ?_, N6.out.set ao6 (i + 1) cap6, ?_, ?_, ?_, ?_⟩⟩, by simp [intOf]⟩
      · rw [List.map_append, List.append_assoc]
        exact hEs.out
      · intro b hb
        rcases List.mem_append.1 hb with hb | hb
        · exact (A.out b hb).five (FY.out.trans F7)
        · simp at hb; subst hb; exact KY.out.five F7
      · refine SY.out.five F7 ?_
        rw [heap_setCell_other _ _ _ _ (by have := hpn.out; simp; omega), G6.out.block p (by have := hpn.out; have := hqB.out; omega), EY.block p SY.out.lt]
      · unfold NB
        rw [heap_setCell_other _ _ _ _ (by simp; omega), G6.out.block _ hwB]
        exact QY.keep (ext1 _)
      · rw [cv_append]
        exact ownsRow_setCell_below O6.out (by simpa using hqB.out) _
      · exact below_set (Below.trans (Below.trans (below_set (below_grown BW.out GY.out (by have := hpq.out; omega) (Nat.le_refl _)) (by have h1 := BW.out.size; have h2 := htw.out; simp; omega) _) (EY.mono (by have h1 := BW.out.size; have h2 := GY.out.size; simp; omega))) (G6.out.mono (by omega))) (by simp; omega) _
      · have h1 := G6.out.size
        have h2 := hBW.out
        have h3 := GY.out.size
        simp at h1 ⊢
        omega

    · have hfin : (refCs false k o).1 = [] ∧ (refCs false k o).2 = o := by
        cases k with
        | zero => exact ⟨rfl, rfl⟩
        | succ k =>
          cases o with
          | none => exact ⟨rfl, rfl⟩
          | some ys => exact absurd ⟨by omega, rfl⟩ hgo
      have hRL : l.map nrm = RL := by rw [← hE.out, hfin.1, List.append_nil]
      have hRO : o = RO := by rw [← hO2.out, hfin.2]
      have hkz : k = 0 ∨ (0 < k ∧ o = none) := by
        cases k with
        | zero => exact Or.inl rfl
        | succ k => right; refine ⟨by omega, ?_⟩; cases o with | none => rfl | some ys => exact absurd ⟨by omega, rfl⟩ hgo
      replace hRL := hid hRL
      subst hRO
      have hCs := hid (cs_own (B := B) (t := 69) hll O.out (fun a ha => (A.out a ha).ok))
      have Z : ∃ z : Int, (z = 0 ↔ o.isSome = true) ∧ wr.cell? ⟨p, 1, none⟩ = some (.int .i64 z) := by
        cases o with
        | none => obtain ⟨z, hz, hp⟩ := S.out; exact ⟨z, by simp [hz], (two_of hp).2.1⟩
        | some ys => obtain ⟨⟨b, off, n, cap', hp, _⟩, _⟩ := S.out; exact ⟨0, by simp, (two_of hp).2.1⟩
      obtain ⟨z, hz, hzc⟩ := Z
      have hHx := hid (h'.out.keep BW.out)
      clear hE hO2 hfin hgo A O n0 n1 n2
      rcases hkz with rfl | ⟨hk0, rfl⟩
      · by_cases hz0 : z = 0
        · subst hz0
          have hos : o.isSome = true := hz.1 rfl
          rw [hos, Bool.true_and] at hri1
          clear hz hos
          go_upto_region 20 with fail
          have g1 : SE9 p q5 0 false (v3 : Int) co i cc ao cap sx wr.drew := ⟨hzc, (N.out.keep (Below.refl _ _).drew).cells, cvx.out _ (hHx.out.keep (Below.refl _ _).drew)⟩
          have XK := hid (hCs.out.keep (show Below wr.heap.size wr wr.drew from (Below.refl _ _).drew))
          replace N := hid (N.out.keep (show Below wr.heap.size wr wr.drew from (Below.refl _ _).drew))
          replace Q := hid (Q.out.keep (show Below wr.heap.size wr wr.drew from (Below.refl _ _).drew))
          replace BW := hid BW.out.drew
          have h8 := hid (hb8.out _ _ _ _ _ hCs.out hRL.out)
          obtain ⟨DX, hDX⟩ : ∃ DX, DX = decide (BN = xs) := ⟨_, rfl⟩
          rw [← hDX] at hri1
          obtain ⟨sb, hsb⟩ : ∃ sb, sb = str BN := ⟨_, rfl⟩
          have hne : Hid ((sb.toList == sx.toList) = DX) := hid (by rw [hsb, hsx.out, hDX]; exact str_beq9 BN xs h8.out hx'.out)
          replace hsb := hid hsb
          clear hDX
          cases DX with
          | true =>
            refine wp_region_K (S := SE9 p q5 0 false (v3 : Int) co i cc ao cap sx) (fun _ => false) (by kernel_rfl) (g1) (fun hHeld => ?_)
            refine gkp 0 ?_
            refine gkp 1 ?_
            refine gkp 2 ?_
            refine gkt 3 ?_ (h := by intro W hSw; obtain ⟨y0, ⟨y1, y2, y3⟩, y4⟩ := hSw; go_simp; first | done | with_reducible rfl)
            refine gkp 4 ?_ (v := .bool false) (h := by intro W hSw; go_simp <;> first | done | simp)
            refine gkp 5 ?_
            refine gkt 6 ?_ (h := by intro W hSw; obtain ⟨y0, ⟨y1, y2, y3⟩, y4⟩ := hSw; go_simp; first | done | with_reducible rfl)
            refine gkp 9 ?_
            refine gkt 10 ?_ (h := by intro W hSw; obtain ⟨y0, ⟨y1, y2, y3⟩, y4⟩ := hSw; go_simp; first | done | with_reducible rfl)
            refine gk1 7 (fun K hK => ?_)
            go_simp
            go_at_call 18; refine (cbt.out _ _ _ _ _ XK.out hRL.out).mono ?_; rintro e w7 ⟨ao7, n7, c7, rfl, hr7, hb⟩; have hR : SE9 p q5 0 false (v3 : Int) co i cc ao cap sx w7 := ⟨keep_old hb hHeld.1, ⟨keep_old hb hHeld.2.1.1, keep_old hb hHeld.2.1.2.1, keep_old hb hHeld.2.1.2.2⟩, cvx.out _ (h'.out.keep (gt BW.out hb))⟩; have CV := conv_rd (P := Try.prog) hr7 25 9 5 Try.underlying25 Try.underlying5 (by kernel_rfl); rw [← hsb.out] at CV; have CV7 := hid CV; replace BW := hid (gt BW.out hb); replace N := hid (N.out.keep hb); replace Q := hid (Q.out.keep hb); replace XK := hid (XK.out.keep hb); clear hb hr7 CV
            refine hK.out _ _ hR (fun hHeld => ?_)
            clear hK K
            (try simp only [Act.put, sA, sZ, sS])
            have hH2 : (SE9 p q5 0 false (v3 : Int) co i cc ao cap sx) w7 ∧ (convert 25 9 (.slice ao7 n7 c7)).run Try.prog w7 = .ok (.string sb) w7 := ⟨hHeld, CV7.out⟩
            refine wpAnyK_more (S' := (fun W => (SE9 p q5 0 false (v3 : Int) co i cc ao cap sx) W ∧ (convert 25 9 (.slice ao7 n7 c7)).run Try.prog W = .ok (.string sb) W)) (fun _ h => h.1) ?_
            clear hHeld
            refine gkt 8 ?_ (h := by intro W hSw; obtain ⟨⟨y0, ⟨y1, y2, y3⟩, y4⟩, y5⟩ := hSw; go_simp; first | done | with_reducible rfl)
            refine gkp 11 ?_ (v := .bool false) (h := by intro W hSw; have hh := hne.out; go_simp <;> first | done | simp [hh] | simp_all)
            refine gkp 12 ?_
            refine wpAnyK_done (by kernel_rfl) ?_ _
            have hIP : IP = true := hri1.out.symm
            obtain ⟨u0, u1, u2⟩ := N.out.cells
            obtain ⟨v0, v1', v2⟩ := Q.out.cells
            have f0 := Q.out.fz 0; have f1 := Q.out.fz 1; have f2 := Q.out.fz 2
            clear hHx g1
            go_wp2
            (try simp only [Exit.inBlock, Exit.then])
            refine bodyPost_ret (ret_node9 (a := 2) (u := 3) (by kernel_rfl) rfl (Q.out.set3 false (v3 : Int) co i cc)) rfl ?_
            refine ⟨below_set (below_set (below_set BW.out (by simp) _) (by simp) _) (by simp) _, Or.inr ⟨hIP, co, i, cc, l, rfl, ?_, by rw [← hri2.out hIP]; exact hRL.out⟩⟩
            exact Cs.other Q.out (fun k hk => by rw [heap_setCell_other _ _ k _ (by simpa using hk), heap_setCell_other _ _ k _ (by simpa using hk), heap_setCell_other _ _ k _ (by simpa using hk)]) XK.out
          | false =>
            refine wp_region_K (S := SE9 p q5 0 false (v3 : Int) co i cc ao cap sx) (fun _ => false) (by kernel_rfl) (g1) (fun hHeld => ?_)
            refine gkp 0 ?_
            refine gkp 1 ?_
            refine gkp 2 ?_
            refine gkt 3 ?_ (h := by intro W hSw; obtain ⟨y0, ⟨y1, y2, y3⟩, y4⟩ := hSw; go_simp; first | done | with_reducible rfl)
            refine gkp 4 ?_ (v := .bool false) (h := by intro W hSw; go_simp <;> first | done | simp)
            refine gkp 5 ?_
            refine gkt 6 ?_ (h := by intro W hSw; obtain ⟨y0, ⟨y1, y2, y3⟩, y4⟩ := hSw; go_simp; first | done | with_reducible rfl)
            refine gkp 9 ?_
            refine gkt 10 ?_ (h := by intro W hSw; obtain ⟨y0, ⟨y1, y2, y3⟩, y4⟩ := hSw; go_simp; first | done | with_reducible rfl)
            refine gk1 7 (fun K hK => ?_)
            go_simp
            go_at_call 18; refine (cbt.out _ _ _ _ _ XK.out hRL.out).mono ?_; rintro e w7 ⟨ao7, n7, c7, rfl, hr7, hb⟩; have hR : SE9 p q5 0 false (v3 : Int) co i cc ao cap sx w7 := ⟨keep_old hb hHeld.1, ⟨keep_old hb hHeld.2.1.1, keep_old hb hHeld.2.1.2.1, keep_old hb hHeld.2.1.2.2⟩, cvx.out _ (h'.out.keep (gt BW.out hb))⟩; have CV := conv_rd (P := Try.prog) hr7 25 9 5 Try.underlying25 Try.underlying5 (by kernel_rfl); rw [← hsb.out] at CV; have CV7 := hid CV; replace BW := hid (gt BW.out hb); replace N := hid (N.out.keep hb); replace Q := hid (Q.out.keep hb); replace XK := hid (XK.out.keep hb); clear hb hr7 CV
            refine hK.out _ _ hR (fun hHeld => ?_)
            clear hK K
            (try simp only [Act.put, sA, sZ, sS])
            have hH2 : (SE9 p q5 0 false (v3 : Int) co i cc ao cap sx) w7 ∧ (convert 25 9 (.slice ao7 n7 c7)).run Try.prog w7 = .ok (.string sb) w7 := ⟨hHeld, CV7.out⟩
            refine wpAnyK_more (S' := (fun W => (SE9 p q5 0 false (v3 : Int) co i cc ao cap sx) W ∧ (convert 25 9 (.slice ao7 n7 c7)).run Try.prog W = .ok (.string sb) W)) (fun _ h => h.1) ?_
            clear hHeld
            refine gkt 8 ?_ (h := by intro W hSw; obtain ⟨⟨y0, ⟨y1, y2, y3⟩, y4⟩, y5⟩ := hSw; go_simp; first | done | with_reducible rfl)
            refine gkp 11 ?_ (v := .bool true) (h := by intro W hSw; have hh := hne.out; go_simp <;> first | done | simp [hh] | simp_all)
            refine gkp 12 ?_
            refine wpAnyK_done (by kernel_rfl) ?_ _
            have hIP : IP = false := hri1.out.symm
            obtain ⟨v0, v1', v2⟩ := Q.out.cells
            have f0 := Q.out.fz 0; have f1 := Q.out.fz 1; have f2 := Q.out.fz 2
            clear hHx g1
            go_wp2
            (try simp only [Exit.inBlock, Exit.then])
            refine bodyPost_ret (ret_node9 (a := 2) (u := 3) (by kernel_rfl) rfl (Q.out.set3 false 0 none 0 0)) rfl ?_
            exact ⟨below_set (below_set (below_set BW.out (by simp) _) (by simp) _) (by simp) _, Or.inl ⟨hIP, rfl⟩⟩
        · have hon : o.isSome = false := by
            cases h1 : o.isSome with
            | false => rfl
            | true => exact absurd (hz.2 h1) hz0
          have hIP : IP = false := by have := hri1.out; rw [hon, Bool.false_and] at this; exact this.symm
          replace hz0 := hid hz0
          clear hz hon
          go_upto_region 20 with fail
          have g1 : SK1 p z wr.drew := hzc
          refine wp_region_K (S := SK1 p z) (fun _ => false) (by kernel_rfl) (g1) (fun hHeld => ?_)
          refine gkp 0 ?_
          refine gkp 1 ?_
          refine gkp 2 ?_
          refine gkt 3 ?_ (h := by intro W hSw; have y0 := hSw; go_simp; first | done | with_reducible rfl)
          refine gkp 4 ?_ (v := .bool true) (h := by intro W hSw; go_simp <;> first | done | simp [hz0.out])
          refine gkp 5 ?_
          refine gku 6 ?_
          refine gku 7 ?_
          refine gku 8 ?_
          refine gku 9 ?_
          refine gku 10 ?_
          refine gku 11 ?_
          refine gkp 12 ?_
          refine wpAnyK_done (by kernel_rfl) ?_ _
          replace BW := hid BW.out.drew
          obtain ⟨v0, v1', v2⟩ := Q.out.cells
          have f0 := Q.out.fz 0; have f1 := Q.out.fz 1; have f2 := Q.out.fz 2
          clear hHx g1
          go_wp2
          (try simp only [Exit.inBlock, Exit.then])
          refine bodyPost_ret (ret_node9 (a := 2) (u := 3) (by kernel_rfl) rfl ((Q.out.keep (Below.refl _ _).drew).set3 false 0 none 0 0)) rfl ?_
          exact ⟨below_set (below_set (below_set BW.out (by simp) _) (by simp) _) (by simp) _, Or.inl ⟨hIP, rfl⟩⟩
      · have hz0 : z ≠ 0 := fun e => by have := hz.1 e; simp at this
        have hz2 : (z == 0) = false := by simpa using hz0
        have hk1 : (0 : Int) < (k : Int) := by omega
        have hIP : IP = false := by have := hri1.out; rw [show (none : Option (List Nat)).isSome = false from rfl, Bool.false_and] at this; exact this.symm
        replace hz0 := hid hz0
        clear hz
        go_upto_region 20 with fail
        have g1 : SK1 p z wr.drew := hzc
        refine wp_region_K (S := SK1 p z) (fun _ => false) (by kernel_rfl) (g1) (fun hHeld => ?_)
        refine gkp 0 ?_
        refine gkp 1 ?_
        refine gkp 2 ?_
        refine gkt 3 ?_ (h := by intro W hSw; have y0 := hSw; go_simp; first | done | with_reducible rfl)
        refine gkp 4 ?_ (v := .bool true) (h := by intro W hSw; go_simp <;> first | done | simp [hz0.out])
        refine gkp 5 ?_
        refine gku 6 ?_
        refine gku 7 ?_
        refine gku 8 ?_
        refine gku 9 ?_
        refine gku 10 ?_
        refine gku 11 ?_
        refine gkp 12 ?_
        refine wpAnyK_done (by kernel_rfl) ?_ _
        replace BW := hid BW.out.drew
        obtain ⟨v0, v1', v2⟩ := Q.out.cells
        have f0 := Q.out.fz 0; have f1 := Q.out.fz 1; have f2 := Q.out.fz 2
        clear hHx g1
        go_wp2
        (try simp only [Exit.inBlock, Exit.then])
        refine bodyPost_ret (ret_node9 (a := 2) (u := 3) (by kernel_rfl) rfl ((Q.out.keep (Below.refl _ _).drew).set3 false 0 none 0 0)) rfl ?_
        exact ⟨below_set (below_set (below_set BW.out (by simp) _) (by simp) _) (by simp) _, Or.inl ⟨hIP, rfl⟩⟩


end Go.Proofs.Ytbpcekhfjkodcaa
