/- What the reader's link, key and above do; no statement of the seat is proved here. -/
import Derived.Test.YtbpcekhfjkodcaaCa
import Derived.Test.YtbpcekhfjkodcaaKk
import Derived.Laws.EntriesVeiled
namespace Go.Proofs.Ytbpcekhfjkodcaa
open Go.RowKit

/-- A box with a reader in it. -/
def RX (W : World) (q p : Nat) : Prop := W.heap[q]? = some (.cells #[.func (.func 51) #[.pointer (some ⟨p, 0, none⟩)] #[], .func (.func 52) #[.pointer (some ⟨p, 0, none⟩)] #[], .func (.func 53) #[.pointer (some ⟨p, 0, none⟩)] #[]] 83 (0, 0))
abbrev S3 (q p : Nat) (W : World) : Prop := W.cell? ⟨q, 0, none⟩ = some (.func (.func 51) #[.pointer (some ⟨p, 0, none⟩)] #[]) ∧ W.cell? ⟨q, 1, none⟩ = some (.func (.func 52) #[.pointer (some ⟨p, 0, none⟩)] #[]) ∧ W.cell? ⟨q, 2, none⟩ = some (.func (.func 53) #[.pointer (some ⟨p, 0, none⟩)] #[])
theorem RX.cells {W : World} {q p : Nat} (h : RX W q p) : S3 q p W := by
  unfold RX at h
  simp [S3, World.cell?, h]
theorem RX.lt {W : World} {q p : Nat} (h : RX W q p) : q < W.heap.size := lt_of_block h
theorem RX.keep {W W' : World} {q p : Nat} (h : RX W q p) (hb : Below W.heap.size W W') : RX W' q p := by
  unfold RX; rw [hb.block q h.lt]; exact h
theorem RX.grown {W W' : World} {q p : Nat} (h : RX W q p) (hg : W.grownBy W' (some p)) (hne : q ≠ p) : RX W' q p := by
  unfold RX; rw [hg.block q h.lt (by simpa using hne)]; exact h
theorem RX.new (W : World) (p : Nat) : RX (W.alloc (.cells #[.func (.func 51) #[.pointer (some ⟨p, 0, none⟩)] #[], .func (.func 52) #[.pointer (some ⟨p, 0, none⟩)] #[], .func (.func 53) #[.pointer (some ⟨p, 0, none⟩)] #[]] 83)) W.heap.size p := heap_alloc_new W _

theorem psum_bound (xs : List Nat) (s : Nat) (hx : ∀ x ∈ xs, x < 256) (hs : s ≤ xs.length) : psum xs s false s < 2 ^ (8 * s) := by
  obtain ⟨q, h1, h2⟩ := psum_big xs s hx hs s (Nat.le_refl _)
  rw [h2]; simpa using h1
theorem numO_lt {W : World} {p : Nat} {o : Option (List Nat)} (h : Src W p o) (s : Nat) : (numO s o).1 < 2 ^ (8 * s) := by
  cases o with
  | none => exact Nat.pow_pos (by omega)
  | some xs =>
    simp only [numO]
    split
    · rename_i hs; exact psum_bound xs s h.2 hs
    · exact Nat.pow_pos (by omega)
theorem varO_lt {W : World} {p : Nat} {o : Option (List Nat)} (h : Src W p o) (most : Nat) : (varO most o).1 < 18446744073709551616 ∧ (varO most o).1 ≤ most := by
  cases o with
  | none => exact ⟨by simp [varO], by simp [varO]⟩
  | some xs =>
    have hb := (asm_bound 8 0 xs h.2 (by omega) (by simp)).1
    simp only [varO]
    split
    · exact ⟨by simp, by simp⟩
    · exact ⟨hb, by simp only; omega⟩

set_option maxHeartbeats 1000000 in
theorem link_src (p : Nat) (o : Option (List Nat)) (W : World) (h : Src W p o) :
    Calls Try.prog 57 #[.agg #[.func (.func 51) #[.pointer (some ⟨p, 0, none⟩)] #[], .func (.func 52) #[.pointer (some ⟨p, 0, none⟩)] #[], .func (.func 53) #[.pointer (some ⟨p, 0, none⟩)] #[]]] W fun e w' => e = .returned (.int .i64 ((numO 4 o).1 : Nat)) ∧ Src w' p (numO 4 o).2 ∧ W.grownBy w' (some p) := by
  have B0 : Hid (Below W.heap.size W (W.alloc (.cells #[.func (.func 51) #[.pointer (some ⟨p, 0, none⟩)] #[], .func (.func 52) #[.pointer (some ⟨p, 0, none⟩)] #[], .func (.func 53) #[.pointer (some ⟨p, 0, none⟩)] #[]] 83))) := hid (ext1 _)
  have c := hid (num_src p 4 o _ (h.keep B0.out) (by omega) (by omega))
  have hlt := numO_lt h 4
  generalize numO 4 o = R at *
  obtain ⟨v, o'⟩ := R
  simp only [Nat.reduceMul, Nat.reducePow] at *
  clear h
  go_enter Try.func57, Try.ntmps57
  go_wp2_with (go_at_call 51; refine c.out.mono ?_; rintro e w1 ⟨rfl, hS, hg⟩; replace hS := hid hS; replace hg := hid hg)
  go_ret
  exact ⟨rfl, hS.out, grow_trans (grow_below B0.out) hg.out⟩

set_option maxHeartbeats 1000000 in
theorem key_src (p : Nat) (o : Option (List Nat)) (W : World) (h : Src W p o) :
    Calls Try.prog 76 #[.agg #[.func (.func 51) #[.pointer (some ⟨p, 0, none⟩)] #[], .func (.func 52) #[.pointer (some ⟨p, 0, none⟩)] #[], .func (.func 53) #[.pointer (some ⟨p, 0, none⟩)] #[]]] W fun e w' => e = .returned (.int .i64 (zagN (varO 18446744073709551615 o).1)) ∧ Src w' p (varO 18446744073709551615 o).2 ∧ W.grownBy w' (some p) := by
  have B0 : Hid (Below W.heap.size W (W.alloc (.cells #[.func (.func 51) #[.pointer (some ⟨p, 0, none⟩)] #[], .func (.func 52) #[.pointer (some ⟨p, 0, none⟩)] #[], .func (.func 53) #[.pointer (some ⟨p, 0, none⟩)] #[]] 83))) := hid (ext1 _)
  have c := hid (var_src p 18446744073709551615 o _ (h.keep B0.out))
  have hlt := (varO_lt h 18446744073709551615).1
  generalize varO 18446744073709551615 o = R at *
  obtain ⟨v, o'⟩ := R
  simp only at *
  have cz := hid (zag_any v hlt)
  generalize zagN v = z at *
  clear h hlt
  go_enter Try.func76, Try.ntmps76
  go_wp2_with (first | (go_at_call 52; refine c.out.mono ?_; rintro e w1 ⟨rfl, hS, hg⟩; replace hS := hid hS; replace hg := hid hg) | (go_at_call 26; refine (cz.out _).mono ?_; rintro e w2 ⟨rfl, hw⟩; obtain rfl := hw.symm))
  go_ret
  exact ⟨rfl, hS.out, grow_trans (grow_below B0.out) hg.out⟩

/-- A box with a cell in it. -/
def CB (W : World) (t : Nat) (k c l : Int) (o : Option Addr) (n m : Nat) (x : Int) : Prop := W.heap[t]? = some (.cells #[.int .i64 k, .int .i64 c, .int .i64 l, .slice o n m, .int .i64 x] 57 (0, 0))
section
variable {W W' : World} {t : Nat} {k c l x : Int} {o : Option Addr} {n m : Nat}
theorem CB.cells (h : CB W t k c l o n m x) : W.cell? ⟨t, 0, none⟩ = some (.int .i64 k) ∧ W.cell? ⟨t, 1, none⟩ = some (.int .i64 c) ∧ W.cell? ⟨t, 2, none⟩ = some (.int .i64 l) ∧ W.cell? ⟨t, 3, none⟩ = some (.slice o n m) ∧ W.cell? ⟨t, 4, none⟩ = some (.int .i64 x) := by
  unfold CB at h
  simp [World.cell?, h]
theorem CB.fz (h : CB W t k c l o n m x) (i : Nat) : W.frozen? ⟨t, i, none⟩ = false := by
  unfold CB at h
  simp [World.frozen?, h]
theorem CB.lt (h : CB W t k c l o n m x) : t < W.heap.size := lt_of_block h
theorem CB.keep (h : CB W t k c l o n m x) (hb : Below W.heap.size W W') : CB W' t k c l o n m x := by
  unfold CB; rw [hb.block t h.lt]; exact h
theorem CB.grown {p : Nat} (h : CB W t k c l o n m x) (hg : W.grownBy W' (some p)) (hne : t ≠ p) : CB W' t k c l o n m x := by
  unfold CB; rw [hg.block t h.lt (by simpa using hne)]; exact h
theorem CB.new (W : World) (k c l : Int) (o : Option Addr) (n m : Nat) (x : Int) : CB (W.alloc (.cells #[.int .i64 k, .int .i64 c, .int .i64 l, .slice o n m, .int .i64 x] 57)) W.heap.size k c l o n m x := heap_alloc_new W _
theorem CB.set3 (h : CB W t k c l o n m x) (o' : Option Addr) (n' m' : Nat) : CB (W.setCell ⟨t, 3, none⟩ (.slice o' n' m')) t k c l o' n' m' x := by
  have h1 := heap_setCell_same W t 3 _ 57 (.slice o' n' m') h
  unfold CB
  rw [h1]; simp
theorem CB.set4 (h : CB W t k c l o n m x) (x' : Int) : CB (W.setCell ⟨t, 4, none⟩ (.int .i64 x')) t k c l o n m x' := by
  have h1 := heap_setCell_same W t 4 _ 57 (.int .i64 x') h
  unfold CB
  rw [h1]; simp
end
theorem grow1 {w W : World} {t p i : Nat} {u : Value} (h : w.grownBy W (some p)) (ht : w.heap.size ≤ t) : w.grownBy (W.setCell ⟨t, i, none⟩ u) (some p) :=
  ⟨h.os, h.tape, h.output, by simpa using h.size, fun k hk hne => by
    rw [heap_setCell_other _ _ k _ (by simp; omega)]
    exact h.block k hk hne⟩
theorem CB.src {W : World} {t : Nat} {k c l x : Int} {o : Option Addr} {n m : Nat} {p i : Nat} {u : Value} {z : Option (List Nat)} (h : CB W t k c l o n m x) (hs : Src W p z) : Src (W.setCell ⟨t, i, none⟩ u) p z := by
  refine hs.five (five_set h (by decide)) (heap_setCell_other _ _ p _ ?_)
  obtain ⟨C, hp⟩ := hs.block
  intro e
  simp only at e
  subst e
  unfold CB at h
  rw [hp] at h
  simp only [Option.some.injEq, Obj.cells.injEq] at h
  exact absurd h.2.1 (by decide)
theorem CB.five {W : World} {t : Nat} {k c l x : Int} {o : Option Addr} {n m : Nat} {i : Nat} {u : Value} (h : CB W t k c l o n m x) : Five W (W.setCell ⟨t, i, none⟩ u) := five_set h (by decide)
theorem CB.set0 {W : World} {t : Nat} {k c l x : Int} {o : Option Addr} {n m : Nat} (h : CB W t k c l o n m x) (k' : Int) : CB (W.setCell ⟨t, 0, none⟩ (.int .i64 k')) t k' c l o n m x := by
  have h1 := heap_setCell_same W t 0 _ 57 (.int .i64 k') h
  unfold CB
  rw [h1]; simp
theorem CB.set1 {W : World} {t : Nat} {k c l x : Int} {o : Option Addr} {n m : Nat} (h : CB W t k c l o n m x) (c' : Int) : CB (W.setCell ⟨t, 1, none⟩ (.int .i64 c')) t k c' l o n m x := by
  have h1 := heap_setCell_same W t 1 _ 57 (.int .i64 c') h
  unfold CB
  rw [h1]; simp
theorem CB.set2 {W : World} {t : Nat} {k c l x : Int} {o : Option Addr} {n m : Nat} (h : CB W t k c l o n m x) (l' : Int) : CB (W.setCell ⟨t, 2, none⟩ (.int .i64 l')) t k c l' o n m x := by
  have h1 := heap_setCell_same W t 2 _ 57 (.int .i64 l') h
  unfold CB
  rw [h1]; simp
/-- All five cells of a box written: what stays. -/
theorem CB.all {w W : World} {t p : Nat} {k c l x : Int} {o : Option Addr} {n m : Nat} {z : Option (List Nat)} (h : CB W t k c l o n m x) (hs : Src W p z) (hg : w.grownBy W (some p)) (ht : w.heap.size ≤ t) (k' c' l' : Int) (o' : Option Addr) (n' m' : Nat) (x' : Int) :
    CB (((((W.setCell ⟨t, 0, none⟩ (.int .i64 k')).setCell ⟨t, 1, none⟩ (.int .i64 c')).setCell ⟨t, 2, none⟩ (.int .i64 l')).setCell ⟨t, 3, none⟩ (.slice o' n' m')).setCell ⟨t, 4, none⟩ (.int .i64 x')) t k' c' l' o' n' m' x' ∧
    Src (((((W.setCell ⟨t, 0, none⟩ (.int .i64 k')).setCell ⟨t, 1, none⟩ (.int .i64 c')).setCell ⟨t, 2, none⟩ (.int .i64 l')).setCell ⟨t, 3, none⟩ (.slice o' n' m')).setCell ⟨t, 4, none⟩ (.int .i64 x')) p z ∧
    w.grownBy (((((W.setCell ⟨t, 0, none⟩ (.int .i64 k')).setCell ⟨t, 1, none⟩ (.int .i64 c')).setCell ⟨t, 2, none⟩ (.int .i64 l')).setCell ⟨t, 3, none⟩ (.slice o' n' m')).setCell ⟨t, 4, none⟩ (.int .i64 x')) (some p) ∧
    Five W (((((W.setCell ⟨t, 0, none⟩ (.int .i64 k')).setCell ⟨t, 1, none⟩ (.int .i64 c')).setCell ⟨t, 2, none⟩ (.int .i64 l')).setCell ⟨t, 3, none⟩ (.slice o' n' m')).setCell ⟨t, 4, none⟩ (.int .i64 x')) := by
  have h1 := h.set0 k'
  have h2 := h1.set1 c'
  have h3 := h2.set2 l'
  have h4 := h3.set3 o' n' m'
  have h5 := h4.set4 x'
  exact ⟨h5, h4.src (h3.src (h2.src (h1.src (h.src hs)))), grow1 (grow1 (grow1 (grow1 (grow1 hg ht) ht) ht) ht) ht, (((h.five.trans h1.five).trans h2.five).trans h3.five).trans h4.five⟩
theorem ret_cell {fn : Func} {a : Tmp} (h : fn.results = #[.cell a 57]) {tmps : Array Value} {W : World} {q : Nat} {k c l x : Int} {o : Option Addr} {n m : Nat}
    (hp : tmps.getD a undef = .pointer (some ⟨q, 0, none⟩)) (hb : CB W q k c l o n m x) : (results fn tmps).run Try.prog W = .ok (.agg #[.int .i64 k, .int .i64 c, .int .i64 l, .slice o n m, .int .i64 x]) W := by
  have hu : ∃ fs, Try.prog.underlying 57 = some (.struct fs) := by
    have : (match Try.prog.underlying 57 with | some (.struct _) => true | _ => false) = true := by kernel_rfl
    cases hd : Try.prog.underlying 57 with
    | none => rw [hd] at this; cases this
    | some d => rw [hd] at this; cases d <;> simp at this ⊢
  obtain ⟨fs, hu⟩ := hu
  exact results_cell_row h tmps W q 57 _ (0, 0) _ hp hb hu rfl (by kernel_rfl)

theorem S3.grown {q p : Nat} {W W' : World} (h : S3 q p W) (hg : W.grownBy W' (some p)) (hne : q ≠ p) : S3 q p W' := ⟨grow_cell hg h.1 hne, grow_cell hg h.2.1 hne, grow_cell hg h.2.2 hne⟩

/-- What a node above the leaves reads as one cell. -/
def rdA (o : Option (List Nat)) : C × Option (List Nat) := (⟨zagN (varO 18446744073709551615 (numO 4 o).2).1, ((numO 4 o).1 : Nat), 0, none, 0, 0, 0, []⟩, (varO 18446744073709551615 (numO 4 o).2).2)

set_option maxHeartbeats 2000000 in
theorem above_src (p : Nat) (o : Option (List Nat)) (W : World) (h : Src W p o) :
    Calls Try.prog 55 #[.agg #[.func (.func 51) #[.pointer (some ⟨p, 0, none⟩)] #[], .func (.func 52) #[.pointer (some ⟨p, 0, none⟩)] #[], .func (.func 53) #[.pointer (some ⟨p, 0, none⟩)] #[]]] W fun e w' => e = .returned (.agg #[.int .i64 (rdA o).1.k, .int .i64 (rdA o).1.c, .int .i64 0, .slice none 0 0, .int .i64 0]) ∧ Src w' p (rdA o).2 ∧ W.grownBy w' (some p) := by
  obtain ⟨W2, hW2⟩ : ∃ W2, W2 = ((W.alloc (.cells #[.func (.func 51) #[.pointer (some ⟨p, 0, none⟩)] #[], .func (.func 52) #[.pointer (some ⟨p, 0, none⟩)] #[], .func (.func 53) #[.pointer (some ⟨p, 0, none⟩)] #[]] 83)).alloc (.cells #[.int .i64 0, .int .i64 0, .int .i64 0, .slice none 0 0, .int .i64 0] 57)).drew := ⟨_, rfl⟩
  have B2 : Below W.heap.size W W2 := by rw [hW2]; exact (gt (ext1 _) (ext1 _)).drew
  have hpl := h.lt
  have R2 : RX W2 W.heap.size p := by rw [hW2]; exact ((RX.new W p).keep (ext1 _)).keep (Below.refl _ _).drew
  have C2 : CB W2 (W.heap.size + 1) 0 0 0 none 0 0 0 := by
    have := CB.new (W.alloc (.cells #[.func (.func 51) #[.pointer (some ⟨p, 0, none⟩)] #[], .func (.func 52) #[.pointer (some ⟨p, 0, none⟩)] #[], .func (.func 53) #[.pointer (some ⟨p, 0, none⟩)] #[]] 83)) 0 0 0 none 0 0 0
    rw [show (W.alloc (.cells #[.func (.func 51) #[.pointer (some ⟨p, 0, none⟩)] #[], .func (.func 52) #[.pointer (some ⟨p, 0, none⟩)] #[], .func (.func 53) #[.pointer (some ⟨p, 0, none⟩)] #[]] 83)).heap.size = W.heap.size + 1 by simp] at this
    rw [hW2]; exact this.keep (Below.refl _ _).drew
  have cl := hid (link_src p o W2 (h.keep B2))
  have ck := hid (fun w1 (hs : Src w1 p (numO 4 o).2) => key_src p (numO 4 o).2 w1 hs)
  unfold rdA
  generalize varO 18446744073709551615 (numO 4 o).2 = R2' at *
  obtain ⟨u, o2⟩ := R2'
  generalize numO 4 o = R1 at *
  obtain ⟨v, o1⟩ := R1
  simp only at *
  generalize zagN u = z at *
  have g1 := R2.cells
  have hne := hid (show W.heap.size ≠ p by omega)
  have hne2 := hid (show W.heap.size + 1 ≠ p by omega)
  have B2' := hid B2; have C2' := hid C2
  replace hW2 := hid hW2.symm
  clear h R2 B2 C2 hpl
  go_enter Try.func55, Try.ntmps55
  go_upto_region 1 with fail
  refine wp_region_K (S := S3 W.heap.size p) (fun i => i == 5) (by kernel_rfl) (hW2.out ▸ g1) (fun hHeld => ?_)
  rw [hW2.out] at hHeld ⊢
  refine gkt 0 ?_ (h := by intro W hSw; obtain ⟨y0, y1, y2⟩ := hSw; go_simp; first | done | with_reducible rfl)
  refine gkt 2 ?_ (h := by intro W hSw; obtain ⟨y0, y1, y2⟩ := hSw; go_simp; first | done | with_reducible rfl)
  refine gk1 1 (fun K hK => ?_)
  go_simp
  go_at_call 57; refine cl.out.mono ?_; rintro e w1 ⟨rfl, hs, hg⟩; have hR : S3 W.heap.size p w1 := S3.grown hHeld hg hne.out; have S1 := hid hs; have G1 := hid hg; clear hs hg
  refine hK.out _ _ hR (fun hHeld => ?_)
  clear hK K
  (try simp only [Act.put, sA, sZ, sS])
  refine gk1 3 (fun K hK => ?_)
  go_simp
  go_at_call 76; refine (ck.out _ S1.out).mono ?_; rintro e w2 ⟨rfl, hs, hg⟩; have hR : S3 W.heap.size p w2 := S3.grown hHeld hg hne.out; have SA := hid hs; have CA := hid ((C2'.out.grown G1.out hne2.out).grown hg hne2.out); have GA := hid (grow_trans (grow_trans (grow_below B2'.out) G1.out) hg); obtain ⟨y0, y1, y2, y3, y4⟩ := CA.out.cells; have f0 := CA.out.fz 0; have f1 := CA.out.fz 1; have f2 := CA.out.fz 2; have f3 := CA.out.fz 3; have f4 := CA.out.fz 4; clear hs hg
  refine hK.out _ _ hR (fun hHeld => ?_)
  clear hK K
  (try simp only [Act.put, sA, sZ, sS])
  refine gkp 4 ?_
  refine gkl 5 (fun K hK => ?_)
  go_simp
  refine hK.out _ _ ?_
  clear hK K
  (try simp only [Act.put, sA, sZ, sS])
  refine wpAnyK_done (by kernel_rfl) ?_ _
  go_wp2
  (try simp only [Exit.inBlock, Exit.then])
  obtain ⟨e1, e2, e3, _⟩ := CA.out.all SA.out GA.out (by omega) z (v : Int) 0 none 0 0 0
  refine bodyPost_ret (ret_cell rfl rfl e1) rfl ?_
  exact ⟨rfl, e2, e3⟩

end Go.Proofs.Ytbpcekhfjkodcaa
