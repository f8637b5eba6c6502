/- What plain returns; no statement of the seat is proved here. -/
import Derived.Test.YtbpcekhfjkodcaaBa
import Derived.Laws.Rows
namespace Go.Proofs.Ytbpcekhfjkodcaa
open Go.RowKit

/-- Cells' values, one behind the other. -/
def cv : List C → List Value
  | [] => []
  | a :: l => .int .i64 a.k :: .int .i64 a.c :: .int .i64 a.l :: .slice a.o a.n a.m :: .int .i64 a.x :: cv l
theorem cv_length (l : List C) : (cv l).length = l.length * 5 := by
  induction l with
  | nil => rfl
  | cons r l ih => simp [cv, ih]; omega
theorem cv_append (l m : List C) : cv (l ++ m) = cv l ++ cv m := by
  induction l with
  | nil => rfl
  | cons r l ih => simp [cv, ih]
theorem cv_get (l : List C) : ∀ j, j < l.length → (cv l)[j * 5]? = some (.int .i64 (l.getD j default).k) ∧ (cv l)[j * 5 + 1]? = some (.int .i64 (l.getD j default).c) ∧ (cv l)[j * 5 + 2]? = some (.int .i64 (l.getD j default).l) ∧
    (cv l)[j * 5 + 3]? = some (.slice (l.getD j default).o (l.getD j default).n (l.getD j default).m) ∧ (cv l)[j * 5 + 4]? = some (.int .i64 (l.getD j default).x) := by
  induction l with
  | nil => intro j h; simp at h
  | cons a l ih =>
    intro j hj
    cases j with
    | zero => simp [cv]
    | succ j =>
      have := ih j (by simpa using hj)
      rw [show (j + 1) * 5 = j * 5 + 1 + 1 + 1 + 1 + 1 by omega]
      simpa [cv] using this

theorem row_form {w : World} {base : Nat} {e : TypeId} {size : Nat} {v : Value} {n : Nat} {xs : List Value} (h : w.ownsRow base e size v n xs) : ∃ ao cap, v = .slice ao n cap := by
  obtain ⟨hl, ⟨rfl, rfl⟩ | ⟨g, cap, cur, rfl, _⟩⟩ := h
  · exact ⟨_, _, rfl⟩
  · exact ⟨_, _, rfl⟩
theorem below_own {w w' : World} {B base : Nat} {e : TypeId} {size : Nat} {v : Value} {n : Nat} {xs : List Value} (h : w.ownsRow base e size v n xs) (hg : w.grownBy w' v.ownBlock) (hB : B ≤ base) (hB2 : B ≤ w.heap.size) : Below B w w' :=
  (Below.refl B w).grown hg hB2 fun k hk => Nat.le_trans hB (h.lt k hk).1

theorem cs_own {W : World} {B : Nat} {ao : Option Addr} {cap L : Nat} {t : TypeId} {l : List C} (hl : l.length = L) (h : W.ownsRow B t 5 (.slice ao L cap) L (cv l)) (hd : ∀ a ∈ l, Cok W a) : Cs W ao L cap l := by
  rcases h.2 with ⟨h', h0⟩ | ⟨g, cap', cur, h', hb, hg, hnc, hm, hs, ht⟩
  · simp only [Value.slice.injEq] at h'
    obtain ⟨rfl, h1, rfl⟩ := h'
    exact ⟨hl, by omega, fun _ => ⟨by omega, rfl⟩, fun hp => by omega, hd⟩
  · simp only [Value.slice.injEq, true_and] at h'
    obtain ⟨rfl, rfl⟩ := h'
    refine ⟨hl, hnc, fun e => (by cases e), fun hp => ⟨g, 0, rfl, fun i hi => ?_⟩, hd⟩
    obtain ⟨h1, h2, h3, h4, h5⟩ := cv_get l i (by omega)
    refine ⟨?_, ?_, ?_, ?_, ?_⟩
    · rw [Nat.zero_add, h.cellAt (i * 5) (by omega), h1]
    · rw [Nat.zero_add, h.cellAt (i * 5 + 1) (by omega), h2]
    · rw [Nat.zero_add, h.cellAt (i * 5 + 2) (by omega), h3]
    · rw [Nat.zero_add, h.cellAt (i * 5 + 3) (by omega), h4]
    · rw [Nat.zero_add, h.cellAt (i * 5 + 4) (by omega), h5]

theorem five_cells (w : World) (a : C) (t : TypeId) : ∀ j u, (cv [a])[j]? = some u → (w.alloc (.cells #[.int .i64 a.k, .int .i64 a.c, .int .i64 a.l, .slice a.o a.n a.m, .int .i64 a.x] t)).cell? ((⟨w.heap.size, 0, none⟩ : Addr).add j) = some u := by
  intro j u hu
  rw [Addr.add_lit]
  have h := heap_alloc_new w (.cells #[.int .i64 a.k, .int .i64 a.c, .int .i64 a.l, .slice a.o a.n a.m, .int .i64 a.x] t)
  unfold World.cell?
  rw [h]
  simpa [cv] using hu
theorem cv_one (a : C) : ∀ u ∈ cv [a], u.oneCell' = true := by
  intro u hu
  simp [cv] at hu
  rcases hu with rfl | rfl | rfl | rfl | rfl <;> rfl

theorem Try.info69 : (Try.prog.info? 69).map (fun i => (i.zero, i.size, i.bytes)) = some (some (.agg #[.int .i64 0, .int .i64 0, .int .i64 0, .slice none 0 0, .int .i64 0]), 5, 56) := by kernel_rfl
theorem NB.set {t : TypeId} {W : World} {q : Nat} {leaf : Bool} {r : Int} {co : Option Addr} {cn cc : Nat} (h : NB t W q leaf r co cn cc) (co' : Option Addr) (cn' cc' : Nat) : NB t (W.setCell ⟨q, 2, none⟩ (.slice co' cn' cc')) q leaf r co' cn' cc' := by
  have h1 := heap_setCell_same W q 2 _ t (.slice co' cn' cc') h
  unfold NB
  rw [h1]; simp
theorem NB.fz {t : TypeId} {W : World} {q : Nat} {leaf : Bool} {r : Int} {co : Option Addr} {cn cc : Nat} (h : NB t W q leaf r co cn cc) (i : Nat) : W.frozen? ⟨q, i, none⟩ = false := by
  unfold NB at h
  simp [World.frozen?, h]

theorem five_cells2 (w : World) (o : Obj) (a : C) (t : TypeId) : ∀ j u, (cv [a])[j]? = some u → ((w.alloc o).alloc (.cells #[.int .i64 a.k, .int .i64 a.c, .int .i64 a.l, .slice a.o a.n a.m, .int .i64 a.x] t)).cell? ((⟨w.heap.size + 1, 0, none⟩ : Addr).add j) = some u := by
  have := five_cells (w.alloc o) a t
  simpa using this
theorem agg33 (W : World) : (isAgg 33).run Try.prog W = .ok true W := by kernel_rfl
theorem size33 (W : World) : (Go.sizeOf 33).run Try.prog W = .ok 3 W := by kernel_rfl
theorem take_snoc (cs : List C) (i : Nat) (h : i < cs.length) : cs.take (i + 1) = cs.take i ++ [cs.getD i default] := by
  rw [List.take_add_one]
  simp [List.getD, List.getElem?_eq_getElem h]
theorem ret_node1 {fn : Func} {a : Tmp} {t : TypeId} (h : fn.results = #[.cell a t]) (hu : (match Try.prog.underlying t with | some (.struct _) => true | _ => false) = true) (hi : (Try.prog.info? t).map (·.size) = some 3) {tmps : Array Value} {W : World} {q : Nat} {leaf : Bool} {r : Int} {co : Option Addr} {cn cc : Nat}
    (hp : tmps.getD a undef = .pointer (some ⟨q, 0, none⟩)) (hb : NB t W q leaf r co cn cc) : (results fn tmps).run Try.prog W = .ok (.agg #[.bool leaf, .int .i64 r, .slice co cn cc]) W := by
  cases hd : Try.prog.underlying t with
  | none => rw [hd] at hu; cases hu
  | some d =>
    rw [hd] at hu
    refine results_cell_row h tmps W q t _ (0, 0) d hp hb hd ?_ (by simpa using hi)
    cases d <;> simp at hu ⊢
theorem NB.set3 {t : TypeId} {W : World} {q : Nat} {leaf : Bool} {r : Int} {co : Option Addr} {cn cc : Nat} (h : NB t W q leaf r co cn cc) (leaf' : Bool) (r' : Int) (co' : Option Addr) (cn' cc' : Nat) :
    NB t (((W.setCell ⟨q, 0, none⟩ (.bool leaf')).setCell ⟨q, 1, none⟩ (.int .i64 r')).setCell ⟨q, 2, none⟩ (.slice co' cn' cc')) q leaf' r' co' cn' cc' := by
  have h1 := heap_setCell_same W q 0 _ t (.bool leaf') h
  have h2 := heap_setCell_same _ q 1 _ t (.int .i64 r') h1
  have h3 := heap_setCell_same _ q 2 _ t (.slice co' cn' cc') h2
  unfold NB
  rw [h3]; simp
theorem below_set {B : Nat} {w W : World} (h : Below B w W) {a : Addr} (hq : B ≤ a.block) (v : Value) : Below B w (W.setCell a v) := Below.setCell h hq v

set_option maxHeartbeats 4000000 in
set_option maxRecDepth 20000 in
theorem plain_any (leaf : Bool) (r : Int) (co : Option Addr) (cn cc : Nat) (cs : List C) (w : World) (h : Cs w co cn cc cs) (hL : cn ≤ 100000) :
    Calls Try.prog 11 #[.agg #[.bool leaf, .int .i64 r, .slice co cn cc]] w fun e w' => ∃ ao' cap', e = .returned (.agg #[.bool leaf, .int .i64 r, .slice ao' cn cap']) ∧ Cs w' ao' cn cap' cs ∧ Below w.heap.size w w' := by
  have h' := hid h
  have hl' := hid h.len
  obtain ⟨i69, hi69, hz0, hz1, hz2⟩ := info_parts Try.info69
  have HI := hid hi69; have HZ0 := hid hz0; have HZ1 := hid hz1; have HZ2 := hid hz2
  clear h hi69 hz0 hz1 hz2
  obtain ⟨w3, hw3⟩ : ∃ w3, w3 = (((w.alloc (.cells #[.bool leaf, .int .i64 r, .slice co cn cc] 24)).alloc (.cells #[.bool false, .int .i64 0, .slice none 0 0] 33)).alloc (.cells #[.bool leaf, .int .i64 r, .slice none 0 0] 33)) := ⟨_, rfl⟩
  obtain ⟨q2, hq2⟩ : ∃ q2, q2 = w.heap.size + 1 := ⟨_, rfl⟩
  obtain ⟨q3, hq3⟩ : ∃ q3, q3 = w.heap.size + 1 + 1 := ⟨_, rfl⟩
  have M2 : NB 33 w3 q2 false 0 none 0 0 := by
    have := NB.new 33 (w.alloc (.cells #[.bool leaf, .int .i64 r, .slice co cn cc] 24)) false 0 none 0 0
    rw [show (w.alloc (.cells #[.bool leaf, .int .i64 r, .slice co cn cc] 24)).heap.size = q2 by rw [hq2]; simp] at this
    rw [hw3]; exact this.keep (ext1 _)
  have M3 : NB 33 w3 q3 leaf r none 0 0 := by
    have := NB.new 33 ((w.alloc (.cells #[.bool leaf, .int .i64 r, .slice co cn cc] 24)).alloc (.cells #[.bool false, .int .i64 0, .slice none 0 0] 33)) leaf r none 0 0
    rw [show ((w.alloc (.cells #[.bool leaf, .int .i64 r, .slice co cn cc] 24)).alloc (.cells #[.bool false, .int .i64 0, .slice none 0 0] 33)).heap.size = q3 by rw [hq3]; simp] at this
    rw [hw3]; exact this
  have B3 : Below w.heap.size w w3 := by rw [hw3]; exact gt (gt (ext1 _) (ext1 _)) (ext1 _)
  have hs3 : w3.heap.size = q3 + 1 := by rw [hw3, hq3]; simp
  have M2' := hid M2; have M3' := hid M3; have B3' := hid B3; have hs3' := hid hs3; have hw3' := hid hw3.symm
  have hq2' := hid hq2.symm; have hq3' := hid hq3.symm
  have hlt23 : q2 < q3 := by omega
  have hltw : w.heap.size < q2 := by omega
  clear M2 M3 B3 hs3 hw3 hq2 hq3
  go_enter Try.func11, Try.ntmps11
  go_wp2
  rw [hw3'.out, hq3'.out, hq2'.out]
  go_loopw [14] (fun c W => ∃ (i : Nat) (ao' : Option Addr) (cap' : Nat), i ≤ cn ∧ c = .int .i64 (i : Int) ∧ NB 33 W q3 leaf r ao' i cap' ∧ W.ownsRow (q3 + 1) 69 5 (.slice ao' i cap') i (cv (cs.take i)) ∧ Below q3 w3 W) (fun c _ => cn - (intOf c).toNat)
  case atStart => exact ⟨0, none, 0, by omega, rfl, M3'.out, by rw [List.take_zero]; exact World.ownsRow_nil _ _ _ _, Below.refl _ _⟩
  case round =>
    obtain ⟨i, ao', cap', hi, rfl, hN, hO, hb⟩ := hrel
    have N := hid hN
    have O := hid hO
    have E := hid hb
    have BW : Hid (Below w.heap.size w wr) := hid (B3'.out.trans (hb.mono (by omega)))
    have hsz := hb.size
    rw [hs3'.out] at hsz
    clear hN hO hb
    by_cases hik : i < cn
    · obtain ⟨b, off, rfl, hc⟩ := h'.out.at_ (by omega)
      obtain ⟨x0, x1, x2, x3, x4⟩ := (hc i hik).keep BW.out
      have ht := hid (take_snoc cs i (by have := hl'.out; omega))
      generalize cs.getD i default = a at *
      obtain ⟨u0, u1, u2⟩ := N.out.cells
      have f2 := N.out.fz 2
      have hlt : q3 < wr.heap.size := by omega
      have hcl : (cv (cs.take i)).length = i * 5 := by rw [cv_length, List.length_take]; have := hl'.out; omega
      clear hc
      go_wp2_with ((with_reducible refine here_op 22 ?_); refine wpList_append_own _ rfl (.tmp 19) (.tmp 21) 31 rfl (q3 + 1) 69 i69 (.agg #[.int .i64 0, .int .i64 0, .int .i64 0, .slice none 0 0, .int .i64 0]) 5 56 Try.underlying31 HI.out HZ0.out HZ1.out HZ2.out rfl (by decide) (.slice ao' i cap') i (cv (cs.take i)) rfl ((O.out.alloc _).alloc _) ⟨wr.heap.size + 1, 0, none⟩ 1 1 (cv [a]) rfl rfl (five_cells2 wr _ a 69) (cv_one a) (by unfold maxLen; omega) (by omega) (by simp; omega) ?_; intro v5 w5 ho5 hg5 hnil5; obtain ⟨ao5, cap5, rfl⟩ := row_form ho5; have O5 := hid ho5; have G5 := hid (below_own ((O.out.alloc _).alloc _) hg5 (Nat.le_refl _) (by simp; omega)); have N5 := hid (show NB 33 w5 q3 leaf r ao' i cap' from (by unfold NB; rw [G5.out.block q3 (by omega)]; exact (N.out.keep (ext1 _)).keep (ext1 _))); have c5 := N5.out.cells.2.2; have f5 := N5.out.fz 2; clear ho5 hg5 hnil5)
      refine ⟨⟨i + 1, ao5, cap5, by omega, by go_num, N5.out.set ao5 (i + 1) cap5, ?_, ?_⟩, by simp [intOf]; omega⟩
      · rw [ht.out, cv_append]
        exact ownsRow_setCell_below O5.out (by simp) _
      · exact below_set ((Below.alloc (Below.alloc E.out (by omega) _) (by simp; omega) _).trans (G5.out.mono (by omega))) (by simp) _
    · obtain rfl : i = cn := by omega
      have N2 := hid (show NB 33 wr q2 false 0 none 0 0 from (by unfold NB; rw [E.out.block q2 (by omega)]; exact M2'.out))
      obtain ⟨u0, u1, u2⟩ := N.out.cells
      obtain ⟨v0, v1, v2⟩ := N2.out.cells
      have f0 := N2.out.fz 0; have f1 := N2.out.fz 1; have f2 := N2.out.fz 2
      go_wp2
      (try simp only [Exit.inBlock, Exit.then])
      refine bodyPost_ret (ret_node1 (a := 2) (t := 33) (by kernel_rfl) (by kernel_rfl) (by kernel_rfl) rfl (N2.out.set3 leaf r ao' i cap')) rfl ?_
      have ht : cs.take i = cs := List.take_of_length_le (by have := hl'.out; omega)
      have BF := below_set (below_set (below_set BW.out (a := ⟨q2, 0, none⟩) (by simp; omega) (.bool leaf)) (a := ⟨q2, 1, none⟩) (by simp; omega) (.int .i64 r)) (a := ⟨q2, 2, none⟩) (by simp; omega) (.slice ao' i cap')
      refine ⟨ao', cap', rfl, cs_own (B := q3 + 1) (t := 69) hl'.out ?_ (fun a ha => (h'.out.ok a ha).keep BF), BF⟩
      have O2 := O.out
      rw [ht] at O2
      exact ownsRow_setCell_below (ownsRow_setCell_below (ownsRow_setCell_below O2 (by simp; omega) _) (by simp; omega) _) (by simp; omega) _

end Go.Proofs.Ytbpcekhfjkodcaa
