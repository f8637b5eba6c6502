/- The parts that are looked at; no statement of the seat is proved here. -/
import Derived.Test.YtjlahomjhadnkaaAb
namespace Go.Proofs.Ytjlahomjhadnkaa
open Go.RowKit Go.Maps

theorem here_op (k : Nat) {P : Program} {ops : Array Oper} {Q : Exit → Act → World → Prop} {a : Act} {w : World} {rest : List Oper} {op : Op} {t : TypeId} {pos : String} {after : Array Edge} {gd : Option (Nat × Bool)}
    (h : wpList P ops Q (⟨some k, op, t, pos, after, gd⟩ :: rest) a w) : wpList P ops Q (⟨some k, op, t, pos, after, gd⟩ :: rest) a w := h
def intOf : Value → Int
  | .int _ z => z
  | _ => 0
def cv3 (l : List Sh) : List Value := l.flatMap fun p => [.int .i64 (p).k, .slice (p).xo (p).xn (p).xc, .slice (p).po (p).pn (p).pc]
theorem cv3_append (a b : List Sh) : cv3 (a ++ b) = cv3 a ++ cv3 b := by simp [cv3]
theorem cv3_len (l : List Sh) : (cv3 l).length = l.length * 3 := by
  induction l with
  | nil => rfl
  | cons a r ih => simp [cv3] at ih ⊢; omega
theorem cv3_at (l : List Sh) : ∀ i p, l[i]? = some p → (cv3 l)[i * 3]? = some (.int .i64 p.k) ∧ (cv3 l)[i * 3 + 1]? = some (.slice p.xo p.xn p.xc) ∧ (cv3 l)[i * 3 + 2]? = some (.slice p.po p.pn p.pc) := by
  induction l with
  | nil => intro i p h; simp at h
  | cons a r ih =>
    intro i p h
    have e : cv3 (a :: r) = [.int .i64 (a).k, .slice (a).xo (a).xn (a).xc, .slice (a).po (a).pn (a).pc] ++ cv3 r := rfl
    cases i with
    | zero => simp at h; subst h; simp [e]
    | succ i =>
      simp at h
      have h2 := ih i p h
      rw [e]
      have f : ∀ j, ([.int .i64 (a).k, .slice (a).xo (a).xn (a).xc, .slice (a).po (a).pn (a).pc] ++ cv3 r)[j + 3]? = (cv3 r)[j]? := fun j => by simp
      rw [show (i + 1) * 3 = i * 3 + 3 by omega, show i * 3 + 3 + 1 = (i * 3 + 1) + 3 by omega, show i * 3 + 3 + 2 = (i * 3 + 2) + 3 by omega, f, f, f]
      exact h2
theorem cv3_one (a : Sh) : ∀ u ∈ cv3 [a], u.oneCell' = true := by
  intro u hu
  simp [cv3] at hu
  rcases hu with rfl | rfl | rfl <;> rfl
theorem three_cells (w : World) (a : Sh) : ∀ j u, (cv3 [a])[j]? = some u → (w.alloc (.cells #[.int .i64 (a).k, .slice (a).xo (a).xn (a).xc, .slice (a).po (a).pn (a).pc] 45)).cell? ((⟨w.heap.size, 0, none⟩ : Addr).add j) = some u := by
  intro j u hu
  rw [Addr.add_lit]
  have h := heap_alloc_new w (.cells #[.int .i64 (a).k, .slice (a).xo (a).xn (a).xc, .slice (a).po (a).pn (a).pc] 45)
  unfold World.cell?
  rw [h]
  simpa [cv3] using hu
theorem three_cells2 (w : World) (o : Obj) (a : Sh) : ∀ j u, (cv3 [a])[j]? = some u → ((w.alloc o).alloc (.cells #[.int .i64 (a).k, .slice (a).xo (a).xn (a).xc, .slice (a).po (a).pn (a).pc] 45)).cell? ((⟨w.heap.size + 1, 0, none⟩ : Addr).add j) = some u := by
  have := three_cells (w.alloc o) a
  simpa using this
theorem row_form {w : World} {base : Nat} {e : TypeId} {size : Nat} {v : Value} {n : Nat} {xs : List Value} (h : w.ownsRow base e size v n xs) : ∃ ao cap, v = .slice ao n cap := by
  rcases h.2 with ⟨rfl, rfl⟩ | ⟨g, cap, cur, rfl, _⟩
  · exact ⟨none, 0, rfl⟩
  · exact ⟨_, cap, rfl⟩
/-- An append leaves what lies below its row's base. -/
theorem below_own {w w' : World} {base : Nat} {e : TypeId} {size : Nat} {v : Value} {n : Nat} {xs : List Value} (h : w.ownsRow base e size v n xs) (hg : w.grownBy w' v.ownBlock) (hb : base ≤ w.heap.size) : Below base w w' :=
  ⟨hg.os, hg.tape, hg.output, hg.size, fun k hk => hg.block k (by omega) (fun e => by have := (h.lt k e.symm).1; omega)⟩
theorem pr_own {w : World} {base cap : Nat} {ao : Option Addr} {n : Nat} {l : List Sh} (h : w.ownsRow base 45 3 (.slice ao n cap) n (cv3 l)) (hl : l.length = n) : PR (fun b => base ≤ b ∧ b < w.heap.size) w ao l := by
  rcases h.2 with ⟨h1, h2⟩ | ⟨g, cap', cur, h1, hb, hg, hc, hm, hz, ht⟩
  · exact .inl (List.length_eq_zero_iff.1 (by omega))
  · refine .inr ⟨g, 0, by simp at h1; exact h1.1, ⟨hb, (Array.getElem?_eq_some_iff.1 hg).1⟩, fun i p hi => ?_⟩
    have hlt : i < l.length := (List.getElem?_eq_some_iff.1 hi).1
    have e : ∀ j, j < n * 3 → w.cell? ⟨g, j, none⟩ = (cv3 l)[j]? := fun j hj => by
      have h := h
      simp only [Value.slice.injEq] at h1
      rw [h1.1] at h
      exact h.cellAt j hj
    obtain ⟨c1, c2, c3⟩ := cv3_at l i p hi
    exact ⟨by rw [show 0 + i * 3 = i * 3 by omega, e _ (by omega)]; exact c1, by rw [show 0 + i * 3 + 1 = i * 3 + 1 by omega, e _ (by omega)]; exact c2, by rw [show 0 + i * 3 + 2 = i * 3 + 2 by omega, e _ (by omega)]; exact c3⟩
theorem own_below {w w' : World} {base : Nat} {e : TypeId} {size : Nat} {v : Value} {n : Nat} {xs : List Value} (h : w.ownsRow base e size v n xs) (hb : Below w.heap.size w w') : w'.ownsRow base e size v n xs :=
  h.kept (row := none) ⟨hb.os, hb.tape, hb.output, hb.size, fun k hk _ => hb.block k hk⟩ (by cases h : v.ownBlock <;> simp)
theorem info25 : (Try.prog.info? 45).map (fun i => (i.zero, i.size, i.bytes)) = some (some (.agg #[.int .i64 0, .slice none 0 0, .slice none 0 0]), 3, 56) := by kernel_rfl

theorem seen_snoc (d : Nat) (k : Int) (l : List Sh) (i : Nat) (p : Sh) (h : l[i]? = some p) : (l.take (i + 1)).filter (fun p => decide (din k p.k d ≤ 17)) = (l.take i).filter (fun p => decide (din k p.k d ≤ 17)) ++ (if din k p.k d ≤ 17 then [p] else []) := by
  rw [List.take_add_one, h, List.filter_append]
  congr 1
  by_cases hp : din k p.k d ≤ 17 <;> simp [hp]

def SeenI (s : Sh) (w w0 : World) (v c : Value) (W : World) : Prop :=
  ∃ (i m : Nat), i ≤ s.pn ∧ c = .int .i64 i ∧ m = ((s.ps.take i).filter (fun p => decide (din s.k p.k 17 ≤ 17))).length ∧ Hid (W.ownsRow (w.heap.size + 1) 45 3 v m (cv3 ((s.ps.take i).filter (fun p => decide (din s.k p.k 17 ≤ 17))))) ∧ Hid (Below (w.heap.size + 1) w0 W)
set_option maxRecDepth 100000 in
set_option maxHeartbeats 4000000 in
theorem seen_call (N : Nat) (s : Sh) (d : Nat) (w : World) (hN : N ≤ w.heap.size) (h : Here (fun b => b < N) w s) (hd : d ≤ 17) :
    Calls Try.prog 82 #[.agg #[.int .i64 (s).k, .slice (s).xo (s).xn (s).xc, .slice (s).po (s).pn (s).pc], .int .i64 (d : Int)] w fun e w' => ∃ po pc, e = .returned (.slice po (seenL d s).length pc) ∧ PR (fun b => b < N ∨ (w.heap.size ≤ b ∧ b < w'.heap.size)) w' po (seenL d s) ∧ Below w.heap.size w w' := by
  have B1 := hid (Bx.new w s)
  obtain ⟨x0, x1, x2⟩ := B1.out.cells
  by_cases h17 : (d : Int) < 17
  · rw [seenL_all s (by omega), h.pl]
    have PRh := hid (h.pr.of (w' := w.alloc (.cells #[.int .i64 (s).k, .slice (s).xo (s).xn (s).xc, .slice (s).po (s).pn (s).pc] 45)) (T := fun b => b < N ∨ (w.heap.size ≤ b ∧ b < (w.alloc (.cells #[.int .i64 (s).k, .slice (s).xo (s).xn (s).xc, .slice (s).po (s).pn (s).pc] 45)).heap.size)) fun b hb => ⟨(ext1 _).block b (by omega), .inl hb⟩)
    clear h B1
    go_enter Try.func82, Try.ntmps82
    go_wp2
    go_ret
    exact ⟨_, _, rfl, PRh.out, ext1 _⟩
  · obtain rfl : d = 17 := by omega
    have hk : ∀ i, i ≤ s.pn → ((s.ps.take i).filter (fun p => decide (din s.k p.k 17 ≤ 17))).length ≤ i := fun i hi => Nat.le_trans (List.length_filter_le _ _) (by simp; omega)
    obtain ⟨i0, hI, hz0, hz1, hz2⟩ := info_parts info25
    have HI := hid hI; have HZ0 := hid hz0; have HZ1 := hid hz1; have HZ2 := hid hz2
    have hpb := h.pb
    have H' := hid h
    have HK := hid hk
    have b0 : Hid (Below w.heap.size w (w.alloc (.cells #[.int .i64 (s).k, .slice (s).xo (s).xn (s).xc, .slice (s).po (s).pn (s).pc] 45))) := hid (ext1 _)
    clear h hI hz0 hz1 hz2 hk h17
    rw [show ((17 : Nat) : Int) = 17 from rfl]
    go_enter Try.func82, Try.ntmps82
    go_wp2
    generalize hw0 : w.alloc (.cells #[.int .i64 (s).k, .slice (s).xo (s).xn (s).xc, .slice (s).po (s).pn (s).pc] 45) = w0 at *
    have hz : w0.heap.size = w.heap.size + 1 := by rw [← hw0]; simp
    clear hw0
    go_loopw [5, 15] (SeenI s w w0) (fun _ c _ => s.pn - (intOf c).toNat)
    case atStart => exact ⟨0, 0, by omega, rfl, rfl, World.ownsRow_nil _ _ _ _, Below.refl _ _⟩
    case round =>
      obtain ⟨i, m, hi, rfl, hm, ho, hb⟩ := hrel
      obtain ⟨ao, cap, rfl⟩ := row_form ho.out
      have B2 := hid (show Bx wr w.heap.size s from (hb.out.block _ (by omega)).trans B1.out)
      obtain ⟨y0, y1, y2⟩ := B2.out.cells
      have hwr := hb.out.size
      clear x0 x1 x2
      by_cases hik : i < s.pn
      · obtain ⟨p, hp⟩ : ∃ p, s.ps[i]? = some p := ⟨_, List.getElem?_eq_getElem (by rw [H'.out.pl]; exact hik)⟩
        obtain ⟨b, off, hpo, hbl, hat⟩ := H'.out.pr.resolve_left (by intro e; rw [e] at hp; simp at hp)
        obtain ⟨z0, z1, z2⟩ := (hat i p hp).of (w' := wr) ((hb.out.block b (by omega)).trans (b0.out.block b (by omega)))
        rw [hpo] at *
        have S := seen_snoc 17 s.k s.ps i p hp
        have mle := HK.out i hi
        rw [← hm] at mle
        have HS := hid S; have HM := hid hm
        have B3 := hid (Bx.new wr p)
        obtain ⟨q0, q1, q2⟩ := B3.out.cells
        have y0' := keep_old (ext1 (.cells #[.int .i64 (p).k, .slice (p).xo (p).xn (p).xc, .slice (p).po (p).pn (p).pc] 45)) y0
        have y1' := keep_old (ext1 (.cells #[.int .i64 (p).k, .slice (p).xo (p).xn (p).xc, .slice (p).po (p).pn (p).pc] 45)) y1
        have y2' := keep_old (ext1 (.cells #[.int .i64 (p).k, .slice (p).xo (p).xn (p).xc, .slice (p).po (p).pn (p).pc] 45)) y2
        clear S hm hat hpo
        have DC := hid (fun W => din_call s p 17 W (by omega))
        rw [show ((17 : Nat) : Int) = 17 from rfl] at DC
        by_cases hin : din s.k p.k 17 ≤ 17
        · have hin' : ((din s.k p.k 17 : Nat) : Int) ≤ 17 := by omega
          have HIN := hid hin
          rw [if_pos hin] at HS
          clear hin
          generalize din s.k p.k 17 = D at *
          go_wp2_with (first
            | (go_at_call 83; refine (DC.out _).mono ?_; rintro e w1 ⟨rfl, hb1⟩; have H1 := hid hb1; clear hb1; have B4 := hid (B3.out.keep H1.out); obtain ⟨r0, r1, r2⟩ := B4.out.cells; have O1 := hid (own_below (own_below ho.out (ext1 (.cells #[.int .i64 (p).k, .slice (p).xo (p).xn (p).xc, .slice (p).po (p).pn (p).pc] 45))) H1.out); have z1 := H1.out.size)
            | ((with_reducible refine here_op 27 ?_); refine wpList_append_own _ rfl (.tmp 24) (.tmp 26) 43 rfl (w.heap.size + 1) 45 i0 (.agg #[.int .i64 0, .slice none 0 0, .slice none 0 0]) 3 56 Try.underlying43 HI.out HZ0.out HZ1.out HZ2.out rfl (by decide) (.slice ao m cap) m _ rfl (O1.out.alloc _) ⟨w1.heap.size, 0, none⟩ 1 1 (cv3 [p]) rfl rfl (three_cells w1 p) (cv3_one p) (by unfold maxLen; omega) (by omega) (by simp at z1 ⊢; omega) ?_; intro v5 w5 ho5 hg5 hnil5; obtain ⟨ao5, cap5, rfl⟩ := row_form ho5; have O5 := hid ho5; have G5 := hid (below_own (O1.out.alloc _) hg5 (by simp at z1 ⊢; omega)); clear ho5 hg5 hnil5))
          go_roundw
          case measure => simp [intOf]; omega
          case rel =>
            refine ⟨i + 1, m + 1, by omega, by go_num, by rw [HS.out, List.length_append, ← HM.out]; rfl, (by rw [HS.out, cv3_append]; exact O5.out), ?_⟩
            exact ((hb.out.trans ((ext1 _).mono (by omega))).trans (H1.out.mono (by simp; omega))).trans (((ext1 _).mono (by simp at z1; omega)).trans G5.out)
        · have hin' : ¬ ((din s.k p.k 17 : Nat) : Int) ≤ 17 := by omega
          have hlo : (17 : Int) < (din s.k p.k 17 : Nat) := by omega
          rw [if_neg hin, List.append_nil] at HS
          clear hin
          generalize din s.k p.k 17 = D at *
          go_wp2_with (go_at_call 83; refine (DC.out _).mono ?_; rintro e w1 ⟨rfl, hb1⟩; have H1 := hid hb1; clear hb1)
          go_roundw
          case measure => simp [intOf]; omega
          case rel =>
            refine ⟨i + 1, m, by omega, by go_num, by rw [HS.out, ← HM.out], (by rw [HS.out]; exact own_below (own_below ho.out (ext1 _)) H1.out), ?_⟩
            exact (hb.out.trans ((ext1 _).mono (by omega))).trans (H1.out.mono (by simp; omega))
      · obtain rfl : i = s.pn := by omega
        have hfin : s.ps.take s.pn = s.ps := by rw [← H'.out.pl]; simp
        rw [hfin] at ho hm
        have HM := hid hm
        clear hm hik
        have e := hid (show (seenL 17 s).length = m from HM.out.symm)
        have O := hid (pr_own ho.out HM.out.symm)
        go_wp2
        go_ret
        exact ⟨ao, cap, (by rw [e.out]; rfl), O.out.of fun b hb => ⟨rfl, .inr ⟨by omega, hb.2⟩⟩, b0.out.trans (hb.out.mono (by omega))⟩

set_option maxRecDepth 100000 in
set_option maxHeartbeats 1000000 in
theorem whole_call (s : Sh) (d : Int) (w : World) : Calls Try.prog 72 #[.agg #[.int .i64 (s).k, .slice (s).xo (s).xn (s).xc, .slice (s).po (s).pn (s).pc], .int .i64 d] w fun e w' => e = .returned (.func (.func 81) #[] #[.pointer (some ⟨w.heap.size + 1, 0, none⟩), .pointer (some ⟨w.heap.size, 0, none⟩)]) ∧ w' = (w.alloc (.cells #[.int .i64 (s).k, .slice (s).xo (s).xn (s).xc, .slice (s).po (s).pn (s).pc] 45)).alloc (.cells #[.int .i64 d] 3) := by
  go_enter Try.func72, Try.ntmps72
  go_wp2
  go_ret
  exact ⟨rfl, rfl⟩
end Go.Proofs.Ytjlahomjhadnkaa
