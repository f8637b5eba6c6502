/- The parts that are looked at; no statement of the seat is proved here. -/
import Derived.Test.YtpmfedimjjifaaaGreatDoorJ00
import Derived.Deep.RegionHeld3
import Derived.Test.YtpmfedimjjifaaaGreatDoorProg
import Derived.WalkKit
import Derived.WalkSpells
import Derived.BigRegion
import Derived.Deep.RegionWith
namespace Go.Proofs.YtpmfedimjjifaaaGreatDoor
open Go.RowKit Go.Maps

set_option maxRecDepth 100000 in
theorem here_op (k : Nat) {P : Program} {ops : Array Oper} {Q : Exit → Act → World → Prop} {a : Act} {w : World} {rest : List Oper} {op : Op} {t : TypeId} {pos : String} {after : Array Edge} {gd : Option (Nat × Bool)}
    (h : wpList P ops Q (⟨some k, op, t, pos, after, gd⟩ :: rest) a w) : wpList P ops Q (⟨some k, op, t, pos, after, gd⟩ :: rest) a w := h
def intOf : Value → Int
  | .int _ z => z
  | _ => 0
def cv3 (l : List Sh) : List Value := l.flatMap fun p => [.int .i64 (p).k, .slice (p).xo (p).xn (p).xc, .slice (p).po (p).pn (p).pc]
set_option maxRecDepth 100000 in
theorem cv3_append (a b : List Sh) : cv3 (a ++ b) = cv3 a ++ cv3 b := by simp [cv3]
set_option maxRecDepth 100000 in
theorem cv3_len (l : List Sh) : (cv3 l).length = l.length * 3 := by
  induction l with
  | nil => rfl
  | cons a r ih => simp [cv3] at ih ⊢; omega
set_option maxRecDepth 100000 in
theorem cv3_at (l : List Sh) : ∀ i p, l[i]? = some p → (cv3 l)[i * 3]? = some (.int .i64 p.k) ∧ (cv3 l)[i * 3 + 1]? = some (.slice p.xo p.xn p.xc) ∧ (cv3 l)[i * 3 + 2]? = some (.slice p.po p.pn p.pc) := by
  induction l with
  | nil => intro i p h; simp at h
  | cons a r ih =>
    intro i p h
    have e : cv3 (a :: r) = [.int .i64 (a).k, .slice (a).xo (a).xn (a).xc, .slice (a).po (a).pn (a).pc] ++ cv3 r := rfl
    cases i with
    | zero => simp at h; subst h; simp [e]
    | succ i =>
      simp at h
      have h2 := ih i p h
      rw [e]
      have f : ∀ j, ([.int .i64 (a).k, .slice (a).xo (a).xn (a).xc, .slice (a).po (a).pn (a).pc] ++ cv3 r)[j + 3]? = (cv3 r)[j]? := fun j => by simp
      rw [show (i + 1) * 3 = i * 3 + 3 by omega, show i * 3 + 3 + 1 = (i * 3 + 1) + 3 by omega, show i * 3 + 3 + 2 = (i * 3 + 2) + 3 by omega, f, f, f]
      exact h2
set_option maxRecDepth 100000 in
theorem cv3_one (a : Sh) : ∀ u ∈ cv3 [a], u.oneCell' = true := by
  intro u hu
  simp [cv3] at hu
  rcases hu with rfl | rfl | rfl <;> rfl
set_option maxRecDepth 100000 in
theorem three_cells (w : World) (a : Sh) : ∀ j u, (cv3 [a])[j]? = some u → (w.alloc (.cells #[.int .i64 (a).k, .slice (a).xo (a).xn (a).xc, .slice (a).po (a).pn (a).pc] 39)).cell? ((⟨w.heap.size, 0, none⟩ : Addr).add j) = some u := by
  intro j u hu
  rw [Addr.add_lit]
  have h := heap_alloc_new w (.cells #[.int .i64 (a).k, .slice (a).xo (a).xn (a).xc, .slice (a).po (a).pn (a).pc] 39)
  unfold World.cell?
  rw [h]
  simpa [cv3] using hu
set_option maxRecDepth 100000 in
theorem three_cells2 (w : World) (o : Obj) (a : Sh) : ∀ j u, (cv3 [a])[j]? = some u → ((w.alloc o).alloc (.cells #[.int .i64 (a).k, .slice (a).xo (a).xn (a).xc, .slice (a).po (a).pn (a).pc] 39)).cell? ((⟨w.heap.size + 1, 0, none⟩ : Addr).add j) = some u := by
  have := three_cells (w.alloc o) a
  simpa using this
set_option maxRecDepth 100000 in
theorem row_form {w : World} {base : Nat} {e : TypeId} {size : Nat} {v : Value} {n : Nat} {xs : List Value} (h : w.ownsRow base e size v n xs) : ∃ ao cap, v = .slice ao n cap := by
  rcases h.2 with ⟨rfl, rfl⟩ | ⟨g, cap, cur, rfl, _⟩
  · exact ⟨none, 0, rfl⟩
  · exact ⟨_, cap, rfl⟩
set_option maxRecDepth 100000 in
/-- An append leaves what lies below its row's base. -/
theorem below_own {w w' : World} {base : Nat} {e : TypeId} {size : Nat} {v : Value} {n : Nat} {xs : List Value} (h : w.ownsRow base e size v n xs) (hg : w.grownBy w' v.ownBlock) (hb : base ≤ w.heap.size) : Below base w w' :=
  ⟨hg.os, hg.tape, hg.output, hg.size, fun k hk => hg.block k (by omega) (fun e => by have := (h.lt k e.symm).1; omega)⟩
set_option maxRecDepth 100000 in
theorem pr_own {w : World} {base cap : Nat} {ao : Option Addr} {n : Nat} {l : List Sh} (h : w.ownsRow base 39 3 (.slice ao n cap) n (cv3 l)) (hl : l.length = n) : PR (fun b => base ≤ b ∧ b < w.heap.size) w ao l := by
  rcases h.2 with ⟨h1, h2⟩ | ⟨g, cap', cur, h1, hb, hg, hc, hm, hz, ht⟩
  · exact .inl (List.length_eq_zero_iff.1 (by omega))
  · refine .inr ⟨g, 0, by simp at h1; exact h1.1, ⟨hb, (Array.getElem?_eq_some_iff.1 hg).1⟩, fun i p hi => ?_⟩
    have hlt : i < l.length := (List.getElem?_eq_some_iff.1 hi).1
    have e : ∀ j, j < n * 3 → w.cell? ⟨g, j, none⟩ = (cv3 l)[j]? := fun j hj => by
      have h := h
      simp only [Value.slice.injEq] at h1
      rw [h1.1] at h
      exact h.cellAt j hj
    obtain ⟨c1, c2, c3⟩ := cv3_at l i p hi
    exact ⟨by rw [show 0 + i * 3 = i * 3 by omega, e _ (by omega)]; exact c1, by rw [show 0 + i * 3 + 1 = i * 3 + 1 by omega, e _ (by omega)]; exact c2, by rw [show 0 + i * 3 + 2 = i * 3 + 2 by omega, e _ (by omega)]; exact c3⟩
set_option maxRecDepth 100000 in
theorem own_below {w w' : World} {base : Nat} {e : TypeId} {size : Nat} {v : Value} {n : Nat} {xs : List Value} (h : w.ownsRow base e size v n xs) (hb : Below w.heap.size w w') : w'.ownsRow base e size v n xs :=
  h.kept (row := none) ⟨hb.os, hb.tape, hb.output, hb.size, fun k hk _ => hb.block k hk⟩ (by cases h : v.ownBlock <;> simp)
set_option maxRecDepth 100000 in
theorem info25 : (Tryz.prog.info? 39).map (fun i => (i.zero, i.size, i.bytes)) = some (some (.agg #[.int .i64 0, .slice none 0 0, .slice none 0 0]), 3, 56) := by kernel_rfl

set_option maxRecDepth 100000 in
theorem seen_snoc (d : Nat) (k : Int) (l : List Sh) (i : Nat) (p : Sh) (h : l[i]? = some p) : (l.take (i + 1)).filter (fun p => decide (din k p.k d ≤ 17)) = (l.take i).filter (fun p => decide (din k p.k d ≤ 17)) ++ (if din k p.k d ≤ 17 then [p] else []) := by
  rw [List.take_add_one, h, List.filter_append]
  congr 1
  by_cases hp : din k p.k d ≤ 17 <;> simp [hp]

def SeenI (s : Sh) (w w0 : World) (v c : Value) (W : World) : Prop :=
  ∃ (i m : Nat), i ≤ s.pn ∧ c = .int .i64 i ∧ m = ((s.ps.take i).filter (fun p => decide (din s.k p.k 17 ≤ 17))).length ∧ Hid (W.ownsRow (w.heap.size + 1) 39 3 v m (cv3 ((s.ps.take i).filter (fun p => decide (din s.k p.k 17 ≤ 17))))) ∧ Hid (Below (w.heap.size + 1) w0 W)
set_option maxRecDepth 100000 in
set_option maxHeartbeats 4000000 in
theorem seen_call (N : Nat) (s : Sh) (d : Nat) (w : World) (hN : N ≤ w.heap.size) (h : Here (fun b => b < N) w s) (hd : d ≤ 17) :
    Calls Tryz.prog 122 #[.agg #[.int .i64 (s).k, .slice (s).xo (s).xn (s).xc, .slice (s).po (s).pn (s).pc], .int .i64 (d : Int)] w fun e w' => ∃ po pc, e = .returned (.slice po (seenL d s).length pc) ∧ PR (fun b => b < N ∨ (w.heap.size ≤ b ∧ b < w'.heap.size)) w' po (seenL d s) ∧ Below w.heap.size w w' := by
  have B1 := hid (Bx.new w s)
  obtain ⟨x0, x1, x2⟩ := B1.out.cells
  by_cases h17 : (d : Int) < 17
  · rw [seenL_all s (by omega), h.pl]
    have PRh := hid (h.pr.of (w' := w.alloc (.cells #[.int .i64 (s).k, .slice (s).xo (s).xn (s).xc, .slice (s).po (s).pn (s).pc] 39)) (T := fun b => b < N ∨ (w.heap.size ≤ b ∧ b < (w.alloc (.cells #[.int .i64 (s).k, .slice (s).xo (s).xn (s).xc, .slice (s).po (s).pn (s).pc] 39)).heap.size)) fun b hb => ⟨(ext1 _).block b (by omega), .inl hb⟩)
    clear h B1
    go_enter Tryz.func122, Tryz.ntmps122
    go_wp2
    go_ret
    exact ⟨_, _, rfl, PRh.out, ext1 _⟩
  · obtain rfl : d = 17 := by omega
    have hk : ∀ i, i ≤ s.pn → ((s.ps.take i).filter (fun p => decide (din s.k p.k 17 ≤ 17))).length ≤ i := fun i hi => Nat.le_trans (List.length_filter_le _ _) (by simp; omega)
    obtain ⟨i0, hI, hz0, hz1, hz2⟩ := info_parts info25
    have HI := hid hI; have HZ0 := hid hz0; have HZ1 := hid hz1; have HZ2 := hid hz2
    have hpb := h.pb
    have H' := hid h
    have HK := hid hk
    have b0 : Hid (Below w.heap.size w (w.alloc (.cells #[.int .i64 (s).k, .slice (s).xo (s).xn (s).xc, .slice (s).po (s).pn (s).pc] 39))) := hid (ext1 _)
    clear h hI hz0 hz1 hz2 hk h17
    rw [show ((17 : Nat) : Int) = 17 from rfl]
    go_enter Tryz.func122, Tryz.ntmps122
    go_wp2
    generalize hw0 : w.alloc (.cells #[.int .i64 (s).k, .slice (s).xo (s).xn (s).xc, .slice (s).po (s).pn (s).pc] 39) = w0 at *
    have hz : w0.heap.size = w.heap.size + 1 := by rw [← hw0]; simp
    clear hw0
    go_loopw [5, 15] (SeenI s w w0) (fun _ c _ => s.pn - (intOf c).toNat)
    case atStart => exact ⟨0, 0, by omega, rfl, rfl, World.ownsRow_nil _ _ _ _, Below.refl _ _⟩
    case round =>
      obtain ⟨i, m, hi, rfl, hm, ho, hb⟩ := hrel
      obtain ⟨ao, cap, rfl⟩ := row_form ho.out
      have B2 := hid (show Bx wr w.heap.size s from (hb.out.block _ (by omega)).trans B1.out)
      obtain ⟨y0, y1, y2⟩ := B2.out.cells
      have hwr := hb.out.size
      clear x0 x1 x2
      by_cases hik : i < s.pn
      · obtain ⟨p, hp⟩ : ∃ p, s.ps[i]? = some p := ⟨_, List.getElem?_eq_getElem (by rw [H'.out.pl]; exact hik)⟩
        obtain ⟨b, off, hpo, hbl, hat⟩ := H'.out.pr.resolve_left (by intro e; rw [e] at hp; simp at hp)
        obtain ⟨z0, z1, z2⟩ := (hat i p hp).of (w' := wr) ((hb.out.block b (by omega)).trans (b0.out.block b (by omega)))
        rw [hpo] at *
        have S := seen_snoc 17 s.k s.ps i p hp
        have mle := HK.out i hi
        rw [← hm] at mle
        have HS := hid S; have HM := hid hm
        have B3 := hid (Bx.new wr p)
        obtain ⟨q0, q1, q2⟩ := B3.out.cells
        have y0' := keep_old (ext1 (.cells #[.int .i64 (p).k, .slice (p).xo (p).xn (p).xc, .slice (p).po (p).pn (p).pc] 39)) y0
        have y1' := keep_old (ext1 (.cells #[.int .i64 (p).k, .slice (p).xo (p).xn (p).xc, .slice (p).po (p).pn (p).pc] 39)) y1
        have y2' := keep_old (ext1 (.cells #[.int .i64 (p).k, .slice (p).xo (p).xn (p).xc, .slice (p).po (p).pn (p).pc] 39)) y2
        clear S hm hat hpo
        have DC := hid (fun W => din_call s p 17 W (by omega))
        rw [show ((17 : Nat) : Int) = 17 from rfl] at DC
        by_cases hin : din s.k p.k 17 ≤ 17
        · have hin' : ((din s.k p.k 17 : Nat) : Int) ≤ 17 := by omega
          have HIN := hid hin
          rw [if_pos hin] at HS
          clear hin
          generalize din s.k p.k 17 = D at *
          go_wp2_with (first
            | (go_at_call 123; refine (DC.out _).mono ?_; rintro e w1 ⟨rfl, hb1⟩; have H1 := hid hb1; clear hb1; have B4 := hid (B3.out.keep H1.out); obtain ⟨r0, r1, r2⟩ := B4.out.cells; have O1 := hid (own_below (own_below ho.out (ext1 (.cells #[.int .i64 (p).k, .slice (p).xo (p).xn (p).xc, .slice (p).po (p).pn (p).pc] 39))) H1.out); have z1 := H1.out.size)
            | ((with_reducible refine here_op 27 ?_); refine wpList_append_own _ rfl (.tmp 24) (.tmp 26) 37 rfl (w.heap.size + 1) 39 i0 (.agg #[.int .i64 0, .slice none 0 0, .slice none 0 0]) 3 56 Tryz.underlying37 HI.out HZ0.out HZ1.out HZ2.out rfl (by decide) (.slice ao m cap) m _ rfl (O1.out.alloc _) ⟨w1.heap.size, 0, none⟩ 1 1 (cv3 [p]) rfl rfl (three_cells w1 p) (cv3_one p) (by unfold maxLen; omega) (by omega) (by simp at z1 ⊢; omega) ?_; intro v5 w5 ho5 hg5 hnil5; obtain ⟨ao5, cap5, rfl⟩ := row_form ho5; have O5 := hid ho5; have G5 := hid (below_own (O1.out.alloc _) hg5 (by simp at z1 ⊢; omega)); clear ho5 hg5 hnil5))
          go_roundw
          case measure => simp [intOf]; omega
          case rel =>
            refine ⟨i + 1, m + 1, by omega, by go_num, by rw [HS.out, List.length_append, ← HM.out]; rfl, (by rw [HS.out, cv3_append]; exact O5.out), ?_⟩
            exact ((hb.out.trans ((ext1 _).mono (by omega))).trans (H1.out.mono (by simp; omega))).trans (((ext1 _).mono (by simp at z1; omega)).trans G5.out)
        · have hin' : ¬ ((din s.k p.k 17 : Nat) : Int) ≤ 17 := by omega
          have hlo : (17 : Int) < (din s.k p.k 17 : Nat) := by omega
          rw [if_neg hin, List.append_nil] at HS
          clear hin
          generalize din s.k p.k 17 = D at *
          go_wp2_with (go_at_call 123; refine (DC.out _).mono ?_; rintro e w1 ⟨rfl, hb1⟩; have H1 := hid hb1; clear hb1)
          go_roundw
          case measure => simp [intOf]; omega
          case rel =>
            refine ⟨i + 1, m, by omega, by go_num, by rw [HS.out, ← HM.out], (by rw [HS.out]; exact own_below (own_below ho.out (ext1 _)) H1.out), ?_⟩
            exact (hb.out.trans ((ext1 _).mono (by omega))).trans (H1.out.mono (by simp; omega))
      · obtain rfl : i = s.pn := by omega
        have hfin : s.ps.take s.pn = s.ps := by rw [← H'.out.pl]; simp
        rw [hfin] at ho hm
        have HM := hid hm
        clear hm hik
        have e := hid (show (seenL 17 s).length = m from HM.out.symm)
        have O := hid (pr_own ho.out HM.out.symm)
        go_wp2
        go_ret
        exact ⟨ao, cap, (by rw [e.out]; rfl), O.out.of fun b hb => ⟨rfl, .inr ⟨by omega, hb.2⟩⟩, b0.out.trans (hb.out.mono (by omega))⟩

set_option maxRecDepth 100000 in
set_option maxHeartbeats 1000000 in
theorem whole_call (s : Sh) (d : Int) (w : World) : Calls Tryz.prog 93 #[.agg #[.int .i64 (s).k, .slice (s).xo (s).xn (s).xc, .slice (s).po (s).pn (s).pc], .int .i64 d] w fun e w' => e = .returned (.func (.func 121) #[] #[.pointer (some ⟨w.heap.size + 1, 0, none⟩), .pointer (some ⟨w.heap.size, 0, none⟩)]) ∧ w' = (w.alloc (.cells #[.int .i64 (s).k, .slice (s).xo (s).xn (s).xc, .slice (s).po (s).pn (s).pc] 39)).alloc (.cells #[.int .i64 d] 3) := by
  go_enter Tryz.func93, Tryz.ntmps93
  go_wp2
  go_ret
  exact ⟨rfl, rfl⟩
end Go.Proofs.YtpmfedimjjifaaaGreatDoor

/- Regions that draw their order: what is held may grow as the walk goes. Laws of my own after the kit's. No statement of the seat is proved here. -/
namespace Go.Proofs.YtpmfedimjjifaaaGreatDoor
open Go.RowKit Go.Maps

section
variable {P : Program} {ops : Array Oper} {Q : Exit → Act → World → Prop} {md : Region.Mode} {S : World → Prop} {E : Nat → Bool}

/-- Every late operation waits for number i. -/
def waits (md : Region.Mode) (ops : Array Oper) (E : Nat → Bool) (i : Nat) : Bool := (List.range ops.size).all fun j => !E j || (match ops[j]? with | some o => o.after.any (fun e => Region.binds md e && e.on == i) | none => true)
set_option maxRecDepth 100000 in
theorem waits_spec {i : Nat} (h : waits md ops E i = true) {j : Nat} {oj : Oper} (hj : ops[j]? = some oj) (hE : E j = true) : ∃ e ∈ oj.after, Region.binds md e = true ∧ e.on = i := by
  have hl : j < ops.size := (Array.getElem?_eq_some_iff.1 hj).1
  have := List.all_eq_true.1 h j (by simpa using hl)
  simp only [hE, hj, Bool.not_true, Bool.false_or] at this
  obtain ⟨k, hk, hp⟩ := Array.any_eq_true.1 this
  simp only [Bool.and_eq_true, beq_iff_eq] at hp
  exact ⟨_, Array.getElem_mem hk, hp.1, hp.2⟩

/-- Has a late one come? -/
def came (E : Nat → Bool) (listed : Array Bool) : Bool := (List.range listed.size).any fun j => E j && listed.getD j false

set_option maxRecDepth 100000 in
theorem came_set {listed : Array Bool} {j : Nat} (h : came E listed = false) (hj : E j = false) : came E (listed.setIfInBounds j true) = false := by
  simp only [came, List.any_eq_false, List.mem_range, Array.size_setIfInBounds, Bool.and_eq_true, not_and, Bool.not_eq_true] at h ⊢
  intro k hk hE
  by_cases hjk : j = k
  · subst hjk; rw [hj] at hE; cases hE
  · rw [getD_set_ne _ hjk]; exact h k hk hE
set_option maxRecDepth 100000 in
theorem came_mono {listed : Array Bool} {j : Nat} (h : came E (listed.setIfInBounds j true) = false) : came E listed = false := by
  simp only [came, List.any_eq_false, List.mem_range, Array.size_setIfInBounds, Bool.and_eq_true, not_and, Bool.not_eq_true] at h ⊢
  intro k hk hE
  have := h k hk hE
  by_cases hjk : j = k
  · subst hjk; simp [hk] at this
  · rw [getD_set_ne _ hjk] at this; exact this

/-- Whatever order is picked from here on; S holds behind every operation, as long as no late one has come. -/
def wpAnyK (P : Program) (md : Region.Mode) (ops : Array Oper) (Q : Exit → Act → World → Prop) (S : World → Prop) (E : Nat → Bool) : Nat → Array Bool → Act → World → Prop
  | 0, listed, a, w => Region.ready md ops listed = [] ∧ Q .normal a w
  | fuel + 1, listed, a, w =>
    (Region.ready md ops listed = [] → Q .normal a w) ∧
    ∀ i ∈ Region.ready md ops listed, wpOp P ops Q i (fun a' w' => (came E (listed.setIfInBounds i true) = false → S w') ∧ wpAnyK P md ops Q S E fuel (listed.setIfInBounds i true) a' w') a w

set_option maxRecDepth 100000 in
theorem wpAny_of_K : ∀ (fuel : Nat) (listed : Array Bool) (a : Act) (w : World), wpAnyK P md ops Q S E fuel listed a w → wpAny P md ops Q fuel listed a w
  | 0, _, _, _, h => h
  | fuel + 1, _, _, _, h => ⟨h.1, fun i hi => wpOp_mono (fun a' w' h' => wpAny_of_K fuel _ a' w' h'.2) (h.2 i hi)⟩

set_option maxRecDepth 100000 in
/-- An operation that yields the same in each world that may come ahead of it: it is taken first. T: what it asks; T holds as long as i may come. -/
theorem wpAnyK_first {T : World → Prop} {i : Nat} {oi : Oper} {v : Value} (hi : ops[i]? = some oi) (hsel : ∀ (j : Nat) (o : Oper) cs b, ops[j]? = some o → o.op ≠ .select cs b)
    (hQ : ∀ c a w, Q (.panic c) (a.put oi.dst v) w → Q (.panic c) a w) (hEi : E i = false) (hT : (∀ w, T w) ∨ (T = S ∧ waits md ops E i = true)) :
    ∀ (fuel : Nat) (listed : Array Bool) (a : Act) (w : World),
      (∀ j oj, ops[j]? = some oj → j ≠ i → listed.getD j true = false → (∀ e ∈ oj.after, Region.binds md e = true → e.on ≠ i) → oi.apart ops oj = true) →
      i ∈ Region.ready md ops listed → YieldsIf P ops T oi v a → T w → (came E (listed.setIfInBounds i true) = false → S w) → ((∀ w, T w) ∨ came E listed = false) →
      wpAnyK P md ops Q S E fuel (listed.setIfInBounds i true) (a.put oi.dst v) w → wpAnyK P md ops Q S E (fuel + 1) listed a w := by
  intro fuel
  induction fuel with
  | zero =>
    intro listed a w _ hr hy hTw hS hc H
    refine ⟨fun h => (by rw [h] at hr; cases hr), fun j hj => ?_⟩
    by_cases hji : j = i
    · subst hji; exact hy.wpOp hi hTw ⟨hS, H⟩
    · have := ready_mono hj hji
      rw [H.1] at this
      cases this
  | succ fuel ih =>
    intro listed a w hfree hr hy hTw hS hc H
    refine ⟨fun h => (by rw [h] at hr; cases hr), fun j hj => ?_⟩
    by_cases hji : j = i
    · subst hji; exact hy.wpOp hi hTw ⟨hS, H⟩
    · have h1 := H.2 j (ready_mono hj hji)
      obtain ⟨hjun, oj, hoj, hall⟩ := mem_ready.1 hj
      have hnot : ∀ e ∈ oj.after, Region.binds md e = true → e.on ≠ i := fun e he hb heq => by
        have h1 := hall e he hb
        have h0 := (mem_ready.1 hr).1
        rw [heq] at h1
        rcases Nat.lt_or_ge i listed.size with h' | h'
        · simp [h'] at h0 h1; rw [h0] at h1; cases h1
        · simp [Array.getElem?_eq_none h'] at h1
      have h2 := wpOp_putIf hoj (hfree j oj hoj hji hjun hnot) (fun cs b => hsel i oi cs b hi) (fun cs b => hsel j oj cs b hoj) hQ hy h1
      have hfree' : ∀ k ok, ops[k]? = some ok → k ≠ i → (listed.setIfInBounds j true).getD k true = false →
          (∀ e ∈ ok.after, Region.binds md e = true → e.on ≠ i) → oi.apart ops ok = true := fun k ok hk hki hun hno => by
        refine hfree k ok hk hki ?_ hno
        by_cases hjk : j = k
        · subst hjk; exact hjun
        · rw [getD_set_ne true hjk] at hun; exact hun
      have hjE : waits md ops E i = true → E j = false := fun hw => by
        cases hcj : E j
        · rfl
        · obtain ⟨e, he, hb, heq⟩ := waits_spec hw hoj hcj
          exact absurd heq (hnot e he hb)
      refine wpOp_mono (fun a' w' h3 => ?_) h2
      have e := Array.setIfInBounds_comm (xs := listed) true true hji
      have hS' : came E ((listed.setIfInBounds j true).setIfInBounds i true) = false → S w' := fun hcc => h3.2.1 (by rw [e] at hcc; exact hcc)
      have hTc : T w' ∧ ((∀ w, T w) ∨ came E (listed.setIfInBounds j true) = false) := by
        rcases hT with h | ⟨h, hw⟩
        · exact ⟨h w', Or.inl h⟩
        · rcases hc with h' | h'
          · exact ⟨h' w', Or.inl h'⟩
          · have hcj := came_set h' (hjE hw)
            refine ⟨?_, Or.inr hcj⟩
            rw [h]
            exact hS' (came_set hcj hEi)
      refine ⟨fun hcc => hS' ?_, ih (listed.setIfInBounds j true) a' w' hfree' (ready_mono hr (Ne.symm hji)) h3.1 hTc.1 hS' hTc.2 ?_⟩
      · exact came_set hcc hEi
      · rw [e]; exact h3.2.2
set_option maxRecDepth 100000 in
theorem wpAnyK_take {i : Nat} {oi : Oper} {v : Value} {fuel : Nat} {listed : Array Bool} {a : Act} {w : World} (hi : ops[i]? = some oi)
    (hs : Region.noSelect ops = true) (hf : Region.free md ops listed i = true) (hr : (Region.ready md ops listed).contains i = true) (hE : (!E i && waits md ops E i && !came E listed) = true)
    (hQ : ∀ c a w, Q (.panic c) (a.put oi.dst v) w → Q (.panic c) a w) (hy : YieldsIf P ops S oi v a) (hS : S w)
    (h : wpAnyK P md ops Q S E fuel (listed.setIfInBounds i true) (a.put oi.dst v) w) : wpAnyK P md ops Q S E (fuel + 1) listed a w := by
  simp only [Bool.and_eq_true, Bool.not_eq_true'] at hE
  exact wpAnyK_first hi (Region.noSelect_spec hs) hQ hE.1.1 (Or.inr ⟨rfl, hE.1.2⟩) fuel listed a w (Region.free_spec hi hf) (by simpa using hr) hy hS (fun _ => hS) (Or.inr hE.2) h
set_option maxRecDepth 100000 in
/-- One that asks nothing of the world, ahead of the late ones. -/
theorem wpAnyK_pure {i : Nat} {oi : Oper} {v : Value} {fuel : Nat} {listed : Array Bool} {a : Act} {w : World} (hi : ops[i]? = some oi)
    (hs : Region.noSelect ops = true) (hf : Region.free md ops listed i = true) (hr : (Region.ready md ops listed).contains i = true) (hE : E i = false)
    (hQ : ∀ c a w, Q (.panic c) (a.put oi.dst v) w → Q (.panic c) a w) (hy : YieldsIf P ops (fun _ => True) oi v a) (hS : S w ∨ came E listed = true)
    (h : wpAnyK P md ops Q S E fuel (listed.setIfInBounds i true) (a.put oi.dst v) w) : wpAnyK P md ops Q S E (fuel + 1) listed a w :=
  wpAnyK_first (T := fun _ => True) hi (Region.noSelect_spec hs) hQ hE (Or.inl fun _ => trivial) fuel listed a w (Region.free_spec hi hf) (by simpa using hr) hy trivial (fun hc => by
    rcases hS with h | h
    · exact h
    · rw [came_mono hc] at h; cases h) (Or.inl fun _ => trivial) h

def AllReadyK (P : Program) (md : Region.Mode) (ops : Array Oper) (Q : Exit → Act → World → Prop) (S : World → Prop) (E : Nat → Bool) (fuel : Nat) (listed : Array Bool) (a : Act) (w : World) (rs : List Nat) : Prop :=
  ∀ i ∈ rs, wpOp P ops Q i (fun a' w' => (came E (listed.setIfInBounds i true) = false → S w') ∧ wpAnyK P md ops Q S E fuel (listed.setIfInBounds i true) a' w') a w
set_option maxRecDepth 100000 in
theorem AllReadyK.nil {fuel : Nat} {listed : Array Bool} {a : Act} {w : World} : AllReadyK P md ops Q S E fuel listed a w [] := fun _ h => by cases h
set_option maxRecDepth 100000 in
theorem AllReadyK.cons {fuel : Nat} {listed : Array Bool} {a : Act} {w : World} {i : Nat} {o : Oper} {rs : List Nat} (ho : ops[i]? = some o)
    (h : ∀ K' : Act → World → Prop, Shut (∀ a w, S w → (S w → wpAnyK P md ops Q S E fuel (listed.setIfInBounds i true) a w) → K' a w) → if Region.wanted o (yielded ops a.tmps) = true then Oper.wp P o a w K' Q else K' (a.put o.dst undef) w)
    (hs : AllReadyK P md ops Q S E fuel listed a w rs) : AllReadyK P md ops Q S E fuel listed a w (i :: rs) := fun j hj => by
  rcases List.mem_cons.1 hj with rfl | hj
  · exact wpOp_step ho (fun K' hK => h K' (fun a w hS hW => hK a w ⟨fun _ => hS, hW hS⟩))
  · exact hs j hj
set_option maxRecDepth 100000 in
/-- A late one, or one behind: S need not hold behind it. -/
theorem AllReadyK.late {fuel : Nat} {listed : Array Bool} {a : Act} {w : World} {i : Nat} {o : Oper} {rs : List Nat} (ho : ops[i]? = some o) (hE : came E (listed.setIfInBounds i true) = true)
    (h : ∀ K' : Act → World → Prop, Shut (∀ a w, wpAnyK P md ops Q S E fuel (listed.setIfInBounds i true) a w → K' a w) → if Region.wanted o (yielded ops a.tmps) = true then Oper.wp P o a w K' Q else K' (a.put o.dst undef) w)
    (hs : AllReadyK P md ops Q S E fuel listed a w rs) : AllReadyK P md ops Q S E fuel listed a w (i :: rs) := fun j hj => by
  rcases List.mem_cons.1 hj with rfl | hj
  · exact wpOp_step ho (fun K' hK => h K' (fun a w hW => hK a w ⟨fun hc => (by rw [hE] at hc; cases hc), hW⟩))
  · exact hs j hj
set_option maxRecDepth 100000 in
theorem wpAnyK_ready {rs : List Nat} {fuel : Nat} {listed : Array Bool} {a : Act} {w : World} (hr : Region.ready md ops listed = rs) (hne : rs ≠ [])
    (h : AllReadyK P md ops Q S E fuel listed a w rs) : wpAnyK P md ops Q S E (fuel + 1) listed a w := ⟨fun h0 => absurd (hr ▸ h0) hne, hr ▸ h⟩
set_option maxRecDepth 100000 in
theorem wpAnyK_done {listed : Array Bool} {a : Act} {w : World} (hr : Region.ready md ops listed = []) (h : Q .normal a w) :
    ∀ fuel, wpAnyK P md ops Q S E fuel listed a w
  | 0 => ⟨hr, h⟩
  | _ + 1 => ⟨fun _ => h, by rw [hr]; simp⟩
set_option maxRecDepth 100000 in
theorem wp_region_K {id : Nat} {a : Act} {w : World} (E : Nat → Bool) (hm : P.follows .mixedOrders = true) (hS : S w.drew)
    (h : S w.drew → wpAnyK P .any ops Q S E ops.size (Array.replicate ops.size false) a w.drew) : (Code.region id ops true).wp P Q a w :=
  wp_region_any hm (wpAny_of_K _ _ _ _ (h hS))
set_option maxRecDepth 100000 in
/-- What is held may be more from here on. -/
theorem wpAnyK_more {S' : World → Prop} (hSS : ∀ w, S' w → S w) : ∀ {fuel : Nat} {listed : Array Bool} {a : Act} {w : World}, wpAnyK P md ops Q S' E fuel listed a w → wpAnyK P md ops Q S E fuel listed a w
  | 0, _, _, _, h => h
  | _ + 1, _, _, _, h => ⟨h.1, fun i hi => wpOp_mono (fun _ _ h' => ⟨fun hc => hSS _ (h'.1 hc), wpAnyK_more hSS h'.2⟩) (h.2 i hi)⟩
end


/-- A world that has grown out of another one. -/
abbrev Gr (w W : World) : Prop := Below w.heap.size w W

end Go.Proofs.YtpmfedimjjifaaaGreatDoor

/- Laws of mine for regions that draw their order, with their side facts found by themselves; no statement of the seat is proved here. -/
namespace Go.Proofs.YtpmfedimjjifaaaGreatDoor
open Go.RowKit
set_option maxRecDepth 100000 in
theorem sA {α : Type _} (l : List α) (i : Nat) (a : α) : l.toArray.setIfInBounds i a = (l.set i a).toArray := List.setIfInBounds_toArray ..
set_option maxRecDepth 100000 in
theorem sZ {α : Type _} {x : α} {xs : List α} {a : α} : (x :: xs).set 0 a = a :: xs := List.set_cons_zero
set_option maxRecDepth 100000 in
theorem sS {α : Type _} {x : α} {xs : List α} {n : Nat} {a : α} : (x :: xs).set (n + 1) a = x :: xs.set n a := List.set_cons_succ
set_option maxRecDepth 100000 in
theorem at_op (l : List Oper) (i : Nat) (o : Oper) (h : l[i]? = some o) : l.toArray[i]? = some o := by simpa using h
section
variable {P : Program} {l : List Oper} {Q : Exit → Act → World → Prop} {md : Region.Mode} {S : World → Prop} {oi : Oper} {v : Value} {fuel : Nat} {listed : Array Bool} {a a' : Act} {w : World}
set_option maxRecDepth 100000 in
theorem ght (i : Nat) (k : wpAnyH P md l.toArray Q S fuel (listed.setIfInBounds i true) a' w)
    (hi : l[i]? = some oi := by exact rfl) (hs : Region.noSelect l.toArray = true := by kernel_rfl) (hf : Region.free md l.toArray listed i = true := by kernel_rfl) (hr : (Region.ready md l.toArray listed).contains i = true := by kernel_rfl)
    (hQ : ∀ c a w, Q (.panic c) (a.put oi.dst v) w → Q (.panic c) a w := by exact fun _ _ _ h => h) (hw : Region.wanted oi (yielded l.toArray a.tmps) = true := by rfl)
    (h : ∀ w, S w → (execOp a.eval oi).run P w = .ok (.value v) w := by intro W hSw; go_simp; first | done | with_reducible rfl) (hS : S w := by assumption)
    (hA : a.put oi.dst v = a' := by (try simp only [Act.put, sA, sZ, sS]); rfl) : wpAnyH P md l.toArray Q S (fuel + 1) listed a w :=
  wpAnyH_take (at_op _ _ _ hi) hs hf hr hQ (Or.inl ⟨hw, h⟩) hS (hA ▸ k)
set_option maxRecDepth 100000 in
theorem gh1 (i : Nat) (h : ∀ K' : Act → World → Prop, Shut (∀ a w, S w → (S w → wpAnyH P md l.toArray Q S fuel (listed.setIfInBounds i true) a w) → K' a w) → if Region.wanted oi (yielded l.toArray a.tmps) = true then Oper.wp P oi a w K' Q else K' (a.put oi.dst undef) w)
    (hi : l[i]? = some oi := by exact rfl) (hr : Region.ready md l.toArray listed = [i] := by kernel_rfl) : wpAnyH P md l.toArray Q S (fuel + 1) listed a w :=
  wpAnyH_ready (rs := [i]) hr (by simp) (AllReadyH.cons (at_op _ _ _ hi) h AllReadyH.nil)
end
end Go.Proofs.YtpmfedimjjifaaaGreatDoor

/- Laws of mine for regions that draw their order, with late operations, with their side facts found by themselves; no statement of the seat is proved here. -/
namespace Go.Proofs.YtpmfedimjjifaaaGreatDoor
open Go.RowKit
section
variable {P : Program} {l : List Oper} {Q : Exit → Act → World → Prop} {md : Region.Mode} {S : World → Prop} {E : Nat → Bool} {oi : Oper} {v : Value} {fuel : Nat} {listed : Array Bool} {a a' : Act} {w : World}
set_option maxRecDepth 100000 in
theorem gkt (i : Nat) (k : wpAnyK P md l.toArray Q S E fuel (listed.setIfInBounds i true) a' w)
    (hi : l[i]? = some oi := by exact rfl) (hs : Region.noSelect l.toArray = true := by kernel_rfl) (hf : Region.free md l.toArray listed i = true := by kernel_rfl) (hr : (Region.ready md l.toArray listed).contains i = true := by kernel_rfl)
    (hE : (!E i && waits md l.toArray E i && !came E listed) = true := by kernel_rfl)
    (hQ : ∀ c a w, Q (.panic c) (a.put oi.dst v) w → Q (.panic c) a w := by exact fun _ _ _ h => h) (hw : Region.wanted oi (yielded l.toArray a.tmps) = true := by rfl)
    (h : ∀ w, S w → (execOp a.eval oi).run P w = .ok (.value v) w := by intro W hSw; go_simp; first | done | with_reducible rfl) (hS : S w := by assumption)
    (hA : a.put oi.dst v = a' := by (try simp only [Act.put, sA, sZ, sS]); rfl) : wpAnyK P md l.toArray Q S E (fuel + 1) listed a w :=
  wpAnyK_take (at_op _ _ _ hi) hs hf hr hE hQ (Or.inl ⟨hw, h⟩) hS (hA ▸ k)
set_option maxRecDepth 100000 in
theorem gkp (i : Nat) (k : wpAnyK P md l.toArray Q S E fuel (listed.setIfInBounds i true) a' w)
    (hi : l[i]? = some oi := by exact rfl) (hs : Region.noSelect l.toArray = true := by kernel_rfl) (hf : Region.free md l.toArray listed i = true := by kernel_rfl) (hr : (Region.ready md l.toArray listed).contains i = true := by kernel_rfl)
    (hE : E i = false := by kernel_rfl)
    (hQ : ∀ c a w, Q (.panic c) (a.put oi.dst v) w → Q (.panic c) a w := by exact fun _ _ _ h => h) (hw : Region.wanted oi (yielded l.toArray a.tmps) = true := by rfl)
    (h : ∀ w, True → (execOp a.eval oi).run P w = .ok (.value v) w := by intro W hSw; go_simp; first | done | with_reducible rfl) (hS : S w ∨ came E listed = true := by first | exact Or.inl (by assumption) | exact Or.inr (by kernel_rfl))
    (hA : a.put oi.dst v = a' := by (try simp only [Act.put, sA, sZ, sS]); rfl) : wpAnyK P md l.toArray Q S E (fuel + 1) listed a w :=
  wpAnyK_pure (at_op _ _ _ hi) hs hf hr hE hQ (Or.inl ⟨hw, h⟩) hS (hA ▸ k)
set_option maxRecDepth 100000 in
theorem gku (i : Nat) (k : wpAnyK P md l.toArray Q S E fuel (listed.setIfInBounds i true) a' w)
    (hi : l[i]? = some oi := by exact rfl) (hs : Region.noSelect l.toArray = true := by kernel_rfl) (hf : Region.free md l.toArray listed i = true := by kernel_rfl) (hr : (Region.ready md l.toArray listed).contains i = true := by kernel_rfl)
    (hE : E i = false := by kernel_rfl)
    (hQ : ∀ c a w, Q (.panic c) (a.put oi.dst undef) w → Q (.panic c) a w := by exact fun _ _ _ h => h) (hw : Region.wanted oi (yielded l.toArray a.tmps) = false := by kernel_rfl)
    (hS : S w ∨ came E listed = true := by first | exact Or.inl (by assumption) | exact Or.inr (by kernel_rfl))
    (hA : a.put oi.dst undef = a' := by (try simp only [Act.put, sA, sZ, sS]); rfl) : wpAnyK P md l.toArray Q S E (fuel + 1) listed a w :=
  wpAnyK_pure (at_op _ _ _ hi) hs hf hr hE hQ (Or.inr ⟨hw, rfl⟩) hS (hA ▸ k)
set_option maxRecDepth 100000 in
theorem gk1 (i : Nat) (h : ∀ K' : Act → World → Prop, Shut (∀ a w, S w → (S w → wpAnyK P md l.toArray Q S E fuel (listed.setIfInBounds i true) a w) → K' a w) → if Region.wanted oi (yielded l.toArray a.tmps) = true then Oper.wp P oi a w K' Q else K' (a.put oi.dst undef) w)
    (hi : l[i]? = some oi := by exact rfl) (hr : Region.ready md l.toArray listed = [i] := by kernel_rfl) : wpAnyK P md l.toArray Q S E (fuel + 1) listed a w :=
  wpAnyK_ready (rs := [i]) hr (by simp) (AllReadyK.cons (at_op _ _ _ hi) h AllReadyK.nil)
set_option maxRecDepth 100000 in
theorem gkl (i : Nat) (h : ∀ K' : Act → World → Prop, Shut (∀ a w, wpAnyK P md l.toArray Q S E fuel (listed.setIfInBounds i true) a w → K' a w) → if Region.wanted oi (yielded l.toArray a.tmps) = true then Oper.wp P oi a w K' Q else K' (a.put oi.dst undef) w)
    (hi : l[i]? = some oi := by exact rfl) (hr : Region.ready md l.toArray listed = [i] := by kernel_rfl) (hE : came E (listed.setIfInBounds i true) = true := by kernel_rfl) : wpAnyK P md l.toArray Q S E (fuel + 1) listed a w :=
  wpAnyK_ready (rs := [i]) hr (by simp) (AllReadyK.late (at_op _ _ _ hi) hE h AllReadyK.nil)
end
end Go.Proofs.YtpmfedimjjifaaaGreatDoor
