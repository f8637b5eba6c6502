/- Points that a shape of a kind may have, and parts; no statement of the seat is proved here. -/
import Derived.Test.YtjieegnmofimkaaDoorAg
import Derived.Laws.StructEq
namespace Go.Proofs.YtjieegnmofimkaaDoor
open Go.RowKit Go.Maps

def ringB (l : List (Int × Int)) : Bool := decide (4 ≤ l.length) && (l.getD 0 (0, 0) == l.getD (l.length - 1) (0, 0))
/-- May these be a shape's points? -/
def gpB (k : Int) (l : List (Int × Int)) : Bool := if k = 0 then ringB l else if k = 1 then decide (l.length ≤ 1) else if k = 2 then !(l.length == 1) else l.length == 0

theorem part41 (W : World) (a b : Value) : (part 3 #[a, b] 0).run Tryd.prog W = .ok a W ∧ (part 3 #[a, b] 1).run Tryd.prog W = .ok b W := ⟨by kernel_rfl, by kernel_rfl⟩
theorem point_eqlIn (a b c d : Int) (W : World) : (Op.equalIn 10000 56 (.agg #[.int .i64 a, .int .i64 b]) (.agg #[.int .i64 c, .int .i64 d])).run Tryd.prog W = .ok ((a, b) == (c, d)) W := by
  have e3 : ∀ (x y : Int), (Op.equalIn 9999 3 (.int .i64 x) (.int .i64 y)).run Tryd.prog W = .ok (x == y) W := fun x y => run_equalIn_int W 9998 3 .i64 .i64 x y Tryd.underlying3
  rw [show (10000 : Nat) = 9999 + 1 from rfl, run_equalIn_struct W 9999 56 _ _ (by simp [Program.fieldsOf, Tryd.underlying56]) (by kernel_rfl)]
  simp only [Program.fieldsOf, Tryd.underlying56, Op.eqFields]
  simp [part41, e3, Sem.run_bind, Result.andThen]
  by_cases h1 : a = c <;> by_cases h2 : b = d <;> simp [h1, h2]
theorem point_eql (a b c d : Int) (W : World) : (binOp .eql 56 (.agg #[.int .i64 a, .int .i64 b]) (.agg #[.int .i64 c, .int .i64 d])).run Tryd.prog W = .ok (.bool ((a, b) == (c, d))) W := by
  rw [run_eql_struct, point_eqlIn]; rfl
theorem point_neq (a b c d : Int) (W : World) : (binOp .neq 56 (.agg #[.int .i64 a, .int .i64 b]) (.agg #[.int .i64 c, .int .i64 d])).run Tryd.prog W = .ok (.bool (!((a, b) == (c, d)))) W := by
  rw [run_neq_struct, point_eqlIn]; rfl
set_option maxRecDepth 100000 in
set_option maxHeartbeats 2000000 in
theorem ring_call (xc m : Nat) (b off : Nat) (a1 a2 b1 b2 : Int) (h3 : 3 ≤ m) (hI : m + 1 ≤ 9223372036854775806) (w : World) (z0 : w.cell? ⟨b, off, none⟩ = some (.int .i64 a1)) (z1 : w.cell? ⟨b, off + 1, none⟩ = some (.int .i64 a2)) (z2 : w.cell? ⟨b, off + m * 2, none⟩ = some (.int .i64 b1)) (z3 : w.cell? ⟨b, off + m * 2 + 1, none⟩ = some (.int .i64 b2)) :
    Calls Tryd.prog 72 #[.int .i64 0, .slice (some ⟨b, off, none⟩) (m + 1) xc] w fun e w' => e = .returned (.bool ((a1, a2) == (b1, b2))) ∧ Below w.heap.size w w' := by
  have hmx : Tryd.prog.follows .mixedOrders = true := follows_mixed
  have h4 : (4 : Int) ≤ (m : Int) + 1 := by omega
  have PE := point_eql a1 a2 b1 b2
  generalize ((a1, a2) == (b1, b2)) = bb at *
  go_enter Tryd.func72, Tryd.ntmps72
  go_wp2
  go_region
  all_goals (go_wp2; go_ret; exact ⟨rfl, undrew (Below.refl _ _)⟩)
set_option maxRecDepth 100000 in
set_option maxHeartbeats 2000000 in
theorem goodPoints_call (S : Nat → Prop) (s : Sh) (w : World) (h : Here S w s) : Calls Tryd.prog 72 #[.int .i64 s.k, .slice s.xo s.xn s.xc] w fun e w' => e = .returned (.bool (gpB s.k s.xy)) ∧ Below w.heap.size w w' := by
  have hl := h.xl
  have hI := h.lenI.1
  unfold gpB
  by_cases k0 : s.k = 0
  · rw [k0, if_pos rfl]
    by_cases h4 : 4 ≤ s.xn
    · obtain ⟨m, hm⟩ : ∃ m, s.xn = m + 1 := ⟨s.xn - 1, by omega⟩
      obtain ⟨p, hp⟩ : ∃ p, s.xy[0]? = some p := ⟨_, List.getElem?_eq_getElem (by omega)⟩
      obtain ⟨q, hq⟩ : ∃ q, s.xy[m]? = some q := ⟨_, List.getElem?_eq_getElem (by omega)⟩
      obtain ⟨b, off, hxo, _, hat⟩ := h.xr.resolve_left (by intro e; rw [e] at hp; simp at hp)
      obtain ⟨z0, z1⟩ := hat 0 p hp
      obtain ⟨z2, z3⟩ := hat m q hq
      rw [Nat.zero_mul, Nat.add_zero] at z0 z1
      rw [show ringB s.xy = ((p.1, p.2) == (q.1, q.2)) by
        unfold ringB
        rw [show s.xy.length - 1 = m by omega, show decide (4 ≤ s.xy.length) = true by simp; omega]
        simp [List.getD, hp, hq], hxo, hm]
      exact ring_call s.xc m b off p.1 p.2 q.1 q.2 (by omega) (by omega) w z0 z1 z2 z3
    · rw [show ringB s.xy = false by unfold ringB; rw [show decide (4 ≤ s.xy.length) = false by simp; omega]; rfl]
      have h4' : (s.xn : Int) < 4 := by omega
      clear h4
      have hmx : Tryd.prog.follows .mixedOrders = true := follows_mixed
      clear h hl
      go_enter Tryd.func72, Tryd.ntmps72
      go_wp2
      refine wp_region_K (S := (fun _ => True)) (fun _ => false) (by kernel_rfl) (by exact trivial) (fun hHeld => ?_)
      refine gkp 0 ?_
      refine gkp 1 ?_
      refine gkp 2 ?_ (v := .bool false) (h := by intro W hSw; go_simp)
      refine gkp 3 ?_
      refine gku 4 ?_
      refine gku 5 ?_
      refine gku 6 ?_
      refine gku 7 ?_
      refine gku 8 ?_
      refine gku 9 ?_
      refine gku 10 ?_
      refine gku 11 ?_
      refine gku 12 ?_
      refine gku 13 ?_
      refine gkp 14 ?_
      refine gkp 15 ?_
      refine wpAnyK_done (by kernel_rfl) ?_ _
      go_wp2
      go_ret
      exact ⟨rfl, undrew (Below.refl _ _)⟩
  · rw [if_neg k0]
    have n0 : (s.k == 0) = false := by simp [k0]
    clear k0
    by_cases k1 : s.k = 1
    · rw [if_pos k1]
      rw [k1] at *
      rw [show decide (s.xy.length ≤ 1) = decide ((s.xn : Int) ≤ 1) by rw [hl]; simp; omega]
      clear h hl
      go_enter Tryd.func72, Tryd.ntmps72
      go_wp2
      go_ret
      exact ⟨rfl, Below.refl _ _⟩
    · rw [if_neg k1]
      have n1 : (s.k == 1) = false := by simp [k1]
      clear k1
      by_cases k2 : s.k = 2
      · rw [if_pos k2]
        rw [k2] at *
        rw [show (s.xy.length == 1) = ((s.xn : Int) == 1) by rw [hl]; rw [Bool.eq_iff_iff]; simp; omega]
        clear h hl
        go_enter Tryd.func72, Tryd.ntmps72
        go_wp2
        go_ret
        exact ⟨rfl, Below.refl _ _⟩
      · rw [if_neg k2]
        have n2 : (s.k == 2) = false := by simp [k2]
        clear k2
        rw [show (s.xy.length == 0) = ((s.xn : Int) == 0) by rw [hl]; rw [Bool.eq_iff_iff]; simp]
        clear h hl
        go_enter Tryd.func72, Tryd.ntmps72
        go_wp2
        go_ret
        exact ⟨rfl, Below.refl _ _⟩

/-- Is a shape, without its parts' own, as told? -/
def goodB (s : Sh) : Bool := isK s.k && gpB s.k s.xy && s.ps.all fun p => decide (rlo s.k ≤ p.k) && decide (p.k ≤ rhi s.k)
def GdI (s : Sh) (w : World) (n : ByteArray) (l h : Int) (q : Nat) (c : Value) (W : World) : Prop := ∃ i : Nat, i ≤ s.pn ∧ c = .int .i64 (i : Int) ∧ (s.ps.all fun p => decide (l ≤ p.k) && decide (p.k ≤ h)) = ((s.ps.drop i).all fun p => decide (l ≤ p.k) && decide (p.k ≤ h)) ∧ Hid (Below w.heap.size w W) ∧ Hid (RB3 W q n l h)
set_option maxRecDepth 100000 in
set_option maxHeartbeats 4000000 in
theorem good_call (s : Sh) (w : World) (hT : Tab w) (h : Here (fun b => b < w.heap.size) w s) : Calls Tryd.prog 42 #[.agg #[.int .i64 (s).k, .slice (s).xo (s).xn (s).xc, .slice (s).po (s).pn (s).pc]] w fun e w' => e = .returned (.bool (goodB s)) ∧ Below w.heap.size w w' := by
  have hI := h.lenI.2
  have B1 := hid (Bx.new w s)
  obtain ⟨x0, x1, x2⟩ := B1.out.cells
  have b0 : Hid (Below w.heap.size w (w.alloc (.cells #[.int .i64 (s).k, .slice (s).xo (s).xn (s).xc, .slice (s).po (s).pn (s).pc] 25))) := hid (ext1 _)
  have C1 := hid (ruleOf_call s.k (w.alloc (.cells #[.int .i64 (s).k, .slice (s).xo (s).xn (s).xc, .slice (s).po (s).pn (s).pc] 25)) (hT.keep (ext1 _)))
  have H := hid h
  have C2 := hid (fun W (hb : Below w.heap.size w W) => goodPoints_call (fun b => b < w.heap.size) s W (h.of fun b hb' => ⟨hb.block b hb', hb'⟩))
  have HG := hid (show goodB s = (isK s.k && gpB s.k s.xy && s.ps.all fun p => decide (rlo s.k ≤ p.k) && decide (p.k ≤ rhi s.k)) from rfl)
  clear h hT
  generalize goodB s = gb at *
  generalize rnm s.k = n at *
  generalize rlo s.k = l at *
  generalize rhi s.k = hh at *
  generalize gpB s.k s.xy = gp at *
  cases hk : isK s.k with
  | false =>
    rw [hk] at C1 HG
    rw [show gb = false by rw [HG.out]; rfl]
    clear hk
    go_enter Tryd.func42, Tryd.ntmps42
    go_wp2_with (go_at_call 71; refine C1.out.mono ?_; rintro e w1 ⟨rfl, hb1⟩; have H1 := hid hb1; clear hb1)
    go_ret
    exact ⟨rfl, gt (ext1 _) (gt H1.out (ext1 _))⟩
  | true =>
    rw [hk] at C1 HG
    clear hk
    cases hg : gp with
    | false =>
      rw [hg] at C2 HG
      rw [show gb = false by rw [HG.out]; rfl]
      clear hg
      go_enter Tryd.func42, Tryd.ntmps42
      go_wp2_with (first
        | (go_at_call 71; refine C1.out.mono ?_; rintro e w1 ⟨rfl, hb1⟩; have H1 := hid hb1; clear hb1; have B2 := hid ((B1.out.keep H1.out).keep (ext1 (.cells #[.string n, .int .i64 l, .int .i64 hh] 113))); obtain ⟨y0, y1, y2⟩ := B2.out.cells)
        | (go_at_call 72; refine (C2.out _ (gt b0.out (gt H1.out (ext1 _)))).mono ?_; rintro e w2 ⟨rfl, hb2⟩; have H2 := hid hb2; clear hb2))
      go_ret
      exact ⟨rfl, gt (ext1 _) (gt H1.out (gt (ext1 _) H2.out))⟩
    | true =>
      rw [hg] at C2 HG
      clear hg
      go_enter Tryd.func42, Tryd.ntmps42
      go_wp2_with (first
        | (go_at_call 71; refine C1.out.mono ?_; rintro e w1 ⟨rfl, hb1⟩; have H1 := hid hb1; clear hb1; have B2 := hid ((B1.out.keep H1.out).keep (ext1 (.cells #[.string n, .int .i64 l, .int .i64 hh] 113))); obtain ⟨y0, y1, y2⟩ := B2.out.cells)
        | (go_at_call 72; refine (C2.out _ (gt b0.out (gt H1.out (ext1 _)))).mono ?_; rintro e w2 ⟨rfl, hb2⟩; have H2 := hid hb2; clear hb2; have B3 := hid (B2.out.keep H2.out); obtain ⟨v0, v1, v2⟩ := B3.out.cells; have R3 := hid ((RB3.new w1 n l hh).keep H2.out)))
      have BB := hid (gt b0.out (gt H1.out (gt (ext1 (.cells #[.string n, .int .i64 l, .int .i64 hh] 113)) H2.out)))
      have hz1 := H1.out.size
      generalize w1.heap.size = q at *
      clear x0 x1 x2 y0 y1 y2 v0 v1 v2 B1 B2 B3 H1 H2 C1 C2 b0
      go_loopw [26] (GdI s w n l hh q) (fun c _ => s.pn - (intOf c).toNat)
      case atStart => exact ⟨0, by omega, rfl, rfl, BB, R3⟩
      case round =>
        obtain ⟨i, hi, rfl, hpl, hb, hR⟩ := hrel
        have HP := hid hpl
        obtain ⟨r0, r1, r2⟩ := hR.out.cells
        clear hpl
        by_cases hik : i < s.pn
        · obtain ⟨p, hp⟩ : ∃ p, s.ps[i]? = some p := ⟨_, List.getElem?_eq_getElem (by rw [H.out.pl]; exact hik)⟩
          obtain ⟨b, off, hxo, hbl, hat⟩ := H.out.pr.resolve_left (by intro e; rw [e] at hp; simp at hp)
          obtain ⟨z0, z1, z2⟩ := (hat i p hp).of (w' := wr) (hb.out.block b hbl)
          rw [hxo] at *
          rw [drop_at hp] at HP
          have HC := hid (fun W => holds_call n l hh p.k W)
          have r0' := keep_old (ext1 (.cells #[.int .i64 (p).k, .slice (p).xo (p).xn (p).xc, .slice (p).po (p).pn (p).pc] 25)) r0
          have r1' := keep_old (ext1 (.cells #[.int .i64 (p).k, .slice (p).xo (p).xn (p).xc, .slice (p).po (p).pn (p).pc] 25)) r1
          have r2' := keep_old (ext1 (.cells #[.int .i64 (p).k, .slice (p).xo (p).xn (p).xc, .slice (p).po (p).pn (p).pc] 25)) r2
          have HP2 := hid (show ((p :: s.ps.drop (i + 1)).all fun p => decide (l ≤ p.k) && decide (p.k ≤ hh)) = ((decide (l ≤ p.k) && decide (p.k ≤ hh)) && ((s.ps.drop (i + 1)).all fun p => decide (l ≤ p.k) && decide (p.k ≤ hh))) from rfl)
          generalize (decide (l ≤ p.k) && decide (p.k ≤ hh)) = hb9 at HC HP2
          clear hat hxo hp
          cases hb9 with
          | false =>
            go_wp2_with (go_at_call 73; refine (HC.out _).mono ?_; rintro e w3 ⟨rfl, hb3⟩; have H3 := hid hb3; clear hb3)
            go_ret
            exact ⟨(by rw [HG.out, HP.out, HP2.out]; rfl), gt hb.out (gt (ext1 _) H3.out)⟩
          | true =>
            go_wp2_with (go_at_call 73; refine (HC.out _).mono ?_; rintro e w3 ⟨rfl, hb3⟩; have H3 := hid hb3; clear hb3)
            go_roundw
            case measure => simp [intOf]; omega
            case rel => exact ⟨i + 1, by omega, by go_num, (by rw [HP.out, HP2.out, Bool.true_and]), gt hb.out (gt (ext1 _) H3.out), (hR.out.keep (ext1 _)).keep H3.out⟩
        · obtain rfl : i = s.pn := by omega
          rw [List.drop_of_length_le (by rw [H.out.pl]; omega)] at HP
          go_wp2
          go_ret
          exact ⟨(by rw [HG.out, HP.out]; rfl), hb.out⟩
end Go.Proofs.YtjieegnmofimkaaDoor
