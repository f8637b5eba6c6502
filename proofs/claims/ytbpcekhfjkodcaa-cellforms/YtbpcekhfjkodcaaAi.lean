/- What the writer's above and inLeaf put; no statement of the seat is proved here. -/
import Derived.Test.YtbpcekhfjkodcaaAh
namespace Go.Proofs.Ytbpcekhfjkodcaa
open Go.RowKit

theorem S5.grown {q p : Nat} {a : C} {w w' : World} (h : S5 q a w) (hg : w.grownBy w' (some p)) (hne : q ≠ p) : S5 q a w' :=
  ⟨grow_cell hg h.1 hne, grow_cell hg h.2.1 hne, grow_cell hg h.2.2.1 hne, grow_cell hg h.2.2.2.1 hne, grow_cell hg h.2.2.2.2 hne⟩

theorem wnum4 (q : Nat) (ys : List Nat) (v : Int) (W : World) (h : WB W q ys) (hn : ys.length + 4 ≤ 512) :
    Calls Try.prog 61 #[.pointer (some ⟨q, 0, none⟩), .int .i64 v, .int .i64 4] W fun e w' => e = .returned (.tuple #[]) ∧ WB w' q (ys ++ putN (uN v) 4 false) ∧ W.grownBy w' (some q) := wnum_any q ys v 4 W h (by omega) hn
theorem wnum2 (q : Nat) (ys : List Nat) (v : Int) (W : World) (h : WB W q ys) (hn : ys.length + 2 ≤ 512) :
    Calls Try.prog 61 #[.pointer (some ⟨q, 0, none⟩), .int .i64 v, .int .i64 2] W fun e w' => e = .returned (.tuple #[]) ∧ WB w' q (ys ++ putN (uN v) 2 false) ∧ W.grownBy w' (some q) := wnum_any q ys v 2 W h (by omega) hn
theorem wnum1 (q : Nat) (ys : List Nat) (v : Int) (W : World) (h : WB W q ys) (hn : ys.length + 1 ≤ 512) :
    Calls Try.prog 61 #[.pointer (some ⟨q, 0, none⟩), .int .i64 v, .int .i64 1] W fun e w' => e = .returned (.tuple #[]) ∧ WB w' q (ys ++ putN (uN v) 1 false) ∧ W.grownBy w' (some q) := wnum_any q ys v 1 W h (by omega) hn

set_option maxHeartbeats 1000000 in
theorem wabove_any (q : Nat) (ys : List Nat) (a : C) (W : World) (h : WB W q ys) (hk : I64 a.k) (hn : ys.length + (oneN false a).length ≤ 512) :
    Calls Try.prog 59 #[.pointer (some ⟨q, 0, none⟩), .agg #[.int .i64 (a).k, .int .i64 (a).c, .int .i64 (a).l, .slice (a).o (a).n (a).m, .int .i64 (a).x]] W fun e w' => e = .returned (.tuple #[]) ∧ WB w' q (ys ++ oneN false a) ∧ W.grownBy w' (some q) := by
  have hql := lt_of_block h.2
  have hne : W.heap.size ≠ q := by omega
  have c1 := hid (wnum4 q ys a.c _ (h.keep (ext1 (.cells #[.int .i64 a.k, .int .i64 a.c, .int .i64 a.l, .slice a.o a.n a.m, .int .i64 a.x] 57))) (by rw [oneN_length] at hn; simp at hn; omega))
  have g0 := hid (S5.new 57 W a)
  have B0 : Hid (Below W.heap.size W (W.alloc (.cells #[.int .i64 a.k, .int .i64 a.c, .int .i64 a.l, .slice a.o a.n a.m, .int .i64 a.x] 57))) := hid (ext1 _)
  have cz := hid (zig_any a.k hk)
  have hz := hid (zigN_lt a.k hk)
  have hn' : Hid (ys.length + 4 + szN (zigN a.k) ≤ 512) := hid (by rw [oneN_length] at hn; simp at hn; omega)
  have e1 : oneN false a = putN (uN a.c) 4 false ++ varN (zigN a.k) := rfl
  rw [e1]
  generalize zigN a.k = z at *
  clear e1 hn h hql
  replace hne := hid hne
  go_enter Try.func59, Try.ntmps59
  go_wp2_with (first
    | (go_at_call 61; refine c1.out.mono ?_; rintro e w1 ⟨rfl, hw, hg⟩; have W1 := hid hw; have G1 := hid (grow_trans (grow_below B0.out) hg); obtain ⟨y0, y1, y2, y3, y4⟩ := g0.out.grown hg hne.out; clear hw hg c1)
    | (go_at_call 24; refine (cz.out _).mono ?_; rintro e w2 ⟨rfl, hw⟩; obtain rfl := hw.symm)
    | (go_at_call 77; refine (wvar_any q _ z _ W1.out hz.out (by have := hn'.out; simp [putN_length]; omega)).mono ?_; rintro e w3 ⟨rfl, hw, hg⟩; have W3 := hid hw; have G3 := hid hg; clear hw hg))
  go_end0
  have := W3.out
  rw [List.append_assoc] at this
  exact ⟨rfl, this, grow_trans G1.out G3.out⟩

set_option maxHeartbeats 2000000 in
theorem winleaf_any (q : Nat) (ys : List Nat) (a : C) (W : World) (h : WB W q ys) (ha : Cok W a) (hq : 0 < a.n → ∀ g o, a.o = some ⟨g, o, none⟩ → g ≠ q) (hn : ys.length + (oneN true a).length ≤ 512) :
    Calls Try.prog 60 #[.pointer (some ⟨q, 0, none⟩), .agg #[.int .i64 (a).k, .int .i64 (a).c, .int .i64 (a).l, .slice (a).o (a).n (a).m, .int .i64 (a).x]] W fun e w' => e = .returned (.tuple #[]) ∧ WB w' q (ys ++ oneN true a) ∧ W.grownBy w' (some q) := by
  have hql := lt_of_block h.2
  have hne := hid (show W.heap.size ≠ q by omega)
  have hk := ha.kI
  have cz := hid (zig_any a.k hk)
  have hz := hid (zigN_lt a.k hk)
  have hu := uN_wrap a.l
  have hul := hid (uN_lt a.l)
  have hrl := ha.rd.1
  have g0 := hid (S5.new 57 W a)
  have B0 : Hid (Below W.heap.size W (W.alloc (.cells #[.int .i64 a.k, .int .i64 a.c, .int .i64 a.l, .slice a.o a.n a.m, .int .i64 a.x] 57))) := hid (ext1 _)
  have h0 := hid (h.keep B0.out)
  have R0 := hid (ha.rd.keep B0.out)
  have hq' := hid hq
  have csp := hid (fun w => spills_any a w hrl)
  have hrl' := hid hrl
  obtain ⟨s1, hs1⟩ : ∃ s, s = szN (zigN a.k) := ⟨_, rfl⟩
  obtain ⟨s2, hs2⟩ : ∃ s, s = szN (uN a.l) := ⟨_, rfl⟩
  have hn' : Hid (ys.length + (s1 + s2 + a.n + (if spillB a = true then 4 else 0)) ≤ 512) := hid (by rw [oneN_length, ← hs1, ← hs2, hrl] at hn; simpa using hn)
  have l1 : Hid ((varN (zigN a.k)).length = s1) := hid (by rw [varN_length, hs1])
  have l2 : Hid ((varN (uN a.l)).length = s2) := hid (by rw [varN_length, hs2])
  have e1 : oneN true a = varN (zigN a.k) ++ varN (uN a.l) ++ a.b ++ (if spillB a then putN (uN a.x) 4 false else []) := rfl
  rw [e1]
  replace hs1 := hid hs1
  replace hs2 := hid hs2
  generalize zigN a.k = z at *
  generalize uN a.l = u at *
  clear e1 hn h hql ha hq hk hrl
  cases hsp : spillB a with
  | false =>
    rw [hsp] at csp hn'
    simp only [Bool.false_eq_true, if_false, Nat.add_zero] at hn' ⊢
    clear hsp
    go_enter Try.func60, Try.ntmps60
    go_wp2_with (first
      | (go_at_call 24; refine (cz.out _).mono ?_; rintro e w2 ⟨rfl, hw⟩; obtain rfl := hw.symm; clear cz)
      | (go_at_call 77; refine (wvar_any q ys z _ h0.out hz.out (by have := hn'.out; have := hs1.out; omega)).mono ?_; rintro e w1 ⟨rfl, hw, hg⟩; have W1 := hid hw; have G1 := hid (grow_trans (grow_below B0.out) hg); have g1 := hid (g0.out.grown hg hne.out); have R1 := hid (R0.out.grown hg hq'.out); obtain ⟨y0, y1, y2, y3, y4⟩ := g1.out; clear hw hg h0 R0 g0)
      | (go_at_call 77; refine (wvar_any q _ u _ W1.out hul.out (by have := hn'.out; have := hs2.out; have := l1.out; simp; omega)).mono ?_; rintro e w3 ⟨rfl, hw, hg⟩; have W3 := hid hw; have G3 := hid (grow_trans G1.out hg); have g3 := hid (g1.out.grown hg hne.out); have R3 := hid (R1.out.grown hg hq'.out); clear y0 y1 y2 y3 y4; obtain ⟨y0, y1, y2, y3, y4⟩ := g3.out; clear hw hg W1 R1 g1)
      | (go_at_call 78; refine (wbytes_any q _ _ _ _ _ _ W3.out R3.out (by have := hn'.out; have := l1.out; have := l2.out; simp; omega)).mono ?_; rintro e w4 ⟨rfl, hw, hg⟩; have W4 := hid hw; have G4 := hid (grow_trans G3.out hg); have g4 := hid (g3.out.grown hg hne.out); clear y0 y1 y2 y3 y4; obtain ⟨y0, y1, y2, y3, y4⟩ := g4.out; clear hw hg W3 R3 g3)
      | (go_at_call 67; refine (csp.out _).mono ?_; rintro e w5 ⟨rfl, hb⟩; have B5 := hid hb; clear hb))
    go_end0
    have := W4.out.keep B5.out
    rw [List.append_nil, ← List.append_assoc, ← List.append_assoc]
    exact ⟨rfl, this, grow_trans G4.out (grow_below B5.out)⟩
  | true =>
    rw [hsp] at csp hn'
    simp only [if_true] at hn' ⊢
    clear hsp
    go_enter Try.func60, Try.ntmps60
    go_wp2_with (first
      | (go_at_call 24; refine (cz.out _).mono ?_; rintro e w2 ⟨rfl, hw⟩; obtain rfl := hw.symm; clear cz)
      | (go_at_call 77; refine (wvar_any q ys z _ h0.out hz.out (by have := hn'.out; have := hs1.out; omega)).mono ?_; rintro e w1 ⟨rfl, hw, hg⟩; have W1 := hid hw; have G1 := hid (grow_trans (grow_below B0.out) hg); have g1 := hid (g0.out.grown hg hne.out); have R1 := hid (R0.out.grown hg hq'.out); obtain ⟨y0, y1, y2, y3, y4⟩ := g1.out; clear hw hg h0 R0 g0)
      | (go_at_call 77; refine (wvar_any q _ u _ W1.out hul.out (by have := hn'.out; have := hs2.out; have := l1.out; simp; omega)).mono ?_; rintro e w3 ⟨rfl, hw, hg⟩; have W3 := hid hw; have G3 := hid (grow_trans G1.out hg); have g3 := hid (g1.out.grown hg hne.out); have R3 := hid (R1.out.grown hg hq'.out); clear y0 y1 y2 y3 y4; obtain ⟨y0, y1, y2, y3, y4⟩ := g3.out; clear hw hg W1 R1 g1)
      | (go_at_call 78; refine (wbytes_any q _ _ _ _ _ _ W3.out R3.out (by have := hn'.out; have := l1.out; have := l2.out; simp; omega)).mono ?_; rintro e w4 ⟨rfl, hw, hg⟩; have W4 := hid hw; have G4 := hid (grow_trans G3.out hg); have g4 := hid (g3.out.grown hg hne.out); clear y0 y1 y2 y3 y4; obtain ⟨y0, y1, y2, y3, y4⟩ := g4.out; clear hw hg W3 R3 g3)
      | (go_at_call 67; refine (csp.out _).mono ?_; rintro e w5 ⟨rfl, hb⟩; have B5 := hid hb; have W5 := hid (W4.out.keep hb); have g5 := hid (g4.out.keep hb); clear y0 y1 y2 y3 y4; obtain ⟨y0, y1, y2, y3, y4⟩ := g5.out; clear hb)
      | (go_at_call 61; refine (wnum4 q _ a.x _ W5.out (by have := hn'.out; have := l1.out; have := l2.out; have := hrl'.out; simp; omega)).mono ?_; rintro e w6 ⟨rfl, hw, hg⟩; have W6 := hid hw; have G6 := hid hg; clear hw hg))
    go_end0
    have := W6.out
    rw [← List.append_assoc, ← List.append_assoc, ← List.append_assoc]
    exact ⟨rfl, this, grow_trans (grow_trans G4.out (grow_below B5.out)) G6.out⟩

end Go.Proofs.Ytbpcekhfjkodcaa
