/- What the document's own Good returns; no statement of the seat is proved here. -/
import Derived.Test.YtbpcekhfjkodcaaBb
namespace Go.Proofs.Ytbpcekhfjkodcaa
open Go.RowKit

def above (p : Option Int) (k : Int) : Bool := match p with | none => true | some z => decide (z < k)
/-- Are the cells good, and do their keys rise from p on? -/
def okFrom (leaf : Bool) : Option Int → List C → Bool
  | _, [] => true
  | p, a :: l => cellB leaf a && (above p a.k && okFrom leaf (some a.k) l)
theorem ok_rise (leaf : Bool) (a : C) (l : List C) : okFrom leaf (some a.k) l = (riseB (a :: l) && l.all (cellB leaf)) := by
  induction l generalizing a with
  | nil => rfl
  | cons b r ih =>
    simp only [okFrom, ih, above, rise_cons, List.all_cons]
    cases cellB leaf b <;> cases decide (a.k < b.k) <;> simp
theorem ok_none (leaf : Bool) (cs : List C) : okFrom leaf none cs = (riseB cs && cs.all (cellB leaf)) := by
  cases cs with
  | nil => rfl
  | cons a l =>
    simp only [okFrom, ok_rise, above, List.all_cons]
    cases cellB leaf a <;> simp
def headB (leaf : Bool) (r : Int) : Bool := if leaf then r == 0 else pagedB r
theorem good_ok (leaf : Bool) (r : Int) (cs : List C) : goodN leaf r cs = (headB leaf r && okFrom leaf none cs) := by
  rw [ok_none]
  unfold goodN headB
  cases leaf
  · have : cs.all (cellB false) = cs.all aboveB := rfl
    rw [this]
    simp only [Bool.false_eq_true, if_false]
    cases riseB cs <;> cases pagedB r <;> simp
  · have : cs.all (cellB true) = cs.all leafB := rfl
    rw [this]
    simp only [if_true]
    cases riseB cs <;> cases (r == 0) <;> simp
def prevK (cs : List C) (i : Nat) : Option Int := if i = 0 then none else some (cs.getD (i - 1) default).k

/-- What a walk over one cell and its neighbour asks of the memory. -/
abbrev SG (qb q b o n m op : Nat) (leaf : Bool) (pk : Int) (a : C) (W : World) : Prop :=
  S5 qb a W ∧ W.cell? ⟨q, 0, none⟩ = some (.bool leaf) ∧ W.cell? ⟨q, 2, none⟩ = some (.slice (some ⟨b, o, none⟩) n m) ∧ W.cell? ⟨b, op, none⟩ = some (.int .i64 pk)
theorem SG.keep {qb q b o n m op : Nat} {leaf : Bool} {pk : Int} {a : C} {w w' : World} (h : SG qb q b o n m op leaf pk a w) (hb : Below w.heap.size w w') : SG qb q b o n m op leaf pk a w' :=
  ⟨h.1.keep hb, keep_old hb h.2.1, keep_old hb h.2.2.1, keep_old hb h.2.2.2⟩

set_option maxHeartbeats 1000000 in
theorem rgood_head (leaf : Bool) (r : Int) (co : Option Addr) (cn cc : Nat) (w : World) (hh : headB leaf r = false) :
    Calls Try.prog 13 #[.agg #[.bool leaf, .int .i64 r, .slice co cn cc]] w fun e w' => e = .returned (.bool false) ∧ Below w.heap.size w w' := by
  have cp := hid (rpage_any r)
  unfold headB at hh
  cases leaf with
  | false =>
    simp only [Bool.false_eq_true, if_false] at hh
    rw [hh] at cp
    clear hh
    go_enter Try.func13, Try.ntmps13
    go_wp2_with (go_at_call 42; refine (cp.out _).mono ?_; rintro e w1 ⟨rfl, hw⟩; obtain rfl := hw.symm)
    go_ret
    exact ⟨rfl, ext1 _⟩
  | true =>
    simp only [if_true] at hh
    have hne : (r != 0) = true := by simp [bne, hh]
    go_enter Try.func13, Try.ntmps13
    go_wp2
    go_ret
    exact ⟨rfl, ext1 _⟩

set_option maxHeartbeats 8000000 in
theorem rgood_body (leaf : Bool) (r : Int) (co : Option Addr) (cn cc : Nat) (cs : List C) (w : World) (h : Cs w co cn cc cs) (hcn : cn ≤ 100000) (hh : headB leaf r = true) :
    Calls Try.prog 13 #[.agg #[.bool leaf, .int .i64 r, .slice co cn cc]] w fun e w' => e = .returned (.bool (okFrom leaf none cs)) ∧ Below w.heap.size w w' := by
  have cp := hid (rpage_any r)
  have h' := hid h
  have hl' := hid h.len
  obtain ⟨V, hV⟩ : ∃ V, V = okFrom leaf none cs := ⟨_, rfl⟩
  have hV' := hid hV
  rw [← hV]
  clear h hV
  have q0 := hid (NB.new 33 w leaf r co cn cc)
  have b0 : Hid (Below w.heap.size w (w.alloc (.cells #[.bool leaf, .int .i64 r, .slice co cn cc] 33))) := hid (ext1 _)
  have hq0 : Hid (q0.out = q0.out) := hid rfl
  clear hq0
  unfold headB at hh
  cases leaf with
  | false =>
    simp only [Bool.false_eq_true, if_false] at hh
    rw [hh] at cp
    clear hh
    go_enter Try.func13, Try.ntmps13
    go_wp2_with (go_at_call 42; refine (cp.out _).mono ?_; rintro e w1 ⟨rfl, hw⟩; obtain rfl := hw.symm)
    generalize w.alloc (.cells #[.bool false, .int .i64 r, .slice co cn cc] 33) = w0 at *
    go_loopw [26] (fun c W => ∃ (i : Nat), i ≤ cn ∧ c = .int .i64 (i : Int) ∧ okFrom false (prevK cs i) (cs.drop i) = V ∧ NB 33 W w.heap.size false r co cn cc ∧ Below w.heap.size w W) (fun c _ => cn - (intOf c).toNat)
    case atStart => exact ⟨0, by omega, rfl, hV'.out.symm, q0.out, b0.out⟩
    case round =>
      obtain ⟨i, hi, rfl, he, hq, hb⟩ := hrel
      have he' := hid he
      have hq' := hid hq
      have hb' := hid hb
      obtain ⟨u0, u1, u2⟩ := hq.cells
      have hlt := hq.lt
      clear he hq hb
      by_cases hik : i < cn
      · obtain ⟨b, off, rfl, hc⟩ := h'.out.at_ (by omega)
        have ha := (h'.out.ok_at hik).rd.1
        have X := hid ((hc i hik).keep hb'.out)
        have Y := hid (fun j (hj : j < cn) => ((hc j hj).keep hb'.out).1)
        have hd := dropC cs i (by have := hl'.out; omega)
        have hp1 : prevK cs (i + 1) = some (cs.getD i default).k := by simp [prevK]
        obtain ⟨a, haE⟩ : ∃ a, a = cs.getD i default := ⟨_, rfl⟩
        rw [← haE] at ha X hd hp1
        rw [hd] at he'
        have cr := hid (fun W => right_any false a W ha)
        have hE := he'.out
        simp only [okFrom] at hE
        obtain ⟨x0, x1, x2, x3, x4⟩ := X.out
        have BA : Hid (Below wr.heap.size wr (wr.alloc (.cells #[.int .i64 a.k, .int .i64 a.c, .int .i64 a.l, .slice a.o a.n a.m, .int .i64 a.x] 69)).drew) := hid (ext1 _).drew
        have F5 := (S5.new 69 wr a).keep (Below.refl _ _).drew
        have v0 := keep_old BA.out u0
        have v2 := keep_old BA.out u2
        have N1 := hid (hq'.out.keep BA.out)
        have BB := hid (gt hb'.out BA.out)
        replace haE := hid haE
        replace hp1 := hid hp1
        replace hd := hid hd
        clear hc ha he' X
        cases hr : cellB false a with
        | false =>
          obtain rfl : V = false := by rw [← hE, hr]; rfl
          rw [hr] at cr
          clear hE hr
          have g1 : SG wr.heap.size w.heap.size b off cn cc (off + i * 5) false a.k a (wr.alloc (.cells #[.int .i64 a.k, .int .i64 a.c, .int .i64 a.l, .slice a.o a.n a.m, .int .i64 a.x] 69)).drew := ⟨F5, v0, v2, keep_old BA.out x0⟩
          clear F5 v0 v2
          go_upto_region 6 with fail
          refine wp_region_K (S := SG wr.heap.size w.heap.size b off cn cc (off + i * 5) false a.k a) (fun _ => false) (by kernel_rfl) (g1) (fun hHeld => ?_)
          refine gkt 0 ?_ (h := by intro W hSw; obtain ⟨⟨y0, y1, y2, y3, y4⟩, z0, z2, z3⟩ := hSw; go_simp; first | done | with_reducible rfl)
          refine gkp 1 ?_
          refine gkt 2 ?_ (h := by intro W hSw; obtain ⟨⟨y0, y1, y2, y3, y4⟩, z0, z2, z3⟩ := hSw; go_simp; first | done | with_reducible rfl)
          refine gk1 3 (fun K hK => ?_)
          go_simp
          go_at_call 43; refine (cr.out _).mono ?_; rintro e w1 ⟨rfl, hb⟩; have hR : (SG wr.heap.size w.heap.size b off cn cc (off + i * 5) false a.k a) w1 := hHeld.keep hb; have H1 := hid hb; clear hb
          refine hK.out _ _ hR (fun hHeld => ?_)
          clear hK K
          (try simp only [Act.put, sA, sZ, sS])
          refine gkp 4 ?_
          refine gkp 5 ?_
          refine gku 6 ?_
          refine gku 7 ?_
          refine gku 8 ?_
          refine gku 9 ?_
          refine gku 10 ?_
          refine gku 11 ?_
          refine gku 12 ?_
          refine gku 13 ?_
          refine gku 14 ?_
          refine gku 15 ?_
          refine gku 16 ?_
          refine gku 17 ?_
          refine gku 18 ?_
          refine gku 19 ?_
          refine gkp 20 ?_
          refine wpAnyK_done (by kernel_rfl) ?_ _
          go_wp2
          go_ret
          exact ⟨rfl, gt BB.out H1.out⟩
        | true =>
          rw [hr] at cr hE
          rw [Bool.true_and] at hE
          clear hr
          by_cases hi0 : i = 0
          · have hE2 : okFrom false (some a.k) (cs.drop (i + 1)) = V := by rw [← hE, hi0]; simp [prevK, above]
            have hnp : ¬ (0 : Int) < (i : Int) := by omega
            replace hnp := hid hnp
            clear hi0
            have hE' := hid hE2
            clear hE hE2
            have g1 : SG wr.heap.size w.heap.size b off cn cc (off + i * 5) false a.k a (wr.alloc (.cells #[.int .i64 a.k, .int .i64 a.c, .int .i64 a.l, .slice a.o a.n a.m, .int .i64 a.x] 69)).drew := ⟨F5, v0, v2, keep_old BA.out x0⟩
            clear F5 v0 v2
            go_upto_region 6 with fail
            refine wp_region_K (S := SG wr.heap.size w.heap.size b off cn cc (off + i * 5) false a.k a) (fun _ => false) (by kernel_rfl) (g1) (fun hHeld => ?_)
            refine gkt 0 ?_ (h := by intro W hSw; obtain ⟨⟨y0, y1, y2, y3, y4⟩, z0, z2, z3⟩ := hSw; go_simp; first | done | with_reducible rfl)
            refine gkp 1 ?_
            refine gkt 2 ?_ (h := by intro W hSw; obtain ⟨⟨y0, y1, y2, y3, y4⟩, z0, z2, z3⟩ := hSw; go_simp; first | done | with_reducible rfl)
            refine gk1 3 (fun K hK => ?_)
            go_simp
            go_at_call 43; refine (cr.out _).mono ?_; rintro e w1 ⟨rfl, hb⟩; have hR : (SG wr.heap.size w.heap.size b off cn cc (off + i * 5) false a.k a) w1 := hHeld.keep hb; have H1 := hid hb; clear hb
            refine hK.out _ _ hR (fun hHeld => ?_)
            clear hK K
            (try simp only [Act.put, sA, sZ, sS])
            refine gkp 4 ?_
            refine gkp 5 ?_
            refine gkp 6 ?_
            refine gkp 7 ?_ (v := .bool false) (h := by intro W hSw; go_simp <;> first | done | (have hh := hnp.out; omega) | simp [hnp.out])
            refine gkp 8 ?_
            refine gku 9 ?_
            refine gku 10 ?_
            refine gku 11 ?_
            refine gku 12 ?_
            refine gku 13 ?_
            refine gku 14 ?_
            refine gku 15 ?_
            refine gku 16 ?_
            refine gku 17 ?_
            refine gku 18 ?_
            refine gkp 19 ?_
            refine gkp 20 ?_
            refine wpAnyK_done (by kernel_rfl) ?_ _
            go_wp2
            refine ⟨⟨i + 1, by omega, by go_num, by rw [hp1.out]; exact hE'.out, N1.out.keep H1.out, gt BB.out H1.out⟩, by simp [intOf]; omega⟩
          · obtain ⟨j, hj⟩ : ∃ j, i = j + 1 := ⟨i - 1, by omega⟩
            obtain ⟨p, hpE⟩ : ∃ p, p = cs.getD j default := ⟨_, rfl⟩
            have hpp : prevK cs i = some p.k := by rw [hpE, hj]; simp [prevK]
            rw [hpp] at hE
            have hyk := Y.out j (by omega)
            rw [← hpE] at hyk
            have g1 : SG wr.heap.size w.heap.size b off cn cc (off + j * 5) false p.k a (wr.alloc (.cells #[.int .i64 a.k, .int .i64 a.c, .int .i64 a.l, .slice a.o a.n a.m, .int .i64 a.x] 69)).drew := ⟨F5, v0, v2, keep_old BA.out hyk⟩
            have hj2 : Hid (i = j + 1) := hid hj
            have hjl : j < cn := by omega
            have hij : Hid ((i : Int) = (j : Int) + 1) := hid (by omega)
            have hip : (0 : Int) < (i : Int) := by omega
            clear F5 v0 v2 hyk hpp hpE Y
            by_cases hk : p.k < a.k
            · have hE2 : okFrom false (some a.k) (cs.drop (i + 1)) = V := by rw [← hE]; simp [above, hk]
              have hE' := hid hE2
              replace hk := hid (show ¬ a.k ≤ p.k by omega)
              clear hE hE2 hj hi0
              go_upto_region 6 with fail
              refine wp_region_K (S := SG wr.heap.size w.heap.size b off cn cc (off + j * 5) false p.k a) (fun _ => false) (by kernel_rfl) (g1) (fun hHeld => ?_)
              refine gkt 0 ?_ (h := by intro W hSw; obtain ⟨⟨y0, y1, y2, y3, y4⟩, z0, z2, z3⟩ := hSw; go_simp; first | done | with_reducible rfl)
              refine gkp 1 ?_
              refine gkt 2 ?_ (h := by intro W hSw; obtain ⟨⟨y0, y1, y2, y3, y4⟩, z0, z2, z3⟩ := hSw; go_simp; first | done | with_reducible rfl)
              refine gk1 3 (fun K hK => ?_)
              go_simp
              go_at_call 43; refine (cr.out _).mono ?_; rintro e w1 ⟨rfl, hb⟩; have hR : (SG wr.heap.size w.heap.size b off cn cc (off + j * 5) false p.k a) w1 := hHeld.keep hb; have H1 := hid hb; clear hb
              refine hK.out _ _ hR (fun hHeld => ?_)
              clear hK K
              (try simp only [Act.put, sA, sZ, sS])
              refine gkp 4 ?_
              refine gkp 5 ?_
              refine gkp 6 ?_
              refine gkp 7 ?_ (v := .bool true) (h := by intro W hSw; go_simp <;> first | done | omega | simp)
              refine gkp 8 ?_
              refine gkp 9 ?_
              refine gkt 10 ?_ (h := by intro W hSw; obtain ⟨⟨y0, y1, y2, y3, y4⟩, z0, z2, z3⟩ := hSw; go_simp; first | done | with_reducible rfl)
              refine gkp 11 ?_
              refine gkp 12 ?_ (v := .int .i64 (j : Int)) (h := by intro W hSw; go_simp <;> (rw [IntKind.wrap_i64]; have hh := hij.out; omega))
              refine gkp 13 ?_
              refine gkp 14 ?_
              refine gkt 15 ?_ (h := by intro W hSw; obtain ⟨⟨y0, y1, y2, y3, y4⟩, z0, z2, z3⟩ := hSw; go_simp; first | done | with_reducible rfl)
              refine gkp 16 ?_
              refine gkt 17 ?_ (h := by intro W hSw; obtain ⟨⟨y0, y1, y2, y3, y4⟩, z0, z2, z3⟩ := hSw; go_simp; first | done | with_reducible rfl)
              refine gkp 18 ?_ (v := .bool false) (h := by intro W hSw; go_simp <;> first | done | simp [hk.out] | (have hh := hk.out; omega))
              refine gkp 19 ?_
              refine gkp 20 ?_
              refine wpAnyK_done (by kernel_rfl) ?_ _
              go_wp2
              refine ⟨⟨i + 1, by omega, by go_num, by rw [hp1.out]; exact hE'.out, N1.out.keep H1.out, gt BB.out H1.out⟩, by simp [intOf]; omega⟩
            · obtain rfl : V = false := by rw [← hE]; simp [above, hk]
              replace hk := hid (show a.k ≤ p.k by omega)
              clear hE hj hi0
              go_upto_region 6 with fail
              refine wp_region_K (S := SG wr.heap.size w.heap.size b off cn cc (off + j * 5) false p.k a) (fun _ => false) (by kernel_rfl) (g1) (fun hHeld => ?_)
              refine gkt 0 ?_ (h := by intro W hSw; obtain ⟨⟨y0, y1, y2, y3, y4⟩, z0, z2, z3⟩ := hSw; go_simp; first | done | with_reducible rfl)
              refine gkp 1 ?_
              refine gkt 2 ?_ (h := by intro W hSw; obtain ⟨⟨y0, y1, y2, y3, y4⟩, z0, z2, z3⟩ := hSw; go_simp; first | done | with_reducible rfl)
              refine gk1 3 (fun K hK => ?_)
              go_simp
              go_at_call 43; refine (cr.out _).mono ?_; rintro e w1 ⟨rfl, hb⟩; have hR : (SG wr.heap.size w.heap.size b off cn cc (off + j * 5) false p.k a) w1 := hHeld.keep hb; have H1 := hid hb; clear hb
              refine hK.out _ _ hR (fun hHeld => ?_)
              clear hK K
              (try simp only [Act.put, sA, sZ, sS])
              refine gkp 4 ?_
              refine gkp 5 ?_
              refine gkp 6 ?_
              refine gkp 7 ?_ (v := .bool true) (h := by intro W hSw; go_simp <;> first | done | omega | simp)
              refine gkp 8 ?_
              refine gkp 9 ?_
              refine gkt 10 ?_ (h := by intro W hSw; obtain ⟨⟨y0, y1, y2, y3, y4⟩, z0, z2, z3⟩ := hSw; go_simp; first | done | with_reducible rfl)
              refine gkp 11 ?_
              refine gkp 12 ?_ (v := .int .i64 (j : Int)) (h := by intro W hSw; go_simp <;> (rw [IntKind.wrap_i64]; have hh := hij.out; omega))
              refine gkp 13 ?_
              refine gkp 14 ?_
              refine gkt 15 ?_ (h := by intro W hSw; obtain ⟨⟨y0, y1, y2, y3, y4⟩, z0, z2, z3⟩ := hSw; go_simp; first | done | with_reducible rfl)
              refine gkp 16 ?_
              refine gkt 17 ?_ (h := by intro W hSw; obtain ⟨⟨y0, y1, y2, y3, y4⟩, z0, z2, z3⟩ := hSw; go_simp; first | done | with_reducible rfl)
              refine gkp 18 ?_ (v := .bool true) (h := by intro W hSw; go_simp <;> first | done | simp [hk.out] | (have hh := hk.out; omega))
              refine gkp 19 ?_
              refine gkp 20 ?_
              refine wpAnyK_done (by kernel_rfl) ?_ _
              go_wp2
              go_ret
              exact ⟨rfl, gt BB.out H1.out⟩
      · obtain rfl : i = cn := by omega
        have hE := he'.out
        rw [List.drop_of_length_le (by have := hl'.out; omega)] at hE
        obtain rfl : V = true := by rw [← hE]; cases prevK cs i <;> rfl
        clear he' hE
        go_wp2
        go_ret
        exact ⟨rfl, hb'.out⟩
  | true =>
    simp only [if_true] at hh
    obtain rfl : r = 0 := by simpa using hh
    clear hh
    go_enter Try.func13, Try.ntmps13
    go_wp2
    generalize w.alloc (.cells #[.bool true, .int .i64 0, .slice co cn cc] 33) = w0 at *
    go_loopw [26] (fun c W => ∃ (i : Nat), i ≤ cn ∧ c = .int .i64 (i : Int) ∧ okFrom true (prevK cs i) (cs.drop i) = V ∧ NB 33 W w.heap.size true 0 co cn cc ∧ Below w.heap.size w W) (fun c _ => cn - (intOf c).toNat)
    case atStart => exact ⟨0, by omega, rfl, hV'.out.symm, q0.out, b0.out⟩
    case round =>
      obtain ⟨i, hi, rfl, he, hq, hb⟩ := hrel
      have he' := hid he
      have hq' := hid hq
      have hb' := hid hb
      obtain ⟨u0, u1, u2⟩ := hq.cells
      have hlt := hq.lt
      clear he hq hb
      by_cases hik : i < cn
      · obtain ⟨b, off, rfl, hc⟩ := h'.out.at_ (by omega)
        have ha := (h'.out.ok_at hik).rd.1
        have X := hid ((hc i hik).keep hb'.out)
        have Y := hid (fun j (hj : j < cn) => ((hc j hj).keep hb'.out).1)
        have hd := dropC cs i (by have := hl'.out; omega)
        have hp1 : prevK cs (i + 1) = some (cs.getD i default).k := by simp [prevK]
        obtain ⟨a, haE⟩ : ∃ a, a = cs.getD i default := ⟨_, rfl⟩
        rw [← haE] at ha X hd hp1
        rw [hd] at he'
        have cr := hid (fun W => right_any true a W ha)
        have hE := he'.out
        simp only [okFrom] at hE
        obtain ⟨x0, x1, x2, x3, x4⟩ := X.out
        have BA : Hid (Below wr.heap.size wr (wr.alloc (.cells #[.int .i64 a.k, .int .i64 a.c, .int .i64 a.l, .slice a.o a.n a.m, .int .i64 a.x] 69)).drew) := hid (ext1 _).drew
        have F5 := (S5.new 69 wr a).keep (Below.refl _ _).drew
        have v0 := keep_old BA.out u0
        have v2 := keep_old BA.out u2
        have N1 := hid (hq'.out.keep BA.out)
        have BB := hid (gt hb'.out BA.out)
        replace haE := hid haE
        replace hp1 := hid hp1
        replace hd := hid hd
        clear hc ha he' X
        cases hr : cellB true a with
        | false =>
          obtain rfl : V = false := by rw [← hE, hr]; rfl
          rw [hr] at cr
          clear hE hr
          have g1 : SG wr.heap.size w.heap.size b off cn cc (off + i * 5) true a.k a (wr.alloc (.cells #[.int .i64 a.k, .int .i64 a.c, .int .i64 a.l, .slice a.o a.n a.m, .int .i64 a.x] 69)).drew := ⟨F5, v0, v2, keep_old BA.out x0⟩
          clear F5 v0 v2
          go_upto_region 6 with fail
          refine wp_region_K (S := SG wr.heap.size w.heap.size b off cn cc (off + i * 5) true a.k a) (fun _ => false) (by kernel_rfl) (g1) (fun hHeld => ?_)
          refine gkt 0 ?_ (h := by intro W hSw; obtain ⟨⟨y0, y1, y2, y3, y4⟩, z0, z2, z3⟩ := hSw; go_simp; first | done | with_reducible rfl)
          refine gkp 1 ?_
          refine gkt 2 ?_ (h := by intro W hSw; obtain ⟨⟨y0, y1, y2, y3, y4⟩, z0, z2, z3⟩ := hSw; go_simp; first | done | with_reducible rfl)
          refine gk1 3 (fun K hK => ?_)
          go_simp
          go_at_call 43; refine (cr.out _).mono ?_; rintro e w1 ⟨rfl, hb⟩; have hR : (SG wr.heap.size w.heap.size b off cn cc (off + i * 5) true a.k a) w1 := hHeld.keep hb; have H1 := hid hb; clear hb
          refine hK.out _ _ hR (fun hHeld => ?_)
          clear hK K
          (try simp only [Act.put, sA, sZ, sS])
          refine gkp 4 ?_
          refine gkp 5 ?_
          refine gku 6 ?_
          refine gku 7 ?_
          refine gku 8 ?_
          refine gku 9 ?_
          refine gku 10 ?_
          refine gku 11 ?_
          refine gku 12 ?_
          refine gku 13 ?_
          refine gku 14 ?_
          refine gku 15 ?_
          refine gku 16 ?_
          refine gku 17 ?_
          refine gku 18 ?_
          refine gku 19 ?_
          refine gkp 20 ?_
          refine wpAnyK_done (by kernel_rfl) ?_ _
          go_wp2
          go_ret
          exact ⟨rfl, gt BB.out H1.out⟩
        | true =>
          rw [hr] at cr hE
          rw [Bool.true_and] at hE
          clear hr
          by_cases hi0 : i = 0
          · have hE2 : okFrom true (some a.k) (cs.drop (i + 1)) = V := by rw [← hE, hi0]; simp [prevK, above]
            have hnp : ¬ (0 : Int) < (i : Int) := by omega
            replace hnp := hid hnp
            clear hi0
            have hE' := hid hE2
            clear hE hE2
            have g1 : SG wr.heap.size w.heap.size b off cn cc (off + i * 5) true a.k a (wr.alloc (.cells #[.int .i64 a.k, .int .i64 a.c, .int .i64 a.l, .slice a.o a.n a.m, .int .i64 a.x] 69)).drew := ⟨F5, v0, v2, keep_old BA.out x0⟩
            clear F5 v0 v2
            go_upto_region 6 with fail
            refine wp_region_K (S := SG wr.heap.size w.heap.size b off cn cc (off + i * 5) true a.k a) (fun _ => false) (by kernel_rfl) (g1) (fun hHeld => ?_)
            refine gkt 0 ?_ (h := by intro W hSw; obtain ⟨⟨y0, y1, y2, y3, y4⟩, z0, z2, z3⟩ := hSw; go_simp; first | done | with_reducible rfl)
            refine gkp 1 ?_
            refine gkt 2 ?_ (h := by intro W hSw; obtain ⟨⟨y0, y1, y2, y3, y4⟩, z0, z2, z3⟩ := hSw; go_simp; first | done | with_reducible rfl)
            refine gk1 3 (fun K hK => ?_)
            go_simp
            go_at_call 43; refine (cr.out _).mono ?_; rintro e w1 ⟨rfl, hb⟩; have hR : (SG wr.heap.size w.heap.size b off cn cc (off + i * 5) true a.k a) w1 := hHeld.keep hb; have H1 := hid hb; clear hb
            refine hK.out _ _ hR (fun hHeld => ?_)
            clear hK K
            (try simp only [Act.put, sA, sZ, sS])
            refine gkp 4 ?_
            refine gkp 5 ?_
            refine gkp 6 ?_
            refine gkp 7 ?_ (v := .bool false) (h := by intro W hSw; go_simp <;> first | done | (have hh := hnp.out; omega) | simp [hnp.out])
            refine gkp 8 ?_
            refine gku 9 ?_
            refine gku 10 ?_
            refine gku 11 ?_
            refine gku 12 ?_
            refine gku 13 ?_
            refine gku 14 ?_
            refine gku 15 ?_
            refine gku 16 ?_
            refine gku 17 ?_
            refine gku 18 ?_
            refine gkp 19 ?_
            refine gkp 20 ?_
            refine wpAnyK_done (by kernel_rfl) ?_ _
            go_wp2
            refine ⟨⟨i + 1, by omega, by go_num, by rw [hp1.out]; exact hE'.out, N1.out.keep H1.out, gt BB.out H1.out⟩, by simp [intOf]; omega⟩
          · obtain ⟨j, hj⟩ : ∃ j, i = j + 1 := ⟨i - 1, by omega⟩
            obtain ⟨p, hpE⟩ : ∃ p, p = cs.getD j default := ⟨_, rfl⟩
            have hpp : prevK cs i = some p.k := by rw [hpE, hj]; simp [prevK]
            rw [hpp] at hE
            have hyk := Y.out j (by omega)
            rw [← hpE] at hyk
            have g1 : SG wr.heap.size w.heap.size b off cn cc (off + j * 5) true p.k a (wr.alloc (.cells #[.int .i64 a.k, .int .i64 a.c, .int .i64 a.l, .slice a.o a.n a.m, .int .i64 a.x] 69)).drew := ⟨F5, v0, v2, keep_old BA.out hyk⟩
            have hj2 : Hid (i = j + 1) := hid hj
            have hjl : j < cn := by omega
            have hij : Hid ((i : Int) = (j : Int) + 1) := hid (by omega)
            have hip : (0 : Int) < (i : Int) := by omega
            clear F5 v0 v2 hyk hpp hpE Y
            by_cases hk : p.k < a.k
            · have hE2 : okFrom true (some a.k) (cs.drop (i + 1)) = V := by rw [← hE]; simp [above, hk]
              have hE' := hid hE2
              replace hk := hid (show ¬ a.k ≤ p.k by omega)
              clear hE hE2 hj hi0
              go_upto_region 6 with fail
              refine wp_region_K (S := SG wr.heap.size w.heap.size b off cn cc (off + j * 5) true p.k a) (fun _ => false) (by kernel_rfl) (g1) (fun hHeld => ?_)
              refine gkt 0 ?_ (h := by intro W hSw; obtain ⟨⟨y0, y1, y2, y3, y4⟩, z0, z2, z3⟩ := hSw; go_simp; first | done | with_reducible rfl)
              refine gkp 1 ?_
              refine gkt 2 ?_ (h := by intro W hSw; obtain ⟨⟨y0, y1, y2, y3, y4⟩, z0, z2, z3⟩ := hSw; go_simp; first | done | with_reducible rfl)
              refine gk1 3 (fun K hK => ?_)
              go_simp
              go_at_call 43; refine (cr.out _).mono ?_; rintro e w1 ⟨rfl, hb⟩; have hR : (SG wr.heap.size w.heap.size b off cn cc (off + j * 5) true p.k a) w1 := hHeld.keep hb; have H1 := hid hb; clear hb
              refine hK.out _ _ hR (fun hHeld => ?_)
              clear hK K
              (try simp only [Act.put, sA, sZ, sS])
              refine gkp 4 ?_
              refine gkp 5 ?_
              refine gkp 6 ?_
              refine gkp 7 ?_ (v := .bool true) (h := by intro W hSw; go_simp <;> first | done | omega | simp)
              refine gkp 8 ?_
              refine gkp 9 ?_
              refine gkt 10 ?_ (h := by intro W hSw; obtain ⟨⟨y0, y1, y2, y3, y4⟩, z0, z2, z3⟩ := hSw; go_simp; first | done | with_reducible rfl)
              refine gkp 11 ?_
              refine gkp 12 ?_ (v := .int .i64 (j : Int)) (h := by intro W hSw; go_simp <;> (rw [IntKind.wrap_i64]; have hh := hij.out; omega))
              refine gkp 13 ?_
              refine gkp 14 ?_
              refine gkt 15 ?_ (h := by intro W hSw; obtain ⟨⟨y0, y1, y2, y3, y4⟩, z0, z2, z3⟩ := hSw; go_simp; first | done | with_reducible rfl)
              refine gkp 16 ?_
              refine gkt 17 ?_ (h := by intro W hSw; obtain ⟨⟨y0, y1, y2, y3, y4⟩, z0, z2, z3⟩ := hSw; go_simp; first | done | with_reducible rfl)
              refine gkp 18 ?_ (v := .bool false) (h := by intro W hSw; go_simp <;> first | done | simp [hk.out] | (have hh := hk.out; omega))
              refine gkp 19 ?_
              refine gkp 20 ?_
              refine wpAnyK_done (by kernel_rfl) ?_ _
              go_wp2
              refine ⟨⟨i + 1, by omega, by go_num, by rw [hp1.out]; exact hE'.out, N1.out.keep H1.out, gt BB.out H1.out⟩, by simp [intOf]; omega⟩
            · obtain rfl : V = false := by rw [← hE]; simp [above, hk]
              replace hk := hid (show a.k ≤ p.k by omega)
              clear hE hj hi0
              go_upto_region 6 with fail
              refine wp_region_K (S := SG wr.heap.size w.heap.size b off cn cc (off + j * 5) true p.k a) (fun _ => false) (by kernel_rfl) (g1) (fun hHeld => ?_)
              refine gkt 0 ?_ (h := by intro W hSw; obtain ⟨⟨y0, y1, y2, y3, y4⟩, z0, z2, z3⟩ := hSw; go_simp; first | done | with_reducible rfl)
              refine gkp 1 ?_
              refine gkt 2 ?_ (h := by intro W hSw; obtain ⟨⟨y0, y1, y2, y3, y4⟩, z0, z2, z3⟩ := hSw; go_simp; first | done | with_reducible rfl)
              refine gk1 3 (fun K hK => ?_)
              go_simp
              go_at_call 43; refine (cr.out _).mono ?_; rintro e w1 ⟨rfl, hb⟩; have hR : (SG wr.heap.size w.heap.size b off cn cc (off + j * 5) true p.k a) w1 := hHeld.keep hb; have H1 := hid hb; clear hb
              refine hK.out _ _ hR (fun hHeld => ?_)
              clear hK K
              (try simp only [Act.put, sA, sZ, sS])
              refine gkp 4 ?_
              refine gkp 5 ?_
              refine gkp 6 ?_
              refine gkp 7 ?_ (v := .bool true) (h := by intro W hSw; go_simp <;> first | done | omega | simp)
              refine gkp 8 ?_
              refine gkp 9 ?_
              refine gkt 10 ?_ (h := by intro W hSw; obtain ⟨⟨y0, y1, y2, y3, y4⟩, z0, z2, z3⟩ := hSw; go_simp; first | done | with_reducible rfl)
              refine gkp 11 ?_
              refine gkp 12 ?_ (v := .int .i64 (j : Int)) (h := by intro W hSw; go_simp <;> (rw [IntKind.wrap_i64]; have hh := hij.out; omega))
              refine gkp 13 ?_
              refine gkp 14 ?_
              refine gkt 15 ?_ (h := by intro W hSw; obtain ⟨⟨y0, y1, y2, y3, y4⟩, z0, z2, z3⟩ := hSw; go_simp; first | done | with_reducible rfl)
              refine gkp 16 ?_
              refine gkt 17 ?_ (h := by intro W hSw; obtain ⟨⟨y0, y1, y2, y3, y4⟩, z0, z2, z3⟩ := hSw; go_simp; first | done | with_reducible rfl)
              refine gkp 18 ?_ (v := .bool true) (h := by intro W hSw; go_simp <;> first | done | simp [hk.out] | (have hh := hk.out; omega))
              refine gkp 19 ?_
              refine gkp 20 ?_
              refine wpAnyK_done (by kernel_rfl) ?_ _
              go_wp2
              go_ret
              exact ⟨rfl, gt BB.out H1.out⟩
      · obtain rfl : i = cn := by omega
        have hE := he'.out
        rw [List.drop_of_length_le (by have := hl'.out; omega)] at hE
        obtain rfl : V = true := by rw [← hE]; cases prevK cs i <;> rfl
        clear he' hE
        go_wp2
        go_ret
        exact ⟨rfl, hb'.out⟩

theorem rgood_any (leaf : Bool) (r : Int) (co : Option Addr) (cn cc : Nat) (cs : List C) (w : World) (h : Cs w co cn cc cs) (hcn : cn ≤ 100000) :
    Calls Try.prog 13 #[.agg #[.bool leaf, .int .i64 r, .slice co cn cc]] w fun e w' => e = .returned (.bool (goodN leaf r cs)) ∧ Below w.heap.size w w' := by
  rw [good_ok]
  cases hh : headB leaf r with
  | false => rw [Bool.false_and]; exact rgood_head leaf r co cn cc w hh
  | true => rw [Bool.true_and]; exact rgood_body leaf r co cn cc cs w h hcn hh

end Go.Proofs.Ytbpcekhfjkodcaa
