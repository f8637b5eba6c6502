/- What the document's own Parse returns of bytes that are long enough; no statement of the seat is proved here. -/
import Derived.Test.YtndlogjmnbgegaaDoorJf
import Derived.Deep.RegionHeld3
namespace Go.Proofs.YtndlogjmnbgegaaDoor
open Go.RowKit

/-- What a round of Parse reads of the head's box. -/
abbrev S2 (q : Nat) (M : Nat) (W : World) : Prop := W.cell? ⟨q, 2, none⟩ = some (.int .u64 (M : Int))

theorem row_dt {Wf w6 : World} {B i : Nat} {v : Value} {xs l P D} {o : Obj} {p5 : Int} {a5 : Option Addr} {n5 c5 : Nat} {d5 : List Nat} (hll : List.length l = i) (O : Wf.ownsRow B 35 2 v i xs) (hg : (Wf.alloc o).grownBy w6 v.ownBlock) (hD : Dt Wf P D 0 l)
    (hp : p5 = P i) (hd : d5 = D i) (r : Rd Wf a5 n5 c5 d5) (t : T5 Wf a5) : Dt w6 P D 0 (l ++ [(p5, a5, n5, c5)]) := by
  have F : Five Wf w6 := (Five.of (Below.alloc (Below.refl _ _) (Nat.le_refl _) o)).trans fun g C h => typ_grown (by decide) (O.alloc o) hg h
  refine (hD.five F).snoc ?_
  rw [hll, Nat.zero_add]
  exact ⟨hp, hd ▸ r.five t F, t.five F⟩

theorem head_grown {Wf w6 : World} {B i : Nat} {v : Value} {xs} {o : Obj} (O : Wf.ownsRow B 35 2 v i xs) (hg : (Wf.alloc o).grownBy w6 v.ownBlock) {q : Nat} {c p : Int} {n : Nat} (h : HB 29 Wf q c p n) : HB 29 w6 q c p n := by
  unfold HB
  exact typ_grown (by decide) (O.alloc o) hg (h.keep (Below.alloc (Below.refl _ _) (Nat.le_refl _) o))

set_option maxHeartbeats 8000000 in
theorem rparse_ok (ao : Option Addr) (n cap : Nat) (xs : List Nat) (w : World) (h : Rd w ao n cap xs) (hx : ∀ x ∈ xs, x < 256) (hn2 : n ≤ 140737488355328) (he : (rdH xs).2 = 0) (hc4 : hC xs ≤ 4000) (hl : (1 + hC xs * 5) * 128 ≤ xs.length) :
    Calls Tryd.prog 27 #[.slice ao n cap] w (JIs xs w) := by
  have eJ : rdJ xs = if allR xs (hN xs) 0 (hC xs) && goodL (hC xs) (hP xs) (hC xs) (pP xs) (pD xs) then ((hC xs, hP xs, hN xs), hC xs, 0) else ((0, 0, 0), 0, 9) := by unfold rdJ; rw [if_neg (by simp [he]), if_neg (by omega)]
  have eH : rdH xs = ((hC xs, hP xs, hN xs), 0) := by
    have hh := (rdH_err xs).1 he
    unfold hotN at hh
    simp only [Bool.and_eq_true, decide_eq_true_eq] at hh
    unfold rdH
    rw [if_neg (by omega), if_pos hh.2]
  have A0 : Below w.heap.size w (w.alloc (.cells #[.int .i64 0, .int .i64 0, .int .u64 0] 29)) := Below.alloc (Below.refl _ _) (Nat.le_refl _) _
  have c := hid (rrhead_all ao n cap xs _ (h.keep A0) hx hn2)
  rw [eH] at c
  simp only at c
  have hn := h.1
  generalize hC xs = C at *
  generalize hP xs = P at *
  generalize hN xs = M at *
  obtain ⟨b0, o0, rfl, _⟩ := h.2.2.2 (by omega)
  have hcap := h.2.1
  have z0 := hid (HB.new 29 w 0 0 0)
  have A0' := hid A0
  have cs := hid (rsectors_any (C : Int))
  obtain ⟨K, hK⟩ : ∃ K : Nat, secN (C : Int) = (K : Int) ∧ K = 1 + C * 5 := ⟨1 + C * 5, by unfold secN; omega, rfl⟩
  rw [hK.1] at cs
  have hKb : K ≤ 20001 := by omega
  have hnlt : ¬ (n : Int) < 128 * (K : Int) := by omega
  have hnC : Hid (128 + C * 640 ≤ n) := hid (by omega)
  have h' := hid h
  have hx' := hid hx
  have eJ' := hid eJ
  obtain ⟨i35, hi35, hz0, hz1, hz2⟩ := info_parts Tryd.info35
  have HI := hid hi35; have HZ0 := hid hz0; have HZ1 := hid hz1; have HZ2 := hid hz2
  clear hi35 hz0 hz1 hz2
  clear h hx A0 eJ eH hK hl he
  go_enter Tryd.func27, Tryd.ntmps27
  go_wp2_with (first
    | (go_at_call 22; refine c.out.mono ?_; rintro e w1 ⟨rfl, hb1⟩; have z1 := hid (z0.out.keep hb1); have B1 := hid (gt A0'.out hb1); clear hb1; obtain ⟨q0, q1, q2, f0, f1, f2⟩ := z1.out.cells; have hlt := z1.out.lt; have hne1 : ¬ w.heap.size = w1.heap.size := (by omega))
    | (go_at_call 20; refine (cs.out _).mono ?_; rintro e w2 ⟨rfl, hw2⟩; obtain rfl := hw2.symm))
  obtain ⟨W3, hW3⟩ : ∃ W3, W3 = w1.alloc (.cells #[.int .i64 (C : Int), .int .i64 (P : Int), .int .u64 (M : Int)] 29) := ⟨_, rfl⟩
  rw [← hW3]
  have A3 : Below w1.heap.size w1 W3 := by rw [hW3]; exact Below.alloc (Below.refl _ _) (Nat.le_refl _) _
  have z3 := hid (z1.out.keep A3)
  have y3 : Hid (HB 29 W3 w1.heap.size C P M) := hid (by rw [hW3]; exact HB.new 29 w1 C P M)
  have B3 := hid (gt B1.out A3)
  obtain ⟨A, hA⟩ : ∃ A, A = allR xs M 0 C := ⟨_, rfl⟩
  have hA' := hid hA
  have E3 : Hid (allR xs M 0 (C - 0) = A) := hid (by rw [hA, Nat.sub_zero])
  rw [← hA] at eJ'
  clear hW3 A3 hA q0 q1 q2 f0 f1 f2 hne1 hlt hnlt
  generalize w1.heap.size = q at *
  go_loopw [7, 8] (fun o cc W => ∃ (i : Nat) (l : List (Int × Option Addr × Nat × Nat)) (ao' : Option Addr) (cap' : Nat), i ≤ C ∧ cc = .int .i64 (i : Int) ∧ o = .slice ao' i cap' ∧ l.length = i ∧ Hid (W.ownsRow w.heap.size 35 2 (.slice ao' i cap') i (rv l)) ∧ Hid (Dt W (pP xs) (pD xs) 0 l) ∧ Hid (allR xs M i (C - i) = A) ∧ Hid (HB 29 W w.heap.size 0 0 0) ∧ Hid (HB 29 W q C P M) ∧ Hid (Below w.heap.size w W)) (fun _ cc _ => C - (intOf cc).toNat)
  case atStart => exact ⟨0, [], none, 0, by omega, rfl, rfl, rfl, hid (World.ownsRow_nil _ _ _ _), hid trivial, E3, z3, y3, B3⟩
  case round =>
    obtain ⟨i, l, ao', cap', hi, rfl, rfl, hll, O, DA, E, z, y, B⟩ := hrel
    clear E3 z3 y3 B3
    obtain ⟨y0, y1, y2, _, _, _⟩ := y.out.cells
    by_cases hiC : i < C
    · obtain ⟨Ki, hKi, hKi2⟩ : ∃ Ki : Nat, secN (i : Int) = (Ki : Int) ∧ Ki = 1 + i * 5 := ⟨1 + i * 5, by unfold secN; omega, rfl⟩
      have ci := hid (rsectors_any (i : Int))
      rw [hKi] at ci
      obtain ⟨J, hJ, hJ2⟩ : ∃ J : Nat, (128 : Int) * (Ki : Int) = (J : Int) ∧ J = 128 + i * 640 := ⟨128 + i * 640, by omega, rfl⟩
      have hJn : J + 640 ≤ n := by have := hnC.out; omega
      have hJb : J ≤ 2560128 := by omega
      have hJw : IntKind.i64.wrap (J : Int) = (J : Int) := by rw [IntKind.wrap_i64]; omega
      have hncI : (n : Int) ≤ (cap : Int) := by omega
      have hJc : (J : Int) ≤ (cap : Int) := by omega
      have hJl : (J : Int) ≤ (n : Int) := by omega
      have hJne : ¬ cap = J := by omega
      have rj := hid ((h'.out.from_ J (by omega)).2 hJne)
      have xj := hid (drop_bytes hx'.out J)
      have hJ2' := hid hJ2
      have hJlen : (xs.drop J).length = n - J := by simp; omega
      have E' := hid (allR_step hiC hJ2 E.out)
      clear E hJ2 hKi hKi2
      go_upto_region 10 with fail
      have x2 : S2 q M wr.drew := (y.out.keep (Below.refl _ _).drew).cells.2.2.1
      have AZ : Hid (Below wr.heap.size wr (wr.alloc (.cells #[.int .i64 0, .slice none 0 0] 35)).drew) := hid (Below.alloc (Below.refl _ _) (Nat.le_refl _) _).drew
      have BA := hid (gt B.out AZ.out)
      have x2a : S2 q M (wr.alloc (.cells #[.int .i64 0, .slice none 0 0] 35)).drew := (y.out.keep AZ.out).cells.2.2.1
      have hqr : ¬ q = wr.heap.size := by have := y.out.lt; omega
      obtain ⟨p5, d5, er, eR⟩ : ∃ p5 d5 er, Hid (rdR (xs.drop J) M = ((p5, d5), er)) := ⟨_, _, _, hid rfl⟩
      obtain ⟨n5, hn5⟩ : ∃ n5, d5.length = n5 := ⟨_, rfl⟩
      have hn5' := hid hn5
      have hcase : (er = 0 ∧ Hid ((p5 : Int) = pP xs i) ∧ Hid (d5 = pD xs i) ∧ Hid (allR xs M (i + 1) (C - (i + 1)) = A)) ∨ (er = 9 ∧ Hid (rdJ xs = ((0, 0, 0), 0, 9))) := by
        have e := eR.out
        unfold rdR at e
        rw [if_neg (by omega)] at e
        cases hR : isRec (xs.drop J) M with
        | true =>
          rw [hR, if_pos rfl] at e
          simp only [Prod.mk.injEq] at e
          obtain ⟨⟨rfl, rfl⟩, rfl⟩ := e
          refine Or.inl ⟨rfl, hid ?_, hid ?_, hid (by rw [← E'.out, hR, Bool.true_and])⟩
          · unfold pP; rw [← hJ2'.out]
          · unfold pD; rw [← hJ2'.out]
        | false =>
          rw [hR, if_neg (by simp)] at e
          simp only [Prod.mk.injEq] at e
          have hAf : A = false := by rw [← E'.out, hR, Bool.false_and]
          refine Or.inr ⟨e.2.symm, hid (by rw [eJ'.out, hAf, Bool.false_and]; rfl)⟩
      clear hn5 y0 y1 y2 E'
      go_region_held3 (S2 q M) (first | with_reducible assumption | go_keep) (first
        | (go_at_call 20; refine (ci.out _).mono ?_; rintro e w4 ⟨rfl, hw4⟩; obtain rfl := hw4.symm)
        | (go_at_call 24; refine (rrrec_all (some ⟨b0, o0 + J, none⟩) (n - J) (cap - J) (xs.drop J) M wr.drew (rj.out.keep B.out.drew) xj.out (by omega)).mono ?_; rw [eR.out]; simp only; rw [hn5'.out]; rintro e w5 ⟨a5, c5, rfl, r5, t5, hb5⟩; have F5 := hid (undrew hb5); have r5' := hid r5; have t5' := hid t5; have x5 : S2 q M w5 := (y.out.keep F5.out).cells.2.2.1; have x5a : S2 q M (w5.alloc (.cells #[.int .i64 0, .slice none 0 0] 35)) := ((y.out.keep F5.out).keep (Below.alloc (Below.refl _ _) (Nat.le_refl _) _)).cells.2.2.1; have x5b : S2 q M (w5.alloc (.cells #[.int .i64 (p5 : Int), .slice a5 n5 c5] 35)) := ((y.out.keep F5.out).keep (Below.alloc (Below.refl _ _) (Nat.le_refl _) _)).cells.2.2.1; have hq5 : ¬ q = w5.heap.size := (by have := (y.out.keep F5.out).lt; omega); clear hb5 r5 t5)
        | (go_at_call 24; refine (rrrec_all (some ⟨b0, o0 + J, none⟩) (n - J) (cap - J) (xs.drop J) M (wr.alloc (.cells #[.int .i64 0, .slice none 0 0] 35)).drew (rj.out.keep BA.out) xj.out (by omega)).mono ?_; rw [eR.out]; simp only; rw [hn5'.out]; rintro e w5 ⟨a5, c5, rfl, r5, t5, hb5⟩; have F5 := hid (gt AZ.out hb5); have X5 : Hid (RB 35 w5 wr.heap.size 0 none 0 0) := hid (((RB.new 35 wr 0 none 0 0).keep (Below.refl _ _).drew).keep hb5); have r5' := hid r5; have t5' := hid t5; have x5 : S2 q M w5 := (y.out.keep F5.out).cells.2.2.1; have x5b : S2 q M ((w5.setCell ⟨wr.heap.size, 0, none⟩ (.int .i64 (p5 : Int))).setCell ⟨wr.heap.size, 1, none⟩ (.slice a5 n5 c5)) := grow_cell (grow_set _ _ _ _) (grow_cell (grow_set _ _ _ _) x5 hqr) hqr; obtain ⟨k0, k1, k2, k3⟩ := X5.out.cells; clear hb5 r5 t5))
      · obtain ⟨Wf, hWf⟩ : ∃ Wf, Wf = w5.alloc (.cells #[.int .i64 (p5 : Int), .slice a5 n5 c5] 35) := ⟨_, rfl⟩
        obtain ⟨r, hr⟩ : ∃ r, r = w5.heap.size := ⟨_, rfl⟩
        have AF : Below w5.heap.size w5 Wf := by rw [hWf]; exact Below.alloc (Below.refl _ _) (Nat.le_refl _) _
        have G := hid (gt F5.out AF)
        have X : Hid (RB 35 Wf r p5 a5 n5 c5) := hid (by rw [hWf, hr]; exact RB.new 35 w5 p5 a5 n5 c5)
        have rf := hid (r5'.out.keep AF)
        have tf := hid (t5'.out.five (Five.of AF))
        rw [← hWf, ← hr]
        clear AF hWf hr F5 r5' t5' x5 x5a x5b hq5
        have zf := hid (z.out.keep G.out)
        have yf := hid (y.out.keep G.out)
        have Bf := hid (gt B.out G.out)
        have Of := hid (row_later O.out G.out)
        have Df := hid (DA.out.five (Five.of G.out))
        obtain ⟨e0, e1, _, _⟩ := X.out.cells
        have hBs := Bf.out.size
        clear x2 x2a AZ BA G z y B O DA hqr
        rcases hcase with ⟨rfl, hp5, hd5, E2⟩ | ⟨rfl, eJ2⟩
        · go_wp2_with ((with_reducible refine here_op 51 ?_); refine wpList_append_own _ rfl (.tmp 48) (.tmp 50) 36 rfl w.heap.size 35 i35 (.agg #[.int .i64 0, .slice none 0 0]) 2 32 Tryd.underlying36 HI.out HZ0.out HZ1.out HZ2.out rfl (by decide) (.slice ao' i cap') i (rv l) rfl (Of.out.alloc _) ⟨Wf.heap.size, 0, none⟩ 1 1 [.int .i64 (p5 : Int), .slice a5 n5 c5] rfl rfl (two_cells Wf _ _ 35) (by intro u hu; simp at hu; rcases hu with rfl | rfl <;> rfl) (by unfold maxLen; omega) (by omega) (by simp; omega) ?_; intro v6 w6 ho6 hg6 hnil6; obtain ⟨ao6, cap6, rfl⟩ := row_form ho6; have H6 := hid hg6; have O6 := hid ho6; clear hg6 ho6)
          exact ⟨⟨i + 1, l ++ [((p5 : Int), a5, n5, c5)], ao6, cap6, by omega, by go_num, rfl, by simp [hll], hid (by rw [rv_append]; exact O6.out), hid (row_dt hll Of.out H6.out Df.out hp5.out hd5.out rf.out tf.out), E2, hid (head_grown Of.out H6.out zf.out), hid (head_grown Of.out H6.out yf.out), hid ((Below.alloc Bf.out hBs _).trans (below_grown (Of.out.alloc _) H6.out (Nat.le_refl _) (by simp; omega)))⟩, by simp [intOf]; omega⟩
        · obtain ⟨q0, q1, q2, f0, f1, f2⟩ := zf.out.cells
          go_wp2
          (try simp only [Exit.inBlock, Exit.then])
          refine bodyPost_ret (ret_head3 rfl agg29 size29 rfl (HB.set zf.out 0 0 0)) rfl ?_
          unfold JIs
          rw [eJ2.out]
          exact ⟨none, 0, rfl, recs_none _ _ _, box_set Bf.out⟩
      · obtain ⟨Wf, hWf⟩ : ∃ Wf, Wf = (w5.setCell ⟨wr.heap.size, 0, none⟩ (.int .i64 (p5 : Int))).setCell ⟨wr.heap.size, 1, none⟩ (.slice a5 n5 c5) := ⟨_, rfl⟩
        obtain ⟨r, hr⟩ : ∃ r, r = wr.heap.size := ⟨_, rfl⟩
        have G : Hid (Below wr.heap.size wr Wf) := hid (by rw [hWf]; exact Below.setCell (Below.setCell F5.out (Nat.le_refl _) _) (Nat.le_refl _) _)
        have X : Hid (RB 35 Wf r p5 a5 n5 c5) := hid (by rw [hWf, hr]; exact X5.out.set _ _ _ _)
        have rf : Hid (Rd Wf a5 n5 c5 d5) := hid (by rw [hWf]; exact r5'.out.five t5'.out (rb_five X5.out _ _))
        have tf : Hid (T5 Wf a5) := hid (by rw [hWf]; exact t5'.out.five (rb_five X5.out _ _))
        rw [← hWf, ← hr]
        clear hWf hr F5 r5' t5' x5 x5b X5 k0 k1 k2 k3
        have zf := hid (z.out.keep G.out)
        have yf := hid (y.out.keep G.out)
        have Bf := hid (gt B.out G.out)
        have Of := hid (row_later O.out G.out)
        have Df := hid (DA.out.five (Five.of G.out))
        obtain ⟨e0, e1, _, _⟩ := X.out.cells
        have hBs := Bf.out.size
        clear x2 x2a AZ BA G z y B O DA hqr
        rcases hcase with ⟨rfl, hp5, hd5, E2⟩ | ⟨rfl, eJ2⟩
        · go_wp2_with ((with_reducible refine here_op 51 ?_); refine wpList_append_own _ rfl (.tmp 48) (.tmp 50) 36 rfl w.heap.size 35 i35 (.agg #[.int .i64 0, .slice none 0 0]) 2 32 Tryd.underlying36 HI.out HZ0.out HZ1.out HZ2.out rfl (by decide) (.slice ao' i cap') i (rv l) rfl (Of.out.alloc _) ⟨Wf.heap.size, 0, none⟩ 1 1 [.int .i64 (p5 : Int), .slice a5 n5 c5] rfl rfl (two_cells Wf _ _ 35) (by intro u hu; simp at hu; rcases hu with rfl | rfl <;> rfl) (by unfold maxLen; omega) (by omega) (by simp; omega) ?_; intro v6 w6 ho6 hg6 hnil6; obtain ⟨ao6, cap6, rfl⟩ := row_form ho6; have H6 := hid hg6; have O6 := hid ho6; clear hg6 ho6)
          exact ⟨⟨i + 1, l ++ [((p5 : Int), a5, n5, c5)], ao6, cap6, by omega, by go_num, rfl, by simp [hll], hid (by rw [rv_append]; exact O6.out), hid (row_dt hll Of.out H6.out Df.out hp5.out hd5.out rf.out tf.out), E2, hid (head_grown Of.out H6.out zf.out), hid (head_grown Of.out H6.out yf.out), hid ((Below.alloc Bf.out hBs _).trans (below_grown (Of.out.alloc _) H6.out (Nat.le_refl _) (by simp; omega)))⟩, by simp [intOf]; omega⟩
        · obtain ⟨q0, q1, q2, f0, f1, f2⟩ := zf.out.cells
          go_wp2
          (try simp only [Exit.inBlock, Exit.then])
          refine bodyPost_ret (ret_head3 rfl agg29 size29 rfl (HB.set zf.out 0 0 0)) rfl ?_
          unfold JIs
          rw [eJ2.out]
          exact ⟨none, 0, rfl, recs_none _ _ _, box_set Bf.out⟩
      · obtain ⟨Wf, hWf⟩ : ∃ Wf, Wf = (w5.setCell ⟨wr.heap.size, 0, none⟩ (.int .i64 (p5 : Int))).setCell ⟨wr.heap.size, 1, none⟩ (.slice a5 n5 c5) := ⟨_, rfl⟩
        obtain ⟨r, hr⟩ : ∃ r, r = wr.heap.size := ⟨_, rfl⟩
        have G : Hid (Below wr.heap.size wr Wf) := hid (by rw [hWf]; exact Below.setCell (Below.setCell F5.out (Nat.le_refl _) _) (Nat.le_refl _) _)
        have X : Hid (RB 35 Wf r p5 a5 n5 c5) := hid (by rw [hWf, hr]; exact X5.out.set _ _ _ _)
        have rf : Hid (Rd Wf a5 n5 c5 d5) := hid (by rw [hWf]; exact r5'.out.five t5'.out (rb_five X5.out _ _))
        have tf : Hid (T5 Wf a5) := hid (by rw [hWf]; exact t5'.out.five (rb_five X5.out _ _))
        rw [← hWf, ← hr]
        clear hWf hr F5 r5' t5' x5 x5b X5 k0 k1 k2 k3
        have zf := hid (z.out.keep G.out)
        have yf := hid (y.out.keep G.out)
        have Bf := hid (gt B.out G.out)
        have Of := hid (row_later O.out G.out)
        have Df := hid (DA.out.five (Five.of G.out))
        obtain ⟨e0, e1, _, _⟩ := X.out.cells
        have hBs := Bf.out.size
        clear x2 x2a AZ BA G z y B O DA hqr
        rcases hcase with ⟨rfl, hp5, hd5, E2⟩ | ⟨rfl, eJ2⟩
        · go_wp2_with ((with_reducible refine here_op 51 ?_); refine wpList_append_own _ rfl (.tmp 48) (.tmp 50) 36 rfl w.heap.size 35 i35 (.agg #[.int .i64 0, .slice none 0 0]) 2 32 Tryd.underlying36 HI.out HZ0.out HZ1.out HZ2.out rfl (by decide) (.slice ao' i cap') i (rv l) rfl (Of.out.alloc _) ⟨Wf.heap.size, 0, none⟩ 1 1 [.int .i64 (p5 : Int), .slice a5 n5 c5] rfl rfl (two_cells Wf _ _ 35) (by intro u hu; simp at hu; rcases hu with rfl | rfl <;> rfl) (by unfold maxLen; omega) (by omega) (by simp; omega) ?_; intro v6 w6 ho6 hg6 hnil6; obtain ⟨ao6, cap6, rfl⟩ := row_form ho6; have H6 := hid hg6; have O6 := hid ho6; clear hg6 ho6)
          exact ⟨⟨i + 1, l ++ [((p5 : Int), a5, n5, c5)], ao6, cap6, by omega, by go_num, rfl, by simp [hll], hid (by rw [rv_append]; exact O6.out), hid (row_dt hll Of.out H6.out Df.out hp5.out hd5.out rf.out tf.out), E2, hid (head_grown Of.out H6.out zf.out), hid (head_grown Of.out H6.out yf.out), hid ((Below.alloc Bf.out hBs _).trans (below_grown (Of.out.alloc _) H6.out (Nat.le_refl _) (by simp; omega)))⟩, by simp [intOf]; omega⟩
        · obtain ⟨q0, q1, q2, f0, f1, f2⟩ := zf.out.cells
          go_wp2
          (try simp only [Exit.inBlock, Exit.then])
          refine bodyPost_ret (ret_head3 rfl agg29 size29 rfl (HB.set zf.out 0 0 0)) rfl ?_
          unfold JIs
          rw [eJ2.out]
          exact ⟨none, 0, rfl, recs_none _ _ _, box_set Bf.out⟩
    · obtain rfl : i = C := by omega
      have RC : Hid (Recs wr ao' i (pP xs) (pD xs)) := hid (recs_rv hll O.out DA.out.dat)
      have hAt : A = true := by rw [← E.out, Nat.sub_self]; rfl
      have cg := hid (rgoodL_any (i : Int) (P : Int) M ao' i cap' (pP xs) (pD xs) wr RC.out (by omega))
      have eJ2 := eJ'
      rw [hAt, Bool.true_and] at eJ2
      cases hG : goodL (i : Int) (P : Int) i (pP xs) (pD xs) with
      | false =>
        rw [hG] at cg
        have eJ3 : Hid (rdJ xs = ((0, 0, 0), 0, 9)) := hid (by rw [eJ2.out, hG]; rfl)
        clear hG eJ2 eJ'
        go_wp2_with (go_at_call 18; refine cg.out.mono ?_; rintro e w6 ⟨rfl, hb6⟩; have z6 := hid (z.out.keep hb6); have B6 := hid (gt B.out hb6); clear hb6 y0 y1 y2; obtain ⟨q0, q1, q2, f0, f1, f2⟩ := z6.out.cells)
        (try simp only [Exit.inBlock, Exit.then])
        refine bodyPost_ret (ret_head3 rfl agg29 size29 rfl (HB.set z6.out 0 0 0)) rfl ?_
        unfold JIs
        rw [eJ3.out]
        exact ⟨none, 0, rfl, recs_none _ _ _, box_set B6.out⟩
      | true =>
        rw [hG] at cg
        have eJ3 : Hid (rdJ xs = ((i, P, M), i, 0)) := hid (by rw [eJ2.out, hG]; rfl)
        clear hG eJ2 eJ'
        go_wp2_with (go_at_call 18; refine cg.out.mono ?_; rintro e w6 ⟨rfl, hb6⟩; have z6 := hid (z.out.keep hb6); have y6 := hid (y.out.keep hb6); have B6 := hid (gt B.out hb6); have R6 := hid (RC.out.keep hb6); clear hb6 y0 y1 y2; obtain ⟨q0, q1, q2, f0, f1, f2⟩ := z6.out.cells; obtain ⟨y0, y1, y2, _, _, _⟩ := y6.out.cells)
        (try simp only [Exit.inBlock, Exit.then])
        refine bodyPost_ret (ret_head3 rfl agg29 size29 rfl (HB.set z6.out i P M)) rfl ?_
        unfold JIs
        rw [eJ3.out]
        exact ⟨ao', cap', rfl, Recs.box3 z6.out R6.out i P M, box_set B6.out⟩

theorem rparse_any (ao : Option Addr) (n cap : Nat) (xs : List Nat) (w : World) (h : Rd w ao n cap xs) (hx : ∀ x ∈ xs, x < 256) (hn2 : n ≤ 140737488355328) : Calls Tryd.prog 27 #[.slice ao n cap] w (JIs xs w) := by
  by_cases he : (rdH xs).2 = 0
  · have hc4 : hC xs ≤ 4000 := by
      have hh := (rdH_err xs).1 he
      unfold hotN isHead at hh
      simp only [Bool.and_eq_true, decide_eq_true_eq] at hh
      exact hh.2.1.2
    by_cases hl : xs.length < (1 + hC xs * 5) * 128
    · exact rparse_short ao n cap xs w h hx hn2 he hc4 hl
    · exact rparse_ok ao n cap xs w h hx hn2 he hc4 (by omega)
  · exact rparse_err ao n cap xs w h hx hn2 he

end Go.Proofs.YtndlogjmnbgegaaDoor
