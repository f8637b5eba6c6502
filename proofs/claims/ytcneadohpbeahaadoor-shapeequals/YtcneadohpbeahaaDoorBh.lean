/- Whether shapes are alike, and their points as far as they are wanted: the law's walk; no statement of the seat is proved here. -/
import Derived.Test.YtcneadohpbeahaaDoorBf
import Derived.Test.YtcneadohpbeahaaDoorBg
namespace Go.Proofs.YtcneadohpbeahaaDoor
open Go.RowKit Go.Maps

theorem XR.take {S : Nat → Prop} {w : World} {xo : Option Addr} {l : List (Int × Int)} (h : XR S w xo l) (n : Nat) : XR S w xo (l.take n) := by
  rcases h with rfl | ⟨b, off, e, hS, h⟩
  · exact .inl (by simp)
  · refine .inr ⟨b, off, e, hS, fun i p hi => h i p ?_⟩
    rw [List.getElem?_take] at hi
    split at hi
    · exact hi
    · cases hi
theorem cv_int (n : Nat) (h : n < 1000) (W : World) : (convert 36 3 (.int .u64 (n : Int))).run Tryd.prog W = .ok (.int .i64 (n : Int)) W := by
  have hw : IntKind.i64.wrap (n : Int) = (n : Int) := IntWalk.i64_in _ (by omega)
  simp [convert, Conv.intToInt, hw]

attribute [local go_sem] Oper.semAt_some
set_option maxRecDepth 100000 in
set_option maxHeartbeats 16000000 in
theorem equals_law (a b : Sh) (mo : Nat) (w : World) (hT : Tab w) (hA : In (fun b => b < w.heap.size) w a) (hB : In (fun b => b < w.heap.size) w b) (hmo : mo < 18446744073709551616) : Calls Tryd.prog 5 #[.agg #[.int .i64 (a).k, .slice (a).xo (a).xn (a).xc, .slice (a).po (a).pn (a).pc], .agg #[.int .i64 (b).k, .slice (b).xo (b).xn (b).xc, .slice (b).po (b).pn (b).pc], .int .u64 (mo : Int)] w fun e w' => e = .returned (.bool true) ∧ Below w.heap.size w w' := by
  have BA := hid ((Bx.new w a).keep (ext1 (.cells #[.int .i64 (b).k, .slice (b).xo (b).xn (b).xc, .slice (b).po (b).pn (b).pc] 25)))
  have BB := hid (Bx.new2 w (.cells #[.int .i64 (a).k, .slice (a).xo (a).xn (a).xc, .slice (a).po (a).pn (a).pc] 25) b)
  have b0 := hid (gt (ext1 (w := w) (.cells #[.int .i64 (a).k, .slice (a).xo (a).xn (a).xc, .slice (a).po (a).pn (a).pc] 25)) (ext1 (.cells #[.int .i64 (b).k, .slice (b).xo (b).xn (b).xc, .slice (b).po (b).pn (b).pc] 25)))
  obtain ⟨x0, x1, x2⟩ := BA.out.cells
  obtain ⟨y0, y1, y2⟩ := BB.out.cells
  have CA := hid (fun W (hb : Below w.heap.size w W) => light_call a W (hA.grow hb))
  have CB := hid (fun W (hb : Below w.heap.size w W) => light_call b W (hB.grow hb))
  have C18 := hid (fun W (hb : Below w.heap.size w W) => lives_call W (hT.keep hb))
  cases hla : lightB a with
  | false =>
    rw [hla] at CA
    clear hT hA hB hla CB
    go_enter Tryd.func5, Tryd.ntmps5
    go_wp2_with (first
      | (go_at_call 25; refine (CA.out _ b0.out).mono ?_; rintro e w1 ⟨rfl, hb1⟩; have K1 := hid (gt b0.out hb1); clear hb1)
      | (go_at_call 18; refine (C18.out _ K1.out).mono ?_; rintro e w2 ⟨rfl, hb2⟩; have K2 := hid (gt K1.out hb2); clear hb2))
    go_ret
    exact ⟨rfl, K2.out⟩
  | true =>
    cases hlb : lightB b with
    | false =>
      rw [hla] at CA
      rw [hlb] at CB
      clear hT hA hB hla hlb
      have t1 := hid trivial
      go_enter Tryd.func5, Tryd.ntmps5
      go_wp2_with (first
        | (clear t1; go_at_call 25; refine (CA.out _ b0.out).mono ?_; rintro e w1 ⟨rfl, hb1⟩; have K1 := hid (gt b0.out hb1); have D1 := hid (BB.out.keep hb1); clear hb1; obtain ⟨z0, z1, z2⟩ := D1.out.cells)
        | (go_at_call 25; refine (CB.out _ K1.out).mono ?_; rintro e w2 ⟨rfl, hb2⟩; have K2 := hid (gt K1.out hb2); clear hb2)
        | (go_at_call 18; refine (C18.out _ K2.out).mono ?_; rintro e w3 ⟨rfl, hb3⟩; have K3 := hid (gt K2.out hb3); clear hb3))
      go_ret
      exact ⟨rfl, K3.out⟩
    | true =>
      have la3 : ptsN (a.flat 1) ≤ 4000 ∧ partsN (a.flat 1) ≤ 1000 ∧ depthN (a.flat 1) ≤ 16 := by unfold lightB at hla; simpa using hla
      have h4 : (ptsOf a).length ≤ 4000 := pts_le hA la3.2.2 la3.1
      have ePF := ptsF_of la3.2.2
      have C26 := hid (fun W (hb : Below w.heap.size w W) => all_call a W (hA.grow hb) (by rw [ePF]; exact h4))
      have C27 := hid (fun W (hb : Below w.heap.size w W) => refAll2_call _ a (Nat.le_refl _) h4 W (hA.grow hb))
      have C28 := hid (fun W (hb : Below w.heap.size w W) => equal_call a b W la3.2.2 (hA.grow hb) (hB.grow hb))
      have C29 := hid (fun W (hb : Below w.heap.size w W) => refEqual_call _ a b (Nat.le_refl _) W (hA.grow hb) (hB.grow hb))
      rw [ePF] at C26
      have H4 := hid h4
      rw [hla] at CA
      rw [hlb] at CB
      clear hT hA hB hla hlb la3 ePF h4
      generalize ptsOf a = L at *
      generalize eqS a b = r at *
      obtain ⟨n, hn⟩ : ∃ n, n = mo % 200 := ⟨_, rfl⟩
      have hn200 : n < 200 := by omega
      have em : (mo : Int) % 200 = (n : Int) := by omega
      have NF : ∀ (q : Nat) (W : World), (binOp .eql 38 (.func (.func 50) #[] #[.pointer (some ⟨q, 0, none⟩)]) .nilFunc).run Tryd.prog W = .ok (.bool false) W := fun q W => by kernel_rfl
      have CV : ∀ W, (convert 36 3 (.int .u64 ((mo : Int) % 200))).run Tryd.prog W = .ok (.int .i64 (n : Int)) W := fun W => by rw [em]; exact cv_int n (by omega) W
      clear em hn
      have t1 := hid trivial
      obtain ⟨m, -⟩ : ∃ m : Nat, m = 3 := ⟨3, rfl⟩
      refine (callsIn_wide (n := m)).1 ?_
      refine callsIn_of_wp_marks Tryd.func5 rfl trivial ?_ rfl
      simp only [Tryd.ntmps5, List.size_toArray, List.length_cons, List.length_nil, Nat.reduceAdd, Nat.reduceSub, Array.replicate_succ, Array.replicate_zero, List.push_toArray, List.append_toArray, List.nil_append, List.cons_append]
      gi_wp2_with (first
        | (clear t1; refine ⟨trivial, fun h => (by cases h), ?_⟩; gi_at_call 25; refine (callsIn_wide.2 (CA.out _ b0.out)).mono ?_; rintro e w1 ⟨rfl, hb1⟩; have K1 := hid (gt b0.out hb1); have A1 := hid (BA.out.keep hb1); have D1 := hid (BB.out.keep hb1); clear hb1; obtain ⟨z0, z1, z2⟩ := D1.out.cells)
        | (refine ⟨trivial, fun h => (by cases h), ?_⟩; gi_at_call 25; refine (callsIn_wide.2 (CB.out _ K1.out)).mono ?_; rintro e w2 ⟨rfl, hb2⟩; have K2 := hid (gt K1.out hb2); have A2 := hid (A1.out.keep hb2); have D2 := hid (D1.out.keep hb2); clear hb2; obtain ⟨v0, v1, v2⟩ := A2.out.cells)
        | (refine ⟨trivial, fun h => (by cases h), ?_⟩; gi_at_call 26; refine (callsIn_wide.2 (C26.out _ K2.out)).mono ?_; rintro e w3 ⟨q, ao, nn, cc, rfl, hq, hrx, hnn, hown, hb3⟩; have K3 := hid (gt K2.out hb3); have A3 := hid (A2.out.keep hb3); have D3 := hid (D2.out.keep hb3); have HQ := hid hq; have HRX := hid hrx; have HNN := hid hnn; have HOWN := hid hown; have Z3 := hid hb3.size; clear hb3 hq hrx hnn hown))
      have HLT := hid D2.out.lt
      have HLQ := hid HRX.out.lt
      have hL2 : w.heap.size + 1 < w2.heap.size := HLT.out
      have hL3 : w2.heap.size ≤ w3.heap.size := Z3.out
      have hqa : w2.heap.size ≤ q := HQ.out
      have hqb : q < w3.heap.size := HLQ.out
      have BK : Below w3.heap.size w3 ((w3.alloc (.cells #[.int .i64 (n : Int)] 3)).alloc (.cells #[.slice none 0 0] 22)) := gt (ext1 _) (ext1 _)
      have HBK := hid BK
      have XQ := hid (xr_own HOWN.out HNN.out)
      obtain ⟨G0, hG0⟩ : ∃ G0 : Nat → Prop, ∀ i, G0 i ↔ (w2.heap.size ≤ i ∧ i < w3.heap.size) := ⟨_, fun _ => Iff.rfl⟩
      have HG0 := hid hG0
      clear BK hG0
      refine range_g (N := w.heap.size) (w0 := w) (fun p : Int × Int => #[.agg #[.int .i64 p.1, .int .i64 p.2]]) L (gf := 50) (lb := #[.pointer (some ⟨q, 0, none⟩)]) rfl (enters_of Tryd.func50 (by kernel_rfl) rfl) (fun _ => rfl)
        (fun k G W => k ≤ n ∧ RowO w.heap.size w [(w.heap.size, .cells #[.int .i64 (a).k, .slice (a).xo (a).xn (a).xc, .slice (a).po (a).pn (a).pc] 25), (w.heap.size + 1, .cells #[.int .i64 (b).k, .slice (b).xo (b).xn (b).xc, .slice (b).po (b).pn (b).pc] 25), (w3.heap.size, .cells #[.int .i64 (n : Int)] 3)] (w3.heap.size + 1) (L.take k) G W)
        (fun c G W => (c = .exit 0 ∧ n ≤ L.length) ∧ RowO w.heap.size w [(w.heap.size, .cells #[.int .i64 (a).k, .slice (a).xo (a).xn (a).xc, .slice (a).po (a).pn (a).pc] 25), (w.heap.size + 1, .cells #[.int .i64 (b).k, .slice (b).xo (b).xn (b).xc, .slice (b).po (b).pn (b).pc] 25), (w3.heap.size, .cells #[.int .i64 (n : Int)] 3)] (w3.heap.size + 1) (L.take n) G W)
        (fun k => and_cns (rowo_cns _ _ (Nat.le_refl _) _ _ _)) (fun c => and_cns (rowo_cns _ _ (Nat.le_refl _) _ _ _)) G0 (fun _ => False) (fun _ _ h => h) ?h0 ?hseq (fun p W => W.alloc (.cells #[.int .i64 p.1, .int .i64 p.2] 41)) (fun p W => Fr.alloc _ _ _)
        (fun p Wa => ⟨#[.agg #[.int .i64 (a).k, .slice (a).xo (a).xn (a).xc, .slice (a).po (a).pn (a).pc], .agg #[.int .i64 (b).k, .slice (b).xo (b).xn (b).xc, .slice (b).po (b).pn (b).pc], .int .u64 (mo : Int), .pointer (some ⟨w.heap.size, 0, none⟩), .pointer (some ⟨w.heap.size + 1, 0, none⟩), undef, .bool false, .func (.func 50) #[] #[.pointer (some ⟨q, 0, none⟩)], .pointer (some ⟨w3.heap.size, 0, none⟩), .pointer (some ⟨w3.heap.size + 1, 0, none⟩), .pointer (some ⟨Wa.heap.size, 0, none⟩), undef, .agg #[.int .i64 (a).k, .slice (a).xo (a).xn (a).xc, .slice (a).po (a).pn (a).pc], .bool true, .bool false, .bool false, .agg #[.int .i64 (b).k, .slice (b).xo (b).xn (b).xc, .slice (b).po (b).pn (b).pc], .bool true, .bool false, .bool false, undef, .agg #[.int .i64 (a).k, .slice (a).xo (a).xn (a).xc, .slice (a).po (a).pn (a).pc], .func (.func 50) #[] #[.pointer (some ⟨q, 0, none⟩)], .func (.func 50) #[] #[.pointer (some ⟨q, 0, none⟩)], .bool false, .int .u64 (mo : Int), .int .u64 ((mo : Int) % 200), .int .i64 (n : Int), .func (.func 50) #[] #[.pointer (some ⟨q, 0, none⟩)], .agg #[.int .i64 p.1, .int .i64 p.2], undef, undef, undef, undef, undef, undef, undef, undef, undef, undef, undef, undef, undef, undef, undef, undef, undef, undef, undef, undef, undef, undef, undef, undef, undef, undef, undef, undef, undef, undef, undef, undef], []⟩) ?hassign ?hbody ?hdone ?hstop
      case h0 =>
        refine ⟨by omega, none, 0, 0, by simp, ⟨K3.out.trans (HBK.out.mono (by have := K3.out.size; omega)), fun i hi => ?_, fun x hx => ?_⟩, ?_, fun a ha => by cases ha⟩
        · rcases hi with hi | hi
          · have h := (HG0.out i).1 hi
            have h2 := K2.out.size
            refine ⟨⟨by omega, by simp only [World.size_alloc]; omega⟩, fun x hx => ?_⟩
            simp at hx
            rcases hx with rfl | rfl | rfl | rfl <;> (show i ≠ _; omega)
          · exact hi.elim
        · simp at hx
          rcases hx with rfl | rfl | rfl | rfl
          · have h := heap_alloc_new (w3.alloc (.cells #[.int .i64 (n : Int)] 3)) (.cells #[.slice none 0 0] 22)
            rw [World.size_alloc] at h; exact h
          · exact (HBK.out.block _ (by omega)).trans A3.out
          · exact (HBK.out.block _ (by omega)).trans D3.out
          · exact ((ext1 _).block _ (by simp)).trans (heap_alloc_new _ _)
        · rw [show pv (L.take 0) = [] by simp [pv]]
          exact World.ownsRow_nil _ _ _ _
      case hseq =>
        intro l' J' Jx' W' hF hJ' hJx' hY' hj0
        have hb4 : Below w3.heap.size w3 W' := HBK.out.trans (hF.bel.mono (by simp only [World.size_alloc]; omega))
        refine (values_in w.heap.size w L ao nn cc q (m - 1) l' J' Jx' G0 W' hJ' hJx' hY' hj0 ((hb4.block q hqb).trans HRX.out) (XQ.out.of fun b hb => ⟨hb4.block b hb.2, (HG0.out b).2 hb⟩) HNN.out (by have := H4.out; have := HNN.out; omega)).mono ?_
        rintro e W9 ⟨hv, h⟩
        exact ⟨hv, h.imp (fun h => (hJ' _).less (by rw [HNN.out]; exact h) (fun i hi => hi.elim)) (fun h => hJx'.less h (fun i hi => hi.elim))⟩
      case hassign =>
        intro l' p W' K hK
        gi_wp2
        exact hK
      case hbody =>
        intro l' k p G Wa V hx hI _ hsz hnew
        obtain ⟨hkn, ao1, n1, cap1, hl1, hF⟩ := hI
        have hkl : k < L.length := (List.getElem?_eq_some_iff.1 hx).1
        have hn1 : n1 = k := by rw [← hl1, List.length_take]; omega
        subst hn1
        have hpb : V.heap[Wa.heap.size]? = some (.cells #[.int .i64 p.1, .int .i64 p.2] 41) := ((hnew _ (Nat.le_refl _)).1).trans (heap_alloc_new Wa _)
        have p0 : V.cell? ⟨Wa.heap.size, 0, none⟩ = some (.int .i64 p.1) := by unfold World.cell?; rw [hpb]; rfl
        have p1 : V.cell? ⟨Wa.heap.size, 1, none⟩ = some (.int .i64 p.2) := by unfold World.cell?; rw [hpb]; rfl
        have hr : Rx V (w3.heap.size + 1) ao1 n1 cap1 := hF.1.2.2 (w3.heap.size + 1, .cells #[.slice ao1 n1 cap1] 22) (by simp)
        have hnb : B1 V w3.heap.size 3 (.int .i64 (n : Int)) := hF.1.2.2 (w3.heap.size, .cells #[.int .i64 (n : Int)] 3) (by simp)
        have r0 := hr.cell; have r1 := hr.fz; have m0 := hnb.cell
        have HF := hid hF; have HL := hid hl1
        have HS := hid (show L.take (n1 + 1) = L.take n1 ++ [p] by rw [List.take_add_one, hx]; rfl)
        have hV := hF.1.1.size
        by_cases hbr : n1 = n
        · subst hbr
          have e9 : ((n1 : Int) == (n1 : Int)) = true := by simp
          clear hF hl1 hx hsz hnew hpb hr hnb hkn
          gi_wp2
          exact ⟨Sm.refl _ _, ⟨rfl, by omega⟩, ao1, n1, cap1, HL.out, HF.out⟩
        · have e9 : ((n1 : Int) == (n : Int)) = false := by simp; omega
          have hlt : n1 + 1 ≤ n := by omega
          have F1 := hid ((rowf_cns w.heap.size w (Nat.le_refl _) _ ao1 n1 cap1 (L.take n1)).mv G G V (V.alloc (.cells #[.int .i64 p.1, .int .i64 p.2] 41)) hF (Fr.alloc _ _ _) (fun i hi => .inl hi))
          have XP := hid (show XR (fun _ => True) (V.alloc (.cells #[.int .i64 p.1, .int .i64 p.2] 41)) (some ⟨V.heap.size, 0, none⟩) [p] from .inr ⟨V.heap.size, 0, rfl, trivial, fun i x hi => by
            match i, hi with
            | 0, hi => simp at hi; subst hi; exact ⟨by simp, by simp⟩
            | i + 1, hi => simp at hi⟩)
          have HGV := hid (fun i (hi : G i) => (hF.1.2.1 i hi).1.2)
          clear hF hl1 hx hsz hnew hpb hr hnb hkn hbr
          gi_wp2_with ((with_reducible refine here_in 37 ?_); refine appendIn_pts rfl (.tmp 34) (.tmp 36) rfl w.heap.size (.slice ao1 n1 cap1) n1 (L.take n1) rfl F1.out.2.1 (fun _ => True) (some ⟨V.heap.size, 0, none⟩) 1 1 [p] rfl XP.out rfl (fun e => by cases e) (by omega) (by simp only [World.size_alloc]; omega) ?_; intro v1 W1 ho1 hg1 h51; obtain ⟨hrx, ao2, cap2, e1, hro, hsm⟩ := row_step (b := w3.heap.size + 1) (ys := [p]) (Nat.le_refl _) (by have := K3.out.size; omega) F1.out HL.out (fun y hy => by simp at hy; rcases hy with rfl | rfl | rfl <;> exact ⟨by simp only; omega, _, _, rfl, by decide⟩) ho1 hg1 h51; subst e1; have k0 := hrx.cell; have k1 := hrx.fz; have RO := hid hro; have SM := hid hsm; clear hro hsm ho1 hg1 h51 hrx)
          exact ⟨((Fr.alloc (fun _ => False) V (.cells #[.int .i64 p.1, .int .i64 p.2] 41)).sm fun i hi => ⟨HGV.out i hi, fun h => h⟩).trans SM.out, hlt, by rw [HS.out]; exact RO.out⟩
      case hdone =>
        rintro W9 ⟨hLn, hRO⟩ hM _
        rw [List.take_length] at hRO
        have eT : L.take n = L := List.take_of_length_le hLn
        rw [← eT] at hRO
        obtain ⟨ao9, n9, cap9, hl9, hF9⟩ := hRO
        have BA9 := hid (show Bx W9 w.heap.size a from hF9.1.2.2 (w.heap.size, .cells #[.int .i64 (a).k, .slice (a).xo (a).xn (a).xc, .slice (a).po (a).pn (a).pc] 25) (by simp))
        have BB9 := hid (show Bx W9 (w.heap.size + 1) b from hF9.1.2.2 (w.heap.size + 1, .cells #[.int .i64 (b).k, .slice (b).xo (b).xn (b).xc, .slice (b).po (b).pn (b).pc] 25) (by simp))
        have NB9 := hid (show B1 W9 w3.heap.size 3 (.int .i64 (n : Int)) from hF9.1.2.2 (w3.heap.size, .cells #[.int .i64 (n : Int)] 3) (by simp))
        have LB9 := hid (show Rx W9 (w3.heap.size + 1) ao9 n9 cap9 from hF9.1.2.2 (w3.heap.size + 1, .cells #[.slice ao9 n9 cap9] 22) (by simp))
        have KW9 := hid hF9.1.1
        have XR9 := hid (xr_own hF9.2.1 hl9)
        have HL9 := hid hl9
        have h9n : n9 ≤ 4000 := by have := H4.out; rw [← hl9, List.length_take]; omega
        have HM9 : Hid (Mark (w3.heap.size + 1 + 1) W9) := hid (by have h9 := hM; simp only [World.size_alloc] at h9; exact h9)
        have MLT := hid ((Array.getElem?_eq_some_iff.1 HM9.out).1)
        obtain ⟨f0, f1, f2⟩ := BA9.out.cells
        have cmp : (L.length : Int) ≤ (n : Int) := by omega
        have hL4 : L.length ≤ 4000 := H4.out
        clear hM hF9 hl9 z0 z1 z2 v0 v1 v2 x0 x1 x2 y0 y1 y2
        gi_wp2_with (refine ⟨trivial, fun h => (by cases h), ?_⟩; gi_at_call 27; refine (callsIn_wide.2 (C27.out _ KW9.out)).mono ?_; rintro e w10 ⟨⟨bo, bc, rfl, hb0, hbx, hbc⟩, hb10⟩; have H10 := hid hb10; have X10 := hid hbx; have K10 := hid (gt KW9.out hb10); have BA10 := hid (BA9.out.keep hb10); have BB10 := hid (BB9.out.keep hb10); have NB10 := hid (keep_old hb10 NB9.out.cell); have LB10 := hid (LB9.out.keep hb10); obtain ⟨g0, g1, g2⟩ := BA10.out.cells; obtain ⟨k0, k1, k2⟩ := BB10.out.cells; have n0 := NB10.out; have l0 := LB10.out.cell; clear hb10 hbx hb0)
        have EQ : (L.take n == L.take n) = true := by simp
        have C30 := hid (fun W (hw : Below w10.heap.size w10 W) => same_call (fun b => w.heap.size ≤ b ∧ b < W9.heap.size) (fun b => W9.heap.size ≤ b ∧ b < w10.heap.size) ao9 bo n9 L.length cap9 bc (L.take n) (L.take n) W (XR9.out.of fun b hb => ⟨((gt H10.out hw).block b hb.2), hb⟩) ((X10.out.take n).of fun b hb => ⟨hw.block b hb.2, hb⟩) HL9.out (by rw [List.length_take]; omega) (by omega) (by omega) (fun b hb => Nat.lt_of_lt_of_le hb.2 (gt H10.out hw).size) (fun b hb => Nat.lt_of_lt_of_le hb.2 hw.size))
        rw [EQ] at C30
        clear EQ f0 f1 f2 n0
        refine wpIn_mono (show Code.wpIn Fence.wide m Tryd.prog _ (NPost fun a' W' => a'.defers = [{ target := .collected (w3.heap.size + 1 + 1), args := #[] }] ∧ a'.tmps.getD 6 undef = .bool true ∧ Below w10.heap.size w10 W') _ _ from wpIn_wide.2 ?_) ?_
        · show Code.wp _ _ _ _ _
          refine wp_region_K (S := (fun W : World => (W.cell? ⟨w.heap.size, 0, none⟩ = some (.int .i64 a.k) ∧ W.cell? ⟨w.heap.size, 1, none⟩ = some (.slice a.xo a.xn a.xc) ∧ W.cell? ⟨w.heap.size, 2, none⟩ = some (.slice a.po a.pn a.pc)) ∧ (W.cell? ⟨w.heap.size + 1, 0, none⟩ = some (.int .i64 b.k) ∧ W.cell? ⟨w.heap.size + 1, 1, none⟩ = some (.slice b.xo b.xn b.xc) ∧ W.cell? ⟨w.heap.size + 1, 2, none⟩ = some (.slice b.po b.pn b.pc)) ∧ W.cell? ⟨w3.heap.size + 1, 0, none⟩ = some (.slice ao9 n9 cap9) ∧ Below w10.heap.size w10 W)) (fun _ => false) (by kernel_rfl) (by exact ⟨⟨g0, g1, g2⟩, ⟨k0, k1, k2⟩, l0, (Below.refl _ _).drew⟩) (fun hHeld => ?_)
          refine gkt 0 ?_ (h := by intro W hSw; obtain ⟨⟨r0, r1, r2⟩, ⟨s0, s1, s2⟩, t0, _⟩ := hSw; go_simp; first | done | with_reducible rfl)
          refine gkt 1 ?_ (h := by intro W hSw; obtain ⟨⟨r0, r1, r2⟩, ⟨s0, s1, s2⟩, t0, _⟩ := hSw; go_simp; first | done | with_reducible rfl)
          refine gkt 3 ?_ (h := by intro W hSw; obtain ⟨⟨r0, r1, r2⟩, ⟨s0, s1, s2⟩, t0, _⟩ := hSw; go_simp; first | done | with_reducible rfl)
          refine gkt 4 ?_ (h := by intro W hSw; obtain ⟨⟨r0, r1, r2⟩, ⟨s0, s1, s2⟩, t0, _⟩ := hSw; go_simp; first | done | with_reducible rfl)
          refine gk1 2 (fun K hK => ?_)
          go_simp
          go_at_call 28; refine (C28.out _ (gt K10.out hHeld.2.2.2)).mono ?_; rintro e u2 ⟨rfl, hb⟩; have H9 := hid hb; clear hb; have hR : (fun W : World => (W.cell? ⟨w.heap.size, 0, none⟩ = some (.int .i64 a.k) ∧ W.cell? ⟨w.heap.size, 1, none⟩ = some (.slice a.xo a.xn a.xc) ∧ W.cell? ⟨w.heap.size, 2, none⟩ = some (.slice a.po a.pn a.pc)) ∧ (W.cell? ⟨w.heap.size + 1, 0, none⟩ = some (.int .i64 b.k) ∧ W.cell? ⟨w.heap.size + 1, 1, none⟩ = some (.slice b.xo b.xn b.xc) ∧ W.cell? ⟨w.heap.size + 1, 2, none⟩ = some (.slice b.po b.pn b.pc)) ∧ W.cell? ⟨w3.heap.size + 1, 0, none⟩ = some (.slice ao9 n9 cap9) ∧ Below w10.heap.size w10 W) u2 := ⟨⟨keep_old H9.out hHeld.1.1, keep_old H9.out hHeld.1.2.1, keep_old H9.out hHeld.1.2.2⟩, ⟨keep_old H9.out hHeld.2.1.1, keep_old H9.out hHeld.2.1.2.1, keep_old H9.out hHeld.2.1.2.2⟩, keep_old H9.out hHeld.2.2.1, gt hHeld.2.2.2 H9.out⟩; clear H9
          refine hK.out _ _ hR (fun hHeld => ?_)
          clear hK K
          (try simp only [Act.put, sA, sZ, sS])
          refine gk1 5 (fun K hK => ?_)
          go_simp
          go_at_call 29; refine (C29.out _ (gt K10.out hHeld.2.2.2)).mono ?_; rintro e u5 ⟨rfl, hb⟩; have H9 := hid hb; clear hb; have hR : (fun W : World => (W.cell? ⟨w.heap.size, 0, none⟩ = some (.int .i64 a.k) ∧ W.cell? ⟨w.heap.size, 1, none⟩ = some (.slice a.xo a.xn a.xc) ∧ W.cell? ⟨w.heap.size, 2, none⟩ = some (.slice a.po a.pn a.pc)) ∧ (W.cell? ⟨w.heap.size + 1, 0, none⟩ = some (.int .i64 b.k) ∧ W.cell? ⟨w.heap.size + 1, 1, none⟩ = some (.slice b.xo b.xn b.xc) ∧ W.cell? ⟨w.heap.size + 1, 2, none⟩ = some (.slice b.po b.pn b.pc)) ∧ W.cell? ⟨w3.heap.size + 1, 0, none⟩ = some (.slice ao9 n9 cap9) ∧ Below w10.heap.size w10 W) u5 := ⟨⟨keep_old H9.out hHeld.1.1, keep_old H9.out hHeld.1.2.1, keep_old H9.out hHeld.1.2.2⟩, ⟨keep_old H9.out hHeld.2.1.1, keep_old H9.out hHeld.2.1.2.1, keep_old H9.out hHeld.2.1.2.2⟩, keep_old H9.out hHeld.2.2.1, gt hHeld.2.2.2 H9.out⟩; clear H9
          refine hK.out _ _ hR (fun hHeld => ?_)
          clear hK K
          (try simp only [Act.put, sA, sZ, sS])
          refine gkp 6 ?_ (v := .bool true) (h := by intro W hSw; go_simp; first | done | with_reducible rfl)
          refine gkp 7 ?_ (v := .bool true) (h := by intro W hSw; go_simp; first | done | with_reducible rfl)
          refine gkt 8 ?_ (h := by intro W hSw; obtain ⟨⟨r0, r1, r2⟩, ⟨s0, s1, s2⟩, t0, _⟩ := hSw; go_simp; first | done | with_reducible rfl)
          refine gkp 9 ?_
          refine gk1 10 (fun K hK => ?_)
          go_simp
          go_at_call 30; refine (C30.out _ hHeld.2.2.2).mono ?_; rintro e u10 ⟨rfl, hb⟩; have H9 := hid hb; clear hb; have hR : (fun W : World => (W.cell? ⟨w.heap.size, 0, none⟩ = some (.int .i64 a.k) ∧ W.cell? ⟨w.heap.size, 1, none⟩ = some (.slice a.xo a.xn a.xc) ∧ W.cell? ⟨w.heap.size, 2, none⟩ = some (.slice a.po a.pn a.pc)) ∧ (W.cell? ⟨w.heap.size + 1, 0, none⟩ = some (.int .i64 b.k) ∧ W.cell? ⟨w.heap.size + 1, 1, none⟩ = some (.slice b.xo b.xn b.xc) ∧ W.cell? ⟨w.heap.size + 1, 2, none⟩ = some (.slice b.po b.pn b.pc)) ∧ W.cell? ⟨w3.heap.size + 1, 0, none⟩ = some (.slice ao9 n9 cap9) ∧ Below w10.heap.size w10 W) u10 := ⟨⟨keep_old H9.out hHeld.1.1, keep_old H9.out hHeld.1.2.1, keep_old H9.out hHeld.1.2.2⟩, ⟨keep_old H9.out hHeld.2.1.1, keep_old H9.out hHeld.2.1.2.1, keep_old H9.out hHeld.2.1.2.2⟩, keep_old H9.out hHeld.2.2.1, gt hHeld.2.2.2 H9.out⟩; clear H9
          refine hK.out _ _ hR (fun hHeld => ?_)
          clear hK K
          (try simp only [Act.put, sA, sZ, sS])
          refine gkp 11 ?_ (v := .bool true) (h := by intro W hSw; go_simp; first | done | with_reducible rfl)
          refine gkp 12 ?_ (v := .bool true) (h := by intro W hSw; go_simp; first | done | with_reducible rfl)
          refine gk1 13 (fun K hK => ?_)
          go_simp
          go_at_call 18; refine (C18.out _ (gt K10.out hHeld.2.2.2)).mono ?_; rintro e u13 ⟨rfl, hb⟩; have H9 := hid hb; clear hb; have hR : (fun W : World => (W.cell? ⟨w.heap.size, 0, none⟩ = some (.int .i64 a.k) ∧ W.cell? ⟨w.heap.size, 1, none⟩ = some (.slice a.xo a.xn a.xc) ∧ W.cell? ⟨w.heap.size, 2, none⟩ = some (.slice a.po a.pn a.pc)) ∧ (W.cell? ⟨w.heap.size + 1, 0, none⟩ = some (.int .i64 b.k) ∧ W.cell? ⟨w.heap.size + 1, 1, none⟩ = some (.slice b.xo b.xn b.xc) ∧ W.cell? ⟨w.heap.size + 1, 2, none⟩ = some (.slice b.po b.pn b.pc)) ∧ W.cell? ⟨w3.heap.size + 1, 0, none⟩ = some (.slice ao9 n9 cap9) ∧ Below w10.heap.size w10 W) u13 := ⟨⟨keep_old H9.out hHeld.1.1, keep_old H9.out hHeld.1.2.1, keep_old H9.out hHeld.1.2.2⟩, ⟨keep_old H9.out hHeld.2.1.1, keep_old H9.out hHeld.2.1.2.1, keep_old H9.out hHeld.2.1.2.2⟩, keep_old H9.out hHeld.2.2.1, gt hHeld.2.2.2 H9.out⟩; clear H9
          refine hK.out _ _ hR (fun hHeld => ?_)
          clear hK K
          (try simp only [Act.put, sA, sZ, sS])
          refine gkp 14 ?_ (v := .bool true) (h := by intro W hSw; go_simp; first | done | with_reducible rfl)
          refine gkp 15 ?_
          refine wpAnyK_done (by kernel_rfl) ?_ _
          exact ⟨rfl, rfl, hHeld.2.2.2⟩
        intro e a5 W6 h6
        cases e with
        | normal =>
          obtain ⟨d5, t5, hbl⟩ := h6
          obtain ⟨tm, df⟩ := a5
          simp only at d5 t5
          subst d5
          have BL := gt H10.out hbl
          have HBL := hid hbl
          simp only [Exit.then]
          gi_wp2
          refine leave1 (own_cns w.heap.size w (Nat.le_refl _) []) ⟨gt K10.out HBL.out, fun i hi => ⟨⟨by have := K3.out.size; omega, by have := BL.size; have := MLT.out; omega⟩, by simp⟩, by simp⟩ ((BL.block _ MLT.out).trans HM9.out) (fun W' h' => ⟨_, results_tmp rfl _ _ _, by simp only; rw [t5], h'.1⟩)
        | _ => exact h6.elim
      case hstop =>
        rintro c W9 ⟨⟨rfl, hnL⟩, hRO⟩ hM _
        by_cases hLn : L.length ≤ n
        · have eT : L.take n = L := List.take_of_length_le hLn
          obtain ⟨ao9, n9, cap9, hl9, hF9⟩ := hRO
          have BA9 := hid (show Bx W9 w.heap.size a from hF9.1.2.2 (w.heap.size, .cells #[.int .i64 (a).k, .slice (a).xo (a).xn (a).xc, .slice (a).po (a).pn (a).pc] 25) (by simp))
          have BB9 := hid (show Bx W9 (w.heap.size + 1) b from hF9.1.2.2 (w.heap.size + 1, .cells #[.int .i64 (b).k, .slice (b).xo (b).xn (b).xc, .slice (b).po (b).pn (b).pc] 25) (by simp))
          have NB9 := hid (show B1 W9 w3.heap.size 3 (.int .i64 (n : Int)) from hF9.1.2.2 (w3.heap.size, .cells #[.int .i64 (n : Int)] 3) (by simp))
          have LB9 := hid (show Rx W9 (w3.heap.size + 1) ao9 n9 cap9 from hF9.1.2.2 (w3.heap.size + 1, .cells #[.slice ao9 n9 cap9] 22) (by simp))
          have KW9 := hid hF9.1.1
          have XR9 := hid (xr_own hF9.2.1 hl9)
          have HL9 := hid hl9
          have h9n : n9 ≤ 4000 := by have := H4.out; rw [← hl9, List.length_take]; omega
          have HM9 : Hid (Mark (w3.heap.size + 1 + 1) W9) := hid (by have h9 := hM; simp only [World.size_alloc] at h9; exact h9)
          have MLT := hid ((Array.getElem?_eq_some_iff.1 HM9.out).1)
          obtain ⟨f0, f1, f2⟩ := BA9.out.cells
          have cmp : (L.length : Int) ≤ (n : Int) := by omega
          have hL4 : L.length ≤ 4000 := H4.out
          clear hM hF9 hl9 z0 z1 z2 v0 v1 v2 x0 x1 x2 y0 y1 y2
          gi_wp2_with (refine ⟨trivial, fun h => (by cases h), ?_⟩; gi_at_call 27; refine (callsIn_wide.2 (C27.out _ KW9.out)).mono ?_; rintro e w10 ⟨⟨bo, bc, rfl, hb0, hbx, hbc⟩, hb10⟩; have H10 := hid hb10; have X10 := hid hbx; have K10 := hid (gt KW9.out hb10); have BA10 := hid (BA9.out.keep hb10); have BB10 := hid (BB9.out.keep hb10); have NB10 := hid (keep_old hb10 NB9.out.cell); have LB10 := hid (LB9.out.keep hb10); obtain ⟨g0, g1, g2⟩ := BA10.out.cells; obtain ⟨k0, k1, k2⟩ := BB10.out.cells; have n0 := NB10.out; have l0 := LB10.out.cell; clear hb10 hbx hb0)
          have EQ : (L.take n == L.take n) = true := by simp
          have C30 := hid (fun W (hw : Below w10.heap.size w10 W) => same_call (fun b => w.heap.size ≤ b ∧ b < W9.heap.size) (fun b => W9.heap.size ≤ b ∧ b < w10.heap.size) ao9 bo n9 L.length cap9 bc (L.take n) (L.take n) W (XR9.out.of fun b hb => ⟨((gt H10.out hw).block b hb.2), hb⟩) ((X10.out.take n).of fun b hb => ⟨hw.block b hb.2, hb⟩) HL9.out (by rw [List.length_take]; omega) (by omega) (by omega) (fun b hb => Nat.lt_of_lt_of_le hb.2 (gt H10.out hw).size) (fun b hb => Nat.lt_of_lt_of_le hb.2 hw.size))
          rw [EQ] at C30
          clear EQ f0 f1 f2 n0
          refine wpIn_mono (show Code.wpIn Fence.wide m Tryd.prog _ (NPost fun a' W' => a'.defers = [{ target := .collected (w3.heap.size + 1 + 1), args := #[] }] ∧ a'.tmps.getD 6 undef = .bool true ∧ Below w10.heap.size w10 W') _ _ from wpIn_wide.2 ?_) ?_
          · show Code.wp _ _ _ _ _
            refine wp_region_K (S := (fun W : World => (W.cell? ⟨w.heap.size, 0, none⟩ = some (.int .i64 a.k) ∧ W.cell? ⟨w.heap.size, 1, none⟩ = some (.slice a.xo a.xn a.xc) ∧ W.cell? ⟨w.heap.size, 2, none⟩ = some (.slice a.po a.pn a.pc)) ∧ (W.cell? ⟨w.heap.size + 1, 0, none⟩ = some (.int .i64 b.k) ∧ W.cell? ⟨w.heap.size + 1, 1, none⟩ = some (.slice b.xo b.xn b.xc) ∧ W.cell? ⟨w.heap.size + 1, 2, none⟩ = some (.slice b.po b.pn b.pc)) ∧ W.cell? ⟨w3.heap.size + 1, 0, none⟩ = some (.slice ao9 n9 cap9) ∧ Below w10.heap.size w10 W)) (fun _ => false) (by kernel_rfl) (by exact ⟨⟨g0, g1, g2⟩, ⟨k0, k1, k2⟩, l0, (Below.refl _ _).drew⟩) (fun hHeld => ?_)
            refine gkt 0 ?_ (h := by intro W hSw; obtain ⟨⟨r0, r1, r2⟩, ⟨s0, s1, s2⟩, t0, _⟩ := hSw; go_simp; first | done | with_reducible rfl)
            refine gkt 1 ?_ (h := by intro W hSw; obtain ⟨⟨r0, r1, r2⟩, ⟨s0, s1, s2⟩, t0, _⟩ := hSw; go_simp; first | done | with_reducible rfl)
            refine gkt 3 ?_ (h := by intro W hSw; obtain ⟨⟨r0, r1, r2⟩, ⟨s0, s1, s2⟩, t0, _⟩ := hSw; go_simp; first | done | with_reducible rfl)
            refine gkt 4 ?_ (h := by intro W hSw; obtain ⟨⟨r0, r1, r2⟩, ⟨s0, s1, s2⟩, t0, _⟩ := hSw; go_simp; first | done | with_reducible rfl)
            refine gk1 2 (fun K hK => ?_)
            go_simp
            go_at_call 28; refine (C28.out _ (gt K10.out hHeld.2.2.2)).mono ?_; rintro e u2 ⟨rfl, hb⟩; have H9 := hid hb; clear hb; have hR : (fun W : World => (W.cell? ⟨w.heap.size, 0, none⟩ = some (.int .i64 a.k) ∧ W.cell? ⟨w.heap.size, 1, none⟩ = some (.slice a.xo a.xn a.xc) ∧ W.cell? ⟨w.heap.size, 2, none⟩ = some (.slice a.po a.pn a.pc)) ∧ (W.cell? ⟨w.heap.size + 1, 0, none⟩ = some (.int .i64 b.k) ∧ W.cell? ⟨w.heap.size + 1, 1, none⟩ = some (.slice b.xo b.xn b.xc) ∧ W.cell? ⟨w.heap.size + 1, 2, none⟩ = some (.slice b.po b.pn b.pc)) ∧ W.cell? ⟨w3.heap.size + 1, 0, none⟩ = some (.slice ao9 n9 cap9) ∧ Below w10.heap.size w10 W) u2 := ⟨⟨keep_old H9.out hHeld.1.1, keep_old H9.out hHeld.1.2.1, keep_old H9.out hHeld.1.2.2⟩, ⟨keep_old H9.out hHeld.2.1.1, keep_old H9.out hHeld.2.1.2.1, keep_old H9.out hHeld.2.1.2.2⟩, keep_old H9.out hHeld.2.2.1, gt hHeld.2.2.2 H9.out⟩; clear H9
            refine hK.out _ _ hR (fun hHeld => ?_)
            clear hK K
            (try simp only [Act.put, sA, sZ, sS])
            refine gk1 5 (fun K hK => ?_)
            go_simp
            go_at_call 29; refine (C29.out _ (gt K10.out hHeld.2.2.2)).mono ?_; rintro e u5 ⟨rfl, hb⟩; have H9 := hid hb; clear hb; have hR : (fun W : World => (W.cell? ⟨w.heap.size, 0, none⟩ = some (.int .i64 a.k) ∧ W.cell? ⟨w.heap.size, 1, none⟩ = some (.slice a.xo a.xn a.xc) ∧ W.cell? ⟨w.heap.size, 2, none⟩ = some (.slice a.po a.pn a.pc)) ∧ (W.cell? ⟨w.heap.size + 1, 0, none⟩ = some (.int .i64 b.k) ∧ W.cell? ⟨w.heap.size + 1, 1, none⟩ = some (.slice b.xo b.xn b.xc) ∧ W.cell? ⟨w.heap.size + 1, 2, none⟩ = some (.slice b.po b.pn b.pc)) ∧ W.cell? ⟨w3.heap.size + 1, 0, none⟩ = some (.slice ao9 n9 cap9) ∧ Below w10.heap.size w10 W) u5 := ⟨⟨keep_old H9.out hHeld.1.1, keep_old H9.out hHeld.1.2.1, keep_old H9.out hHeld.1.2.2⟩, ⟨keep_old H9.out hHeld.2.1.1, keep_old H9.out hHeld.2.1.2.1, keep_old H9.out hHeld.2.1.2.2⟩, keep_old H9.out hHeld.2.2.1, gt hHeld.2.2.2 H9.out⟩; clear H9
            refine hK.out _ _ hR (fun hHeld => ?_)
            clear hK K
            (try simp only [Act.put, sA, sZ, sS])
            refine gkp 6 ?_ (v := .bool true) (h := by intro W hSw; go_simp; first | done | with_reducible rfl)
            refine gkp 7 ?_ (v := .bool true) (h := by intro W hSw; go_simp; first | done | with_reducible rfl)
            refine gkt 8 ?_ (h := by intro W hSw; obtain ⟨⟨r0, r1, r2⟩, ⟨s0, s1, s2⟩, t0, _⟩ := hSw; go_simp; first | done | with_reducible rfl)
            refine gkp 9 ?_
            refine gk1 10 (fun K hK => ?_)
            go_simp
            go_at_call 30; refine (C30.out _ hHeld.2.2.2).mono ?_; rintro e u10 ⟨rfl, hb⟩; have H9 := hid hb; clear hb; have hR : (fun W : World => (W.cell? ⟨w.heap.size, 0, none⟩ = some (.int .i64 a.k) ∧ W.cell? ⟨w.heap.size, 1, none⟩ = some (.slice a.xo a.xn a.xc) ∧ W.cell? ⟨w.heap.size, 2, none⟩ = some (.slice a.po a.pn a.pc)) ∧ (W.cell? ⟨w.heap.size + 1, 0, none⟩ = some (.int .i64 b.k) ∧ W.cell? ⟨w.heap.size + 1, 1, none⟩ = some (.slice b.xo b.xn b.xc) ∧ W.cell? ⟨w.heap.size + 1, 2, none⟩ = some (.slice b.po b.pn b.pc)) ∧ W.cell? ⟨w3.heap.size + 1, 0, none⟩ = some (.slice ao9 n9 cap9) ∧ Below w10.heap.size w10 W) u10 := ⟨⟨keep_old H9.out hHeld.1.1, keep_old H9.out hHeld.1.2.1, keep_old H9.out hHeld.1.2.2⟩, ⟨keep_old H9.out hHeld.2.1.1, keep_old H9.out hHeld.2.1.2.1, keep_old H9.out hHeld.2.1.2.2⟩, keep_old H9.out hHeld.2.2.1, gt hHeld.2.2.2 H9.out⟩; clear H9
            refine hK.out _ _ hR (fun hHeld => ?_)
            clear hK K
            (try simp only [Act.put, sA, sZ, sS])
            refine gkp 11 ?_ (v := .bool true) (h := by intro W hSw; go_simp; first | done | with_reducible rfl)
            refine gkp 12 ?_ (v := .bool true) (h := by intro W hSw; go_simp; first | done | with_reducible rfl)
            refine gk1 13 (fun K hK => ?_)
            go_simp
            go_at_call 18; refine (C18.out _ (gt K10.out hHeld.2.2.2)).mono ?_; rintro e u13 ⟨rfl, hb⟩; have H9 := hid hb; clear hb; have hR : (fun W : World => (W.cell? ⟨w.heap.size, 0, none⟩ = some (.int .i64 a.k) ∧ W.cell? ⟨w.heap.size, 1, none⟩ = some (.slice a.xo a.xn a.xc) ∧ W.cell? ⟨w.heap.size, 2, none⟩ = some (.slice a.po a.pn a.pc)) ∧ (W.cell? ⟨w.heap.size + 1, 0, none⟩ = some (.int .i64 b.k) ∧ W.cell? ⟨w.heap.size + 1, 1, none⟩ = some (.slice b.xo b.xn b.xc) ∧ W.cell? ⟨w.heap.size + 1, 2, none⟩ = some (.slice b.po b.pn b.pc)) ∧ W.cell? ⟨w3.heap.size + 1, 0, none⟩ = some (.slice ao9 n9 cap9) ∧ Below w10.heap.size w10 W) u13 := ⟨⟨keep_old H9.out hHeld.1.1, keep_old H9.out hHeld.1.2.1, keep_old H9.out hHeld.1.2.2⟩, ⟨keep_old H9.out hHeld.2.1.1, keep_old H9.out hHeld.2.1.2.1, keep_old H9.out hHeld.2.1.2.2⟩, keep_old H9.out hHeld.2.2.1, gt hHeld.2.2.2 H9.out⟩; clear H9
            refine hK.out _ _ hR (fun hHeld => ?_)
            clear hK K
            (try simp only [Act.put, sA, sZ, sS])
            refine gkp 14 ?_ (v := .bool true) (h := by intro W hSw; go_simp; first | done | with_reducible rfl)
            refine gkp 15 ?_
            refine wpAnyK_done (by kernel_rfl) ?_ _
            exact ⟨rfl, rfl, hHeld.2.2.2⟩
          intro e a5 W6 h6
          cases e with
          | normal =>
            obtain ⟨d5, t5, hbl⟩ := h6
            obtain ⟨tm, df⟩ := a5
            simp only at d5 t5
            subst d5
            have BL := gt H10.out hbl
            have HBL := hid hbl
            simp only [Exit.then]
            gi_wp2
            refine leave1 (own_cns w.heap.size w (Nat.le_refl _) []) ⟨gt K10.out HBL.out, fun i hi => ⟨⟨by have := K3.out.size; omega, by have := BL.size; have := MLT.out; omega⟩, by simp⟩, by simp⟩ ((BL.block _ MLT.out).trans HM9.out) (fun W' h' => ⟨_, results_tmp rfl _ _ _, by simp only; rw [t5], h'.1⟩)
          | _ => exact h6.elim
        · have eN : n < L.length := by omega
          obtain ⟨ao9, n9, cap9, hl9, hF9⟩ := hRO
          have BA9 := hid (show Bx W9 w.heap.size a from hF9.1.2.2 (w.heap.size, .cells #[.int .i64 (a).k, .slice (a).xo (a).xn (a).xc, .slice (a).po (a).pn (a).pc] 25) (by simp))
          have BB9 := hid (show Bx W9 (w.heap.size + 1) b from hF9.1.2.2 (w.heap.size + 1, .cells #[.int .i64 (b).k, .slice (b).xo (b).xn (b).xc, .slice (b).po (b).pn (b).pc] 25) (by simp))
          have NB9 := hid (show B1 W9 w3.heap.size 3 (.int .i64 (n : Int)) from hF9.1.2.2 (w3.heap.size, .cells #[.int .i64 (n : Int)] 3) (by simp))
          have LB9 := hid (show Rx W9 (w3.heap.size + 1) ao9 n9 cap9 from hF9.1.2.2 (w3.heap.size + 1, .cells #[.slice ao9 n9 cap9] 22) (by simp))
          have KW9 := hid hF9.1.1
          have XR9 := hid (xr_own hF9.2.1 hl9)
          have HL9 := hid hl9
          have h9n : n9 ≤ 4000 := by have := H4.out; rw [← hl9, List.length_take]; omega
          have HM9 : Hid (Mark (w3.heap.size + 1 + 1) W9) := hid (by have h9 := hM; simp only [World.size_alloc] at h9; exact h9)
          have MLT := hid ((Array.getElem?_eq_some_iff.1 HM9.out).1)
          obtain ⟨f0, f1, f2⟩ := BA9.out.cells
          have cmp : (n : Int) < (L.length : Int) := by omega
          have hL4 : L.length ≤ 4000 := H4.out
          clear hM hF9 hl9 z0 z1 z2 v0 v1 v2 x0 x1 x2 y0 y1 y2
          gi_wp2_with (refine ⟨trivial, fun h => (by cases h), ?_⟩; gi_at_call 27; refine (callsIn_wide.2 (C27.out _ KW9.out)).mono ?_; rintro e w10 ⟨⟨bo, bc, rfl, hb0, hbx, hbc⟩, hb10⟩; have H10 := hid hb10; have X10 := hid hbx; have K10 := hid (gt KW9.out hb10); have BA10 := hid (BA9.out.keep hb10); have BB10 := hid (BB9.out.keep hb10); have NB10 := hid (keep_old hb10 NB9.out.cell); have LB10 := hid (LB9.out.keep hb10); obtain ⟨g0, g1, g2⟩ := BA10.out.cells; obtain ⟨k0, k1, k2⟩ := BB10.out.cells; have n0 := NB10.out; have l0 := LB10.out.cell; clear hb10 hbx hb0)
          have EQ : (L.take n == L.take n) = true := by simp
          have C30 := hid (fun W (hw : Below w10.heap.size w10 W) => same_call (fun b => w.heap.size ≤ b ∧ b < W9.heap.size) (fun b => W9.heap.size ≤ b ∧ b < w10.heap.size) ao9 bo n9 n cap9 bc (L.take n) (L.take n) W (XR9.out.of fun b hb => ⟨((gt H10.out hw).block b hb.2), hb⟩) ((X10.out.take n).of fun b hb => ⟨hw.block b hb.2, hb⟩) HL9.out (by rw [List.length_take]; omega) (by omega) (by omega) (fun b hb => Nat.lt_of_lt_of_le hb.2 (gt H10.out hw).size) (fun b hb => Nat.lt_of_lt_of_le hb.2 hw.size))
          rw [EQ] at C30
          clear EQ f0 f1 f2 n0
          refine wpIn_mono (show Code.wpIn Fence.wide m Tryd.prog _ (NPost fun a' W' => a'.defers = [{ target := .collected (w3.heap.size + 1 + 1), args := #[] }] ∧ a'.tmps.getD 6 undef = .bool true ∧ Below w10.heap.size w10 W') _ _ from wpIn_wide.2 ?_) ?_
          · show Code.wp _ _ _ _ _
            refine wp_region_K (S := (fun W : World => (W.cell? ⟨w.heap.size, 0, none⟩ = some (.int .i64 a.k) ∧ W.cell? ⟨w.heap.size, 1, none⟩ = some (.slice a.xo a.xn a.xc) ∧ W.cell? ⟨w.heap.size, 2, none⟩ = some (.slice a.po a.pn a.pc)) ∧ (W.cell? ⟨w.heap.size + 1, 0, none⟩ = some (.int .i64 b.k) ∧ W.cell? ⟨w.heap.size + 1, 1, none⟩ = some (.slice b.xo b.xn b.xc) ∧ W.cell? ⟨w.heap.size + 1, 2, none⟩ = some (.slice b.po b.pn b.pc)) ∧ W.cell? ⟨w3.heap.size + 1, 0, none⟩ = some (.slice ao9 n9 cap9) ∧ Below w10.heap.size w10 W)) (fun _ => false) (by kernel_rfl) (by exact ⟨⟨g0, g1, g2⟩, ⟨k0, k1, k2⟩, l0, (Below.refl _ _).drew⟩) (fun hHeld => ?_)
            refine gkt 0 ?_ (h := by intro W hSw; obtain ⟨⟨r0, r1, r2⟩, ⟨s0, s1, s2⟩, t0, _⟩ := hSw; go_simp; first | done | with_reducible rfl)
            refine gkt 1 ?_ (h := by intro W hSw; obtain ⟨⟨r0, r1, r2⟩, ⟨s0, s1, s2⟩, t0, _⟩ := hSw; go_simp; first | done | with_reducible rfl)
            refine gkt 3 ?_ (h := by intro W hSw; obtain ⟨⟨r0, r1, r2⟩, ⟨s0, s1, s2⟩, t0, _⟩ := hSw; go_simp; first | done | with_reducible rfl)
            refine gkt 4 ?_ (h := by intro W hSw; obtain ⟨⟨r0, r1, r2⟩, ⟨s0, s1, s2⟩, t0, _⟩ := hSw; go_simp; first | done | with_reducible rfl)
            refine gk1 2 (fun K hK => ?_)
            go_simp
            go_at_call 28; refine (C28.out _ (gt K10.out hHeld.2.2.2)).mono ?_; rintro e u2 ⟨rfl, hb⟩; have H9 := hid hb; clear hb; have hR : (fun W : World => (W.cell? ⟨w.heap.size, 0, none⟩ = some (.int .i64 a.k) ∧ W.cell? ⟨w.heap.size, 1, none⟩ = some (.slice a.xo a.xn a.xc) ∧ W.cell? ⟨w.heap.size, 2, none⟩ = some (.slice a.po a.pn a.pc)) ∧ (W.cell? ⟨w.heap.size + 1, 0, none⟩ = some (.int .i64 b.k) ∧ W.cell? ⟨w.heap.size + 1, 1, none⟩ = some (.slice b.xo b.xn b.xc) ∧ W.cell? ⟨w.heap.size + 1, 2, none⟩ = some (.slice b.po b.pn b.pc)) ∧ W.cell? ⟨w3.heap.size + 1, 0, none⟩ = some (.slice ao9 n9 cap9) ∧ Below w10.heap.size w10 W) u2 := ⟨⟨keep_old H9.out hHeld.1.1, keep_old H9.out hHeld.1.2.1, keep_old H9.out hHeld.1.2.2⟩, ⟨keep_old H9.out hHeld.2.1.1, keep_old H9.out hHeld.2.1.2.1, keep_old H9.out hHeld.2.1.2.2⟩, keep_old H9.out hHeld.2.2.1, gt hHeld.2.2.2 H9.out⟩; clear H9
            refine hK.out _ _ hR (fun hHeld => ?_)
            clear hK K
            (try simp only [Act.put, sA, sZ, sS])
            refine gk1 5 (fun K hK => ?_)
            go_simp
            go_at_call 29; refine (C29.out _ (gt K10.out hHeld.2.2.2)).mono ?_; rintro e u5 ⟨rfl, hb⟩; have H9 := hid hb; clear hb; have hR : (fun W : World => (W.cell? ⟨w.heap.size, 0, none⟩ = some (.int .i64 a.k) ∧ W.cell? ⟨w.heap.size, 1, none⟩ = some (.slice a.xo a.xn a.xc) ∧ W.cell? ⟨w.heap.size, 2, none⟩ = some (.slice a.po a.pn a.pc)) ∧ (W.cell? ⟨w.heap.size + 1, 0, none⟩ = some (.int .i64 b.k) ∧ W.cell? ⟨w.heap.size + 1, 1, none⟩ = some (.slice b.xo b.xn b.xc) ∧ W.cell? ⟨w.heap.size + 1, 2, none⟩ = some (.slice b.po b.pn b.pc)) ∧ W.cell? ⟨w3.heap.size + 1, 0, none⟩ = some (.slice ao9 n9 cap9) ∧ Below w10.heap.size w10 W) u5 := ⟨⟨keep_old H9.out hHeld.1.1, keep_old H9.out hHeld.1.2.1, keep_old H9.out hHeld.1.2.2⟩, ⟨keep_old H9.out hHeld.2.1.1, keep_old H9.out hHeld.2.1.2.1, keep_old H9.out hHeld.2.1.2.2⟩, keep_old H9.out hHeld.2.2.1, gt hHeld.2.2.2 H9.out⟩; clear H9
            refine hK.out _ _ hR (fun hHeld => ?_)
            clear hK K
            (try simp only [Act.put, sA, sZ, sS])
            refine gkp 6 ?_ (v := .bool true) (h := by intro W hSw; go_simp; first | done | with_reducible rfl)
            refine gkp 7 ?_ (v := .bool true) (h := by intro W hSw; go_simp; first | done | with_reducible rfl)
            refine gkt 8 ?_ (h := by intro W hSw; obtain ⟨⟨r0, r1, r2⟩, ⟨s0, s1, s2⟩, t0, _⟩ := hSw; go_simp; first | done | with_reducible rfl)
            refine gkp 9 ?_
            refine gk1 10 (fun K hK => ?_)
            go_simp
            go_at_call 30; refine (C30.out _ hHeld.2.2.2).mono ?_; rintro e u10 ⟨rfl, hb⟩; have H9 := hid hb; clear hb; have hR : (fun W : World => (W.cell? ⟨w.heap.size, 0, none⟩ = some (.int .i64 a.k) ∧ W.cell? ⟨w.heap.size, 1, none⟩ = some (.slice a.xo a.xn a.xc) ∧ W.cell? ⟨w.heap.size, 2, none⟩ = some (.slice a.po a.pn a.pc)) ∧ (W.cell? ⟨w.heap.size + 1, 0, none⟩ = some (.int .i64 b.k) ∧ W.cell? ⟨w.heap.size + 1, 1, none⟩ = some (.slice b.xo b.xn b.xc) ∧ W.cell? ⟨w.heap.size + 1, 2, none⟩ = some (.slice b.po b.pn b.pc)) ∧ W.cell? ⟨w3.heap.size + 1, 0, none⟩ = some (.slice ao9 n9 cap9) ∧ Below w10.heap.size w10 W) u10 := ⟨⟨keep_old H9.out hHeld.1.1, keep_old H9.out hHeld.1.2.1, keep_old H9.out hHeld.1.2.2⟩, ⟨keep_old H9.out hHeld.2.1.1, keep_old H9.out hHeld.2.1.2.1, keep_old H9.out hHeld.2.1.2.2⟩, keep_old H9.out hHeld.2.2.1, gt hHeld.2.2.2 H9.out⟩; clear H9
            refine hK.out _ _ hR (fun hHeld => ?_)
            clear hK K
            (try simp only [Act.put, sA, sZ, sS])
            refine gkp 11 ?_ (v := .bool true) (h := by intro W hSw; go_simp; first | done | with_reducible rfl)
            refine gkp 12 ?_ (v := .bool true) (h := by intro W hSw; go_simp; first | done | with_reducible rfl)
            refine gk1 13 (fun K hK => ?_)
            go_simp
            go_at_call 18; refine (C18.out _ (gt K10.out hHeld.2.2.2)).mono ?_; rintro e u13 ⟨rfl, hb⟩; have H9 := hid hb; clear hb; have hR : (fun W : World => (W.cell? ⟨w.heap.size, 0, none⟩ = some (.int .i64 a.k) ∧ W.cell? ⟨w.heap.size, 1, none⟩ = some (.slice a.xo a.xn a.xc) ∧ W.cell? ⟨w.heap.size, 2, none⟩ = some (.slice a.po a.pn a.pc)) ∧ (W.cell? ⟨w.heap.size + 1, 0, none⟩ = some (.int .i64 b.k) ∧ W.cell? ⟨w.heap.size + 1, 1, none⟩ = some (.slice b.xo b.xn b.xc) ∧ W.cell? ⟨w.heap.size + 1, 2, none⟩ = some (.slice b.po b.pn b.pc)) ∧ W.cell? ⟨w3.heap.size + 1, 0, none⟩ = some (.slice ao9 n9 cap9) ∧ Below w10.heap.size w10 W) u13 := ⟨⟨keep_old H9.out hHeld.1.1, keep_old H9.out hHeld.1.2.1, keep_old H9.out hHeld.1.2.2⟩, ⟨keep_old H9.out hHeld.2.1.1, keep_old H9.out hHeld.2.1.2.1, keep_old H9.out hHeld.2.1.2.2⟩, keep_old H9.out hHeld.2.2.1, gt hHeld.2.2.2 H9.out⟩; clear H9
            refine hK.out _ _ hR (fun hHeld => ?_)
            clear hK K
            (try simp only [Act.put, sA, sZ, sS])
            refine gkp 14 ?_ (v := .bool true) (h := by intro W hSw; go_simp; first | done | with_reducible rfl)
            refine gkp 15 ?_
            refine wpAnyK_done (by kernel_rfl) ?_ _
            exact ⟨rfl, rfl, hHeld.2.2.2⟩
          intro e a5 W6 h6
          cases e with
          | normal =>
            obtain ⟨d5, t5, hbl⟩ := h6
            obtain ⟨tm, df⟩ := a5
            simp only at d5 t5
            subst d5
            have BL := gt H10.out hbl
            have HBL := hid hbl
            simp only [Exit.then]
            gi_wp2
            refine leave1 (own_cns w.heap.size w (Nat.le_refl _) []) ⟨gt K10.out HBL.out, fun i hi => ⟨⟨by have := K3.out.size; omega, by have := BL.size; have := MLT.out; omega⟩, by simp⟩, by simp⟩ ((BL.block _ MLT.out).trans HM9.out) (fun W' h' => ⟨_, results_tmp rfl _ _ _, by simp only; rw [t5], h'.1⟩)
          | _ => exact h6.elim
end Go.Proofs.YtcneadohpbeahaaDoor
