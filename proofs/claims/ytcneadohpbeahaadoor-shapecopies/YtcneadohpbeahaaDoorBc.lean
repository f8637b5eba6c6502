/- Shapes are compared by the program; no statement of the seat is proved here. -/
import Derived.Test.YtcneadohpbeahaaDoorBb
import Derived.Test.YtcneadohpbeahaaDoorAs
namespace Go.Proofs.YtcneadohpbeahaaDoor
open Go.RowKit Go.Maps

theorem Bx.new2 (w : World) (o : Obj) (s : Sh) : Bx ((w.alloc o).alloc (.cells #[.int .i64 (s).k, .slice (s).xo (s).xn (s).xc, .slice (s).po (s).pn (s).pc] 25)) (w.heap.size + 1) s := by have h := Bx.new (w.alloc o) s; rw [World.size_alloc] at h; exact h
def EfI (ps qs : List Sh) (n : Nat) (w : World) (c : Value) (W : World) : Prop := ∃ i : Nat, i ≤ n ∧ c = .int .i64 (i : Int) ∧ Hid (eqL ps qs = eqL (ps.drop i) (qs.drop i)) ∧ Hid (Below w.heap.size w W)
set_option maxRecDepth 100000 in
set_option maxHeartbeats 4000000 in
theorem equalFunc_call (S T : Nat → Prop) (po qo : Option Addr) (n m c c' pa pd : Nat) (ps qs : List Sh) (w : World) (hx : PR S w po ps) (hy : PR T w qo qs) (hxl : ps.length = n) (hyl : qs.length = m) (hn : n ≤ 9223372036854775806) (hm : m ≤ 9223372036854775806)
    (CF : ∀ (i : Nat) (p q : Sh) (W : World), ps[i]? = some p → qs[i]? = some q → Below w.heap.size w W → Calls Tryd.prog 53 #[.agg #[.int .i64 (p).k, .slice (p).xo (p).xn (p).xc, .slice (p).po (p).pn (p).pc], .agg #[.int .i64 (q).k, .slice (q).xo (q).xn (q).xc, .slice (q).po (q).pn (q).pc], .pointer (some ⟨pa, 0, none⟩), .pointer (some ⟨pd, 0, none⟩)] W fun e w' => e = .returned (.bool (eqS p q)) ∧ Below W.heap.size W w') :
    Calls Tryd.prog 52 #[.slice po n c, .slice qo m c', .func (.func 53) #[] #[.pointer (some ⟨pa, 0, none⟩), .pointer (some ⟨pd, 0, none⟩)]] w fun e w' => e = .returned (.bool (eqL ps qs)) ∧ Below w.heap.size w w' := by
  by_cases hnm : n = m
  · subst hnm
    have HX := hid hx; have HY := hid hy; have LX := hid hxl; have LY := hid hyl; have HCF := hid CF
    obtain ⟨r, hr⟩ : ∃ r, r = eqL ps qs := ⟨_, rfl⟩
    rw [← hr]
    have HR := hid hr
    clear hx hy hxl hyl CF hr
    go_enter Tryd.func52, Tryd.ntmps52
    go_wp2
    go_loopw [17] (EfI ps qs n w) (fun c _ => n - (intOf c).toNat)
    case atStart => exact ⟨0, by omega, rfl, hid rfl, hid (Below.refl _ _)⟩
    case round =>
      obtain ⟨i, hi, rfl, he, hb⟩ := hrel
      by_cases hik : i < n
      · obtain ⟨p, hp⟩ : ∃ p, ps[i]? = some p := ⟨_, List.getElem?_eq_getElem (by rw [LX.out]; exact hik)⟩
        obtain ⟨q, hq⟩ : ∃ q, qs[i]? = some q := ⟨_, List.getElem?_eq_getElem (by rw [LY.out]; exact hik)⟩
        obtain ⟨ab, ao, exo, hSb, hat⟩ := HX.out.resolve_left (by intro e; rw [e] at hp; simp at hp)
        obtain ⟨bb, bo, eyo, hTb, hbt⟩ := HY.out.resolve_left (by intro e; rw [e] at hq; simp at hq)
        obtain ⟨z0, z1, z2⟩ := hat i p hp
        obtain ⟨v0, v1, v2⟩ := hbt i q hq
        replace z0 := keep_old hb.out z0; replace z1 := keep_old hb.out z1; replace z2 := keep_old hb.out z2
        replace v0 := keep_old hb.out v0; replace v1 := keep_old hb.out v1; replace v2 := keep_old hb.out v2
        have w0 := keep_old (ext1 (.cells #[.int .i64 (p).k, .slice (p).xo (p).xn (p).xc, .slice (p).po (p).pn (p).pc] 25)) v0; have w1 := keep_old (ext1 (.cells #[.int .i64 (p).k, .slice (p).xo (p).xn (p).xc, .slice (p).po (p).pn (p).pc] 25)) v1; have w2 := keep_old (ext1 (.cells #[.int .i64 (p).k, .slice (p).xo (p).xn (p).xc, .slice (p).po (p).pn (p).pc] 25)) v2
        have HE := hid (show eqL ps qs = (eqS p q && eqL (ps.drop (i + 1)) (qs.drop (i + 1))) by rw [he.out, drop_at hp, drop_at hq, eqL_cons])
        subst exo; subst eyo
        have BP := hid ((Bx.new wr p).keep (ext1 (.cells #[.int .i64 (q).k, .slice (q).xo (q).xn (q).xc, .slice (q).po (q).pn (q).pc] 25)))
        have BQ := hid (Bx.new2 wr (.cells #[.int .i64 (p).k, .slice (p).xo (p).xn (p).xc, .slice (p).po (p).pn (p).pc] 25) q)
        obtain ⟨b0, b1, b2⟩ := BP.out.cells
        obtain ⟨c0, c1, c2⟩ := BQ.out.cells
        have BB := hid (gt hb.out (gt (ext1 (.cells #[.int .i64 (p).k, .slice (p).xo (p).xn (p).xc, .slice (p).po (p).pn (p).pc] 25)) (ext1 (.cells #[.int .i64 (q).k, .slice (q).xo (q).xn (q).xc, .slice (q).po (q).pn (q).pc] 25))))
        have CC := hid (HCF.out i p q _ hp hq BB.out)
        clear hat hbt hp hq he hb
        cases hpq : eqS p q with
        | true =>
          rw [hpq] at HE CC
          rw [Bool.true_and] at HE
          clear hpq
          go_wp2_with (go_at_call 53; refine CC.out.mono ?_; rintro e w9 ⟨rfl, hb9⟩; have H9 := hid hb9; clear hb9)
          go_roundw
          case measure => simp [intOf]; omega
          case rel => exact ⟨i + 1, by omega, by go_num, HE, hid (gt BB.out H9.out)⟩
        | false =>
          rw [hpq] at HE CC
          rw [Bool.false_and] at HE
          clear hpq
          go_wp2_with (go_at_call 53; refine CC.out.mono ?_; rintro e w9 ⟨rfl, hb9⟩; have H9 := hid hb9; clear hb9)
          go_ret
          exact ⟨by rw [HR.out, HE.out]; rfl, gt BB.out H9.out⟩
      · obtain rfl : i = n := by omega
        have HE := hid (show eqL ps qs = true by rw [he.out, List.drop_of_length_le (by rw [LX.out]; omega), List.drop_of_length_le (by rw [LY.out]; omega)]; exact eqL_nil)
        go_wp2
        go_ret
        exact ⟨by rw [HR.out, HE.out]; rfl, hb.out⟩
  · rw [eqL_len (show ps.length ≠ qs.length by rw [hxl, hyl]; exact hnm)]
    have hne : ¬ (n : Int) = (m : Int) := by omega
    have hne2 : ((n : Int) != (m : Int)) = true := by simp only [bne, Bool.not_eq_true', beq_eq_false_iff_ne]; exact hne
    clear hx hy hnm CF
    go_enter Tryd.func52, Tryd.ntmps52
    go_wp2
    go_ret
    exact ⟨rfl, Below.refl _ _⟩

/-- A box of a number. -/
def Nx (w : World) (b : Nat) (d : Int) : Prop := w.heap[b]? = some (.cells #[.int .i64 d] 3)
theorem Nx.cell {w : World} {b : Nat} {d : Int} (h : Nx w b d) : w.cell? ⟨b, 0, none⟩ = some (.int .i64 d) := by unfold Nx at h; simp [World.cell?, h]
theorem Nx.lt {w : World} {b : Nat} {d : Int} (h : Nx w b d) : b < w.heap.size := (Array.getElem?_eq_some_iff.1 h).1
theorem Nx.keep {w w' : World} {b : Nat} {d : Int} (h : Nx w b d) (hb : Below w.heap.size w w') : Nx w' b d := (hb.block b h.lt).trans h
set_option maxRecDepth 100000 in
set_option maxHeartbeats 4000000 in
theorem clos_call (a p q : Sh) (d pa pd : Nat) (hd : d ≤ 1000000) (w : World) (hA : Bx w pa a) (hD : Nx w pd d) (IH : ∀ W, Below w.heap.size w W → Calls Tryd.prog 41 #[.agg #[.int .i64 (p).k, .slice (p).xo (p).xn (p).xc, .slice (p).po (p).pn (p).pc], .agg #[.int .i64 (q).k, .slice (q).xo (q).xn (q).xc, .slice (q).po (q).pn (q).pc], .int .i64 (din a.k p.k d : Nat)] W fun e w' => e = .returned (.bool (eqS p q)) ∧ Below W.heap.size W w') :
    Calls Tryd.prog 53 #[.agg #[.int .i64 (p).k, .slice (p).xo (p).xn (p).xc, .slice (p).po (p).pn (p).pc], .agg #[.int .i64 (q).k, .slice (q).xo (q).xn (q).xc, .slice (q).po (q).pn (q).pc], .pointer (some ⟨pa, 0, none⟩), .pointer (some ⟨pd, 0, none⟩)] w fun e w' => e = .returned (.bool (eqS p q)) ∧ Below w.heap.size w w' := by
  have BP := hid ((Bx.new w p).keep (ext1 (.cells #[.int .i64 (q).k, .slice (q).xo (q).xn (q).xc, .slice (q).po (q).pn (q).pc] 25)))
  have BQ := hid (Bx.new2 w (.cells #[.int .i64 (p).k, .slice (p).xo (p).xn (p).xc, .slice (p).po (p).pn (p).pc] 25) q)
  have b0 := hid (gt (ext1 (w := w) (.cells #[.int .i64 (p).k, .slice (p).xo (p).xn (p).xc, .slice (p).po (p).pn (p).pc] 25)) (ext1 (.cells #[.int .i64 (q).k, .slice (q).xo (q).xn (q).xc, .slice (q).po (q).pn (q).pc] 25)))
  have BA := hid (hA.keep b0.out)
  obtain ⟨x0, x1, x2⟩ := BP.out.cells
  obtain ⟨y0, y1, y2⟩ := BQ.out.cells
  obtain ⟨z0, z1, z2⟩ := BA.out.cells
  have z3 := (hD.keep b0.out).cell
  have DC := hid (fun W => din_call a p d W hd)
  replace IH := hid IH
  clear hA hD hd
  generalize din a.k p.k d = dd at *
  generalize eqS p q = r at *
  go_enter Tryd.func53, Tryd.ntmps53
  go_wp2
  refine wp_region_K (S := (fun W : World => (W.cell? ⟨w.heap.size, 0, none⟩ = some (.int .i64 p.k) ∧ W.cell? ⟨w.heap.size, 1, none⟩ = some (.slice p.xo p.xn p.xc) ∧ W.cell? ⟨w.heap.size, 2, none⟩ = some (.slice p.po p.pn p.pc)) ∧ (W.cell? ⟨w.heap.size + 1, 0, none⟩ = some (.int .i64 q.k) ∧ W.cell? ⟨w.heap.size + 1, 1, none⟩ = some (.slice q.xo q.xn q.xc) ∧ W.cell? ⟨w.heap.size + 1, 2, none⟩ = some (.slice q.po q.pn q.pc)) ∧ (W.cell? ⟨pa, 0, none⟩ = some (.int .i64 a.k) ∧ W.cell? ⟨pa, 1, none⟩ = some (.slice a.xo a.xn a.xc) ∧ W.cell? ⟨pa, 2, none⟩ = some (.slice a.po a.pn a.pc)) ∧ W.cell? ⟨pd, 0, none⟩ = some (.int .i64 (d : Int)) ∧ Below w.heap.size w W)) (fun _ => false) (by kernel_rfl) (by exact ⟨⟨x0, x1, x2⟩, ⟨y0, y1, y2⟩, ⟨z0, z1, z2⟩, z3, b0.out.drew⟩) (fun hHeld => ?_)
  refine gkt 0 ?_ (h := by intro W hSw; obtain ⟨⟨r0, r1, r2⟩, ⟨s0, s1, s2⟩, ⟨t0, t1, t2⟩, t3, _⟩ := hSw; go_simp; first | done | with_reducible rfl)
  refine gkt 1 ?_ (h := by intro W hSw; obtain ⟨⟨r0, r1, r2⟩, ⟨s0, s1, s2⟩, ⟨t0, t1, t2⟩, t3, _⟩ := hSw; go_simp; first | done | with_reducible rfl)
  refine gkt 2 ?_ (h := by intro W hSw; obtain ⟨⟨r0, r1, r2⟩, ⟨s0, s1, s2⟩, ⟨t0, t1, t2⟩, t3, _⟩ := hSw; go_simp; first | done | with_reducible rfl)
  refine gkt 3 ?_ (h := by intro W hSw; obtain ⟨⟨r0, r1, r2⟩, ⟨s0, s1, s2⟩, ⟨t0, t1, t2⟩, t3, _⟩ := hSw; go_simp; first | done | with_reducible rfl)
  refine gkt 4 ?_ (h := by intro W hSw; obtain ⟨⟨r0, r1, r2⟩, ⟨s0, s1, s2⟩, ⟨t0, t1, t2⟩, t3, _⟩ := hSw; go_simp; first | done | with_reducible rfl)
  refine gk1 5 (fun K hK => ?_)
  go_simp
  go_at_call 49; refine (DC.out _).mono ?_; rintro e w7 ⟨rfl, hb7⟩; have H7 := hid hb7; clear hb7; have hR : (fun W : World => (W.cell? ⟨w.heap.size, 0, none⟩ = some (.int .i64 p.k) ∧ W.cell? ⟨w.heap.size, 1, none⟩ = some (.slice p.xo p.xn p.xc) ∧ W.cell? ⟨w.heap.size, 2, none⟩ = some (.slice p.po p.pn p.pc)) ∧ (W.cell? ⟨w.heap.size + 1, 0, none⟩ = some (.int .i64 q.k) ∧ W.cell? ⟨w.heap.size + 1, 1, none⟩ = some (.slice q.xo q.xn q.xc) ∧ W.cell? ⟨w.heap.size + 1, 2, none⟩ = some (.slice q.po q.pn q.pc)) ∧ (W.cell? ⟨pa, 0, none⟩ = some (.int .i64 a.k) ∧ W.cell? ⟨pa, 1, none⟩ = some (.slice a.xo a.xn a.xc) ∧ W.cell? ⟨pa, 2, none⟩ = some (.slice a.po a.pn a.pc)) ∧ W.cell? ⟨pd, 0, none⟩ = some (.int .i64 (d : Int)) ∧ Below w.heap.size w W) w7 := ⟨⟨keep_old H7.out hHeld.1.1, keep_old H7.out hHeld.1.2.1, keep_old H7.out hHeld.1.2.2⟩, ⟨keep_old H7.out hHeld.2.1.1, keep_old H7.out hHeld.2.1.2.1, keep_old H7.out hHeld.2.1.2.2⟩, ⟨keep_old H7.out hHeld.2.2.1.1, keep_old H7.out hHeld.2.2.1.2.1, keep_old H7.out hHeld.2.2.1.2.2⟩, keep_old H7.out hHeld.2.2.2.1, gt hHeld.2.2.2.2 H7.out⟩
  refine hK.out _ _ hR (fun hHeld => ?_)
  clear hK K
  (try simp only [Act.put, sA, sZ, sS])
  refine gk1 6 (fun K hK => ?_)
  go_simp
  go_at_call 41; refine (IH.out _ hHeld.2.2.2.2).mono ?_; rintro e w8 ⟨rfl, hb8⟩; have H8 := hid hb8; clear hb8; have hR : (fun W : World => (W.cell? ⟨w.heap.size, 0, none⟩ = some (.int .i64 p.k) ∧ W.cell? ⟨w.heap.size, 1, none⟩ = some (.slice p.xo p.xn p.xc) ∧ W.cell? ⟨w.heap.size, 2, none⟩ = some (.slice p.po p.pn p.pc)) ∧ (W.cell? ⟨w.heap.size + 1, 0, none⟩ = some (.int .i64 q.k) ∧ W.cell? ⟨w.heap.size + 1, 1, none⟩ = some (.slice q.xo q.xn q.xc) ∧ W.cell? ⟨w.heap.size + 1, 2, none⟩ = some (.slice q.po q.pn q.pc)) ∧ (W.cell? ⟨pa, 0, none⟩ = some (.int .i64 a.k) ∧ W.cell? ⟨pa, 1, none⟩ = some (.slice a.xo a.xn a.xc) ∧ W.cell? ⟨pa, 2, none⟩ = some (.slice a.po a.pn a.pc)) ∧ W.cell? ⟨pd, 0, none⟩ = some (.int .i64 (d : Int)) ∧ Below w.heap.size w W) w8 := ⟨⟨keep_old H8.out hHeld.1.1, keep_old H8.out hHeld.1.2.1, keep_old H8.out hHeld.1.2.2⟩, ⟨keep_old H8.out hHeld.2.1.1, keep_old H8.out hHeld.2.1.2.1, keep_old H8.out hHeld.2.1.2.2⟩, ⟨keep_old H8.out hHeld.2.2.1.1, keep_old H8.out hHeld.2.2.1.2.1, keep_old H8.out hHeld.2.2.1.2.2⟩, keep_old H8.out hHeld.2.2.2.1, gt hHeld.2.2.2.2 H8.out⟩
  refine hK.out _ _ hR (fun hHeld => ?_)
  clear hK K
  (try simp only [Act.put, sA, sZ, sS])
  refine gkp 7 ?_
  refine wpAnyK_done (by kernel_rfl) ?_ _
  go_wp2
  go_ret
  exact ⟨rfl, hHeld.2.2.2.2⟩
set_option maxRecDepth 100000 in
set_option maxHeartbeats 8000000 in
theorem alike_call : ∀ (N : Nat) (a b : Sh) (d : Nat), a.nodes.length ≤ N → (∀ x ∈ a.flat d, x.1 ≤ 16) → ∀ (w : World), In (fun b => b < w.heap.size) w a → In (fun b => b < w.heap.size) w b →
    Calls Tryd.prog 41 #[.agg #[.int .i64 (a).k, .slice (a).xo (a).xn (a).xc, .slice (a).po (a).pn (a).pc], .agg #[.int .i64 (b).k, .slice (b).xo (b).xn (b).xc, .slice (b).po (b).pn (b).pc], .int .i64 (d : Int)] w fun e w' => e = .returned (.bool (eqS a b)) ∧ Below w.heap.size w w' := by
  intro N
  induction N with
  | zero => intro a b d h; rw [nodes_eq] at h; simp at h
  | succ N ih =>
    intro a b d ha hx w hA hB
    have hd : d ≤ 16 := hx (d, a) (by rw [flat_eq]; simp)
    have ea : seenL d a = a.ps := seenL_all a (by omega)
    have eb : seenL d b = b.ps := seenL_all b (by omega)
    have BA := hid (((Bx.new w a).keep (ext1 (.cells #[.int .i64 (b).k, .slice (b).xo (b).xn (b).xc, .slice (b).po (b).pn (b).pc] 25))).keep (ext1 (.cells #[.int .i64 (d : Int)] 3)))
    have BB := hid ((Bx.new2 w (.cells #[.int .i64 (a).k, .slice (a).xo (a).xn (a).xc, .slice (a).po (a).pn (a).pc] 25) b).keep (ext1 (.cells #[.int .i64 (d : Int)] 3)))
    have ND : Hid (Nx (((w.alloc (.cells #[.int .i64 (a).k, .slice (a).xo (a).xn (a).xc, .slice (a).po (a).pn (a).pc] 25)).alloc (.cells #[.int .i64 (b).k, .slice (b).xo (b).xn (b).xc, .slice (b).po (b).pn (b).pc] 25)).alloc (.cells #[.int .i64 (d : Int)] 3)) (w.heap.size + 1 + 1) d) := hid (show _ = _ from by have h := heap_alloc_new ((w.alloc (.cells #[.int .i64 (a).k, .slice (a).xo (a).xn (a).xc, .slice (a).po (a).pn (a).pc] 25)).alloc (.cells #[.int .i64 (b).k, .slice (b).xo (b).xn (b).xc, .slice (b).po (b).pn (b).pc] 25)) (.cells #[.int .i64 (d : Int)] 3); simpa using h)
    have b0 : Hid (Below w.heap.size w (((w.alloc (.cells #[.int .i64 (a).k, .slice (a).xo (a).xn (a).xc, .slice (a).po (a).pn (a).pc] 25)).alloc (.cells #[.int .i64 (b).k, .slice (b).xo (b).xn (b).xc, .slice (b).po (b).pn (b).pc] 25)).alloc (.cells #[.int .i64 (d : Int)] 3))) := hid (below3 (w := w))
    obtain ⟨x0, x1, x2⟩ := BA.out.cells
    obtain ⟨y0, y1, y2⟩ := BB.out.cells
    have v0 := ND.out.cell
    have SA := hid (fun W (hW : Below w.heap.size w W) => seen_call W.heap.size a d W (Nat.le_refl _) (hA.grow hW).here (by omega))
    have SB := hid (fun W (hW : Below w.heap.size w W) => seen_call W.heap.size b d W (Nat.le_refl _) (hB.grow hW).here (by omega))
    rw [ea, hA.here.pl] at SA
    rw [eb, hB.here.pl] at SB
    have PE := hid (fun W (hW : Below w.heap.size w W) => equalP_call (fun b => b < W.heap.size) (fun b => b < W.heap.size) a.xo b.xo a.xn b.xn a.xc b.xc a.xy b.xy W ((hA.grow hW).here.xr) ((hB.grow hW).here.xr) hA.here.xl hB.here.xl hA.here.lenI.1 hB.here.lenI.1 (fun _ h => h) (fun _ h => h))
    have EF := hid (fun (W : World) (po : Option Addr) (pc : Nat) (qo : Option Addr) (qc : Nat) (h1 : Bx W w.heap.size a) (h2 : Nx W (w.heap.size + 1 + 1) d) (h3 : Below w.heap.size w W) (h4 : PR (fun _ => True) W po a.ps) (h5 : PR (fun _ => True) W qo b.ps) =>
      equalFunc_call (fun _ => True) (fun _ => True) po qo a.pn b.pn pc qc w.heap.size (w.heap.size + 1 + 1) a.ps b.ps W h4 h5 hA.here.pl hB.here.pl hA.here.lenI.2 hB.here.lenI.2 (fun i p q W' hp hq hW' => clos_call a p q d w.heap.size (w.heap.size + 1 + 1) (by omega) W' (h1.keep hW') (h2.keep hW')
        (fun W2 hW2 => ih p q (din a.k p.k d) (by have := nodes_lt (s := a) (List.mem_of_getElem? hp); omega) (fun x hx' => hx x (by rw [flat_eq, ea]; exact List.mem_cons_of_mem _ (List.mem_flatMap.2 ⟨p, List.mem_of_getElem? hp, hx'⟩))) W2 ((hA.part (List.mem_of_getElem? hp)).grow (gt h3 (gt hW' hW2))) ((hB.part (List.mem_of_getElem? hq)).grow (gt h3 (gt hW' hW2))))))
    obtain ⟨R, hR⟩ : ∃ R, R = eqS a b := ⟨_, rfl⟩
    rw [← hR]
    have HR := hid (hR.trans (eqS_eq a b))
    clear ih ha hA hB hR hx ea eb
    by_cases hk : a.k = b.k
    · have n1 : (a.k == b.k) = true := by simp [hk]
      have n1' : (a.k != b.k) = false := by simp [hk]
      rw [n1, Bool.true_and] at HR
      clear hk n1
      cases hxy : (a.xy == b.xy) with
      | false =>
        rw [hxy] at HR PE
        rw [Bool.false_and] at HR
        rw [HR.out]
        clear hxy HR
        go_enter Tryd.func41, Tryd.ntmps41
        go_wp2_with (go_at_call 51; refine (PE.out _ b0.out).mono ?_; rintro e w1 ⟨rfl, hb1⟩; have H1 := hid hb1; clear hb1)
        go_ret
        exact ⟨rfl, gt b0.out H1.out⟩
      | true =>
        rw [hxy] at HR PE
        rw [Bool.true_and] at HR
        rw [HR.out]
        clear hxy HR
        generalize eqL a.ps b.ps = R2 at *
        go_enter Tryd.func41, Tryd.ntmps41
        go_wp2_with (go_at_call 51; refine (PE.out _ b0.out).mono ?_; rintro e w1 ⟨rfl, hb1⟩; have H1 := hid hb1; clear hb1; have BA1 := hid (BA.out.keep H1.out); have BB1 := hid (BB.out.keep H1.out); have ND1 := hid (ND.out.keep H1.out); have b1 := hid (gt b0.out H1.out))
        clear x0 x1 x2 y0 y1 y2 v0 BA BB ND b0 H1
        obtain ⟨x0, x1, x2⟩ := BA1.out.cells
        obtain ⟨y0, y1, y2⟩ := BB1.out.cells
        have v0 := ND1.out.cell
        have BA := BA1; have ND := ND1; have b0 := b1
        clear BA1 ND1 b1
        have KW := hid (show w1.drew.heap.size ≤ w1.drew.heap.size from Nat.le_refl _)
        refine wp_region_K (S := (fun W : World => (W.cell? ⟨w.heap.size, 0, none⟩ = some (.int .i64 a.k) ∧ W.cell? ⟨w.heap.size, 1, none⟩ = some (.slice a.xo a.xn a.xc) ∧ W.cell? ⟨w.heap.size, 2, none⟩ = some (.slice a.po a.pn a.pc)) ∧ (W.cell? ⟨w.heap.size + 1, 0, none⟩ = some (.int .i64 b.k) ∧ W.cell? ⟨w.heap.size + 1, 1, none⟩ = some (.slice b.xo b.xn b.xc) ∧ W.cell? ⟨w.heap.size + 1, 2, none⟩ = some (.slice b.po b.pn b.pc)) ∧ W.cell? ⟨w.heap.size + 1 + 1, 0, none⟩ = some (.int .i64 (d : Int)) ∧ Bx W w.heap.size a ∧ Nx W (w.heap.size + 1 + 1) d ∧ Below w.heap.size w W)) (fun _ => false) (by kernel_rfl) (by exact ⟨⟨x0, x1, x2⟩, ⟨y0, y1, y2⟩, v0, BA.out, ND.out, b0.out.drew⟩) (fun hHeld => ?_)
        refine gkt 0 ?_ (h := by intro W hSw; obtain ⟨⟨r0, r1, r2⟩, ⟨s0, s1, s2⟩, t0, _, _, _⟩ := hSw; go_simp; first | done | with_reducible rfl)
        refine gkt 1 ?_ (h := by intro W hSw; obtain ⟨⟨r0, r1, r2⟩, ⟨s0, s1, s2⟩, t0, _, _, _⟩ := hSw; go_simp; first | done | with_reducible rfl)
        refine gkt 3 ?_ (h := by intro W hSw; obtain ⟨⟨r0, r1, r2⟩, ⟨s0, s1, s2⟩, t0, _, _, _⟩ := hSw; go_simp; first | done | with_reducible rfl)
        refine gkt 4 ?_ (h := by intro W hSw; obtain ⟨⟨r0, r1, r2⟩, ⟨s0, s1, s2⟩, t0, _, _, _⟩ := hSw; go_simp; first | done | with_reducible rfl)
        refine gkp 6 ?_
        refine gk1 2 (fun K hK => ?_)
        go_simp
        go_at_call 48; refine (SA.out _ hHeld.2.2.2.2.2).mono ?_; rintro e w7 ⟨po, pc, rfl, hpr7, hb7⟩; have H7 := hid hb7; have P7 := hid hpr7; clear hb7 hpr7; have hR : (fun W : World => (W.cell? ⟨w.heap.size, 0, none⟩ = some (.int .i64 a.k) ∧ W.cell? ⟨w.heap.size, 1, none⟩ = some (.slice a.xo a.xn a.xc) ∧ W.cell? ⟨w.heap.size, 2, none⟩ = some (.slice a.po a.pn a.pc)) ∧ (W.cell? ⟨w.heap.size + 1, 0, none⟩ = some (.int .i64 b.k) ∧ W.cell? ⟨w.heap.size + 1, 1, none⟩ = some (.slice b.xo b.xn b.xc) ∧ W.cell? ⟨w.heap.size + 1, 2, none⟩ = some (.slice b.po b.pn b.pc)) ∧ W.cell? ⟨w.heap.size + 1 + 1, 0, none⟩ = some (.int .i64 (d : Int)) ∧ Bx W w.heap.size a ∧ Nx W (w.heap.size + 1 + 1) d ∧ Below w.heap.size w W) w7 := ⟨⟨keep_old H7.out hHeld.1.1, keep_old H7.out hHeld.1.2.1, keep_old H7.out hHeld.1.2.2⟩, ⟨keep_old H7.out hHeld.2.1.1, keep_old H7.out hHeld.2.1.2.1, keep_old H7.out hHeld.2.1.2.2⟩, keep_old H7.out hHeld.2.2.1, hHeld.2.2.2.1.keep H7.out, hHeld.2.2.2.2.1.keep H7.out, gt hHeld.2.2.2.2.2 H7.out⟩
        refine hK.out _ _ hR (fun hHeld => ?_)
        clear hK K
        (try simp only [Act.put, sA, sZ, sS])
        refine gk1 5 (fun K hK => ?_)
        go_simp
        go_at_call 48; refine (SB.out _ hHeld.2.2.2.2.2).mono ?_; rintro e w8 ⟨qo, qc, rfl, hpr8, hb8⟩; have H8 := hid hb8; have P8 := hid hpr8; clear hb8 hpr8; have hR : (fun W : World => (W.cell? ⟨w.heap.size, 0, none⟩ = some (.int .i64 a.k) ∧ W.cell? ⟨w.heap.size, 1, none⟩ = some (.slice a.xo a.xn a.xc) ∧ W.cell? ⟨w.heap.size, 2, none⟩ = some (.slice a.po a.pn a.pc)) ∧ (W.cell? ⟨w.heap.size + 1, 0, none⟩ = some (.int .i64 b.k) ∧ W.cell? ⟨w.heap.size + 1, 1, none⟩ = some (.slice b.xo b.xn b.xc) ∧ W.cell? ⟨w.heap.size + 1, 2, none⟩ = some (.slice b.po b.pn b.pc)) ∧ W.cell? ⟨w.heap.size + 1 + 1, 0, none⟩ = some (.int .i64 (d : Int)) ∧ Bx W w.heap.size a ∧ Nx W (w.heap.size + 1 + 1) d ∧ Below w.heap.size w W) w8 := ⟨⟨keep_old H8.out hHeld.1.1, keep_old H8.out hHeld.1.2.1, keep_old H8.out hHeld.1.2.2⟩, ⟨keep_old H8.out hHeld.2.1.1, keep_old H8.out hHeld.2.1.2.1, keep_old H8.out hHeld.2.1.2.2⟩, keep_old H8.out hHeld.2.2.1, hHeld.2.2.2.1.keep H8.out, hHeld.2.2.2.2.1.keep H8.out, gt hHeld.2.2.2.2.2 H8.out⟩
        refine hK.out _ _ hR (fun hHeld => ?_)
        clear hK K
        (try simp only [Act.put, sA, sZ, sS])
        refine gk1 7 (fun K hK => ?_)
        go_simp
        go_at_call 52; refine (EF.out w8 po pc qo qc hHeld.2.2.2.1 hHeld.2.2.2.2.1 hHeld.2.2.2.2.2 (P7.out.of fun b hb => ⟨H8.out.block b (hb.elim (fun h => Nat.lt_of_lt_of_le h (Nat.le_trans KW.out H7.out.size)) fun h => h.2), trivial⟩) (P8.out.of fun b _ => ⟨rfl, trivial⟩)).mono ?_; rintro e w9 ⟨rfl, hb9⟩; have H9 := hid hb9; clear hb9; have hR : (fun W : World => (W.cell? ⟨w.heap.size, 0, none⟩ = some (.int .i64 a.k) ∧ W.cell? ⟨w.heap.size, 1, none⟩ = some (.slice a.xo a.xn a.xc) ∧ W.cell? ⟨w.heap.size, 2, none⟩ = some (.slice a.po a.pn a.pc)) ∧ (W.cell? ⟨w.heap.size + 1, 0, none⟩ = some (.int .i64 b.k) ∧ W.cell? ⟨w.heap.size + 1, 1, none⟩ = some (.slice b.xo b.xn b.xc) ∧ W.cell? ⟨w.heap.size + 1, 2, none⟩ = some (.slice b.po b.pn b.pc)) ∧ W.cell? ⟨w.heap.size + 1 + 1, 0, none⟩ = some (.int .i64 (d : Int)) ∧ Bx W w.heap.size a ∧ Nx W (w.heap.size + 1 + 1) d ∧ Below w.heap.size w W) w9 := ⟨⟨keep_old H9.out hHeld.1.1, keep_old H9.out hHeld.1.2.1, keep_old H9.out hHeld.1.2.2⟩, ⟨keep_old H9.out hHeld.2.1.1, keep_old H9.out hHeld.2.1.2.1, keep_old H9.out hHeld.2.1.2.2⟩, keep_old H9.out hHeld.2.2.1, hHeld.2.2.2.1.keep H9.out, hHeld.2.2.2.2.1.keep H9.out, gt hHeld.2.2.2.2.2 H9.out⟩
        refine hK.out _ _ hR (fun hHeld => ?_)
        clear hK K
        (try simp only [Act.put, sA, sZ, sS])
        refine gkp 8 ?_
        refine wpAnyK_done (by kernel_rfl) ?_ _
        go_wp2
        go_ret
        exact ⟨rfl, hHeld.2.2.2.2.2⟩
    · have n1 : (a.k == b.k) = false := by simp [hk]
      have n1' : (a.k != b.k) = true := by simp [hk]
      rw [n1, Bool.false_and] at HR
      rw [HR.out]
      clear n1 HR
      go_enter Tryd.func41, Tryd.ntmps41
      go_wp2
      go_ret
      exact ⟨rfl, b0.out⟩

set_option maxHeartbeats 2000000 in
theorem equal_call (a b : Sh) (w : World) (h16 : depthN (a.flat 1) ≤ 16) (hA : In (fun b => b < w.heap.size) w a) (hB : In (fun b => b < w.heap.size) w b) :
    Calls Tryd.prog 28 #[.agg #[.int .i64 (a).k, .slice (a).xo (a).xn (a).xc, .slice (a).po (a).pn (a).pc], .agg #[.int .i64 (b).k, .slice (b).xo (b).xn (b).xc, .slice (b).po (b).pn (b).pc]] w fun e w' => e = .returned (.bool (eqS a b)) ∧ Below w.heap.size w w' := by
  have BA := hid ((Bx.new w a).keep (ext1 (.cells #[.int .i64 (b).k, .slice (b).xo (b).xn (b).xc, .slice (b).po (b).pn (b).pc] 25)))
  have BB := hid (Bx.new2 w (.cells #[.int .i64 (a).k, .slice (a).xo (a).xn (a).xc, .slice (a).po (a).pn (a).pc] 25) b)
  have b0 := hid (gt (ext1 (w := w) (.cells #[.int .i64 (a).k, .slice (a).xo (a).xn (a).xc, .slice (a).po (a).pn (a).pc] 25)) (ext1 (.cells #[.int .i64 (b).k, .slice (b).xo (b).xn (b).xc, .slice (b).po (b).pn (b).pc] 25)))
  obtain ⟨x0, x1, x2⟩ := BA.out.cells
  obtain ⟨y0, y1, y2⟩ := BB.out.cells
  have C := hid (alike_call _ a b 1 (Nat.le_refl _) (fun x hx => Nat.le_trans (le_foldl _ 0 x hx) h16) _ (hA.grow b0.out) (hB.grow b0.out))
  clear hA hB h16
  generalize eqS a b = r at *
  go_enter Tryd.func28, Tryd.ntmps28
  go_wp2_with (go_at_call 41; refine C.out.mono ?_; rintro e w1 ⟨rfl, hb1⟩; have H1 := hid hb1; clear hb1)
  go_ret
  exact ⟨rfl, gt b0.out H1.out⟩
end Go.Proofs.YtcneadohpbeahaaDoor
