/- The program's Of; no statement of the seat is proved here. -/
import Derived.Test.YtjlahomjhadnkaaCc
import Derived.Test.YtjlahomjhadnkaaBf
import Derived.Test.YtjlahomjhadnkaaAj
namespace Go.Proofs.Ytjlahomjhadnkaa
open Go.RowKit Go.Maps

/-- The box of a point. -/
def ptR (p : Int × Int) : Rect := ⟨false, p.1, p.2, p.1, p.2⟩
/-- The box of points. -/
def boxL (l : List (Int × Int)) : Rect := l.foldl (fun r p => uniR r (ptR p)) noR
theorem boxL_snoc (l : List (Int × Int)) (k : Nat) (p : Int × Int) (h : l[k]? = some p) : boxL (l.take (k + 1)) = uniR (boxL (l.take k)) (ptR p) := by
  unfold boxL
  rw [List.take_add_one, h, List.foldl_append]
  rfl
theorem around_pt (p : Int × Int) (w : World) : Calls Try.prog 42 #[.agg #[.int .i64 p.1, .int .i64 p.2], .agg #[.int .i64 p.1, .int .i64 p.2]] w fun e w' => e = .returned (.agg #[.bool (ptR p).n, .int .i64 (ptR p).lx, .int .i64 (ptR p).ly, .int .i64 (ptR p).hx, .int .i64 (ptR p).hy]) ∧ Below w.heap.size w w' := by
  have h := around_call p.1 p.2 p.1 p.2 w
  rw [Int.min_self, Int.min_self, Int.max_self, Int.max_self] at h
  exact h

section
variable {n : Nat} {g : Operand} {ps : Array Tmp} {assign body : Code} {Q : Exit → Act → World → Prop} {a : Act} {w : World}
/-- A loop over the points of a row that are told one by one. -/
theorem range_values {N : Nat} {w0 : World} (pts : List (Int × Int)) (xo : Option Addr) (m c q : Nat) (hg : a.eval g = .func (.func 84) #[] #[.pointer (some ⟨q, 0, none⟩)])
    (hps : ps.size = 1) (I : Nat → (Nat → Prop) → World → Prop) (X : Code → (Nat → Prop) → World → Prop) (hI : ∀ k, Cns N w0 (I k)) (hX : ∀ c, Cns N w0 (X c)) (G0 : Nat → Prop) (h0 : I 0 G0 w)
    (hq : Rx w q xo m c) (hr : XR G0 w xo pts) (hl : pts.length = m) (hm : m ≤ 9223372036854775806)
    (aw : Int × Int → World → World) (haw : ∀ x W, Fr (fun _ => False) W (aw x W)) (a₁ : Int × Int → World → Act)
    (hassign : ∀ (l : Nat) (x : Int × Int) (W : World) (K : Act → World → Prop), K (a₁ x W) (aw x W) →
      assign.wpIn (Fence.wide.inRound l) (n - 1 - 1) Try.prog (Exit.then K (fun _ _ _ => False)) { tmps := (ps.zip #[.agg #[.int .i64 x.1, .int .i64 x.2]]).foldl (fun t (p, v) => t.setIfInBounds p v) a.tmps, defers := [] } W)
    (hbody : ∀ (l k : Nat) (x : Int × Int) (G : Nat → Prop) (Wa V : World), pts[k]? = some x → I k G V → V.heap.size = (aw x Wa).heap.size → (∀ i, Wa.heap.size ≤ i → V.heap[i]? = (aw x Wa).heap[i]? ∧ (i < V.heap.size → G i)) →
      body.wpIn (Fence.wide.inRound l) (n - 1 - 1) Try.prog (GPost G (I (k + 1)) X V) (a₁ x Wa) V)
    (hdone : ∀ W, I pts.length (fun i => i = w.heap.size) W → Mark w.heap.size W → Q .normal { a with defers := { target := .collected w.heap.size, args := #[] } :: a.defers } W)
    (hstop : ∀ c W, X c (fun i => i = w.heap.size) W → Mark w.heap.size W → c.wpIn Fence.wide n Try.prog Q { a with defers := { target := .collected w.heap.size, args := #[] } :: a.defers } W) :
    (Code.rangeFunc g ps assign body).wpIn Fence.wide n Try.prog Q a w := by
  refine range_g (N := N) (w0 := w0) (fun x : Int × Int => #[.agg #[.int .i64 x.1, .int .i64 x.2]]) pts (gf := 84) hg (enters_of Try.func84 (by kernel_rfl) rfl) (fun _ => hps.symm) I X hI hX G0 (fun _ => False) (fun _ _ h => h)
    ((hI 0).less h0 fun i hi => hi.elim id False.elim) ?_ aw haw a₁ hassign (fun l k x G Wa V h1 h2 _ h4 h5 => hbody l k x G Wa V h1 h2 h4 h5) (fun W h1 h2 _ => hdone W ((hI _).less h1 fun i hi => .inr hi) h2) (fun c W h1 h2 _ => hstop c W ((hX _).less h1 fun i hi => .inr hi) h2)
  intro l' J' Jx' W' hF hJ' hJx' hY' hj0
  refine (values_in N w0 pts xo m c q (n - 1) l' J' Jx' G0 W' hJ' hJx' (fun k x Gs W h1 h2 => hY' k x Gs W h1 h2) hj0 ((hF.blk _ hq.lt (fun h => h)).trans hq) (hr.of fun b hb => ⟨hF.blk b ((hI 0).gd _ _ h0 b hb).2 (fun h => h), hb⟩) hl hm).mono ?_
  rintro e W9 ⟨hv, h⟩
  exact ⟨hv, h.imp (fun h => (hJ' _).less (hl ▸ h) (fun i hi => hi.elim)) (fun h => hJx'.less h (fun i hi => hi.elim))⟩
end

/-- What is held while points go by: the box so far, and where the answer goes. -/
abbrev OfJ (N : Nat) (w0 : World) (al rs : Nat) (l : List (Int × Int)) (k : Nat) : (Nat → Prop) → World → Prop := Own N w0 [(al, .cells #[.bool (boxL (l.take k)).n, .int .i64 (boxL (l.take k)).lx, .int .i64 (boxL (l.take k)).ly, .int .i64 (boxL (l.take k)).hx, .int .i64 (boxL (l.take k)).hy] 25), (rs, .cells #[.bool false, .int .i64 0, .int .i64 0, .int .i64 0, .int .i64 0] 25)]
/-- The box is stored. -/
theorem ofj_step {N : Nat} {w0 : World} {al rs : Nat} {l : List (Int × Int)} {k : Nat} {G : Nat → Prop} {V W : World} {p : Int × Int} (hN : N ≤ w0.heap.size) (ha : N ≤ al) (hne : rs ≠ al) (h : OfJ N w0 al rs l k G V) (hp : l[k]? = some p) (hb : Below V.heap.size V W) :
    OfJ N w0 al rs l (k + 1) G (((((W.setCell ⟨al, 0, none⟩ (.bool (uniR (boxL (l.take k)) (ptR p)).n)).setCell ⟨al, 1, none⟩ (.int .i64 (uniR (boxL (l.take k)) (ptR p)).lx)).setCell ⟨al, 2, none⟩ (.int .i64 (uniR (boxL (l.take k)) (ptR p)).ly)).setCell ⟨al, 3, none⟩ (.int .i64 (uniR (boxL (l.take k)) (ptR p)).hx)).setCell ⟨al, 4, none⟩ (.int .i64 (uniR (boxL (l.take k)) (ptR p)).hy)) ∧
    Sm G V (((((W.setCell ⟨al, 0, none⟩ (.bool (uniR (boxL (l.take k)) (ptR p)).n)).setCell ⟨al, 1, none⟩ (.int .i64 (uniR (boxL (l.take k)) (ptR p)).lx)).setCell ⟨al, 2, none⟩ (.int .i64 (uniR (boxL (l.take k)) (ptR p)).ly)).setCell ⟨al, 3, none⟩ (.int .i64 (uniR (boxL (l.take k)) (ptR p)).hx)).setCell ⟨al, 4, none⟩ (.int .i64 (uniR (boxL (l.take k)) (ptR p)).hy)) := by
  have hB : B5 V al (boxL (l.take k)) := h.2.2 (al, _) List.mem_cons_self
  have hB2 : B5 W al (boxL (l.take k)) := hB.keep hb
  have hS := hB2.set (uniR (boxL (l.take k)) (ptR p))
  refine Own.put1 h al ha ((Fr.of_below hb).trans (((((Fr.set _ _ _ _).trans (Fr.set _ _ _ _)).trans (Fr.set _ _ _ _)).trans (Fr.set _ _ _ _)).trans (Fr.set _ _ _ _))) hN ⟨_, List.mem_cons_self, rfl⟩ fun x hx => ?_
  simp only [List.mem_cons, List.not_mem_nil, or_false] at hx
  rcases hx with rfl | rfl
  · exact .inl ⟨rfl, by rw [boxL_snoc l k p hp]; exact hS⟩
  · exact .inr ⟨hne, by simp⟩

attribute [local go_sem] Oper.semAt_some
set_option maxRecDepth 100000 in
set_option maxHeartbeats 8000000 in
theorem bof_call (s : Sh) (w : World) (h : In (fun b => b < w.heap.size) w s) (h4 : (ptsF (s.flat 1)).length ≤ 4000) : Calls Try.prog 27 #[.agg #[.int .i64 (s).k, .slice (s).xo (s).xn (s).xc, .slice (s).po (s).pn (s).pc]] w fun e w' => e = .returned (.agg #[.bool (boxL (ptsF (s.flat 1))).n, .int .i64 (boxL (ptsF (s.flat 1))).lx, .int .i64 (boxL (ptsF (s.flat 1))).ly, .int .i64 (boxL (ptsF (s.flat 1))).hx, .int .i64 (boxL (ptsF (s.flat 1))).hy]) ∧ Below w.heap.size w w' := by
  have H := hid h
  have H4 := hid h4
  have NC := hid none_call
  have AP := hid around_pt
  have UC := hid union_call
  have HA := hid (fun W (hb : Below w.heap.size w W) => all_call s W (h.grow hb) h4)
  have BX := hid ((Bx.new w s).keep (ext1 (.cells #[.bool false, .int .i64 0, .int .i64 0, .int .i64 0, .int .i64 0] 25)))
  have RI := hid (show B5 ((w.alloc (.cells #[.int .i64 (s).k, .slice (s).xo (s).xn (s).xc, .slice (s).po (s).pn (s).pc] 45)).alloc (.cells #[.bool false, .int .i64 0, .int .i64 0, .int .i64 0, .int .i64 0] 25)) (w.heap.size + 1) ⟨false, 0, 0, 0, 0⟩ from (by repeat (first | (refine at_new ?_; first | with_reducible rfl | (simp only [World.size_alloc]; done)) | refine at_old ?_)))
  clear h h4
  obtain ⟨m, -⟩ : ∃ m : Nat, m = 3 := ⟨3, rfl⟩
  refine (callsIn_wide (n := m)).1 ?_
  refine callsIn_of_wp_marks Try.func27 rfl trivial ?_ rfl
  simp only [Try.ntmps27, List.size_toArray, List.length_cons, List.length_nil, Nat.reduceAdd, Nat.reduceSub, Array.replicate_succ, Array.replicate_zero, List.push_toArray, List.append_toArray, List.nil_append, List.cons_append]
  gi_wp2_with (first | (refine ⟨trivial, fun h => (by cases h), ?_⟩; gi_at_call 36; refine (callsIn_wide.2 (NC.out _)).mono ?_; rintro e w6 ⟨rfl, h6⟩; have hb6 := gt below2 h6; have hz6 : w.heap.size + 1 + 1 ≤ w6.heap.size := (by have h66 := h6.size; simp only [World.size_alloc] at h66; omega); have RS0 := RI.out.keep h6; have BS := BX.out.keep h6; obtain ⟨c0, c1, c2⟩ := (BS.keep (ext1 (.cells #[.bool true, .int .i64 0, .int .i64 0, .int .i64 0, .int .i64 0] 25))).cells; clear BX) | (refine ⟨trivial, fun h => (by cases h), ?_⟩; gi_at_call 57; refine (callsIn_wide.2 (HA.out _ (gt hb6 (ext1 _)))).mono ?_; rintro e w7 ⟨q, ao, nn, cc, rfl, hq1, hrx, hln, hown, h7⟩))
  obtain ⟨W1, hW1⟩ : ∃ W : World, W = w6.alloc (.cells #[.bool true, .int .i64 0, .int .i64 0, .int .i64 0, .int .i64 0] 25) := ⟨_, rfl⟩
  have AL1 : B5 W1 w6.heap.size noR := by rw [hW1]; exact heap_alloc_new _ _
  have RS1 : B5 W1 (w.heap.size + 1) ⟨false, 0, 0, 0, 0⟩ := by rw [hW1]; exact RS0.keep (ext1 _)
  have hb1 : Below w.heap.size w W1 := by rw [hW1]; exact gt hb6 (ext1 _)
  have hz1 : W1.heap.size = w6.heap.size + 1 := by rw [hW1]; simp
  rw [← hW1] at h7 hown hq1
  clear hW1 c0 c1 c2 BS h6 RS0 hb6
  have XRW := hid (xr_own hown hln)
  have HN := hid (show nn ≤ 9223372036854775806 by have := H4.out; omega)
  have HL := hid hln
  have AL := hid (AL1.keep h7); have RS := hid (RS1.keep h7); have HB := hid (gt hb1 h7); have HRX := hid hrx
  have hz7 := h7.size
  clear h7 hown hln AL1 RS1 hb1 hrx NC HA H H4
  obtain ⟨pts, hpts⟩ : ∃ p, Hid (p = ptsF (s.flat 1)) := ⟨_, hid rfl⟩
  rw [← hpts.out] at XRW HL
  refine range_values (N := w.heap.size) (w0 := w) pts ao nn cc q rfl rfl (fun k => OfJ w.heap.size w w6.heap.size (w.heap.size + 1) pts k) (fun _ _ _ => False) (fun k => own_cns _ _ (Nat.le_refl _) _) (fun _ => ⟨fun _ _ h => h.elim, fun _ _ h => h.elim, fun _ _ _ _ h => h.elim⟩) (fun i => W1.heap.size ≤ i ∧ i < w7.heap.size) ?h0 HRX.out XRW.out HL.out HN.out (fun x W => W.alloc (.cells #[.int .i64 x.1, .int .i64 x.2] 23)) (fun x W => Fr.alloc _ _ _)
    (fun x Wa => ⟨#[.agg #[.int .i64 (s).k, .slice (s).xo (s).xn (s).xc, .slice (s).po (s).pn (s).pc], .pointer (some ⟨w.heap.size, 0, none⟩), .pointer (some ⟨w.heap.size + 1, 0, none⟩), .pointer (some ⟨w6.heap.size, 0, none⟩), .pointer (some ⟨Wa.heap.size, 0, none⟩), .agg #[.bool true, .int .i64 0, .int .i64 0, .int .i64 0, .int .i64 0], .agg #[.int .i64 (s).k, .slice (s).xo (s).xn (s).xc, .slice (s).po (s).pn (s).pc], .func (.func 84) #[] #[.pointer (some ⟨q, 0, none⟩)], .agg #[.int .i64 x.1, .int .i64 x.2], undef, undef, undef, undef, undef, undef], []⟩) ?hassign ?hbody ?hdone ?hstop
  case h0 =>
    refine ⟨HB.out, fun i hi => ⟨⟨by omega, hi.2⟩, fun x hx => ?_⟩, fun x hx => ?_⟩
    · simp only [List.mem_cons, List.not_mem_nil, or_false] at hx
      rcases hx with rfl | rfl
      · show i ≠ w6.heap.size
        omega
      · show i ≠ w.heap.size + 1
        omega
    · simp only [List.mem_cons, List.not_mem_nil, or_false] at hx
      rcases hx with rfl | rfl
      · exact AL.out
      · exact RS.out
  case hassign =>
    intro l' x W' K hK
    gi_wp2
    exact hK
  case hbody =>
    intro l' k p G Wa V hp hJ hsz hnew
    have c2 := C2.of ((hnew _ (Nat.le_refl _)).1.trans (heap_alloc_new Wa _))
    have hB : B5 V w6.heap.size (boxL (pts.take k)) := hJ.2.2 (w6.heap.size, _) List.mem_cons_self
    have ST := hid (fun W (hb : Below V.heap.size V W) => ofj_step (Nat.le_refl _) (by omega) (by omega) hJ hp hb)
    have D0 := hid hB
    obtain ⟨y0, y1⟩ := c2
    obtain ⟨x0, x1, x2, x3, x4⟩ := hB.c
    clear hB hJ hsz hnew hp
    generalize boxL (pts.take k) = R at *
    gi_wp2
    refine wpIn_region_any (by kernel_rfl) ?_
    change wpAnyIn _ _ _ _ _ _ _ _ _ (World.drew _)
    refine wpAnyIn_ready (rs := [0, 1, 2]) (by kernel_rfl) (by simp) ?_
    refine AllReadyIn.cons rfl (fun K hK => ?_) ?_
    · as_aux_lemma =>
        go_simp
        refine hK _ _ ?_
        clear hK K
        refine wpAnyIn_ready (rs := [1, 2]) (by kernel_rfl) (by simp) ?_
        refine AllReadyIn.cons rfl (fun K hK => ?_) ?_
        · as_aux_lemma =>
            go_simp
            refine hK _ _ ?_
            clear hK K
            refine wpAnyIn_ready (rs := [2]) (by kernel_rfl) (by simp) ?_
            refine AllReadyIn.cons rfl (fun K hK => ?_) AllReadyIn.nil
            go_simp
            refine hK _ _ ?_
            clear hK K
            refine wpAnyIn_ready (rs := [3]) (by kernel_rfl) (by simp) ?_
            refine AllReadyIn.cons rfl (fun K hK => ?_) AllReadyIn.nil
            go_simp
            (refine ⟨trivial, fun h => (by cases h), ?_⟩; gi_at_call 42; refine (CallsIn.inRound l' (callsIn_wide.2 (AP.out _ _))).mono ?_; rintro e w8 ⟨rfl, h8⟩; have b8 := undrew h8; have D8 := hid (D0.out.keep b8); clear h8; obtain ⟨x0, x1, x2, x3, x4⟩ := D8.out.c)
            refine hK _ _ ?_
            clear hK K
            refine wpAnyIn_ready (rs := [4]) (by kernel_rfl) (by simp) ?_
            refine AllReadyIn.cons rfl (fun K hK => ?_) AllReadyIn.nil
            go_simp
            (refine ⟨trivial, fun h => (by cases h), ?_⟩; gi_at_call 12; refine (CallsIn.inRound l' (callsIn_wide.2 (UC.out R (ptR p) _))).mono ?_; rintro e w9 ⟨rfl, h9⟩; have b9 := gt b8 h9; have D9 := D8.out.keep h9; clear h9; obtain ⟨x0, x1, x2, x3, x4⟩ := D9.c; have f0 := D9.fz 0; have f1 := D9.fz 1; have f2 := D9.fz 2; have f3 := D9.fz 3; have f4 := D9.fz 4)
            refine hK _ _ ?_
            clear hK K
            refine wpAnyIn_ready (rs := [5]) (by kernel_rfl) (by simp) ?_
            refine AllReadyIn.cons rfl (fun K hK => ?_) AllReadyIn.nil
            go_simp
            refine hK _ _ ?_
            clear hK K
            refine wpAnyIn_done (by kernel_rfl) ?_ _
            gi_wp2
            exact ⟨(ST.out _ b9).2, (ST.out _ b9).1⟩
        refine AllReadyIn.cons rfl (fun K hK => ?_) ?_
        · as_aux_lemma =>
            go_simp
            refine hK _ _ ?_
            clear hK K
            refine wpAnyIn_ready (rs := [1]) (by kernel_rfl) (by simp) ?_
            refine AllReadyIn.cons rfl (fun K hK => ?_) AllReadyIn.nil
            go_simp
            refine hK _ _ ?_
            clear hK K
            refine wpAnyIn_ready (rs := [3]) (by kernel_rfl) (by simp) ?_
            refine AllReadyIn.cons rfl (fun K hK => ?_) AllReadyIn.nil
            go_simp
            (refine ⟨trivial, fun h => (by cases h), ?_⟩; gi_at_call 42; refine (CallsIn.inRound l' (callsIn_wide.2 (AP.out _ _))).mono ?_; rintro e w8 ⟨rfl, h8⟩; have b8 := undrew h8; have D8 := hid (D0.out.keep b8); clear h8; obtain ⟨x0, x1, x2, x3, x4⟩ := D8.out.c)
            refine hK _ _ ?_
            clear hK K
            refine wpAnyIn_ready (rs := [4]) (by kernel_rfl) (by simp) ?_
            refine AllReadyIn.cons rfl (fun K hK => ?_) AllReadyIn.nil
            go_simp
            (refine ⟨trivial, fun h => (by cases h), ?_⟩; gi_at_call 12; refine (CallsIn.inRound l' (callsIn_wide.2 (UC.out R (ptR p) _))).mono ?_; rintro e w9 ⟨rfl, h9⟩; have b9 := gt b8 h9; have D9 := D8.out.keep h9; clear h9; obtain ⟨x0, x1, x2, x3, x4⟩ := D9.c; have f0 := D9.fz 0; have f1 := D9.fz 1; have f2 := D9.fz 2; have f3 := D9.fz 3; have f4 := D9.fz 4)
            refine hK _ _ ?_
            clear hK K
            refine wpAnyIn_ready (rs := [5]) (by kernel_rfl) (by simp) ?_
            refine AllReadyIn.cons rfl (fun K hK => ?_) AllReadyIn.nil
            go_simp
            refine hK _ _ ?_
            clear hK K
            refine wpAnyIn_done (by kernel_rfl) ?_ _
            gi_wp2
            exact ⟨(ST.out _ b9).2, (ST.out _ b9).1⟩
        exact AllReadyIn.nil
    refine AllReadyIn.cons rfl (fun K hK => ?_) ?_
    · as_aux_lemma =>
        go_simp
        refine hK _ _ ?_
        clear hK K
        refine wpAnyIn_ready (rs := [0, 2]) (by kernel_rfl) (by simp) ?_
        refine AllReadyIn.cons rfl (fun K hK => ?_) ?_
        · as_aux_lemma =>
            go_simp
            refine hK _ _ ?_
            clear hK K
            refine wpAnyIn_ready (rs := [2]) (by kernel_rfl) (by simp) ?_
            refine AllReadyIn.cons rfl (fun K hK => ?_) AllReadyIn.nil
            go_simp
            refine hK _ _ ?_
            clear hK K
            refine wpAnyIn_ready (rs := [3]) (by kernel_rfl) (by simp) ?_
            refine AllReadyIn.cons rfl (fun K hK => ?_) AllReadyIn.nil
            go_simp
            (refine ⟨trivial, fun h => (by cases h), ?_⟩; gi_at_call 42; refine (CallsIn.inRound l' (callsIn_wide.2 (AP.out _ _))).mono ?_; rintro e w8 ⟨rfl, h8⟩; have b8 := undrew h8; have D8 := hid (D0.out.keep b8); clear h8; obtain ⟨x0, x1, x2, x3, x4⟩ := D8.out.c)
            refine hK _ _ ?_
            clear hK K
            refine wpAnyIn_ready (rs := [4]) (by kernel_rfl) (by simp) ?_
            refine AllReadyIn.cons rfl (fun K hK => ?_) AllReadyIn.nil
            go_simp
            (refine ⟨trivial, fun h => (by cases h), ?_⟩; gi_at_call 12; refine (CallsIn.inRound l' (callsIn_wide.2 (UC.out R (ptR p) _))).mono ?_; rintro e w9 ⟨rfl, h9⟩; have b9 := gt b8 h9; have D9 := D8.out.keep h9; clear h9; obtain ⟨x0, x1, x2, x3, x4⟩ := D9.c; have f0 := D9.fz 0; have f1 := D9.fz 1; have f2 := D9.fz 2; have f3 := D9.fz 3; have f4 := D9.fz 4)
            refine hK _ _ ?_
            clear hK K
            refine wpAnyIn_ready (rs := [5]) (by kernel_rfl) (by simp) ?_
            refine AllReadyIn.cons rfl (fun K hK => ?_) AllReadyIn.nil
            go_simp
            refine hK _ _ ?_
            clear hK K
            refine wpAnyIn_done (by kernel_rfl) ?_ _
            gi_wp2
            exact ⟨(ST.out _ b9).2, (ST.out _ b9).1⟩
        refine AllReadyIn.cons rfl (fun K hK => ?_) ?_
        · as_aux_lemma =>
            go_simp
            refine hK _ _ ?_
            clear hK K
            refine wpAnyIn_ready (rs := [0, 3]) (by kernel_rfl) (by simp) ?_
            refine AllReadyIn.cons rfl (fun K hK => ?_) ?_
            · as_aux_lemma =>
                go_simp
                refine hK _ _ ?_
                clear hK K
                refine wpAnyIn_ready (rs := [3]) (by kernel_rfl) (by simp) ?_
                refine AllReadyIn.cons rfl (fun K hK => ?_) AllReadyIn.nil
                go_simp
                (refine ⟨trivial, fun h => (by cases h), ?_⟩; gi_at_call 42; refine (CallsIn.inRound l' (callsIn_wide.2 (AP.out _ _))).mono ?_; rintro e w8 ⟨rfl, h8⟩; have b8 := undrew h8; have D8 := hid (D0.out.keep b8); clear h8; obtain ⟨x0, x1, x2, x3, x4⟩ := D8.out.c)
                refine hK _ _ ?_
                clear hK K
                refine wpAnyIn_ready (rs := [4]) (by kernel_rfl) (by simp) ?_
                refine AllReadyIn.cons rfl (fun K hK => ?_) AllReadyIn.nil
                go_simp
                (refine ⟨trivial, fun h => (by cases h), ?_⟩; gi_at_call 12; refine (CallsIn.inRound l' (callsIn_wide.2 (UC.out R (ptR p) _))).mono ?_; rintro e w9 ⟨rfl, h9⟩; have b9 := gt b8 h9; have D9 := D8.out.keep h9; clear h9; obtain ⟨x0, x1, x2, x3, x4⟩ := D9.c; have f0 := D9.fz 0; have f1 := D9.fz 1; have f2 := D9.fz 2; have f3 := D9.fz 3; have f4 := D9.fz 4)
                refine hK _ _ ?_
                clear hK K
                refine wpAnyIn_ready (rs := [5]) (by kernel_rfl) (by simp) ?_
                refine AllReadyIn.cons rfl (fun K hK => ?_) AllReadyIn.nil
                go_simp
                refine hK _ _ ?_
                clear hK K
                refine wpAnyIn_done (by kernel_rfl) ?_ _
                gi_wp2
                exact ⟨(ST.out _ b9).2, (ST.out _ b9).1⟩
            refine AllReadyIn.cons rfl (fun K hK => ?_) ?_
            · as_aux_lemma =>
                go_simp
                (refine ⟨trivial, fun h => (by cases h), ?_⟩; gi_at_call 42; refine (CallsIn.inRound l' (callsIn_wide.2 (AP.out _ _))).mono ?_; rintro e w8 ⟨rfl, h8⟩; have b8 := undrew h8; have D8 := hid (D0.out.keep b8); clear h8; obtain ⟨x0, x1, x2, x3, x4⟩ := D8.out.c)
                refine hK _ _ ?_
                clear hK K
                refine wpAnyIn_ready (rs := [0]) (by kernel_rfl) (by simp) ?_
                refine AllReadyIn.cons rfl (fun K hK => ?_) AllReadyIn.nil
                go_simp
                refine hK _ _ ?_
                clear hK K
                refine wpAnyIn_ready (rs := [4]) (by kernel_rfl) (by simp) ?_
                refine AllReadyIn.cons rfl (fun K hK => ?_) AllReadyIn.nil
                go_simp
                (refine ⟨trivial, fun h => (by cases h), ?_⟩; gi_at_call 12; refine (CallsIn.inRound l' (callsIn_wide.2 (UC.out R (ptR p) _))).mono ?_; rintro e w9 ⟨rfl, h9⟩; have b9 := gt b8 h9; have D9 := D8.out.keep h9; clear h9; obtain ⟨x0, x1, x2, x3, x4⟩ := D9.c; have f0 := D9.fz 0; have f1 := D9.fz 1; have f2 := D9.fz 2; have f3 := D9.fz 3; have f4 := D9.fz 4)
                refine hK _ _ ?_
                clear hK K
                refine wpAnyIn_ready (rs := [5]) (by kernel_rfl) (by simp) ?_
                refine AllReadyIn.cons rfl (fun K hK => ?_) AllReadyIn.nil
                go_simp
                refine hK _ _ ?_
                clear hK K
                refine wpAnyIn_done (by kernel_rfl) ?_ _
                gi_wp2
                exact ⟨(ST.out _ b9).2, (ST.out _ b9).1⟩
            exact AllReadyIn.nil
        exact AllReadyIn.nil
    refine AllReadyIn.cons rfl (fun K hK => ?_) ?_
    · as_aux_lemma =>
        go_simp
        refine hK _ _ ?_
        clear hK K
        refine wpAnyIn_ready (rs := [0, 1]) (by kernel_rfl) (by simp) ?_
        refine AllReadyIn.cons rfl (fun K hK => ?_) ?_
        · as_aux_lemma =>
            go_simp
            refine hK _ _ ?_
            clear hK K
            refine wpAnyIn_ready (rs := [1]) (by kernel_rfl) (by simp) ?_
            refine AllReadyIn.cons rfl (fun K hK => ?_) AllReadyIn.nil
            go_simp
            refine hK _ _ ?_
            clear hK K
            refine wpAnyIn_ready (rs := [3]) (by kernel_rfl) (by simp) ?_
            refine AllReadyIn.cons rfl (fun K hK => ?_) AllReadyIn.nil
            go_simp
            (refine ⟨trivial, fun h => (by cases h), ?_⟩; gi_at_call 42; refine (CallsIn.inRound l' (callsIn_wide.2 (AP.out _ _))).mono ?_; rintro e w8 ⟨rfl, h8⟩; have b8 := undrew h8; have D8 := hid (D0.out.keep b8); clear h8; obtain ⟨x0, x1, x2, x3, x4⟩ := D8.out.c)
            refine hK _ _ ?_
            clear hK K
            refine wpAnyIn_ready (rs := [4]) (by kernel_rfl) (by simp) ?_
            refine AllReadyIn.cons rfl (fun K hK => ?_) AllReadyIn.nil
            go_simp
            (refine ⟨trivial, fun h => (by cases h), ?_⟩; gi_at_call 12; refine (CallsIn.inRound l' (callsIn_wide.2 (UC.out R (ptR p) _))).mono ?_; rintro e w9 ⟨rfl, h9⟩; have b9 := gt b8 h9; have D9 := D8.out.keep h9; clear h9; obtain ⟨x0, x1, x2, x3, x4⟩ := D9.c; have f0 := D9.fz 0; have f1 := D9.fz 1; have f2 := D9.fz 2; have f3 := D9.fz 3; have f4 := D9.fz 4)
            refine hK _ _ ?_
            clear hK K
            refine wpAnyIn_ready (rs := [5]) (by kernel_rfl) (by simp) ?_
            refine AllReadyIn.cons rfl (fun K hK => ?_) AllReadyIn.nil
            go_simp
            refine hK _ _ ?_
            clear hK K
            refine wpAnyIn_done (by kernel_rfl) ?_ _
            gi_wp2
            exact ⟨(ST.out _ b9).2, (ST.out _ b9).1⟩
        refine AllReadyIn.cons rfl (fun K hK => ?_) ?_
        · as_aux_lemma =>
            go_simp
            refine hK _ _ ?_
            clear hK K
            refine wpAnyIn_ready (rs := [0, 3]) (by kernel_rfl) (by simp) ?_
            refine AllReadyIn.cons rfl (fun K hK => ?_) ?_
            · as_aux_lemma =>
                go_simp
                refine hK _ _ ?_
                clear hK K
                refine wpAnyIn_ready (rs := [3]) (by kernel_rfl) (by simp) ?_
                refine AllReadyIn.cons rfl (fun K hK => ?_) AllReadyIn.nil
                go_simp
                (refine ⟨trivial, fun h => (by cases h), ?_⟩; gi_at_call 42; refine (CallsIn.inRound l' (callsIn_wide.2 (AP.out _ _))).mono ?_; rintro e w8 ⟨rfl, h8⟩; have b8 := undrew h8; have D8 := hid (D0.out.keep b8); clear h8; obtain ⟨x0, x1, x2, x3, x4⟩ := D8.out.c)
                refine hK _ _ ?_
                clear hK K
                refine wpAnyIn_ready (rs := [4]) (by kernel_rfl) (by simp) ?_
                refine AllReadyIn.cons rfl (fun K hK => ?_) AllReadyIn.nil
                go_simp
                (refine ⟨trivial, fun h => (by cases h), ?_⟩; gi_at_call 12; refine (CallsIn.inRound l' (callsIn_wide.2 (UC.out R (ptR p) _))).mono ?_; rintro e w9 ⟨rfl, h9⟩; have b9 := gt b8 h9; have D9 := D8.out.keep h9; clear h9; obtain ⟨x0, x1, x2, x3, x4⟩ := D9.c; have f0 := D9.fz 0; have f1 := D9.fz 1; have f2 := D9.fz 2; have f3 := D9.fz 3; have f4 := D9.fz 4)
                refine hK _ _ ?_
                clear hK K
                refine wpAnyIn_ready (rs := [5]) (by kernel_rfl) (by simp) ?_
                refine AllReadyIn.cons rfl (fun K hK => ?_) AllReadyIn.nil
                go_simp
                refine hK _ _ ?_
                clear hK K
                refine wpAnyIn_done (by kernel_rfl) ?_ _
                gi_wp2
                exact ⟨(ST.out _ b9).2, (ST.out _ b9).1⟩
            refine AllReadyIn.cons rfl (fun K hK => ?_) ?_
            · as_aux_lemma =>
                go_simp
                (refine ⟨trivial, fun h => (by cases h), ?_⟩; gi_at_call 42; refine (CallsIn.inRound l' (callsIn_wide.2 (AP.out _ _))).mono ?_; rintro e w8 ⟨rfl, h8⟩; have b8 := undrew h8; have D8 := hid (D0.out.keep b8); clear h8; obtain ⟨x0, x1, x2, x3, x4⟩ := D8.out.c)
                refine hK _ _ ?_
                clear hK K
                refine wpAnyIn_ready (rs := [0]) (by kernel_rfl) (by simp) ?_
                refine AllReadyIn.cons rfl (fun K hK => ?_) AllReadyIn.nil
                go_simp
                refine hK _ _ ?_
                clear hK K
                refine wpAnyIn_ready (rs := [4]) (by kernel_rfl) (by simp) ?_
                refine AllReadyIn.cons rfl (fun K hK => ?_) AllReadyIn.nil
                go_simp
                (refine ⟨trivial, fun h => (by cases h), ?_⟩; gi_at_call 12; refine (CallsIn.inRound l' (callsIn_wide.2 (UC.out R (ptR p) _))).mono ?_; rintro e w9 ⟨rfl, h9⟩; have b9 := gt b8 h9; have D9 := D8.out.keep h9; clear h9; obtain ⟨x0, x1, x2, x3, x4⟩ := D9.c; have f0 := D9.fz 0; have f1 := D9.fz 1; have f2 := D9.fz 2; have f3 := D9.fz 3; have f4 := D9.fz 4)
                refine hK _ _ ?_
                clear hK K
                refine wpAnyIn_ready (rs := [5]) (by kernel_rfl) (by simp) ?_
                refine AllReadyIn.cons rfl (fun K hK => ?_) AllReadyIn.nil
                go_simp
                refine hK _ _ ?_
                clear hK K
                refine wpAnyIn_done (by kernel_rfl) ?_ _
                gi_wp2
                exact ⟨(ST.out _ b9).2, (ST.out _ b9).1⟩
            exact AllReadyIn.nil
        exact AllReadyIn.nil
    exact AllReadyIn.nil
  case hdone =>
    intro W9 hJ hM
    have hA : B5 W9 w6.heap.size (boxL (pts.take pts.length)) := hJ.2.2 (w6.heap.size, _) List.mem_cons_self
    rw [List.take_length] at hA
    have hS : B5 W9 (w.heap.size + 1) ⟨false, 0, 0, 0, 0⟩ := hJ.2.2 (w.heap.size + 1, _) (List.mem_cons_of_mem _ List.mem_cons_self)
    have HJ := hid hJ
    have HM := hid hM
    clear hJ hM
    obtain ⟨R, hRR⟩ : ∃ R, Hid (R = boxL pts) := ⟨_, hid rfl⟩
    rw [← hRR.out] at hA
    have HS := hid (hS.set R)
    obtain ⟨x0, x1, x2, x3, x4⟩ := hA.c
    obtain ⟨u0, u1, u2, u3, u4⟩ := hS.c
    have f0 := hS.fz 0; have f1 := hS.fz 1; have f2 := hS.fz 2; have f3 := hS.fz 3; have f4 := hS.fz 4
    clear hA hS
    gi_wp2
    have P := Own.put1 (bs' := [(w.heap.size + 1, .cells #[.bool (R).n, .int .i64 (R).lx, .int .i64 (R).ly, .int .i64 (R).hx, .int .i64 (R).hy] 25)]) HJ.out (w.heap.size + 1) (by omega) (((((Fr.set W9 (w.heap.size + 1) 0 (.bool R.n)).trans (Fr.set _ _ 1 (.int .i64 R.lx))).trans (Fr.set _ _ 2 (.int .i64 R.ly))).trans (Fr.set _ _ 3 (.int .i64 R.hx))).trans (Fr.set _ _ 4 (.int .i64 R.hy))) (Nat.le_refl _) ⟨_, List.mem_cons_of_mem _ List.mem_cons_self, rfl⟩ (fun x hx => .inl (by simp only [List.mem_cons, List.not_mem_nil, or_false] at hx; subst hx; exact ⟨rfl, HS.out⟩))
    refine leave1 (own_cns w.heap.size w (Nat.le_refl _) [(w.heap.size + 1, .cells #[.bool (R).n, .int .i64 (R).lx, .int .i64 (R).ly, .int .i64 (R).hx, .int .i64 (R).hy] 25)]) P.1 ((P.2.same _ rfl).trans HM.out) fun W' h' => ?_
    have hz : B5 W' (w.heap.size + 1) R := h'.2.2 (w.heap.size + 1, _) List.mem_cons_self
    obtain ⟨z0, z1, z2, z3, z4⟩ := hz.c
    exact ⟨.agg #[.bool (R).n, .int .i64 (R).lx, .int .i64 (R).ly, .int .i64 (R).hx, .int .i64 (R).hy], by simp [results, Try.results27, go_sem, z0, z1, z2, z3, z4], by rw [hRR.out, hpts.out], h'.1⟩
  case hstop =>
    rintro c W9 h
    exact h.elim
end Go.Proofs.Ytjlahomjhadnkaa
