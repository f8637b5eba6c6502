/- The program's Of; no statement of the seat is proved here. -/
import Derived.Test.YtpmfedimjjifaaaGreatDoorJ14
import Derived.Test.YtpmfedimjjifaaaGreatDoorJ15
import Derived.Test.YtpmfedimjjifaaaGreatDoorJ05
import Derived.Test.YtpmfedimjjifaaaGreatDoorJ12
import Derived.Test.YtpmfedimjjifaaaGreatDoorJ03
namespace Go.Proofs.YtpmfedimjjifaaaGreatDoor
namespace Bxs
open Go.RowKit Go.Maps

/-- The box of a point. -/
def ptR (p : Int × Int) : Rect := ⟨false, p.1, p.2, p.1, p.2⟩
/-- The box of points. -/
def boxL (l : List (Int × Int)) : Rect := l.foldl (fun r p => uniR r (ptR p)) noR
set_option maxRecDepth 100000 in
theorem boxL_snoc (l : List (Int × Int)) (k : Nat) (p : Int × Int) (h : l[k]? = some p) : boxL (l.take (k + 1)) = uniR (boxL (l.take k)) (ptR p) := by
  unfold boxL
  rw [List.take_add_one, h, List.foldl_append]
  rfl
set_option maxRecDepth 100000 in
theorem around_pt (p : Int × Int) (w : World) : Calls Tryz.prog 52 #[.agg #[.int .i64 p.1, .int .i64 p.2], .agg #[.int .i64 p.1, .int .i64 p.2]] w fun e w' => e = .returned (.agg #[.bool (ptR p).n, .int .i64 (ptR p).lx, .int .i64 (ptR p).ly, .int .i64 (ptR p).hx, .int .i64 (ptR p).hy]) ∧ Below w.heap.size w w' := by
  have h := around_call p.1 p.2 p.1 p.2 w
  rw [Int.min_self, Int.min_self, Int.max_self, Int.max_self] at h
  exact h

section
variable {n : Nat} {g : Operand} {ps : Array Tmp} {assign body : Code} {Q : Exit → Act → World → Prop} {a : Act} {w : World}
set_option maxRecDepth 100000 in
/-- A loop over the points of a row that are told one by one. -/
theorem range_values {N : Nat} {w0 : World} (pts : List (Int × Int)) (xo : Option Addr) (m c q : Nat) (hg : a.eval g = .func (.func 124) #[] #[.pointer (some ⟨q, 0, none⟩)])
    (hps : ps.size = 1) (I : Nat → (Nat → Prop) → World → Prop) (X : Code → (Nat → Prop) → World → Prop) (hI : ∀ k, Cns N w0 (I k)) (hX : ∀ c, Cns N w0 (X c)) (G0 : Nat → Prop) (h0 : I 0 G0 w)
    (hq : Rx w q xo m c) (hr : XR G0 w xo pts) (hl : pts.length = m) (hm : m ≤ 9223372036854775806)
    (aw : Int × Int → World → World) (haw : ∀ x W, Fr (fun _ => False) W (aw x W)) (a₁ : Int × Int → World → Act)
    (hassign : ∀ (l : Nat) (x : Int × Int) (W : World) (K : Act → World → Prop), K (a₁ x W) (aw x W) →
      assign.wpIn (Fence.wide.inRound l) (n - 1 - 1) Tryz.prog (Exit.then K (fun _ _ _ => False)) { tmps := (ps.zip #[.agg #[.int .i64 x.1, .int .i64 x.2]]).foldl (fun t (p, v) => t.setIfInBounds p v) a.tmps, defers := [] } W)
    (hbody : ∀ (l k : Nat) (x : Int × Int) (G : Nat → Prop) (Wa V : World), pts[k]? = some x → I k G V → V.heap.size = (aw x Wa).heap.size → (∀ i, Wa.heap.size ≤ i → V.heap[i]? = (aw x Wa).heap[i]? ∧ (i < V.heap.size → G i)) →
      body.wpIn (Fence.wide.inRound l) (n - 1 - 1) Tryz.prog (GPost G (I (k + 1)) X V) (a₁ x Wa) V)
    (hdone : ∀ W, I pts.length (fun i => i = w.heap.size) W → Mark w.heap.size W → Q .normal { a with defers := { target := .collected w.heap.size, args := #[] } :: a.defers } W)
    (hstop : ∀ c W, X c (fun i => i = w.heap.size) W → Mark w.heap.size W → c.wpIn Fence.wide n Tryz.prog Q { a with defers := { target := .collected w.heap.size, args := #[] } :: a.defers } W) :
    (Code.rangeFunc g ps assign body).wpIn Fence.wide n Tryz.prog Q a w := by
  refine range_g (N := N) (w0 := w0) (fun x : Int × Int => #[.agg #[.int .i64 x.1, .int .i64 x.2]]) pts (gf := 124) hg (enters_of Tryz.func124 (by kernel_rfl) rfl) (fun _ => hps.symm) I X hI hX G0 (fun _ => False) (fun _ _ h => h)
    ((hI 0).less h0 fun i hi => hi.elim id False.elim) ?_ aw haw a₁ hassign (fun l k x G Wa V h1 h2 _ h4 h5 => hbody l k x G Wa V h1 h2 h4 h5) (fun W h1 h2 _ => hdone W ((hI _).less h1 fun i hi => .inr hi) h2) (fun c W h1 h2 _ => hstop c W ((hX _).less h1 fun i hi => .inr hi) h2)
  intro l' J' Jx' W' hF hJ' hJx' hY' hj0
  refine (values_in N w0 pts xo m c q (n - 1) l' J' Jx' G0 W' hJ' hJx' (fun k x Gs W h1 h2 => hY' k x Gs W h1 h2) hj0 ((hF.blk _ hq.lt (fun h => h)).trans hq) (hr.of fun b hb => ⟨hF.blk b ((hI 0).gd _ _ h0 b hb).2 (fun h => h), hb⟩) hl hm).mono ?_
  rintro e W9 ⟨hv, h⟩
  exact ⟨hv, h.imp (fun h => (hJ' _).less (hl ▸ h) (fun i hi => hi.elim)) (fun h => hJx'.less h (fun i hi => hi.elim))⟩
end

/-- What is held while points go by: the box so far, and where the answer goes. -/
abbrev OfJ (N : Nat) (w0 : World) (al rs : Nat) (l : List (Int × Int)) (k : Nat) : (Nat → Prop) → World → Prop := Own N w0 [(al, .cells #[.bool (boxL (l.take k)).n, .int .i64 (boxL (l.take k)).lx, .int .i64 (boxL (l.take k)).ly, .int .i64 (boxL (l.take k)).hx, .int .i64 (boxL (l.take k)).hy] 27), (rs, .cells #[.bool false, .int .i64 0, .int .i64 0, .int .i64 0, .int .i64 0] 27)]
set_option maxRecDepth 100000 in
/-- The box is stored. -/
theorem ofj_step {N : Nat} {w0 : World} {al rs : Nat} {l : List (Int × Int)} {k : Nat} {G : Nat → Prop} {V W : World} {p : Int × Int} (hN : N ≤ w0.heap.size) (ha : N ≤ al) (hne : rs ≠ al) (h : OfJ N w0 al rs l k G V) (hp : l[k]? = some p) (hb : Below V.heap.size V W) :
    OfJ N w0 al rs l (k + 1) G (((((W.setCell ⟨al, 0, none⟩ (.bool (uniR (boxL (l.take k)) (ptR p)).n)).setCell ⟨al, 1, none⟩ (.int .i64 (uniR (boxL (l.take k)) (ptR p)).lx)).setCell ⟨al, 2, none⟩ (.int .i64 (uniR (boxL (l.take k)) (ptR p)).ly)).setCell ⟨al, 3, none⟩ (.int .i64 (uniR (boxL (l.take k)) (ptR p)).hx)).setCell ⟨al, 4, none⟩ (.int .i64 (uniR (boxL (l.take k)) (ptR p)).hy)) ∧
    Sm G V (((((W.setCell ⟨al, 0, none⟩ (.bool (uniR (boxL (l.take k)) (ptR p)).n)).setCell ⟨al, 1, none⟩ (.int .i64 (uniR (boxL (l.take k)) (ptR p)).lx)).setCell ⟨al, 2, none⟩ (.int .i64 (uniR (boxL (l.take k)) (ptR p)).ly)).setCell ⟨al, 3, none⟩ (.int .i64 (uniR (boxL (l.take k)) (ptR p)).hx)).setCell ⟨al, 4, none⟩ (.int .i64 (uniR (boxL (l.take k)) (ptR p)).hy)) := by
  have hB : B5 V al (boxL (l.take k)) := h.2.2 (al, _) List.mem_cons_self
  have hB2 : B5 W al (boxL (l.take k)) := hB.keep hb
  have hS := hB2.set (uniR (boxL (l.take k)) (ptR p))
  refine Own.put1 h al ha ((Fr.of_below hb).trans (((((Fr.set _ _ _ _).trans (Fr.set _ _ _ _)).trans (Fr.set _ _ _ _)).trans (Fr.set _ _ _ _)).trans (Fr.set _ _ _ _))) hN ⟨_, List.mem_cons_self, rfl⟩ fun x hx => ?_
  simp only [List.mem_cons, List.not_mem_nil, or_false] at hx
  rcases hx with rfl | rfl
  · exact .inl ⟨rfl, by rw [boxL_snoc l k p hp]; exact hS⟩
  · exact .inr ⟨hne, by simp⟩

attribute [local go_sem] Oper.semAt_some
set_option maxRecDepth 100000 in
set_option maxHeartbeats 8000000 in
theorem bof_call (s : Sh) (w : World) (h : In (fun b => b < w.heap.size) w s) (h4 : (ptsF (s.flat 1)).length ≤ 4000) : Calls Tryz.prog 33 #[.agg #[.int .i64 (s).k, .slice (s).xo (s).xn (s).xc, .slice (s).po (s).pn (s).pc]] w fun e w' => e = .returned (.agg #[.bool (boxL (ptsF (s.flat 1))).n, .int .i64 (boxL (ptsF (s.flat 1))).lx, .int .i64 (boxL (ptsF (s.flat 1))).ly, .int .i64 (boxL (ptsF (s.flat 1))).hx, .int .i64 (boxL (ptsF (s.flat 1))).hy]) ∧ Below w.heap.size w w' := by
  have H := hid h
  have H4 := hid h4
  have NC := hid none_call
  have AP := hid around_pt
  have UC := hid union_call
  have HA := hid (fun W (hb : Below w.heap.size w W) => all_call s W (h.grow hb) h4)
  have BX := hid ((Bx.new w s).keep (ext1 (.cells #[.bool false, .int .i64 0, .int .i64 0, .int .i64 0, .int .i64 0] 27)))
  have RI := hid (show B5 ((w.alloc (.cells #[.int .i64 (s).k, .slice (s).xo (s).xn (s).xc, .slice (s).po (s).pn (s).pc] 39)).alloc (.cells #[.bool false, .int .i64 0, .int .i64 0, .int .i64 0, .int .i64 0] 27)) (w.heap.size + 1) ⟨false, 0, 0, 0, 0⟩ from (by repeat (first | (refine at_new ?_; first | with_reducible rfl | (simp only [World.size_alloc]; done)) | refine at_old ?_)))
  clear h h4
  obtain ⟨m, -⟩ : ∃ m : Nat, m = 3 := ⟨3, rfl⟩
  refine (callsIn_wide (n := m)).1 ?_
  refine callsIn_of_wp_marks Tryz.func33 rfl trivial ?_ rfl
  simp only [Tryz.ntmps33, List.size_toArray, List.length_cons, List.length_nil, Nat.reduceAdd, Nat.reduceSub, Array.replicate_succ, Array.replicate_zero, List.push_toArray, List.append_toArray, List.nil_append, List.cons_append]
  gi_wp2_with (first | (refine ⟨trivial, fun h => (by cases h), ?_⟩; gi_at_call 50; refine (callsIn_wide.2 (NC.out _)).mono ?_; rintro e w6 ⟨rfl, h6⟩; have hb6 := gt below2 h6; have hz6 : w.heap.size + 1 + 1 ≤ w6.heap.size := (by have h66 := h6.size; simp only [World.size_alloc] at h66; omega); have RS0 := RI.out.keep h6; have BS := BX.out.keep h6; obtain ⟨c0, c1, c2⟩ := (BS.keep (ext1 (.cells #[.bool true, .int .i64 0, .int .i64 0, .int .i64 0, .int .i64 0] 27))).cells; clear BX) | (refine ⟨trivial, fun h => (by cases h), ?_⟩; gi_at_call 58; refine (callsIn_wide.2 (HA.out _ (gt hb6 (ext1 _)))).mono ?_; rintro e w7 ⟨q, ao, nn, cc, rfl, hq1, hrx, hln, hown, h7⟩))
  obtain ⟨W1, hW1⟩ : ∃ W : World, W = w6.alloc (.cells #[.bool true, .int .i64 0, .int .i64 0, .int .i64 0, .int .i64 0] 27) := ⟨_, rfl⟩
  have AL1 : B5 W1 w6.heap.size noR := by rw [hW1]; exact heap_alloc_new _ _
  have RS1 : B5 W1 (w.heap.size + 1) ⟨false, 0, 0, 0, 0⟩ := by rw [hW1]; exact RS0.keep (ext1 _)
  have hb1 : Below w.heap.size w W1 := by rw [hW1]; exact gt hb6 (ext1 _)
  have hz1 : W1.heap.size = w6.heap.size + 1 := by rw [hW1]; simp
  rw [← hW1] at h7 hown hq1
  clear hW1 c0 c1 c2 BS h6 RS0 hb6
  have XRW := hid (xr_own hown hln)
  have HN := hid (show nn ≤ 9223372036854775806 by have := H4.out; omega)
  have HL := hid hln
  have AL := hid (AL1.keep h7); have RS := hid (RS1.keep h7); have HB := hid (gt hb1 h7); have HRX := hid hrx
  have hz7 := h7.size
  clear h7 hown hln AL1 RS1 hb1 hrx NC HA H H4
  obtain ⟨pts, hpts⟩ : ∃ p, Hid (p = ptsF (s.flat 1)) := ⟨_, hid rfl⟩
  rw [← hpts.out] at XRW HL
  refine range_values (N := w.heap.size) (w0 := w) pts ao nn cc q rfl rfl (fun k => OfJ w.heap.size w w6.heap.size (w.heap.size + 1) pts k) (fun _ _ _ => False) (fun k => own_cns _ _ (Nat.le_refl _) _) (fun _ => ⟨fun _ _ h => h.elim, fun _ _ h => h.elim, fun _ _ _ _ h => h.elim⟩) (fun i => W1.heap.size ≤ i ∧ i < w7.heap.size) ?h0 HRX.out XRW.out HL.out HN.out (fun x W => W.alloc (.cells #[.int .i64 x.1, .int .i64 x.2] 25)) (fun x W => Fr.alloc _ _ _)
    (fun x Wa => ⟨#[.agg #[.int .i64 (s).k, .slice (s).xo (s).xn (s).xc, .slice (s).po (s).pn (s).pc], .pointer (some ⟨w.heap.size, 0, none⟩), .pointer (some ⟨w.heap.size + 1, 0, none⟩), .pointer (some ⟨w6.heap.size, 0, none⟩), .pointer (some ⟨Wa.heap.size, 0, none⟩), .agg #[.bool true, .int .i64 0, .int .i64 0, .int .i64 0, .int .i64 0], .agg #[.int .i64 (s).k, .slice (s).xo (s).xn (s).xc, .slice (s).po (s).pn (s).pc], .func (.func 124) #[] #[.pointer (some ⟨q, 0, none⟩)], .agg #[.int .i64 x.1, .int .i64 x.2], undef, undef, undef, undef, undef, undef], []⟩) ?hassign ?hbody ?hdone ?hstop
  case h0 =>
    refine ⟨HB.out, fun i hi => ⟨⟨by omega, hi.2⟩, fun x hx => ?_⟩, fun x hx => ?_⟩
    · simp only [List.mem_cons, List.not_mem_nil, or_false] at hx
      rcases hx with rfl | rfl
      · show i ≠ w6.heap.size
        omega
      · show i ≠ w.heap.size + 1
        omega
    · simp only [List.mem_cons, List.not_mem_nil, or_false] at hx
      rcases hx with rfl | rfl
      · exact AL.out
      · exact RS.out
  case hassign =>
    intro l' x W' K hK
    gi_wp2
    exact hK
  case hbody =>
    intro l' k p G Wa V hp hJ hsz hnew
    have c2 := C2.of ((hnew _ (Nat.le_refl _)).1.trans (heap_alloc_new Wa _))
    have hB : B5 V w6.heap.size (boxL (pts.take k)) := hJ.2.2 (w6.heap.size, _) List.mem_cons_self
    have ST := hid (fun W (hb : Below V.heap.size V W) => ofj_step (Nat.le_refl _) (by omega) (by omega) hJ hp hb)
    have D0 := hid hB
    obtain ⟨y0, y1⟩ := c2
    obtain ⟨x0, x1, x2, x3, x4⟩ := hB.c
    clear hB hJ hsz hnew hp
    generalize boxL (pts.take k) = R at *
    gi_wp2
    refine wpIn_region_any (by kernel_rfl) ?_
    change wpAnyIn _ _ _ _ _ _ _ _ _ (World.drew _)
    refine wpAnyIn_ready (rs := [0, 1, 2]) (by kernel_rfl) (by simp) ?_
    refine AllReadyIn.cons rfl (fun K hK => ?_) ?_
    · as_aux_lemma =>
        go_simp
        refine hK _ _ ?_
        clear hK K
        refine wpAnyIn_ready (rs := [1, 2]) (by kernel_rfl) (by simp) ?_
        refine AllReadyIn.cons rfl (fun K hK => ?_) ?_
        · as_aux_lemma =>
            go_simp
            refine hK _ _ ?_
            clear hK K
            refine wpAnyIn_ready (rs := [2]) (by kernel_rfl) (by simp) ?_
            refine AllReadyIn.cons rfl (fun K hK => ?_) AllReadyIn.nil
            go_simp
            refine hK _ _ ?_
            clear hK K
            refine wpAnyIn_ready (rs := [3]) (by kernel_rfl) (by simp) ?_
            refine AllReadyIn.cons rfl (fun K hK => ?_) AllReadyIn.nil
            go_simp
            (refine ⟨trivial, fun h => (by cases h), ?_⟩; gi_at_call 52; refine (CallsIn.inRound l' (callsIn_wide.2 (AP.out _ _))).mono ?_; rintro e w8 ⟨rfl, h8⟩; have b8 := undrew h8; have D8 := hid (D0.out.keep b8); clear h8; obtain ⟨x0, x1, x2, x3, x4⟩ := D8.out.c)
            refine hK _ _ ?_
            clear hK K
            refine wpAnyIn_ready (rs := [4]) (by kernel_rfl) (by simp) ?_
            refine AllReadyIn.cons rfl (fun K hK => ?_) AllReadyIn.nil
            go_simp
            (refine ⟨trivial, fun h => (by cases h), ?_⟩; gi_at_call 59; refine (CallsIn.inRound l' (callsIn_wide.2 (UC.out R (ptR p) _))).mono ?_; rintro e w9 ⟨rfl, h9⟩; have b9 := gt b8 h9; have D9 := D8.out.keep h9; clear h9; obtain ⟨x0, x1, x2, x3, x4⟩ := D9.c; have f0 := D9.fz 0; have f1 := D9.fz 1; have f2 := D9.fz 2; have f3 := D9.fz 3; have f4 := D9.fz 4)
            refine hK _ _ ?_
            clear hK K
            refine wpAnyIn_ready (rs := [5]) (by kernel_rfl) (by simp) ?_
            refine AllReadyIn.cons rfl (fun K hK => ?_) AllReadyIn.nil
            go_simp
            refine hK _ _ ?_
            clear hK K
            refine wpAnyIn_done (by kernel_rfl) ?_ _
            gi_wp2
            exact ⟨(ST.out _ b9).2, (ST.out _ b9).1⟩
        refine AllReadyIn.cons rfl (fun K hK => ?_) ?_
        · as_aux_lemma =>
            go_simp
            refine hK _ _ ?_
            clear hK K
            refine wpAnyIn_ready (rs := [1]) (by kernel_rfl) (by simp) ?_
            refine AllReadyIn.cons rfl (fun K hK => ?_) AllReadyIn.nil
            go_simp
            refine hK _ _ ?_
            clear hK K
            refine wpAnyIn_ready (rs := [3]) (by kernel_rfl) (by simp) ?_
            refine AllReadyIn.cons rfl (fun K hK => ?_) AllReadyIn.nil
            go_simp
            (refine ⟨trivial, fun h => (by cases h), ?_⟩; gi_at_call 52; refine (CallsIn.inRound l' (callsIn_wide.2 (AP.out _ _))).mono ?_; rintro e w8 ⟨rfl, h8⟩; have b8 := undrew h8; have D8 := hid (D0.out.keep b8); clear h8; obtain ⟨x0, x1, x2, x3, x4⟩ := D8.out.c)
            refine hK _ _ ?_
            clear hK K
            refine wpAnyIn_ready (rs := [4]) (by kernel_rfl) (by simp) ?_
            refine AllReadyIn.cons rfl (fun K hK => ?_) AllReadyIn.nil
            go_simp
            (refine ⟨trivial, fun h => (by cases h), ?_⟩; gi_at_call 59; refine (CallsIn.inRound l' (callsIn_wide.2 (UC.out R (ptR p) _))).mono ?_; rintro e w9 ⟨rfl, h9⟩; have b9 := gt b8 h9; have D9 := D8.out.keep h9; clear h9; obtain ⟨x0, x1, x2, x3, x4⟩ := D9.c; have f0 := D9.fz 0; have f1 := D9.fz 1; have f2 := D9.fz 2; have f3 := D9.fz 3; have f4 := D9.fz 4)
            refine hK _ _ ?_
            clear hK K
            refine wpAnyIn_ready (rs := [5]) (by kernel_rfl) (by simp) ?_
            refine AllReadyIn.cons rfl (fun K hK => ?_) AllReadyIn.nil
            go_simp
            refine hK _ _ ?_
            clear hK K
            refine wpAnyIn_done (by kernel_rfl) ?_ _
            gi_wp2
            exact ⟨(ST.out _ b9).2, (ST.out _ b9).1⟩
        exact AllReadyIn.nil
    refine AllReadyIn.cons rfl (fun K hK => ?_) ?_
    · as_aux_lemma =>
        go_simp
        refine hK _ _ ?_
        clear hK K
        refine wpAnyIn_ready (rs := [0, 2]) (by kernel_rfl) (by simp) ?_
        refine AllReadyIn.cons rfl (fun K hK => ?_) ?_
        · as_aux_lemma =>
            go_simp
            refine hK _ _ ?_
            clear hK K
            refine wpAnyIn_ready (rs := [2]) (by kernel_rfl) (by simp) ?_
            refine AllReadyIn.cons rfl (fun K hK => ?_) AllReadyIn.nil
            go_simp
            refine hK _ _ ?_
            clear hK K
            refine wpAnyIn_ready (rs := [3]) (by kernel_rfl) (by simp) ?_
            refine AllReadyIn.cons rfl (fun K hK => ?_) AllReadyIn.nil
            go_simp
            (refine ⟨trivial, fun h => (by cases h), ?_⟩; gi_at_call 52; refine (CallsIn.inRound l' (callsIn_wide.2 (AP.out _ _))).mono ?_; rintro e w8 ⟨rfl, h8⟩; have b8 := undrew h8; have D8 := hid (D0.out.keep b8); clear h8; obtain ⟨x0, x1, x2, x3, x4⟩ := D8.out.c)
            refine hK _ _ ?_
            clear hK K
            refine wpAnyIn_ready (rs := [4]) (by kernel_rfl) (by simp) ?_
            refine AllReadyIn.cons rfl (fun K hK => ?_) AllReadyIn.nil
            go_simp
            (refine ⟨trivial, fun h => (by cases h), ?_⟩; gi_at_call 59; refine (CallsIn.inRound l' (callsIn_wide.2 (UC.out R (ptR p) _))).mono ?_; rintro e w9 ⟨rfl, h9⟩; have b9 := gt b8 h9; have D9 := D8.out.keep h9; clear h9; obtain ⟨x0, x1, x2, x3, x4⟩ := D9.c; have f0 := D9.fz 0; have f1 := D9.fz 1; have f2 := D9.fz 2; have f3 := D9.fz 3; have f4 := D9.fz 4)
            refine hK _ _ ?_
            clear hK K
            refine wpAnyIn_ready (rs := [5]) (by kernel_rfl) (by simp) ?_
            refine AllReadyIn.cons rfl (fun K hK => ?_) AllReadyIn.nil
            go_simp
            refine hK _ _ ?_
            clear hK K
            refine wpAnyIn_done (by kernel_rfl) ?_ _
            gi_wp2
            exact ⟨(ST.out _ b9).2, (ST.out _ b9).1⟩
        refine AllReadyIn.cons rfl (fun K hK => ?_) ?_
        · as_aux_lemma =>
            go_simp
            refine hK _ _ ?_
            clear hK K
            refine wpAnyIn_ready (rs := [0, 3]) (by kernel_rfl) (by simp) ?_
            refine AllReadyIn.cons rfl (fun K hK => ?_) ?_
            · as_aux_lemma =>
                go_simp
                refine hK _ _ ?_
                clear hK K
                refine wpAnyIn_ready (rs := [3]) (by kernel_rfl) (by simp) ?_
                refine AllReadyIn.cons rfl (fun K hK => ?_) AllReadyIn.nil
                go_simp
                (refine ⟨trivial, fun h => (by cases h), ?_⟩; gi_at_call 52; refine (CallsIn.inRound l' (callsIn_wide.2 (AP.out _ _))).mono ?_; rintro e w8 ⟨rfl, h8⟩; have b8 := undrew h8; have D8 := hid (D0.out.keep b8); clear h8; obtain ⟨x0, x1, x2, x3, x4⟩ := D8.out.c)
                refine hK _ _ ?_
                clear hK K
                refine wpAnyIn_ready (rs := [4]) (by kernel_rfl) (by simp) ?_
                refine AllReadyIn.cons rfl (fun K hK => ?_) AllReadyIn.nil
                go_simp
                (refine ⟨trivial, fun h => (by cases h), ?_⟩; gi_at_call 59; refine (CallsIn.inRound l' (callsIn_wide.2 (UC.out R (ptR p) _))).mono ?_; rintro e w9 ⟨rfl, h9⟩; have b9 := gt b8 h9; have D9 := D8.out.keep h9; clear h9; obtain ⟨x0, x1, x2, x3, x4⟩ := D9.c; have f0 := D9.fz 0; have f1 := D9.fz 1; have f2 := D9.fz 2; have f3 := D9.fz 3; have f4 := D9.fz 4)
                refine hK _ _ ?_
                clear hK K
                refine wpAnyIn_ready (rs := [5]) (by kernel_rfl) (by simp) ?_
                refine AllReadyIn.cons rfl (fun K hK => ?_) AllReadyIn.nil
                go_simp
                refine hK _ _ ?_
                clear hK K
                refine wpAnyIn_done (by kernel_rfl) ?_ _
                gi_wp2
                exact ⟨(ST.out _ b9).2, (ST.out _ b9).1⟩
            refine AllReadyIn.cons rfl (fun K hK => ?_) ?_
            · as_aux_lemma =>
                go_simp
                (refine ⟨trivial, fun h => (by cases h), ?_⟩; gi_at_call 52; refine (CallsIn.inRound l' (callsIn_wide.2 (AP.out _ _))).mono ?_; rintro e w8 ⟨rfl, h8⟩; have b8 := undrew h8; have D8 := hid (D0.out.keep b8); clear h8; obtain ⟨x0, x1, x2, x3, x4⟩ := D8.out.c)
                refine hK _ _ ?_
                clear hK K
                refine wpAnyIn_ready (rs := [0]) (by kernel_rfl) (by simp) ?_
                refine AllReadyIn.cons rfl (fun K hK => ?_) AllReadyIn.nil
                go_simp
                refine hK _ _ ?_
                clear hK K
                refine wpAnyIn_ready (rs := [4]) (by kernel_rfl) (by simp) ?_
                refine AllReadyIn.cons rfl (fun K hK => ?_) AllReadyIn.nil
                go_simp
                (refine ⟨trivial, fun h => (by cases h), ?_⟩; gi_at_call 59; refine (CallsIn.inRound l' (callsIn_wide.2 (UC.out R (ptR p) _))).mono ?_; rintro e w9 ⟨rfl, h9⟩; have b9 := gt b8 h9; have D9 := D8.out.keep h9; clear h9; obtain ⟨x0, x1, x2, x3, x4⟩ := D9.c; have f0 := D9.fz 0; have f1 := D9.fz 1; have f2 := D9.fz 2; have f3 := D9.fz 3; have f4 := D9.fz 4)
                refine hK _ _ ?_
                clear hK K
                refine wpAnyIn_ready (rs := [5]) (by kernel_rfl) (by simp) ?_
                refine AllReadyIn.cons rfl (fun K hK => ?_) AllReadyIn.nil
                go_simp
                refine hK _ _ ?_
                clear hK K
                refine wpAnyIn_done (by kernel_rfl) ?_ _
                gi_wp2
                exact ⟨(ST.out _ b9).2, (ST.out _ b9).1⟩
            exact AllReadyIn.nil
        exact AllReadyIn.nil
    refine AllReadyIn.cons rfl (fun K hK => ?_) ?_
    · as_aux_lemma =>
        go_simp
        refine hK _ _ ?_
        clear hK K
        refine wpAnyIn_ready (rs := [0, 1]) (by kernel_rfl) (by simp) ?_
        refine AllReadyIn.cons rfl (fun K hK => ?_) ?_
        · as_aux_lemma =>
            go_simp
            refine hK _ _ ?_
            clear hK K
            refine wpAnyIn_ready (rs := [1]) (by kernel_rfl) (by simp) ?_
            refine AllReadyIn.cons rfl (fun K hK => ?_) AllReadyIn.nil
            go_simp
            refine hK _ _ ?_
            clear hK K
            refine wpAnyIn_ready (rs := [3]) (by kernel_rfl) (by simp) ?_
            refine AllReadyIn.cons rfl (fun K hK => ?_) AllReadyIn.nil
            go_simp
            (refine ⟨trivial, fun h => (by cases h), ?_⟩; gi_at_call 52; refine (CallsIn.inRound l' (callsIn_wide.2 (AP.out _ _))).mono ?_; rintro e w8 ⟨rfl, h8⟩; have b8 := undrew h8; have D8 := hid (D0.out.keep b8); clear h8; obtain ⟨x0, x1, x2, x3, x4⟩ := D8.out.c)
            refine hK _ _ ?_
            clear hK K
            refine wpAnyIn_ready (rs := [4]) (by kernel_rfl) (by simp) ?_
            refine AllReadyIn.cons rfl (fun K hK => ?_) AllReadyIn.nil
            go_simp
            (refine ⟨trivial, fun h => (by cases h), ?_⟩; gi_at_call 59; refine (CallsIn.inRound l' (callsIn_wide.2 (UC.out R (ptR p) _))).mono ?_; rintro e w9 ⟨rfl, h9⟩; have b9 := gt b8 h9; have D9 := D8.out.keep h9; clear h9; obtain ⟨x0, x1, x2, x3, x4⟩ := D9.c; have f0 := D9.fz 0; have f1 := D9.fz 1; have f2 := D9.fz 2; have f3 := D9.fz 3; have f4 := D9.fz 4)
            refine hK _ _ ?_
            clear hK K
            refine wpAnyIn_ready (rs := [5]) (by kernel_rfl) (by simp) ?_
            refine AllReadyIn.cons rfl (fun K hK => ?_) AllReadyIn.nil
            go_simp
            refine hK _ _ ?_
            clear hK K
            refine wpAnyIn_done (by kernel_rfl) ?_ _
            gi_wp2
            exact ⟨(ST.out _ b9).2, (ST.out _ b9).1⟩
        refine AllReadyIn.cons rfl (fun K hK => ?_) ?_
        · as_aux_lemma =>
            go_simp
            refine hK _ _ ?_
            clear hK K
            refine wpAnyIn_ready (rs := [0, 3]) (by kernel_rfl) (by simp) ?_
            refine AllReadyIn.cons rfl (fun K hK => ?_) ?_
            · as_aux_lemma =>
                go_simp
                refine hK _ _ ?_
                clear hK K
                refine wpAnyIn_ready (rs := [3]) (by kernel_rfl) (by simp) ?_
                refine AllReadyIn.cons rfl (fun K hK => ?_) AllReadyIn.nil
                go_simp
                (refine ⟨trivial, fun h => (by cases h), ?_⟩; gi_at_call 52; refine (CallsIn.inRound l' (callsIn_wide.2 (AP.out _ _))).mono ?_; rintro e w8 ⟨rfl, h8⟩; have b8 := undrew h8; have D8 := hid (D0.out.keep b8); clear h8; obtain ⟨x0, x1, x2, x3, x4⟩ := D8.out.c)
                refine hK _ _ ?_
                clear hK K
                refine wpAnyIn_ready (rs := [4]) (by kernel_rfl) (by simp) ?_
                refine AllReadyIn.cons rfl (fun K hK => ?_) AllReadyIn.nil
                go_simp
                (refine ⟨trivial, fun h => (by cases h), ?_⟩; gi_at_call 59; refine (CallsIn.inRound l' (callsIn_wide.2 (UC.out R (ptR p) _))).mono ?_; rintro e w9 ⟨rfl, h9⟩; have b9 := gt b8 h9; have D9 := D8.out.keep h9; clear h9; obtain ⟨x0, x1, x2, x3, x4⟩ := D9.c; have f0 := D9.fz 0; have f1 := D9.fz 1; have f2 := D9.fz 2; have f3 := D9.fz 3; have f4 := D9.fz 4)
                refine hK _ _ ?_
                clear hK K
                refine wpAnyIn_ready (rs := [5]) (by kernel_rfl) (by simp) ?_
                refine AllReadyIn.cons rfl (fun K hK => ?_) AllReadyIn.nil
                go_simp
                refine hK _ _ ?_
                clear hK K
                refine wpAnyIn_done (by kernel_rfl) ?_ _
                gi_wp2
                exact ⟨(ST.out _ b9).2, (ST.out _ b9).1⟩
            refine AllReadyIn.cons rfl (fun K hK => ?_) ?_
            · as_aux_lemma =>
                go_simp
                (refine ⟨trivial, fun h => (by cases h), ?_⟩; gi_at_call 52; refine (CallsIn.inRound l' (callsIn_wide.2 (AP.out _ _))).mono ?_; rintro e w8 ⟨rfl, h8⟩; have b8 := undrew h8; have D8 := hid (D0.out.keep b8); clear h8; obtain ⟨x0, x1, x2, x3, x4⟩ := D8.out.c)
                refine hK _ _ ?_
                clear hK K
                refine wpAnyIn_ready (rs := [0]) (by kernel_rfl) (by simp) ?_
                refine AllReadyIn.cons rfl (fun K hK => ?_) AllReadyIn.nil
                go_simp
                refine hK _ _ ?_
                clear hK K
                refine wpAnyIn_ready (rs := [4]) (by kernel_rfl) (by simp) ?_
                refine AllReadyIn.cons rfl (fun K hK => ?_) AllReadyIn.nil
                go_simp
                (refine ⟨trivial, fun h => (by cases h), ?_⟩; gi_at_call 59; refine (CallsIn.inRound l' (callsIn_wide.2 (UC.out R (ptR p) _))).mono ?_; rintro e w9 ⟨rfl, h9⟩; have b9 := gt b8 h9; have D9 := D8.out.keep h9; clear h9; obtain ⟨x0, x1, x2, x3, x4⟩ := D9.c; have f0 := D9.fz 0; have f1 := D9.fz 1; have f2 := D9.fz 2; have f3 := D9.fz 3; have f4 := D9.fz 4)
                refine hK _ _ ?_
                clear hK K
                refine wpAnyIn_ready (rs := [5]) (by kernel_rfl) (by simp) ?_
                refine AllReadyIn.cons rfl (fun K hK => ?_) AllReadyIn.nil
                go_simp
                refine hK _ _ ?_
                clear hK K
                refine wpAnyIn_done (by kernel_rfl) ?_ _
                gi_wp2
                exact ⟨(ST.out _ b9).2, (ST.out _ b9).1⟩
            exact AllReadyIn.nil
        exact AllReadyIn.nil
    exact AllReadyIn.nil
  case hdone =>
    intro W9 hJ hM
    have hA : B5 W9 w6.heap.size (boxL (pts.take pts.length)) := hJ.2.2 (w6.heap.size, _) List.mem_cons_self
    rw [List.take_length] at hA
    have hS : B5 W9 (w.heap.size + 1) ⟨false, 0, 0, 0, 0⟩ := hJ.2.2 (w.heap.size + 1, _) (List.mem_cons_of_mem _ List.mem_cons_self)
    have HJ := hid hJ
    have HM := hid hM
    clear hJ hM
    obtain ⟨R, hRR⟩ : ∃ R, Hid (R = boxL pts) := ⟨_, hid rfl⟩
    rw [← hRR.out] at hA
    have HS := hid (hS.set R)
    obtain ⟨x0, x1, x2, x3, x4⟩ := hA.c
    obtain ⟨u0, u1, u2, u3, u4⟩ := hS.c
    have f0 := hS.fz 0; have f1 := hS.fz 1; have f2 := hS.fz 2; have f3 := hS.fz 3; have f4 := hS.fz 4
    clear hA hS
    gi_wp2
    have P := Own.put1 (bs' := [(w.heap.size + 1, .cells #[.bool (R).n, .int .i64 (R).lx, .int .i64 (R).ly, .int .i64 (R).hx, .int .i64 (R).hy] 27)]) HJ.out (w.heap.size + 1) (by omega) (((((Fr.set W9 (w.heap.size + 1) 0 (.bool R.n)).trans (Fr.set _ _ 1 (.int .i64 R.lx))).trans (Fr.set _ _ 2 (.int .i64 R.ly))).trans (Fr.set _ _ 3 (.int .i64 R.hx))).trans (Fr.set _ _ 4 (.int .i64 R.hy))) (Nat.le_refl _) ⟨_, List.mem_cons_of_mem _ List.mem_cons_self, rfl⟩ (fun x hx => .inl (by simp only [List.mem_cons, List.not_mem_nil, or_false] at hx; subst hx; exact ⟨rfl, HS.out⟩))
    refine leave1 (own_cns w.heap.size w (Nat.le_refl _) [(w.heap.size + 1, .cells #[.bool (R).n, .int .i64 (R).lx, .int .i64 (R).ly, .int .i64 (R).hx, .int .i64 (R).hy] 27)]) P.1 ((P.2.same _ rfl).trans HM.out) fun W' h' => ?_
    have hz : B5 W' (w.heap.size + 1) R := h'.2.2 (w.heap.size + 1, _) List.mem_cons_self
    obtain ⟨z0, z1, z2, z3, z4⟩ := hz.c
    exact ⟨.agg #[.bool (R).n, .int .i64 (R).lx, .int .i64 (R).ly, .int .i64 (R).hx, .int .i64 (R).hy], by simp [results, Tryz.results33, go_sem, z0, z1, z2, z3, z4], by rw [hRR.out, hpts.out], h'.1⟩
  case hstop =>
    rintro c W9 h
    exact h.elim
end Bxs
end Go.Proofs.YtpmfedimjjifaaaGreatDoor

/- Blobs as plain bytes; no statement of the seat is proved here. -/
namespace Go.Proofs.YtpmfedimjjifaaaGreatDoor
open Go.RowKit Go.Maps
open Bxs (boxL C5)

/-- May a number be a reference system? -/
def okS (n : Int) : Bool := decide (-2147483648 ≤ n) && decide (n ≤ 2147483647)
def ords (r : Bxs.Rect) : List Int := [r.lx, r.hx, r.ly, r.hy]
def ordsK (r : Bxs.Rect) (l : Bool) (k : Nat) : List Nat := ((ords r).take k).flatMap fun z => putN (U z) 8 l
set_option maxRecDepth 100000 in
theorem ordsK_snoc (r : Bxs.Rect) (l : Bool) (k : Nat) (z : Int) (h : (ords r)[k]? = some z) : ordsK r l (k + 1) = ordsK r l k ++ putN (U z) 8 l := by
  unfold ordsK
  rw [List.take_add_one, h]
  simp
/-- The flags, as a number. -/
def flagN (e l b : Bool) : Nat := (if l then 1 else 0) + (if e then 16 else if b then 2 else 0)
def headB (f : Nat) (id : Int) (l : Bool) : List Nat := [71, 80, 0, f] ++ putN (U id) 4 l
/-- A blob. -/
def makeB (s : Sh) (id : Int) (l b : Bool) : List Nat :=
  if checkN s = 0 ∧ okS id = true then (headB (flagN (boxL (ptsOf s)).n l b) id l ++ (if !(boxL (ptsOf s)).n && b then ordsK (boxL (ptsOf s)) l 4 else [])) ++ encB s l else []
end Go.Proofs.YtpmfedimjjifaaaGreatDoor

/- What the document's own function Put returns; no statement of the seat is proved here. -/
namespace Go.Proofs.YtpmfedimjjifaaaGreatDoor
open Go.RowKit

set_option maxRecDepth 100000 in
theorem rd_one (w : World) (x : Nat) : Rd (w.alloc (.cells #[.int .u8 (x : Int)] 5)) (some ⟨w.heap.size, 0, none⟩) 1 1 [x] := by
  refine ⟨rfl, Nat.le_refl _, fun h => (by cases h), fun _ => ⟨_, _, rfl, fun t ht => ?_⟩⟩
  have : t = 0 := by omega
  subst this
  simp
set_option maxRecDepth 100000 in
/-- 'append' onto a slice of the call's own, of bytes that can be read. -/
theorem wpList_append_rd {w : World} {ops : Array Oper} {rest : List Oper} {o : Oper} {a : Act} {Q : Exit → Act → World → Prop} (hgd : o.guard = none) (s x : Operand)
    (ho : o.op = .call { callee := .builtin .append, args := #[s, x], argTypes := #[22, 22] }) (B : Nat) (v : Value) (n : Nat) (xs : List Nat) (hs : a.eval s = v) (hown : w.ownsRow B 5 1 v n (bs xs))
    (ao : Option Addr) (m c : Nat) (ys : List Nat) (hx : a.eval x = .slice ao m c) (hr : Rd w ao m c ys) (hb : n + m ≤ 140737488355328) (hB : B ≤ w.heap.size)
    (h : ∀ v' w', w'.ownsRow B 5 1 v' (n + m) (bs (xs ++ ys)) → Below B w w' → wpList Tryz.prog ops Q rest (a.put o.dst v') w') : wpList Tryz.prog ops Q (o :: rest) a w := by
  obtain ⟨i5, hi5, hz0, hz1, hz2⟩ := info_parts Tryz.info5
  obtain ⟨hl, hc, hno, hat⟩ := hr
  cases ao with
  | none =>
    obtain ⟨rfl, rfl⟩ := hno rfl
    obtain rfl : ys = [] := List.eq_nil_of_length_eq_zero hl
    refine wpList_append_own_none hgd s x 22 ho B 5 i5 1 Tryz.underlying22 hi5 v n (bs xs) hs hown hx ?_
    exact h v w (by simpa using hown) (Below.refl _ _)
  | some ad =>
    refine wpList_append_own w hgd s x 22 ho B 5 i5 (.int .u8 0) 1 1 Tryz.underlying22 hi5 hz0 hz1 hz2 rfl (by decide) v n (bs xs) hs hown ad m c (bs ys) hx (by simp [bs, hl]) ?_ (bs_one ys) (by unfold maxLen; omega) (by omega) hB ?_
    · intro j u hu
      obtain ⟨hj, rfl⟩ := bs_get' ys j u hu
      obtain ⟨b, off, e, hcell⟩ := hat (by omega)
      simp only [Option.some.injEq] at e
      subst e
      rw [Addr.add_lit]
      exact hcell j (by omega)
    · intro v' w' h1 h2 _
      refine h v' w' (by rw [bs_append]; exact h1) ((Below.refl B w).grown h2 hB fun k hk => (hown.lt k hk).1)

set_option maxRecDepth 100000 in
/-- What a slice of the call's own is, as what can be read. -/
theorem rd_owned {w : World} {B n : Nat} {v : Value} {xs : List Nat} (h : w.ownsRow B 5 1 v n (bs xs)) : ∃ ao cap, v = .slice ao n cap ∧ Rd w ao n cap xs := by
  rcases h.2 with ⟨rfl, rfl⟩ | ⟨g, cap, cur, rfl, _⟩
  · obtain rfl : xs = [] := by have := h.1; simp [bs] at this; exact this
    exact ⟨none, 0, rfl, Rd.nil w⟩
  · exact ⟨_, _, rfl, rd_own h⟩

set_option maxRecDepth 100000 in
set_option maxHeartbeats 2000000 in
theorem rput_high (ao : Option Addr) (n cap : Nat) (xs : List Nat) (v : Nat) (s : Int) (h8 : 8 < s) (l : Bool) (w : World) (h : Rd w ao n cap xs) (hn : n ≤ 70368744177664) :
    Calls Tryz.prog 38 #[.slice ao n cap, .int .u64 v, .int .i64 s, .bool l] w fun e w' => ∃ r, e = .returned r ∧ w'.ownsRow w.heap.size 5 1 r (n + 8) (bs (xs ++ putN v 8 l)) ∧ Below w.heap.size w w' := by
  have h' := hid h
  clear h
  go_enter Tryz.func38, Tryz.ntmps38
  go_wp2_with (at_builtin; refine wpList_append_rd rfl (.tmp 14) (.tmp 15) rfl w.heap.size _ 0 [] rfl (World.ownsRow_made w #[] 0 (Nat.le_refl _) (by decide) rfl) ao n cap xs rfl (h'.out.keep (Below.alloc (Below.refl _ _) (Nat.le_refl _) _)) (by omega) (by simp) ?_; intro v1 w1 ho1 hb1)
  go_loopw [9, 10] (fun o c W => ∃ (i : Nat) (ys : List Nat), i ≤ 8 ∧ c = .int .i64 i ∧ ys ++ up (fun j => v / 2 ^ (8 * place l 8 j) % 256) i (8 - i) = xs ++ putN v 8 l ∧
      W.ownsRow w.heap.size 5 1 o (n + i) (bs ys) ∧ Below w.heap.size w W) (fun _ c _ => 8 - (intOf c).toNat)
  case atStart => exact ⟨0, xs, by omega, rfl, rfl, by simpa using ho1, (Below.alloc (Below.refl _ _) (Nat.le_refl _) _).trans hb1⟩
  case round =>
    obtain ⟨i, ys, hi, rfl, he, ho, hb⟩ := hrel
    have he' := hid he
    clear he h' ho1 hb1
    by_cases hik : i < 8
    · obtain ⟨j, hj⟩ : ∃ j, j = place l 8 i := ⟨_, rfl⟩
      obtain ⟨q, hq⟩ : ∃ q, q = v / 2 ^ (8 * j) := ⟨_, rfl⟩
      have hsh : (v : Int) / 2 ^ (8 * j) = (q : Int) := by rw [hq]; simp
      have hj8 : j < 8 := by rw [hj]; unfold place; split <;> omega
      have hq' := hid hq
      clear hq
      cases l with
      | true =>
        have hj2 : j = i := by rw [hj]; rfl
        subst hj2
        have hj' := hid hj
        clear hj
        go_wp2_with (at_builtin; refine wpList_append_rd rfl (.tmp 28) (.tmp 35) rfl w.heap.size _ (n + j) ys rfl (ho.alloc _) (some ⟨wr.heap.size, 0, none⟩) 1 1 [q % 256] rfl (rd_one wr (q % 256)) (by omega) (by have := hb.size; simp; omega) ?_; intro w2v w3 ho3 hb3)
        refine ⟨⟨j + 1, ys ++ [q % 256], by omega, by go_num, ?_, by rw [← Nat.add_assoc]; exact ho3, (Below.alloc hb hb.size _).trans hb3⟩, by simp [intOf]; omega⟩
        rw [hq'.out]
        exact up_step (fun j => v / 2 ^ (8 * place true 8 j) % 256) j 8 hik ys _ he'.out
      | false =>
        have e1 : (7 : Int) - (i : Int) = (j : Int) := by rw [hj]; simp [place]; omega
        have hj' := hid hj
        clear hj
        go_wp2_with (at_builtin; refine wpList_append_rd rfl (.tmp 28) (.tmp 35) rfl w.heap.size _ (n + i) ys rfl (ho.alloc _) (some ⟨wr.heap.size, 0, none⟩) 1 1 [q % 256] rfl (rd_one wr (q % 256)) (by omega) (by have := hb.size; simp; omega) ?_; intro w2v w3 ho3 hb3)
        refine ⟨⟨i + 1, ys ++ [q % 256], by omega, by go_num, ?_, by rw [← Nat.add_assoc]; exact ho3, (Below.alloc hb hb.size _).trans hb3⟩, by simp [intOf]; omega⟩
        rw [hq'.out, hj'.out]
        exact up_step (fun j => v / 2 ^ (8 * place false 8 j) % 256) i 8 hik ys _ he'.out
    · obtain rfl : i = 8 := by omega
      go_wp2
      go_ret
      rw [Nat.sub_self] at he'
      simp only [up, List.append_nil] at he'
      rw [← he'.out]
      exact ⟨_, rfl, ho, hb⟩

set_option maxRecDepth 100000 in
set_option maxHeartbeats 2000000 in
theorem rput_mid (ao : Option Addr) (n cap : Nat) (xs : List Nat) (v : Nat) (k : Nat) (hk : 1 ≤ k) (h8 : k ≤ 8) (l : Bool) (w : World) (h : Rd w ao n cap xs) (hn : n ≤ 70368744177664) :
    Calls Tryz.prog 38 #[.slice ao n cap, .int .u64 v, .int .i64 (k : Int), .bool l] w fun e w' => ∃ r, e = .returned r ∧ w'.ownsRow w.heap.size 5 1 r (n + k) (bs (xs ++ putN v k l)) ∧ Below w.heap.size w w' := by
  have h' := hid h
  clear h
  go_enter Tryz.func38, Tryz.ntmps38
  go_wp2_with (at_builtin; refine wpList_append_rd rfl (.tmp 14) (.tmp 15) rfl w.heap.size _ 0 [] rfl (World.ownsRow_made w #[] 0 (Nat.le_refl _) (by decide) rfl) ao n cap xs rfl (h'.out.keep (Below.alloc (Below.refl _ _) (Nat.le_refl _) _)) (by omega) (by simp) ?_; intro v1 w1 ho1 hb1)
  go_loopw [9, 10] (fun o c W => ∃ (i : Nat) (ys : List Nat), i ≤ k ∧ c = .int .i64 i ∧ ys ++ up (fun j => v / 2 ^ (8 * place l k j) % 256) i (k - i) = xs ++ putN v k l ∧
      W.ownsRow w.heap.size 5 1 o (n + i) (bs ys) ∧ Below w.heap.size w W) (fun _ c _ => k - (intOf c).toNat)
  case atStart => exact ⟨0, xs, by omega, rfl, rfl, by simpa using ho1, (Below.alloc (Below.refl _ _) (Nat.le_refl _) _).trans hb1⟩
  case round =>
    obtain ⟨i, ys, hi, rfl, he, ho, hb⟩ := hrel
    have he' := hid he
    clear he h' ho1 hb1
    by_cases hik : i < k
    · obtain ⟨j, hj⟩ : ∃ j, j = place l k i := ⟨_, rfl⟩
      obtain ⟨q, hq⟩ : ∃ q, q = v / 2 ^ (8 * j) := ⟨_, rfl⟩
      have hsh : (v : Int) / 2 ^ (8 * j) = (q : Int) := by rw [hq]; simp
      have hj8 : j < 8 := by rw [hj]; unfold place; split <;> omega
      have hq' := hid hq
      clear hq
      cases l with
      | true =>
        have hj2 : j = i := by rw [hj]; rfl
        subst hj2
        have hj' := hid hj
        clear hj
        go_wp2_with (at_builtin; refine wpList_append_rd rfl (.tmp 28) (.tmp 35) rfl w.heap.size _ (n + j) ys rfl (ho.alloc _) (some ⟨wr.heap.size, 0, none⟩) 1 1 [q % 256] rfl (rd_one wr (q % 256)) (by omega) (by have := hb.size; simp; omega) ?_; intro w2v w3 ho3 hb3)
        refine ⟨⟨j + 1, ys ++ [q % 256], by omega, by go_num, ?_, by rw [← Nat.add_assoc]; exact ho3, (Below.alloc hb hb.size _).trans hb3⟩, by simp [intOf]; omega⟩
        rw [hq'.out]
        exact up_step (fun j => v / 2 ^ (8 * place true k j) % 256) j k hik ys _ he'.out
      | false =>
        have e1 : (k : Int) - 1 - (i : Int) = (j : Int) := by rw [hj]; simp [place]; omega
        have hj' := hid hj
        clear hj
        go_wp2_with (at_builtin; refine wpList_append_rd rfl (.tmp 28) (.tmp 35) rfl w.heap.size _ (n + i) ys rfl (ho.alloc _) (some ⟨wr.heap.size, 0, none⟩) 1 1 [q % 256] rfl (rd_one wr (q % 256)) (by omega) (by have := hb.size; simp; omega) ?_; intro w2v w3 ho3 hb3)
        refine ⟨⟨i + 1, ys ++ [q % 256], by omega, by go_num, ?_, by rw [← Nat.add_assoc]; exact ho3, (Below.alloc hb hb.size _).trans hb3⟩, by simp [intOf]; omega⟩
        rw [hq'.out, hj'.out]
        exact up_step (fun j => v / 2 ^ (8 * place false k j) % 256) i k hik ys _ he'.out
    · obtain rfl : i = k := by omega
      go_wp2
      go_ret
      rw [Nat.sub_self] at he'
      simp only [up, List.append_nil] at he'
      rw [← he'.out]
      exact ⟨_, rfl, ho, hb⟩

set_option maxRecDepth 100000 in
set_option maxHeartbeats 400000 in
theorem rput_low (ao : Option Addr) (n cap : Nat) (xs : List Nat) (v : Nat) (s : Int) (hs : s ≤ 0) (l : Bool) (w : World) (h : Rd w ao n cap xs) (hn : n ≤ 70368744177664) :
    Calls Tryz.prog 38 #[.slice ao n cap, .int .u64 v, .int .i64 s, .bool l] w fun e w' => ∃ r, e = .returned r ∧ w'.ownsRow w.heap.size 5 1 r n (bs xs) ∧ Below w.heap.size w w' := by
  have h' := hid h
  clear h
  go_enter Tryz.func38, Tryz.ntmps38
  go_wp2_with (at_builtin; refine wpList_append_rd rfl (.tmp 14) (.tmp 15) rfl w.heap.size _ 0 [] rfl (World.ownsRow_made w #[] 0 (Nat.le_refl _) (by decide) rfl) ao n cap xs rfl (h'.out.keep (Below.alloc (Below.refl _ _) (Nat.le_refl _) _)) (by omega) (by simp) ?_; intro v1 w1 ho1 hb1)
  refine wp_loop_rounds 1 ?_
  rw [rounds_succ]
  go_wp2
  go_ret
  exact ⟨_, rfl, by simpa using ho1, (Below.alloc (Below.refl _ _) (Nat.le_refl _) _).trans hb1⟩

set_option maxRecDepth 100000 in
theorem rput_any (ao : Option Addr) (n cap : Nat) (xs : List Nat) (v : Nat) (s : Int) (k : Nat) (l : Bool) (w : World) (h : Rd w ao n cap xs) (hn : n ≤ 70368744177664) (hs : min (max s 0) 8 = (k : Int)) :
    Calls Tryz.prog 38 #[.slice ao n cap, .int .u64 v, .int .i64 s, .bool l] w fun e w' => ∃ r, e = .returned r ∧ w'.ownsRow w.heap.size 5 1 r (n + k) (bs (xs ++ putN v k l)) ∧ Below w.heap.size w w' := by
  by_cases h8 : 8 < s
  · obtain rfl : k = 8 := by omega
    exact rput_high ao n cap xs v s h8 l w h hn
  · by_cases h0 : s ≤ 0
    · obtain rfl : k = 0 := by omega
      have := rput_low ao n cap xs v s h0 l w h hn
      simpa [putN, up] using this
    · obtain rfl : s = (k : Int) := by omega
      exact rput_mid ao n cap xs v k (by omega) (by omega) l w h hn

end Go.Proofs.YtpmfedimjjifaaaGreatDoor
