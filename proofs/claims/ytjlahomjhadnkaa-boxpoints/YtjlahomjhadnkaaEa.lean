/- The law BoxPoints: the walk; no statement of the seat is proved here. -/
import Derived.Test.YtjlahomjhadnkaaDb
import Derived.Test.YtjlahomjhadnkaaCg
namespace Go.Proofs.Ytjlahomjhadnkaa
open Go.RowKit Go.Maps Wid

/-- Four answers in a block of their own. -/
def B4 (W : World) (b : Nat) (x y z t : Bool) : Prop := W.heap[b]? = some (.cells #[.bool x, .bool y, .bool z, .bool t] 62)
theorem B4.c {W : World} {b : Nat} {x y z t : Bool} (h : B4 W b x y z t) : W.cell? ⟨b, 0, none⟩ = some (.bool x) ∧ W.cell? ⟨b, 1, none⟩ = some (.bool y) ∧ W.cell? ⟨b, 2, none⟩ = some (.bool z) ∧ W.cell? ⟨b, 3, none⟩ = some (.bool t) := by
  unfold B4 at h
  refine ⟨?_, ?_, ?_, ?_⟩ <;> simp [World.cell?, h]
theorem B4.fz {W : World} {b : Nat} {x y z t : Bool} (h : B4 W b x y z t) (i : Nat) : W.frozen? ⟨b, i, none⟩ = false := by unfold B4 at h; simp [World.frozen?, h]
theorem B4.lt {W : World} {b : Nat} {x y z t : Bool} (h : B4 W b x y z t) : b < W.heap.size := (Array.getElem?_eq_some_iff.1 h).1
theorem B4.keep {w w' : World} {b : Nat} {x y z t : Bool} (h : B4 w b x y z t) (k : Below w.heap.size w w') : B4 w' b x y z t := (k.block b h.lt).trans h
theorem B4.set {W : World} {b : Nat} {x y z t : Bool} (h : B4 W b x y z t) (x' y' z' t' : Bool) : B4 ((((W.setCell ⟨b, 0, none⟩ (.bool x')).setCell ⟨b, 1, none⟩ (.bool y')).setCell ⟨b, 2, none⟩ (.bool z')).setCell ⟨b, 3, none⟩ (.bool t')) b x' y' z' t' := by
  have h0 := heap_setCell_same W b 0 _ 62 (.bool x') h
  have h1 := heap_setCell_same _ b 1 _ 62 (.bool y') h0
  have h2 := heap_setCell_same _ b 2 _ 62 (.bool z') h1
  have h3 := heap_setCell_same _ b 3 _ 62 (.bool t') h2
  unfold B4
  simpa using h3

/-- Which sides of r have a point. -/
def on0 (r : Rect) (l : List (Int × Int)) : Bool := l.any fun p => p.1 == r.lx
def on1 (r : Rect) (l : List (Int × Int)) : Bool := l.any fun p => p.2 == r.ly
def on2 (r : Rect) (l : List (Int × Int)) : Bool := l.any fun p => p.1 == r.hx
def on3 (r : Rect) (l : List (Int × Int)) : Bool := l.any fun p => p.2 == r.hy
theorem any_snoc (f : Int × Int → Bool) (l : List (Int × Int)) (k : Nat) (p : Int × Int) (h : l[k]? = some p) : (l.take (k + 1)).any f = ((l.take k).any f || f p) := by
  rw [List.take_add_one, h, List.any_append]
  simp
theorem on_all (l : List (Int × Int)) (h : l ≠ []) : on0 (boxL l) l = true ∧ on1 (boxL l) l = true ∧ on2 (boxL l) l = true ∧ on3 (boxL l) l = true := by
  obtain ⟨_, _, ⟨a, ha, ea⟩, ⟨b, hb, eb⟩, ⟨c, hc, ec⟩, d, hd, ed⟩ := boxL_has l h
  refine ⟨List.any_eq_true.2 ⟨a, ha, ?_⟩, List.any_eq_true.2 ⟨b, hb, ?_⟩, List.any_eq_true.2 ⟨c, hc, ?_⟩, List.any_eq_true.2 ⟨d, hd, ?_⟩⟩ <;> simp [*]

set_option maxRecDepth 100000 in
set_option maxHeartbeats 16000000 in
theorem bpoints_law (s : Sh) (w : World) (h : In (fun b => b < w.heap.size) w s) : Calls Try.prog 7 #[.agg #[.int .i64 (s).k, .slice (s).xo (s).xn (s).xc, .slice (s).po (s).pn (s).pc]] w fun e w' => e = .returned (.bool true) ∧ Below w.heap.size w w' := by
  have BX := hid (Bx.new w s)
  obtain ⟨x0, x1, x2⟩ := BX.out.cells
  have CL := hid (fun W (hb : Below w.heap.size w W) => light_call s W (h.grow hb))
  have LC := hid lives_call
  cases hl : lightB s with
  | false =>
    rw [hl] at CL
    clear hl h
    go_enter Try.func7, Try.ntmps7
    go_wp2_with (first | (go_at_call 26; refine (CL.out _ (ext1 _)).mono ?_; rintro e v1 ⟨rfl, h1⟩; have K1 := hid (gt (ext1 _) h1); clear h1) | (go_at_call 25; refine (LC.out _).mono ?_; rintro e v2 ⟨rfl, h2⟩; have K2 := hid (gt K1.out h2); clear h2))
    go_ret
    exact ⟨rfl, K2.out⟩
  | true =>
    have la3 : ptsN (s.flat 1) ≤ 4000 ∧ partsN (s.flat 1) ≤ 1000 ∧ depthN (s.flat 1) ≤ 16 := by unfold lightB at hl; simpa using hl
    have h4 : (ptsOf s).length ≤ 4000 := pts_le h la3.2.2 la3.1
    have ePF := ptsF_of la3.2.2
    have OC := hid (fun W (hb : Below w.heap.size w W) => bof_call s W (h.grow hb) (by rw [ePF]; exact h4))
    have RC := hid (fun W (hb : Below w.heap.size w W) => refAll_call _ s (Nat.le_refl _) h4 W (h.grow hb))
    rw [ePF] at OC
    have H4 := hid h4
    rw [hl] at CL
    clear hl h la3 ePF h4
    obtain ⟨pts, hpts⟩ : ∃ l, Hid (l = ptsOf s) := ⟨_, hid rfl⟩
    rw [← hpts.out] at OC RC H4
    clear hpts
    by_cases hp : pts = []
    · subst hp
      rw [boxL_nil] at OC
      have NC := hid none_call
      have PE : ∀ W, (binOp .eql 25 (.agg #[.bool (noR).n, .int .i64 (noR).lx, .int .i64 (noR).ly, .int .i64 (noR).hx, .int .i64 (noR).hy]) (.agg #[.bool true, .int .i64 0, .int .i64 0, .int .i64 0, .int .i64 0])).run Try.prog W = .ok (.bool true) W := fun W => box_eql noR noR W
      go_enter Try.func7, Try.ntmps7
      go_wp2_with (first | (go_at_call 26; refine (CL.out _ (ext1 _)).mono ?_; rintro e v1 ⟨rfl, h1⟩; have K1 := hid (gt (ext1 _) h1); have D1 := hid (BX.out.keep h1); clear h1 x0 x1 x2; obtain ⟨x0, x1, x2⟩ := D1.out.cells) | (go_at_call 27; refine (OC.out _ K1.out).mono ?_; rintro e v2 ⟨rfl, h2⟩; have K2 := hid (gt (gt K1.out h2) (ext1 (.cells #[.bool (noR).n, .int .i64 (noR).lx, .int .i64 (noR).ly, .int .i64 (noR).hx, .int .i64 (noR).hy] 25))); have D2 := hid ((D1.out.keep h2).keep (ext1 (.cells #[.bool (noR).n, .int .i64 (noR).lx, .int .i64 (noR).ly, .int .i64 (noR).hx, .int .i64 (noR).hy] 25))); clear h2 x0 x1 x2; obtain ⟨x0, x1, x2⟩ := D2.out.cells; have E2 := hid (show C5 (v2.alloc (.cells #[.bool (noR).n, .int .i64 (noR).lx, .int .i64 (noR).ly, .int .i64 (noR).hx, .int .i64 (noR).hy] 25)) v2.heap.size noR from C5.of (heap_alloc_new _ _))) | (go_at_call 35; refine (RC.out _ K2.out).mono ?_; rintro e v3 ⟨⟨ao, c, rfl, hz, hx⟩, h3⟩; have K3 := hid (gt K2.out h3); have E3 := hid (E2.out.keep h3); clear h3 hx))
      have hlow := K3.out
      refine wp_region_K (S := (fun W : World => C5 W (v2.heap.size) noR ∧ Below w.heap.size w W)) (fun _ => false) (by kernel_rfl) (by exact ⟨E3.out, (by repeat (first | with_reducible exact Below.refl _ _ | with_reducible assumption | with_reducible refine Below.drew ?_ | with_reducible refine below_drewN ?_ _ | with_reducible refine Below.alloc ?_ (by simp <;> omega) _ | with_reducible refine Below.setCell ?_ (by simp <;> omega) _))⟩) (fun hHeld => ?_)
      refine gkt 0 ?_ (h := by intro W hSw; obtain ⟨⟨y0, y1, y2, y3, y4⟩, _⟩ := hSw; go_simp; first | done | with_reducible rfl)
      refine gk1 1 (fun K hK => ?_)
      go_simp
      go_at_call 36; refine (NC.out _).mono ?_; rintro e w6 ⟨rfl, h6⟩; have hR : (fun W : World => C5 W (v2.heap.size) noR ∧ Below w.heap.size w W) w6 := ⟨hHeld.1.keep h6, gt hHeld.2 h6⟩; clear h6
      refine hK.out _ _ hR (fun hHeld => ?_)
      clear hK K
      (try simp only [Act.put, sA, sZ, sS])
      refine gkp 2 ?_ (v := .bool true) (h := by intro W hSw; go_simp; first | done | with_reducible rfl)
      refine gkp 3 ?_
      refine gk1 4 (fun K hK => ?_)
      go_simp
      go_at_call 25; refine (LC.out _).mono ?_; rintro e w6 ⟨rfl, h6⟩; have hR : (fun W : World => C5 W (v2.heap.size) noR ∧ Below w.heap.size w W) w6 := ⟨hHeld.1.keep h6, gt hHeld.2 h6⟩; clear h6
      refine hK.out _ _ hR (fun hHeld => ?_)
      clear hK K
      (try simp only [Act.put, sA, sZ, sS])
      refine gkp 5 ?_
      refine gkp 6 ?_
      refine wpAnyK_done (by kernel_rfl) ?_ _
      have hlow := hHeld.2
      go_wp2
      go_ret
      exact ⟨rfl, (by repeat (first | with_reducible exact Below.refl _ _ | with_reducible assumption | with_reducible refine Below.drew ?_ | with_reducible refine below_drewN ?_ _ | with_reducible refine Below.alloc ?_ (by simp <;> omega) _ | with_reducible refine Below.setCell ?_ (by simp <;> omega) _))⟩
    · have hon := on_all pts hp
      have MC := hid (fun (p : Int × Int) (hm : p ∈ pts) W => show Calls Try.prog 14 #[.agg #[.bool (boxL pts).n, .int .i64 (boxL pts).lx, .int .i64 (boxL pts).ly, .int .i64 (boxL pts).hx, .int .i64 (boxL pts).hy], .agg #[.bool false, .int .i64 p.1, .int .i64 p.2, .int .i64 p.1, .int .i64 p.2]] W fun e w' => e = .returned (.bool true) ∧ Below W.heap.size W w' from by have h := meets_call (boxL pts) (ptR p) W; rw [meets_pt pts p hm] at h; exact h)
      obtain ⟨R, hR⟩ : ∃ r, Hid (r = boxL pts) := ⟨_, hid rfl⟩
      rw [← hR.out] at OC hon MC
      clear hR
      have hn0 : 0 < pts.length := List.length_pos_iff.2 hp
      have hne : (((pts.length : Nat) : Int) == 0) = false := by
        rw [beq_eq_false_iff_ne]
        omega
      have HON := hid hon
      clear hp hon
      go_enter Try.func7, Try.ntmps7
      go_wp2_with (first | (go_at_call 26; refine (CL.out _ (ext1 _)).mono ?_; rintro e v1 ⟨rfl, h1⟩; have K1 := hid (gt (ext1 _) h1); have D1 := hid (BX.out.keep h1); clear h1 x0 x1 x2; obtain ⟨x0, x1, x2⟩ := D1.out.cells) | (go_at_call 27; refine (OC.out _ K1.out).mono ?_; rintro e v2 ⟨rfl, h2⟩; have K2 := hid (gt (gt K1.out h2) (ext1 (.cells #[.bool (R).n, .int .i64 (R).lx, .int .i64 (R).ly, .int .i64 (R).hx, .int .i64 (R).hy] 25))); have D2 := hid ((D1.out.keep h2).keep (ext1 (.cells #[.bool (R).n, .int .i64 (R).lx, .int .i64 (R).ly, .int .i64 (R).hx, .int .i64 (R).hy] 25))); clear h2 x0 x1 x2; obtain ⟨x0, x1, x2⟩ := D2.out.cells; have E2 := hid (show B5 (v2.alloc (.cells #[.bool (R).n, .int .i64 (R).lx, .int .i64 (R).ly, .int .i64 (R).hx, .int .i64 (R).hy] 25)) v2.heap.size R from heap_alloc_new _ _)) | (go_at_call 35; refine (RC.out _ K2.out).mono ?_; rintro e v3 ⟨⟨ao, c, rfl, hz, hx⟩, h3⟩; have K3 := hid (gt K2.out h3); have E3 := hid (E2.out.keep h3); have XX := hid (hx.of (T := fun b => b < v3.heap.size) fun b hb => ⟨rfl, hb.2⟩); clear h3 hx hz x0 x1 x2))
      have hk3 := K3.out.size
      go_loopw [27] (fun i W => ∃ k : Nat, k ≤ pts.length ∧ i = .int .i64 (k : Int) ∧ Hid (Below v3.heap.size v3 W) ∧ Hid (B4 W v3.heap.size (on0 R (pts.take k)) (on1 R (pts.take k)) (on2 R (pts.take k)) (on3 R (pts.take k)))) (fun i _ => pts.length - (intOf i).toNat)
      case atStart => exact ⟨0, by omega, rfl, hid ((Below.refl _ _).alloc (Nat.le_refl _) _), hid (heap_alloc_new _ _)⟩
      case round =>
        obtain ⟨k, hk, rfl, hb, hB⟩ := hrel
        have hwr := hb.out.size
        by_cases hik : k < pts.length
        · obtain ⟨p, hp⟩ : ∃ p, pts[k]? = some p := ⟨_, List.getElem?_eq_getElem hik⟩
          obtain ⟨rb, off, hpo, hbl, hat⟩ := XX.out.resolve_left (by intro e; rw [e] at hp; simp at hp)
          obtain ⟨z0, z1⟩ := hat k p hp
          rw [show v3.cell? ⟨rb, off + k * 2, none⟩ = wr.cell? ⟨rb, off + k * 2, none⟩ from (World.cell?_of_block (hb.out.block rb hbl)).symm] at z0
          rw [show v3.cell? ⟨rb, off + k * 2 + 1, none⟩ = wr.cell? ⟨rb, off + k * 2 + 1, none⟩ from (World.cell?_of_block (hb.out.block rb hbl)).symm] at z1
          subst hpo
          have ER := hid (show B5 wr v2.heap.size R from (hb.out.block _ E3.out.lt).trans E3.out)
          have EA := hid (ER.out.keep (ext1 (.cells #[.int .i64 p.1, .int .i64 p.2] 23)))
          have BA := hid (hB.out.keep (ext1 (.cells #[.int .i64 p.1, .int .i64 p.2] 23)))
          have PA := hid (show C2 (wr.alloc (.cells #[.int .i64 p.1, .int .i64 p.2] 23)) wr.heap.size p.1 p.2 from C2.of (heap_alloc_new _ _))
          obtain ⟨y0, y1, y2, y3, y4⟩ := EA.out.c
          obtain ⟨q0, q1⟩ := PA.out
          have MP := hid (MC.out p (List.mem_of_getElem? hp))
          have S0 := hid (show on0 R (pts.take (k + 1)) = (on0 R (pts.take k) || (p.1 == R.lx)) from any_snoc _ pts k p hp)
          have S1 := hid (show on1 R (pts.take (k + 1)) = (on1 R (pts.take k) || (p.2 == R.ly)) from any_snoc _ pts k p hp)
          have S2 := hid (show on2 R (pts.take (k + 1)) = (on2 R (pts.take k) || (p.1 == R.hx)) from any_snoc _ pts k p hp)
          have S3 := hid (show on3 R (pts.take (k + 1)) = (on3 R (pts.take k) || (p.2 == R.hy)) from any_snoc _ pts k p hp)
          have BB := hid (show Below v3.heap.size v3 (wr.alloc (.cells #[.int .i64 p.1, .int .i64 p.2] 23)) from hb.out.alloc (by omega) _)
          have hk4 : k < 4000 := by have := H4.out; omega
          have hr3 : v3.heap.size ≤ v3.heap.size := Nat.le_refl _
          have hBl := hB.out.lt
          have hEl := E3.out.lt
          have i1 : ¬ wr.heap.size = v3.heap.size := by omega
          have i2 : ¬ v3.heap.size = wr.heap.size := by omega
          have i3 : ¬ v2.heap.size = v3.heap.size := by omega
          have i4 : ¬ v3.heap.size = v2.heap.size := by omega
          clear hat hp hB hb hBl hEl
          generalize on0 R (pts.take k) = o0 at *
          generalize on1 R (pts.take k) = o1 at *
          generalize on2 R (pts.take k) = o2 at *
          generalize on3 R (pts.take k) = o3 at *
          cases o0 with
          | false =>
            cases o1 with
            | false =>
              cases o2 with
              | false =>
                cases o3 with
                | false =>
                  go_wp2_with (go_at_call 14; refine (MP.out _).mono ?_; rintro e w6 ⟨rfl, h6⟩; have ER6 := hid (EA.out.keep h6); have B6 := hid (BA.out.keep h6); have P6 := hid (PA.out.keep h6); have BB6 := hid (BB.out.trans (h6.mono (by simp only [World.size_alloc]; omega))); clear h6 y0 y1 y2 y3 y4 q0 q1; obtain ⟨y0, y1, y2, y3, y4⟩ := ER6.out.c; obtain ⟨q0, q1⟩ := P6.out; obtain ⟨u0, u1, u2, u3⟩ := B6.out.c; have f0 := B6.out.fz 0; have f1 := B6.out.fz 1; have f2 := B6.out.fz 2; have f3 := B6.out.fz 3)
                  go_roundw
                  case measure => simp [intOf]; omega
                  case rel =>
                    refine ⟨k + 1, by omega, by go_num, hid ?_, hid ?_⟩
                    · exact (((BB6.out.setCell hr3 _).setCell hr3 _).setCell hr3 _).setCell hr3 _
                    · rw [S0.out, S1.out, S2.out, S3.out]
                      exact B6.out.set _ _ _ _
                | true =>
                  go_wp2_with (go_at_call 14; refine (MP.out _).mono ?_; rintro e w6 ⟨rfl, h6⟩; have ER6 := hid (EA.out.keep h6); have B6 := hid (BA.out.keep h6); have P6 := hid (PA.out.keep h6); have BB6 := hid (BB.out.trans (h6.mono (by simp only [World.size_alloc]; omega))); clear h6 y0 y1 y2 y3 y4 q0 q1; obtain ⟨y0, y1, y2, y3, y4⟩ := ER6.out.c; obtain ⟨q0, q1⟩ := P6.out; obtain ⟨u0, u1, u2, u3⟩ := B6.out.c; have f0 := B6.out.fz 0; have f1 := B6.out.fz 1; have f2 := B6.out.fz 2; have f3 := B6.out.fz 3)
                  go_roundw
                  case measure => simp [intOf]; omega
                  case rel =>
                    refine ⟨k + 1, by omega, by go_num, hid ?_, hid ?_⟩
                    · exact (((BB6.out.setCell hr3 _).setCell hr3 _).setCell hr3 _).setCell hr3 _
                    · rw [S0.out, S1.out, S2.out, S3.out]
                      exact B6.out.set _ _ _ _
              | true =>
                cases o3 with
                | false =>
                  go_wp2_with (go_at_call 14; refine (MP.out _).mono ?_; rintro e w6 ⟨rfl, h6⟩; have ER6 := hid (EA.out.keep h6); have B6 := hid (BA.out.keep h6); have P6 := hid (PA.out.keep h6); have BB6 := hid (BB.out.trans (h6.mono (by simp only [World.size_alloc]; omega))); clear h6 y0 y1 y2 y3 y4 q0 q1; obtain ⟨y0, y1, y2, y3, y4⟩ := ER6.out.c; obtain ⟨q0, q1⟩ := P6.out; obtain ⟨u0, u1, u2, u3⟩ := B6.out.c; have f0 := B6.out.fz 0; have f1 := B6.out.fz 1; have f2 := B6.out.fz 2; have f3 := B6.out.fz 3)
                  go_roundw
                  case measure => simp [intOf]; omega
                  case rel =>
                    refine ⟨k + 1, by omega, by go_num, hid ?_, hid ?_⟩
                    · exact (((BB6.out.setCell hr3 _).setCell hr3 _).setCell hr3 _).setCell hr3 _
                    · rw [S0.out, S1.out, S2.out, S3.out]
                      exact B6.out.set _ _ _ _
                | true =>
                  go_wp2_with (go_at_call 14; refine (MP.out _).mono ?_; rintro e w6 ⟨rfl, h6⟩; have ER6 := hid (EA.out.keep h6); have B6 := hid (BA.out.keep h6); have P6 := hid (PA.out.keep h6); have BB6 := hid (BB.out.trans (h6.mono (by simp only [World.size_alloc]; omega))); clear h6 y0 y1 y2 y3 y4 q0 q1; obtain ⟨y0, y1, y2, y3, y4⟩ := ER6.out.c; obtain ⟨q0, q1⟩ := P6.out; obtain ⟨u0, u1, u2, u3⟩ := B6.out.c; have f0 := B6.out.fz 0; have f1 := B6.out.fz 1; have f2 := B6.out.fz 2; have f3 := B6.out.fz 3)
                  go_roundw
                  case measure => simp [intOf]; omega
                  case rel =>
                    refine ⟨k + 1, by omega, by go_num, hid ?_, hid ?_⟩
                    · exact (((BB6.out.setCell hr3 _).setCell hr3 _).setCell hr3 _).setCell hr3 _
                    · rw [S0.out, S1.out, S2.out, S3.out]
                      exact B6.out.set _ _ _ _
            | true =>
              cases o2 with
              | false =>
                cases o3 with
                | false =>
                  go_wp2_with (go_at_call 14; refine (MP.out _).mono ?_; rintro e w6 ⟨rfl, h6⟩; have ER6 := hid (EA.out.keep h6); have B6 := hid (BA.out.keep h6); have P6 := hid (PA.out.keep h6); have BB6 := hid (BB.out.trans (h6.mono (by simp only [World.size_alloc]; omega))); clear h6 y0 y1 y2 y3 y4 q0 q1; obtain ⟨y0, y1, y2, y3, y4⟩ := ER6.out.c; obtain ⟨q0, q1⟩ := P6.out; obtain ⟨u0, u1, u2, u3⟩ := B6.out.c; have f0 := B6.out.fz 0; have f1 := B6.out.fz 1; have f2 := B6.out.fz 2; have f3 := B6.out.fz 3)
                  go_roundw
                  case measure => simp [intOf]; omega
                  case rel =>
                    refine ⟨k + 1, by omega, by go_num, hid ?_, hid ?_⟩
                    · exact (((BB6.out.setCell hr3 _).setCell hr3 _).setCell hr3 _).setCell hr3 _
                    · rw [S0.out, S1.out, S2.out, S3.out]
                      exact B6.out.set _ _ _ _
                | true =>
                  go_wp2_with (go_at_call 14; refine (MP.out _).mono ?_; rintro e w6 ⟨rfl, h6⟩; have ER6 := hid (EA.out.keep h6); have B6 := hid (BA.out.keep h6); have P6 := hid (PA.out.keep h6); have BB6 := hid (BB.out.trans (h6.mono (by simp only [World.size_alloc]; omega))); clear h6 y0 y1 y2 y3 y4 q0 q1; obtain ⟨y0, y1, y2, y3, y4⟩ := ER6.out.c; obtain ⟨q0, q1⟩ := P6.out; obtain ⟨u0, u1, u2, u3⟩ := B6.out.c; have f0 := B6.out.fz 0; have f1 := B6.out.fz 1; have f2 := B6.out.fz 2; have f3 := B6.out.fz 3)
                  go_roundw
                  case measure => simp [intOf]; omega
                  case rel =>
                    refine ⟨k + 1, by omega, by go_num, hid ?_, hid ?_⟩
                    · exact (((BB6.out.setCell hr3 _).setCell hr3 _).setCell hr3 _).setCell hr3 _
                    · rw [S0.out, S1.out, S2.out, S3.out]
                      exact B6.out.set _ _ _ _
              | true =>
                cases o3 with
                | false =>
                  go_wp2_with (go_at_call 14; refine (MP.out _).mono ?_; rintro e w6 ⟨rfl, h6⟩; have ER6 := hid (EA.out.keep h6); have B6 := hid (BA.out.keep h6); have P6 := hid (PA.out.keep h6); have BB6 := hid (BB.out.trans (h6.mono (by simp only [World.size_alloc]; omega))); clear h6 y0 y1 y2 y3 y4 q0 q1; obtain ⟨y0, y1, y2, y3, y4⟩ := ER6.out.c; obtain ⟨q0, q1⟩ := P6.out; obtain ⟨u0, u1, u2, u3⟩ := B6.out.c; have f0 := B6.out.fz 0; have f1 := B6.out.fz 1; have f2 := B6.out.fz 2; have f3 := B6.out.fz 3)
                  go_roundw
                  case measure => simp [intOf]; omega
                  case rel =>
                    refine ⟨k + 1, by omega, by go_num, hid ?_, hid ?_⟩
                    · exact (((BB6.out.setCell hr3 _).setCell hr3 _).setCell hr3 _).setCell hr3 _
                    · rw [S0.out, S1.out, S2.out, S3.out]
                      exact B6.out.set _ _ _ _
                | true =>
                  go_wp2_with (go_at_call 14; refine (MP.out _).mono ?_; rintro e w6 ⟨rfl, h6⟩; have ER6 := hid (EA.out.keep h6); have B6 := hid (BA.out.keep h6); have P6 := hid (PA.out.keep h6); have BB6 := hid (BB.out.trans (h6.mono (by simp only [World.size_alloc]; omega))); clear h6 y0 y1 y2 y3 y4 q0 q1; obtain ⟨y0, y1, y2, y3, y4⟩ := ER6.out.c; obtain ⟨q0, q1⟩ := P6.out; obtain ⟨u0, u1, u2, u3⟩ := B6.out.c; have f0 := B6.out.fz 0; have f1 := B6.out.fz 1; have f2 := B6.out.fz 2; have f3 := B6.out.fz 3)
                  go_roundw
                  case measure => simp [intOf]; omega
                  case rel =>
                    refine ⟨k + 1, by omega, by go_num, hid ?_, hid ?_⟩
                    · exact (((BB6.out.setCell hr3 _).setCell hr3 _).setCell hr3 _).setCell hr3 _
                    · rw [S0.out, S1.out, S2.out, S3.out]
                      exact B6.out.set _ _ _ _
          | true =>
            cases o1 with
            | false =>
              cases o2 with
              | false =>
                cases o3 with
                | false =>
                  go_wp2_with (go_at_call 14; refine (MP.out _).mono ?_; rintro e w6 ⟨rfl, h6⟩; have ER6 := hid (EA.out.keep h6); have B6 := hid (BA.out.keep h6); have P6 := hid (PA.out.keep h6); have BB6 := hid (BB.out.trans (h6.mono (by simp only [World.size_alloc]; omega))); clear h6 y0 y1 y2 y3 y4 q0 q1; obtain ⟨y0, y1, y2, y3, y4⟩ := ER6.out.c; obtain ⟨q0, q1⟩ := P6.out; obtain ⟨u0, u1, u2, u3⟩ := B6.out.c; have f0 := B6.out.fz 0; have f1 := B6.out.fz 1; have f2 := B6.out.fz 2; have f3 := B6.out.fz 3)
                  go_roundw
                  case measure => simp [intOf]; omega
                  case rel =>
                    refine ⟨k + 1, by omega, by go_num, hid ?_, hid ?_⟩
                    · exact (((BB6.out.setCell hr3 _).setCell hr3 _).setCell hr3 _).setCell hr3 _
                    · rw [S0.out, S1.out, S2.out, S3.out]
                      exact B6.out.set _ _ _ _
                | true =>
                  go_wp2_with (go_at_call 14; refine (MP.out _).mono ?_; rintro e w6 ⟨rfl, h6⟩; have ER6 := hid (EA.out.keep h6); have B6 := hid (BA.out.keep h6); have P6 := hid (PA.out.keep h6); have BB6 := hid (BB.out.trans (h6.mono (by simp only [World.size_alloc]; omega))); clear h6 y0 y1 y2 y3 y4 q0 q1; obtain ⟨y0, y1, y2, y3, y4⟩ := ER6.out.c; obtain ⟨q0, q1⟩ := P6.out; obtain ⟨u0, u1, u2, u3⟩ := B6.out.c; have f0 := B6.out.fz 0; have f1 := B6.out.fz 1; have f2 := B6.out.fz 2; have f3 := B6.out.fz 3)
                  go_roundw
                  case measure => simp [intOf]; omega
                  case rel =>
                    refine ⟨k + 1, by omega, by go_num, hid ?_, hid ?_⟩
                    · exact (((BB6.out.setCell hr3 _).setCell hr3 _).setCell hr3 _).setCell hr3 _
                    · rw [S0.out, S1.out, S2.out, S3.out]
                      exact B6.out.set _ _ _ _
              | true =>
                cases o3 with
                | false =>
                  go_wp2_with (go_at_call 14; refine (MP.out _).mono ?_; rintro e w6 ⟨rfl, h6⟩; have ER6 := hid (EA.out.keep h6); have B6 := hid (BA.out.keep h6); have P6 := hid (PA.out.keep h6); have BB6 := hid (BB.out.trans (h6.mono (by simp only [World.size_alloc]; omega))); clear h6 y0 y1 y2 y3 y4 q0 q1; obtain ⟨y0, y1, y2, y3, y4⟩ := ER6.out.c; obtain ⟨q0, q1⟩ := P6.out; obtain ⟨u0, u1, u2, u3⟩ := B6.out.c; have f0 := B6.out.fz 0; have f1 := B6.out.fz 1; have f2 := B6.out.fz 2; have f3 := B6.out.fz 3)
                  go_roundw
                  case measure => simp [intOf]; omega
                  case rel =>
                    refine ⟨k + 1, by omega, by go_num, hid ?_, hid ?_⟩
                    · exact (((BB6.out.setCell hr3 _).setCell hr3 _).setCell hr3 _).setCell hr3 _
                    · rw [S0.out, S1.out, S2.out, S3.out]
                      exact B6.out.set _ _ _ _
                | true =>
                  go_wp2_with (go_at_call 14; refine (MP.out _).mono ?_; rintro e w6 ⟨rfl, h6⟩; have ER6 := hid (EA.out.keep h6); have B6 := hid (BA.out.keep h6); have P6 := hid (PA.out.keep h6); have BB6 := hid (BB.out.trans (h6.mono (by simp only [World.size_alloc]; omega))); clear h6 y0 y1 y2 y3 y4 q0 q1; obtain ⟨y0, y1, y2, y3, y4⟩ := ER6.out.c; obtain ⟨q0, q1⟩ := P6.out; obtain ⟨u0, u1, u2, u3⟩ := B6.out.c; have f0 := B6.out.fz 0; have f1 := B6.out.fz 1; have f2 := B6.out.fz 2; have f3 := B6.out.fz 3)
                  go_roundw
                  case measure => simp [intOf]; omega
                  case rel =>
                    refine ⟨k + 1, by omega, by go_num, hid ?_, hid ?_⟩
                    · exact (((BB6.out.setCell hr3 _).setCell hr3 _).setCell hr3 _).setCell hr3 _
                    · rw [S0.out, S1.out, S2.out, S3.out]
                      exact B6.out.set _ _ _ _
            | true =>
              cases o2 with
              | false =>
                cases o3 with
                | false =>
                  go_wp2_with (go_at_call 14; refine (MP.out _).mono ?_; rintro e w6 ⟨rfl, h6⟩; have ER6 := hid (EA.out.keep h6); have B6 := hid (BA.out.keep h6); have P6 := hid (PA.out.keep h6); have BB6 := hid (BB.out.trans (h6.mono (by simp only [World.size_alloc]; omega))); clear h6 y0 y1 y2 y3 y4 q0 q1; obtain ⟨y0, y1, y2, y3, y4⟩ := ER6.out.c; obtain ⟨q0, q1⟩ := P6.out; obtain ⟨u0, u1, u2, u3⟩ := B6.out.c; have f0 := B6.out.fz 0; have f1 := B6.out.fz 1; have f2 := B6.out.fz 2; have f3 := B6.out.fz 3)
                  go_roundw
                  case measure => simp [intOf]; omega
                  case rel =>
                    refine ⟨k + 1, by omega, by go_num, hid ?_, hid ?_⟩
                    · exact (((BB6.out.setCell hr3 _).setCell hr3 _).setCell hr3 _).setCell hr3 _
                    · rw [S0.out, S1.out, S2.out, S3.out]
                      exact B6.out.set _ _ _ _
                | true =>
                  go_wp2_with (go_at_call 14; refine (MP.out _).mono ?_; rintro e w6 ⟨rfl, h6⟩; have ER6 := hid (EA.out.keep h6); have B6 := hid (BA.out.keep h6); have P6 := hid (PA.out.keep h6); have BB6 := hid (BB.out.trans (h6.mono (by simp only [World.size_alloc]; omega))); clear h6 y0 y1 y2 y3 y4 q0 q1; obtain ⟨y0, y1, y2, y3, y4⟩ := ER6.out.c; obtain ⟨q0, q1⟩ := P6.out; obtain ⟨u0, u1, u2, u3⟩ := B6.out.c; have f0 := B6.out.fz 0; have f1 := B6.out.fz 1; have f2 := B6.out.fz 2; have f3 := B6.out.fz 3)
                  go_roundw
                  case measure => simp [intOf]; omega
                  case rel =>
                    refine ⟨k + 1, by omega, by go_num, hid ?_, hid ?_⟩
                    · exact (((BB6.out.setCell hr3 _).setCell hr3 _).setCell hr3 _).setCell hr3 _
                    · rw [S0.out, S1.out, S2.out, S3.out]
                      exact B6.out.set _ _ _ _
              | true =>
                cases o3 with
                | false =>
                  go_wp2_with (go_at_call 14; refine (MP.out _).mono ?_; rintro e w6 ⟨rfl, h6⟩; have ER6 := hid (EA.out.keep h6); have B6 := hid (BA.out.keep h6); have P6 := hid (PA.out.keep h6); have BB6 := hid (BB.out.trans (h6.mono (by simp only [World.size_alloc]; omega))); clear h6 y0 y1 y2 y3 y4 q0 q1; obtain ⟨y0, y1, y2, y3, y4⟩ := ER6.out.c; obtain ⟨q0, q1⟩ := P6.out; obtain ⟨u0, u1, u2, u3⟩ := B6.out.c; have f0 := B6.out.fz 0; have f1 := B6.out.fz 1; have f2 := B6.out.fz 2; have f3 := B6.out.fz 3)
                  go_roundw
                  case measure => simp [intOf]; omega
                  case rel =>
                    refine ⟨k + 1, by omega, by go_num, hid ?_, hid ?_⟩
                    · exact (((BB6.out.setCell hr3 _).setCell hr3 _).setCell hr3 _).setCell hr3 _
                    · rw [S0.out, S1.out, S2.out, S3.out]
                      exact B6.out.set _ _ _ _
                | true =>
                  go_wp2_with (go_at_call 14; refine (MP.out _).mono ?_; rintro e w6 ⟨rfl, h6⟩; have ER6 := hid (EA.out.keep h6); have B6 := hid (BA.out.keep h6); have P6 := hid (PA.out.keep h6); have BB6 := hid (BB.out.trans (h6.mono (by simp only [World.size_alloc]; omega))); clear h6 y0 y1 y2 y3 y4 q0 q1; obtain ⟨y0, y1, y2, y3, y4⟩ := ER6.out.c; obtain ⟨q0, q1⟩ := P6.out; obtain ⟨u0, u1, u2, u3⟩ := B6.out.c; have f0 := B6.out.fz 0; have f1 := B6.out.fz 1; have f2 := B6.out.fz 2; have f3 := B6.out.fz 3)
                  go_roundw
                  case measure => simp [intOf]; omega
                  case rel =>
                    refine ⟨k + 1, by omega, by go_num, hid ?_, hid ?_⟩
                    · exact (((BB6.out.setCell hr3 _).setCell hr3 _).setCell hr3 _).setCell hr3 _
                    · rw [S0.out, S1.out, S2.out, S3.out]
                      exact B6.out.set _ _ _ _
        · obtain rfl : k = pts.length := by omega
          have hB1 := hB.out
          rw [List.take_length, HON.out.1, HON.out.2.1, HON.out.2.2.1, HON.out.2.2.2] at hB1
          obtain ⟨y0, y1, y2, y3⟩ := hB1.c
          have KE := hid (K3.out.trans (hb.out.mono (by omega)))
          clear hB1 hB
          go_wp2_with (go_at_call 25; refine (LC.out _).mono ?_; rintro e v5 ⟨rfl, h5⟩; have K5 := hid (gt KE.out h5); clear h5)
          go_ret
          exact ⟨rfl, K5.out⟩
end Go.Proofs.Ytjlahomjhadnkaa
