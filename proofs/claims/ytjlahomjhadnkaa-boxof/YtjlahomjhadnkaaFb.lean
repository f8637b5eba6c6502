/- Both sides' All, and the document's Of; no statement of the seat is proved here. -/
import Derived.Test.YtjlahomjhadnkaaFa
import Derived.Test.YtjlahomjhadnkaaCf
namespace Go.Proofs.Ytjlahomjhadnkaa
open Go.RowKit Go.Maps

/-- A row of boxes. -/
def RB (S : Nat → Prop) (w : World) (bo : Option Addr) (l : List Rect) : Prop :=
  l = [] ∨ ∃ b off, bo = some ⟨b, off, none⟩ ∧ S b ∧ ∀ i r, l[i]? = some r → w.cell? ⟨b, off + i * 5, none⟩ = some (.bool r.n) ∧ w.cell? ⟨b, off + i * 5 + 1, none⟩ = some (.int .i64 r.lx) ∧ w.cell? ⟨b, off + i * 5 + 2, none⟩ = some (.int .i64 r.ly) ∧ w.cell? ⟨b, off + i * 5 + 3, none⟩ = some (.int .i64 r.hx) ∧ w.cell? ⟨b, off + i * 5 + 4, none⟩ = some (.int .i64 r.hy)
theorem RB.of {S T : Nat → Prop} {w w' : World} {bo : Option Addr} {l : List Rect} (h : RB S w bo l) (hb : ∀ b, S b → w'.heap[b]? = w.heap[b]? ∧ T b) : RB T w' bo l := by
  rcases h with h | ⟨b, off, e, hS, h⟩
  · exact .inl h
  · refine .inr ⟨b, off, e, (hb b hS).2, fun i p hi => ?_⟩
    have c : ∀ j, w'.cell? ⟨b, j, none⟩ = w.cell? ⟨b, j, none⟩ := fun j => World.cell?_of_block (a := ⟨b, j, none⟩) (hb b hS).1
    rw [c, c, c, c, c]; exact h i p hi
/-- The box around boxes. -/
def boxB (l : List Rect) : Rect := l.foldl uniR noR
theorem boxB_snoc (l : List Rect) (k : Nat) (p : Rect) (h : l[k]? = some p) : boxB (l.take (k + 1)) = uniR (boxB (l.take k)) p := by
  unfold boxB
  rw [List.take_add_one, h, List.foldl_append]
  rfl
theorem n_run (W : World) : (binOp .lss 3 (.int .i64 0) (.int .i64 0)).run Try.prog W = .ok (.bool false) W := by kernel_rfl

set_option maxRecDepth 100000 in
set_option maxHeartbeats 4000000 in
theorem rall_call (bo : Option Addr) (n c : Nat) (l : List Rect) (w : World) (hr : RB (fun b => b < w.heap.size) w bo l) (hl : l.length = n) (hn : n ≤ 100) : Calls Try.prog 30 #[.slice bo n c] w fun e w' => e = .returned (.agg #[.bool (boxB l).n, .int .i64 (boxB l).lx, .int .i64 (boxB l).ly, .int .i64 (boxB l).hx, .int .i64 (boxB l).hy]) ∧ Below w.heap.size w w' := by
  have UC := hid runion_call
  have XX := hid hr
  have HL := hid hl
  have HN := hid (show n ≤ 8000 by omega)
  clear hr hl hn
  go_enter Try.func30, Try.ntmps30
  go_wp2
  have AL0 := hid (show B5 ((w.alloc (.cells #[.bool false, .int .i64 0, .int .i64 0, .int .i64 0, .int .i64 0] 25)).alloc (.cells #[.bool true, .int .i64 0, .int .i64 0, .int .i64 0, .int .i64 0] 25)) (w.heap.size + 1) noR from (by repeat (first | (refine at_new ?_; first | with_reducible rfl | (simp only [World.size_alloc]; done)) | refine at_old ?_)))
  have RS0 := hid (show B5 ((w.alloc (.cells #[.bool false, .int .i64 0, .int .i64 0, .int .i64 0, .int .i64 0] 25)).alloc (.cells #[.bool true, .int .i64 0, .int .i64 0, .int .i64 0, .int .i64 0] 25)) (w.heap.size) ⟨false, 0, 0, 0, 0⟩ from (by repeat (first | (refine at_new ?_; first | with_reducible rfl | (simp only [World.size_alloc]; done)) | refine at_old ?_)))
  go_loopw [9] (fun i W => ∃ k : Nat, k ≤ n ∧ i = .int .i64 (k : Int) ∧ Hid (Below w.heap.size w W) ∧ Hid (B5 W (w.heap.size + 1) (boxB (l.take k))) ∧ Hid (B5 W (w.heap.size) ⟨false, 0, 0, 0, 0⟩)) (fun i _ => n - (intOf i).toNat)
  case atStart => exact ⟨0, by omega, rfl, hid (below2), hid AL0.out, hid RS0.out⟩
  case round =>
    obtain ⟨k, hk, rfl, hb, hA, hS⟩ := hrel
    have hwr := hb.out.size
    by_cases hik : k < n
    · obtain ⟨p, hp⟩ : ∃ p, l[k]? = some p := ⟨_, List.getElem?_eq_getElem (by have := HL.out; omega)⟩
      obtain ⟨rb, off, hpo, hbl, hat⟩ := XX.out.resolve_left (by intro e; rw [e] at hp; simp at hp)
      obtain ⟨z0, z1, z2, z3, z4⟩ := hat k p hp
      have CZ : ∀ j, wr.cell? ⟨rb, j, none⟩ = w.cell? ⟨rb, j, none⟩ := fun j => World.cell?_of_block (a := ⟨rb, j, none⟩) (hb.out.block rb hbl)
      rw [← CZ] at z0
      rw [← CZ] at z1
      rw [← CZ] at z2
      rw [← CZ] at z3
      rw [← CZ] at z4
      clear CZ
      subst hpo
      have hk9 : k < 9000 := by have := HN.out; omega
      have A1 := hid (hA.out.keep (ext1 (.cells #[.bool (p).n, .int .i64 (p).lx, .int .i64 (p).ly, .int .i64 (p).hx, .int .i64 (p).hy] 25)))
      have S1 := hid (hS.out.keep (ext1 (.cells #[.bool (p).n, .int .i64 (p).lx, .int .i64 (p).ly, .int .i64 (p).hx, .int .i64 (p).hy] 25)))
      have P1 := hid (show B5 (wr.alloc (.cells #[.bool (p).n, .int .i64 (p).lx, .int .i64 (p).ly, .int .i64 (p).hx, .int .i64 (p).hy] 25)) wr.heap.size p from heap_alloc_new _ _)
      have hAl := hA.out.lt
      have hSl := hS.out.lt
      obtain ⟨y0, y1, y2, y3, y4⟩ := A1.out.c
      obtain ⟨q0, q1, q2, q3, q4⟩ := P1.out.c
      have FS := hid (boxB_snoc l k p hp)
      have BB := hid (hb.out.alloc (by omega) (.cells #[.bool (p).n, .int .i64 (p).lx, .int .i64 (p).ly, .int .i64 (p).hx, .int .i64 (p).hy] 25))
      clear hat hp hb hA hS
      generalize boxB (l.take k) = R at *
      go_wp2_with (go_at_call 13; refine (UC.out R p _).mono ?_; rintro e w7 ⟨rfl, h7⟩; have A2 := hid (A1.out.keep h7); have S2 := hid (S1.out.keep h7); have B2 := hid (BB.out.trans (h7.mono (by simp only [World.size_alloc]; omega))); clear h7 y0 y1 y2 y3 y4; obtain ⟨y0, y1, y2, y3, y4⟩ := A2.out.c; have f0 := A2.out.fz 0; have f1 := A2.out.fz 1; have f2 := A2.out.fz 2; have f3 := A2.out.fz 3; have f4 := A2.out.fz 4)
      go_roundw
      case measure => simp [intOf]; omega
      case rel =>
        refine ⟨k + 1, by omega, by go_num, hid ?_, hid ?_, hid (S2.out.far5 (by omega) _ _ _ _ _)⟩
        · exact ((((B2.out.setCell (by show w.heap.size ≤ w.heap.size + 1; omega) _).setCell (by show w.heap.size ≤ w.heap.size + 1; omega) _).setCell (by show w.heap.size ≤ w.heap.size + 1; omega) _).setCell (by show w.heap.size ≤ w.heap.size + 1; omega) _).setCell (by show w.heap.size ≤ w.heap.size + 1; omega) _
        · rw [FS.out]; exact A2.out.set _
    · have hkn : k = n := by omega
      have hA1 := hA.out
      rw [hkn, show l.take n = l by rw [← HL.out, List.take_length]] at hA1
      clear hkn
      have hAl := hA.out.lt
      have hSl := hS.out.lt
      obtain ⟨y0, y1, y2, y3, y4⟩ := hA1.c
      obtain ⟨u0, u1, u2, u3, u4⟩ := hS.out.c
      have f0 := hS.out.fz 0; have f1 := hS.out.fz 1; have f2 := hS.out.fz 2; have f3 := hS.out.fz 3; have f4 := hS.out.fz 4
      have KE := show Below w.heap.size w wr from hb.out
      clear hA1 hA hb
      go_wp2
      obtain ⟨z0, z1, z2, z3, z4⟩ := (hS.out.set (boxB l)).c
      exact bodyPost_ret (v := .agg #[.bool (boxB l).n, .int .i64 (boxB l).lx, .int .i64 (boxB l).ly, .int .i64 (boxB l).hx, .int .i64 (boxB l).hy]) (by simp [results, Try.results30, go_sem, z0, z1, z2, z3, z4]) rfl ⟨rfl, (by repeat (first | with_reducible exact Below.refl _ _ | with_reducible assumption | with_reducible refine Below.drew ?_ | with_reducible refine below_drewN ?_ _ | with_reducible refine Below.alloc ?_ (by simp <;> omega) _ | with_reducible refine Below.setCell ?_ (by simp <;> omega) _))⟩
set_option maxRecDepth 100000 in
set_option maxHeartbeats 4000000 in
theorem ball_call (bo : Option Addr) (n c : Nat) (l : List Rect) (w : World) (hr : RB (fun b => b < w.heap.size) w bo l) (hl : l.length = n) (hn : n ≤ 100) : Calls Try.prog 29 #[.slice bo n c] w fun e w' => e = .returned (.agg #[.bool (boxB l).n, .int .i64 (boxB l).lx, .int .i64 (boxB l).ly, .int .i64 (boxB l).hx, .int .i64 (boxB l).hy]) ∧ Below w.heap.size w w' := by
  have UC := hid union_call
  have NC := hid none_call
  have XX := hid hr
  have HL := hid hl
  have HN := hid (show n ≤ 8000 by omega)
  clear hr hl hn
  go_enter Try.func29, Try.ntmps29
  go_wp2_with (go_at_call 36; refine (NC.out _).mono ?_; rintro e w6 ⟨rfl, h6⟩; have b6 := hid (gt (ext1 _) h6); have R6 := hid ((B5.new w ⟨false, 0, 0, 0, 0⟩).keep h6); clear h6)
  have AL0 := hid (show B5 (w6.alloc (.cells #[.bool true, .int .i64 0, .int .i64 0, .int .i64 0, .int .i64 0] 25)) (w6.heap.size) noR from heap_alloc_new _ _)
  have RS0 := hid (R6.out.keep (ext1 (.cells #[.bool true, .int .i64 0, .int .i64 0, .int .i64 0, .int .i64 0] 25)))
  have hlt6 := R6.out.lt
  have hz6 := b6.out.size
  go_loopw [9] (fun i W => ∃ k : Nat, k ≤ n ∧ i = .int .i64 (k : Int) ∧ Hid (Below w.heap.size w W) ∧ Hid (B5 W (w6.heap.size) (boxB (l.take k))) ∧ Hid (B5 W (w.heap.size) ⟨false, 0, 0, 0, 0⟩)) (fun i _ => n - (intOf i).toNat)
  case atStart => exact ⟨0, by omega, rfl, hid (gt b6.out (ext1 _)), hid AL0.out, hid RS0.out⟩
  case round =>
    obtain ⟨k, hk, rfl, hb, hA, hS⟩ := hrel
    have hwr := hb.out.size
    by_cases hik : k < n
    · obtain ⟨p, hp⟩ : ∃ p, l[k]? = some p := ⟨_, List.getElem?_eq_getElem (by have := HL.out; omega)⟩
      obtain ⟨rb, off, hpo, hbl, hat⟩ := XX.out.resolve_left (by intro e; rw [e] at hp; simp at hp)
      obtain ⟨z0, z1, z2, z3, z4⟩ := hat k p hp
      have CZ : ∀ j, wr.cell? ⟨rb, j, none⟩ = w.cell? ⟨rb, j, none⟩ := fun j => World.cell?_of_block (a := ⟨rb, j, none⟩) (hb.out.block rb hbl)
      rw [← CZ] at z0
      rw [← CZ] at z1
      rw [← CZ] at z2
      rw [← CZ] at z3
      rw [← CZ] at z4
      clear CZ
      subst hpo
      have hk9 : k < 9000 := by have := HN.out; omega
      have A1 := hid (hA.out.keep (ext1 (.cells #[.bool (p).n, .int .i64 (p).lx, .int .i64 (p).ly, .int .i64 (p).hx, .int .i64 (p).hy] 25)))
      have S1 := hid (hS.out.keep (ext1 (.cells #[.bool (p).n, .int .i64 (p).lx, .int .i64 (p).ly, .int .i64 (p).hx, .int .i64 (p).hy] 25)))
      have P1 := hid (show B5 (wr.alloc (.cells #[.bool (p).n, .int .i64 (p).lx, .int .i64 (p).ly, .int .i64 (p).hx, .int .i64 (p).hy] 25)) wr.heap.size p from heap_alloc_new _ _)
      have hAl := hA.out.lt
      have hSl := hS.out.lt
      obtain ⟨y0, y1, y2, y3, y4⟩ := A1.out.c
      obtain ⟨q0, q1, q2, q3, q4⟩ := P1.out.c
      have FS := hid (boxB_snoc l k p hp)
      have BB := hid (hb.out.alloc (by omega) (.cells #[.bool (p).n, .int .i64 (p).lx, .int .i64 (p).ly, .int .i64 (p).hx, .int .i64 (p).hy] 25))
      clear hat hp hb hA hS
      generalize boxB (l.take k) = R at *
      go_wp2_with (go_at_call 12; refine (UC.out R p _).mono ?_; rintro e w7 ⟨rfl, h7⟩; have A2 := hid (A1.out.keep h7); have S2 := hid (S1.out.keep h7); have B2 := hid (BB.out.trans (h7.mono (by simp only [World.size_alloc]; omega))); clear h7 y0 y1 y2 y3 y4; obtain ⟨y0, y1, y2, y3, y4⟩ := A2.out.c; have f0 := A2.out.fz 0; have f1 := A2.out.fz 1; have f2 := A2.out.fz 2; have f3 := A2.out.fz 3; have f4 := A2.out.fz 4)
      go_roundw
      case measure => simp [intOf]; omega
      case rel =>
        refine ⟨k + 1, by omega, by go_num, hid ?_, hid ?_, hid (S2.out.far5 (by omega) _ _ _ _ _)⟩
        · exact ((((B2.out.setCell (by show w.heap.size ≤ w6.heap.size; omega) _).setCell (by show w.heap.size ≤ w6.heap.size; omega) _).setCell (by show w.heap.size ≤ w6.heap.size; omega) _).setCell (by show w.heap.size ≤ w6.heap.size; omega) _).setCell (by show w.heap.size ≤ w6.heap.size; omega) _
        · rw [FS.out]; exact A2.out.set _
    · have hkn : k = n := by omega
      have hA1 := hA.out
      rw [hkn, show l.take n = l by rw [← HL.out, List.take_length]] at hA1
      clear hkn
      have hAl := hA.out.lt
      have hSl := hS.out.lt
      obtain ⟨y0, y1, y2, y3, y4⟩ := hA1.c
      obtain ⟨u0, u1, u2, u3, u4⟩ := hS.out.c
      have f0 := hS.out.fz 0; have f1 := hS.out.fz 1; have f2 := hS.out.fz 2; have f3 := hS.out.fz 3; have f4 := hS.out.fz 4
      have KE := show Below w.heap.size w wr from hb.out
      clear hA1 hA hb
      go_wp2
      obtain ⟨z0, z1, z2, z3, z4⟩ := (hS.out.set (boxB l)).c
      exact bodyPost_ret (v := .agg #[.bool (boxB l).n, .int .i64 (boxB l).lx, .int .i64 (boxB l).ly, .int .i64 (boxB l).hx, .int .i64 (boxB l).hy]) (by simp [results, Try.results29, go_sem, z0, z1, z2, z3, z4]) rfl ⟨rfl, (by repeat (first | with_reducible exact Below.refl _ _ | with_reducible assumption | with_reducible refine Below.drew ?_ | with_reducible refine below_drewN ?_ _ | with_reducible refine Below.alloc ?_ (by simp <;> omega) _ | with_reducible refine Below.setCell ?_ (by simp <;> omega) _))⟩
set_option maxRecDepth 100000 in
set_option maxHeartbeats 4000000 in
theorem rof_call (s : Sh) (w : World) (h : In (fun b => b < w.heap.size) w s) (h4 : (ptsOf s).length ≤ 4000) : Calls Try.prog 28 #[.agg #[.int .i64 (s).k, .slice (s).xo (s).xn (s).xc, .slice (s).po (s).pn (s).pc]] w fun e w' => e = .returned (.agg #[.bool (boxL (ptsOf s)).n, .int .i64 (boxL (ptsOf s)).lx, .int .i64 (boxL (ptsOf s)).ly, .int .i64 (boxL (ptsOf s)).hx, .int .i64 (boxL (ptsOf s)).hy]) ∧ Below w.heap.size w w' := by
  have UC := hid runion_call
  have RC := hid (fun W (hb : Below w.heap.size w W) => refAll_call _ s (Nat.le_refl _) h4 W (h.grow hb))
  have BX := hid ((Bx.new w s).keep (gt (ext1 (.cells #[.bool false, .int .i64 0, .int .i64 0, .int .i64 0, .int .i64 0] 25)) (ext1 (.cells #[.bool true, .int .i64 0, .int .i64 0, .int .i64 0, .int .i64 0] 25))))
  obtain ⟨x0, x1, x2⟩ := BX.out.cells
  obtain ⟨pts, hpts⟩ : ∃ l, Hid (l = ptsOf s) := ⟨_, hid rfl⟩
  rw [← hpts.out] at RC
  have HN := hid (show pts.length ≤ 8000 by rw [hpts.out]; omega)
  have HL := hid (show pts.length = pts.length from rfl)
  have A0 := hid (show B5 (((w.alloc (.cells #[.int .i64 (s).k, .slice (s).xo (s).xn (s).xc, .slice (s).po (s).pn (s).pc] 45)).alloc (.cells #[.bool false, .int .i64 0, .int .i64 0, .int .i64 0, .int .i64 0] 25)).alloc (.cells #[.bool true, .int .i64 0, .int .i64 0, .int .i64 0, .int .i64 0] 25)) (w.heap.size + 1 + 1) noR from (by repeat (first | (refine at_new ?_; first | with_reducible rfl | (simp only [World.size_alloc]; done)) | refine at_old ?_)))
  have S0 := hid (show B5 (((w.alloc (.cells #[.int .i64 (s).k, .slice (s).xo (s).xn (s).xc, .slice (s).po (s).pn (s).pc] 45)).alloc (.cells #[.bool false, .int .i64 0, .int .i64 0, .int .i64 0, .int .i64 0] 25)).alloc (.cells #[.bool true, .int .i64 0, .int .i64 0, .int .i64 0, .int .i64 0] 25)) (w.heap.size + 1) ⟨false, 0, 0, 0, 0⟩ from (by repeat (first | (refine at_new ?_; first | with_reducible rfl | (simp only [World.size_alloc]; done)) | refine at_old ?_)))
  clear h h4
  go_enter Try.func28, Try.ntmps28
  go_wp2_with (go_at_call 35; refine (RC.out _ (gt below2 (ext1 _))).mono ?_; rintro e v3 ⟨⟨ao, c, rfl, hz, hx⟩, h3⟩; have K3 := hid (gt (gt below2 (ext1 _)) h3); have AL0 := hid (A0.out.keep h3); have RS0 := hid (S0.out.keep h3); have XX := hid hx; clear h3 hx hz)
  have hk3 := K3.out.size
  have hAl3 := AL0.out.lt
  go_loopw [10] (fun i W => ∃ k : Nat, k ≤ pts.length ∧ i = .int .i64 (k : Int) ∧ Hid (Fr (fun i => i = w.heap.size + 1 + 1) v3 W) ∧ Hid (B5 W (w.heap.size + 1 + 1) (boxL (pts.take k))) ∧ Hid (B5 W (w.heap.size + 1) ⟨false, 0, 0, 0, 0⟩)) (fun i _ => pts.length - (intOf i).toNat)
  case atStart => exact ⟨0, by omega, rfl, hid (Fr.refl _ _), hid AL0.out, hid RS0.out⟩
  case round =>
    obtain ⟨k, hk, rfl, hb, hA, hS⟩ := hrel
    have hwr := hb.out.size
    by_cases hik : k < pts.length
    · obtain ⟨p, hp⟩ : ∃ p, pts[k]? = some p := ⟨_, List.getElem?_eq_getElem (by have := HL.out; omega)⟩
      obtain ⟨rb, off, hpo, hbl, hat⟩ := XX.out.resolve_left (by intro e; rw [e] at hp; simp at hp)
      obtain ⟨z0, z1⟩ := hat k p hp
      have CZ : ∀ j, wr.cell? ⟨rb, j, none⟩ = v3.cell? ⟨rb, j, none⟩ := fun j => World.cell?_of_block (a := ⟨rb, j, none⟩) (hb.out.blk rb hbl.2 (by have := hbl.1; simp only [World.size_alloc] at this; omega))
      rw [← CZ] at z0
      rw [← CZ] at z1
      clear CZ
      subst hpo
      have hk9 : k < 9000 := by have := HN.out; omega
      have A1 := hid (hA.out.keep (ext1 (.cells #[.int .i64 p.1, .int .i64 p.2] 23)))
      have S1 := hid (hS.out.keep (ext1 (.cells #[.int .i64 p.1, .int .i64 p.2] 23)))
      have P1 := hid (show C2 (wr.alloc (.cells #[.int .i64 p.1, .int .i64 p.2] 23)) wr.heap.size p.1 p.2 from C2.of (heap_alloc_new _ _))
      have hAl := hA.out.lt
      have hSl := hS.out.lt
      obtain ⟨y0, y1, y2, y3, y4⟩ := A1.out.c
      obtain ⟨q0, q1⟩ := P1.out
      have FS := hid (boxL_snoc pts k p hp)
      have BB := hid (hb.out.trans (Fr.alloc _ _ (.cells #[.int .i64 p.1, .int .i64 p.2] 23)))
      clear hat hp hb hA hS
      generalize boxL (pts.take k) = R at *
      go_wp2_with (go_at_call 13; refine (UC.out R (ptR p) _).mono ?_; rintro e w7 ⟨rfl, h7⟩; have A2 := hid (A1.out.keep h7); have S2 := hid (S1.out.keep h7); have B2 := hid (BB.out.trans (Fr.of_below h7)); clear h7 y0 y1 y2 y3 y4; obtain ⟨y0, y1, y2, y3, y4⟩ := A2.out.c; have f0 := A2.out.fz 0; have f1 := A2.out.fz 1; have f2 := A2.out.fz 2; have f3 := A2.out.fz 3; have f4 := A2.out.fz 4)
      go_roundw
      case measure => simp [intOf]; omega
      case rel =>
        refine ⟨k + 1, by omega, by go_num, hid ?_, hid ?_, hid (S2.out.far5 (by omega) _ _ _ _ _)⟩
        · exact B2.out.trans (((((Fr.set _ _ _ _).trans (Fr.set _ _ _ _)).trans (Fr.set _ _ _ _)).trans (Fr.set _ _ _ _)).trans (Fr.set _ _ _ _))
        · rw [FS.out]; exact A2.out.set _
    · have hkn : k = pts.length := by omega
      have hA1 := hA.out
      rw [hkn, show pts.take pts.length = pts by rw [List.take_length]] at hA1
      clear hkn
      have hAl := hA.out.lt
      have hSl := hS.out.lt
      obtain ⟨y0, y1, y2, y3, y4⟩ := hA1.c
      obtain ⟨u0, u1, u2, u3, u4⟩ := hS.out.c
      have f0 := hS.out.fz 0; have f1 := hS.out.fz 1; have f2 := hS.out.fz 2; have f3 := hS.out.fz 3; have f4 := hS.out.fz 4
      have KE := show Below w.heap.size w wr from K3.out.trans (hb.out.below hk3 (fun k hk e => by omega))
      clear hA1 hA hb
      go_wp2
      obtain ⟨z0, z1, z2, z3, z4⟩ := (hS.out.set (boxL pts)).c
      exact bodyPost_ret (v := .agg #[.bool (boxL pts).n, .int .i64 (boxL pts).lx, .int .i64 (boxL pts).ly, .int .i64 (boxL pts).hx, .int .i64 (boxL pts).hy]) (by simp [results, Try.results28, go_sem, z0, z1, z2, z3, z4]) rfl ⟨by rw [hpts.out], (by repeat (first | with_reducible exact Below.refl _ _ | with_reducible assumption | with_reducible refine Below.drew ?_ | with_reducible refine below_drewN ?_ _ | with_reducible refine Below.alloc ?_ (by simp <;> omega) _ | with_reducible refine Below.setCell ?_ (by simp <;> omega) _))⟩
end Go.Proofs.Ytjlahomjhadnkaa
