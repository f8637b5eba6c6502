/- What Open says of bytes whose head and shape can be read; no statement of the seat is proved here. -/
import Derived.Test.YtpmfedimjjifaaaGreatDoorJ33
namespace Go.Proofs.YtpmfedimjjifaaaGreatDoor
open Go.RowKit Go.Maps
open Bxs (Rect noR goodR)

/-- A block of some shape. -/
def Cz (W : World) (b : Nat) : Prop := ∃ u0 u1 u2, Bo W b #[u0, u1, u2] 39
theorem Cz.keep {W W' : World} {b : Nat} (h : Cz W b) (k : Below W.heap.size W W') : Cz W' b := by obtain ⟨a0, a1, a2, h⟩ := h; exact ⟨a0, a1, a2, h.keep k⟩
theorem Cz.other9 {W : World} {A c : Nat} (h : Cz W c) (hne : c ≠ A) (q : Hd) : Cz ((((((((((W).setCell ⟨A, 0, none⟩ (.int .i64 (q).srs)).setCell ⟨A, 1, none⟩ (.bool (q).l)).setCell ⟨A, 2, none⟩ (.bool (q).b)).setCell ⟨A, 3, none⟩ (.bool (q).e)).setCell ⟨A, 4, none⟩ (.bool (q).x.n)).setCell ⟨A, 5, none⟩ (.int .i64 (q).x.lx)).setCell ⟨A, 6, none⟩ (.int .i64 (q).x.ly)).setCell ⟨A, 7, none⟩ (.int .i64 (q).x.hx)).setCell ⟨A, 8, none⟩ (.int .i64 (q).x.hy)) c := by obtain ⟨a, b, d, h⟩ := h; exact ⟨a, b, d, (heap9 hne q).trans h⟩
theorem cell9 {W : World} {A c j : Nat} (hne : c ≠ A) (q : Hd) : ((((((((((W).setCell ⟨A, 0, none⟩ (.int .i64 (q).srs)).setCell ⟨A, 1, none⟩ (.bool (q).l)).setCell ⟨A, 2, none⟩ (.bool (q).b)).setCell ⟨A, 3, none⟩ (.bool (q).e)).setCell ⟨A, 4, none⟩ (.bool (q).x.n)).setCell ⟨A, 5, none⟩ (.int .i64 (q).x.lx)).setCell ⟨A, 6, none⟩ (.int .i64 (q).x.ly)).setCell ⟨A, 7, none⟩ (.int .i64 (q).x.hx)).setCell ⟨A, 8, none⟩ (.int .i64 (q).x.hy)).cell? ⟨c, j, none⟩ = W.cell? ⟨c, j, none⟩ := World.cell?_of_block (heap9 hne q)
theorem C3.other9 {W : World} {A c : Nat} {s : Sh} (h : C3 W c s) (hne : c ≠ A) (q : Hd) : C3 ((((((((((W).setCell ⟨A, 0, none⟩ (.int .i64 (q).srs)).setCell ⟨A, 1, none⟩ (.bool (q).l)).setCell ⟨A, 2, none⟩ (.bool (q).b)).setCell ⟨A, 3, none⟩ (.bool (q).e)).setCell ⟨A, 4, none⟩ (.bool (q).x.n)).setCell ⟨A, 5, none⟩ (.int .i64 (q).x.lx)).setCell ⟨A, 6, none⟩ (.int .i64 (q).x.ly)).setCell ⟨A, 7, none⟩ (.int .i64 (q).x.hx)).setCell ⟨A, 8, none⟩ (.int .i64 (q).x.hy)) c s := by
  unfold C3 at *
  rw [cell9 hne, cell9 hne, cell9 hne]
  exact h
theorem heap3 {W : World} {B c : Nat} (hne : c ≠ B) (a b d : Value) : ((((W).setCell ⟨B, 0, none⟩ (a)).setCell ⟨B, 1, none⟩ (b)).setCell ⟨B, 2, none⟩ (d)).heap[c]? = W.heap[c]? := by
  rw [heap_setCell_other _ _ _ _ hne, heap_setCell_other _ _ _ _ hne, heap_setCell_other _ _ _ _ hne]
theorem cell3 {W : World} {B c j : Nat} (hne : c ≠ B) (a b d : Value) : ((((W).setCell ⟨B, 0, none⟩ (a)).setCell ⟨B, 1, none⟩ (b)).setCell ⟨B, 2, none⟩ (d)).cell? ⟨c, j, none⟩ = W.cell? ⟨c, j, none⟩ := World.cell?_of_block (heap3 hne a b d)
theorem C3.other3 {W : World} {B c : Nat} {s : Sh} (h : C3 W c s) (hne : c ≠ B) (a b d : Value) : C3 ((((W).setCell ⟨B, 0, none⟩ (a)).setCell ⟨B, 1, none⟩ (b)).setCell ⟨B, 2, none⟩ (d)) c s := by
  unfold C3 at *
  rw [cell3 hne, cell3 hne, cell3 hne]
  exact h
theorem C9.other3 {W : World} {B c : Nat} {s : Hd} (h : C9 W c s) (hne : c ≠ B) (a b d : Value) : C9 ((((W).setCell ⟨B, 0, none⟩ (a)).setCell ⟨B, 1, none⟩ (b)).setCell ⟨B, 2, none⟩ (d)) c s := by
  unfold C9 at *
  simp only [cell3 hne]
  exact h
theorem B9.other3 {W : World} {B c : Nat} {s : Hd} (h : B9 W c s) (hne : c ≠ B) (a b d : Value) : B9 ((((W).setCell ⟨B, 0, none⟩ (a)).setCell ⟨B, 1, none⟩ (b)).setCell ⟨B, 2, none⟩ (d)) c s := (heap3 hne a b d).trans h
theorem Made.st9 {N A : Nat} {W : World} {c : Sh} (h : Made N W c) (hA : A < N) (q : Hd) : Made N ((((((((((W).setCell ⟨A, 0, none⟩ (.int .i64 (q).srs)).setCell ⟨A, 1, none⟩ (.bool (q).l)).setCell ⟨A, 2, none⟩ (.bool (q).b)).setCell ⟨A, 3, none⟩ (.bool (q).e)).setCell ⟨A, 4, none⟩ (.bool (q).x.n)).setCell ⟨A, 5, none⟩ (.int .i64 (q).x.lx)).setCell ⟨A, 6, none⟩ (.int .i64 (q).x.ly)).setCell ⟨A, 7, none⟩ (.int .i64 (q).x.hx)).setCell ⟨A, 8, none⟩ (.int .i64 (q).x.hy)) c := ((((((((h.st hA).st hA).st hA).st hA).st hA).st hA).st hA).st hA).st hA
theorem Made.st3 {N B : Nat} {W : World} {c : Sh} (h : Made N W c) (hB : B < N) (a b d : Value) : Made N ((((W).setCell ⟨B, 0, none⟩ (a)).setCell ⟨B, 1, none⟩ (b)).setCell ⟨B, 2, none⟩ (d)) c := ((h.st hB).st hB).st hB
theorem made_in {N : Nat} {W : World} {c : Sh} (h : Made N W c) : In (fun b => b < W.heap.size) W c := h.of fun _ hb => ⟨rfl, hb.2⟩
set_option maxRecDepth 100000 in
set_option maxHeartbeats 8000000 in
theorem open_bad3 (o : Option Addr) (n c : Nat) (xs : List Nat) (w : World) (hT : Tab w) (h : Rd w o n c xs) (hx : ∀ x ∈ xs, x < 256) (hn : n ≤ 1000000000) (hh : Hd) (hp : peekV xs = .ok hh) (t : T) (s1 : St) (hd : R0 (xs.drop (szH hh.b)) = .ok t s1) (hq : eqH hh (headV t.pt hh.srs (ordV (xs.drop (szH hh.b))).1 hh.b) = false) : Calls Tryz.prog 8 #[.slice o n c] w fun x w' => x = .returned (.tuple #[.agg #[.int .i64 (noH).srs, .bool (noH).l, .bool (noH).b, .bool (noH).e, .bool (noH).x.n, .int .i64 (noH).x.lx, .int .i64 (noH).x.ly, .int .i64 (noH).x.hx, .int .i64 (noH).x.hy], .agg #[.int .i64 0, .slice none 0 0, .slice none 0 0], .int .i64 9]) ∧ Below w.heap.size w w' := by
  have hbb : Below w.heap.size w ((w.alloc (.cells #[.int .i64 0, .bool false, .bool false, .bool false, .bool false, .int .i64 0, .int .i64 0, .int .i64 0, .int .i64 0] 29)).alloc (.cells #[.int .i64 0, .slice none 0 0, .slice none 0 0] 39)) := gt (ext1 _) (ext1 _)
  have BZ := hid ((B9.new w noH).keep (ext1 (.cells #[.int .i64 0, .slice none 0 0, .slice none 0 0] 39)))
  have BS : Hid (Bo ((w.alloc (.cells #[.int .i64 0, .bool false, .bool false, .bool false, .bool false, .int .i64 0, .int .i64 0, .int .i64 0, .int .i64 0] 29)).alloc (.cells #[.int .i64 0, .slice none 0 0, .slice none 0 0] 39)) (w.heap.size + 1) #[.int .i64 0, .slice none 0 0, .slice none 0 0] 39) := hid (by repeat (first | (refine at_new ?_; first | with_reducible rfl | (simp only [World.size_alloc]; done)) | refine at_old ?_))
  have PK := hid (peek_call o n c xs _ (h.keep hbb) hx hn)
  rw [hp] at PK
  simp only [pkV, pkE] at PK
  obtain ⟨-, -, -, hz, -, -⟩ := peek_inv hp
  obtain ⟨o', SL, SR⟩ := slice_l h (szH hh.b) (by rw [← h.1]; exact hz)
  have RD := hid (fun W (hb : Below w.heap.size w W) => read_ok o' (n - szH hh.b) (c - szH hh.b) (xs.drop (szH hh.b)) W (hT.keep hb) (SR W (h.keep hb)) (fun x hx' => hx x (List.mem_of_mem_drop hx')) (by omega) t s1 hd)
  have OC := hid (fun W (hb : Below w.heap.size w W) => Order_call o' (n - szH hh.b) (c - szH hh.b) (xs.drop (szH hh.b)) W (SR W (h.keep hb)) (fun x hx' => hx x (List.mem_of_mem_drop hx')) (by omega))
  have hc0 := (r0_good hd).2
  have HO := hid (fun (p : Sh) (W : World) (hI : In (fun b => b < W.heap.size) W p) (hpt : p.t = t) => by
    have k := headOf_call p hh.srs (ordV (xs.drop (szH hh.b))).1 hh.b W hI (by rw [chk_eq hI, hpt]; exact hc0)
    rw [← pt_of, hpt] at k
    exact k)
  obtain ⟨HV, hHV⟩ : ∃ H, H = headV t.pt hh.srs (ordV (xs.drop (szH hh.b))).1 hh.b := ⟨_, rfl⟩
  rw [← hHV] at HO hq
  have hbb := hid hbb
  clear hHV
  generalize (ordV (xs.drop (szH hh.b))).1 = od at *
  generalize (ordV (xs.drop (szH hh.b))).2 = ok2 at *
  generalize szH hh.b = sz at *
  clear h hx hn hT hp hd hz SR
  have EQ : ∀ W, (binOp .neq 29 (.agg #[.int .i64 (hh).srs, .bool (hh).l, .bool (hh).b, .bool (hh).e, .bool (hh).x.n, .int .i64 (hh).x.lx, .int .i64 (hh).x.ly, .int .i64 (hh).x.hx, .int .i64 (hh).x.hy]) (.agg #[.int .i64 (HV).srs, .bool (HV).l, .bool (HV).b, .bool (HV).e, .bool (HV).x.n, .int .i64 (HV).x.lx, .int .i64 (HV).x.ly, .int .i64 (HV).x.hx, .int .i64 (HV).x.hy])).run Tryz.prog W = .ok (.bool true) W := fun W => by rw [head_neq, hq]; rfl
  clear hq
  go_enter Tryz.func8, Tryz.ntmps8
  go_wp2_with (first | (go_at_call 6; refine PK.out.mono ?_; rintro e w1 ⟨rfl, he, b1⟩; clear he; have H1 := hid (gt (gt hbb.out b1) (ext1 (.cells #[.int .i64 (hh).srs, .bool (hh).l, .bool (hh).b, .bool (hh).e, .bool (hh).x.n, .int .i64 (hh).x.lx, .int .i64 (hh).x.ly, .int .i64 (hh).x.hx, .int .i64 (hh).x.hy] 29))); have Z1 := hid ((BZ.out.keep b1).keep (ext1 (.cells #[.int .i64 (hh).srs, .bool (hh).l, .bool (hh).b, .bool (hh).e, .bool (hh).x.n, .int .i64 (hh).x.lx, .int .i64 (hh).x.ly, .int .i64 (hh).x.hx, .int .i64 (hh).x.hy] 29))); have S1 := hid ((BS.out.keep b1).keep (ext1 (.cells #[.int .i64 (hh).srs, .bool (hh).l, .bool (hh).b, .bool (hh).e, .bool (hh).x.n, .int .i64 (hh).x.lx, .int .i64 (hh).x.ly, .int .i64 (hh).x.hx, .int .i64 (hh).x.hy] 29))); have D1 := hid (B9.new w1 hh); have hz1 := hid (show w.heap.size + 1 < w1.heap.size by have h1 := b1.size; simp only [World.size_alloc] at h1; omega); clear b1; have hlow := H1.out) | (go_at_call 28; refine (RD.out _ H1.out).mono ?_; rintro e w4 ⟨⟨p, rfl, hpt, hm⟩, hc4, b4⟩; clear hlow hc4; have H4 := hid (gt (gt H1.out b4) (ext1 (.cells #[.int .i64 (p).k, .slice (p).xo (p).xn (p).xc, .slice (p).po (p).pn (p).pc] 39))); have Z4 := hid ((Z1.out.keep b4).keep (ext1 (.cells #[.int .i64 (p).k, .slice (p).xo (p).xn (p).xc, .slice (p).po (p).pn (p).pc] 39))); have S4 := hid ((S1.out.keep b4).keep (ext1 (.cells #[.int .i64 (p).k, .slice (p).xo (p).xn (p).xc, .slice (p).po (p).pn (p).pc] 39))); have D4 := hid ((D1.out.keep b4).keep (ext1 (.cells #[.int .i64 (p).k, .slice (p).xo (p).xn (p).xc, .slice (p).po (p).pn (p).pc] 39))); have X4 := hid (C3.bx (Bx.new w4 p)); have M4 := hid (hm.keep (ext1 (.cells #[.int .i64 (p).k, .slice (p).xo (p).xn (p).xc, .slice (p).po (p).pn (p).pc] 39))); have PT := hid hpt; have hz4 := hid (show w1.heap.size < w4.heap.size by have h1 := b4.size; simp only [World.size_alloc] at h1; omega); clear b4 hm hpt; have hlow := H4.out) | (go_at_call 29; refine (OC.out _ H4.out).mono ?_; rintro e w5 ⟨rfl, hw5⟩; obtain rfl := hw5.symm))
  refine wp_region_K (S := (fun W : World => C9 W w1.heap.size hh ∧ C3 W w4.heap.size p ∧ B9 W w.heap.size noH ∧ Bo W (w.heap.size + 1) #[.int .i64 0, .slice none 0 0, .slice none 0 0] 39 ∧ Made (w1.heap.size + 1) W p ∧ Below w.heap.size w W)) (fun _ => false) (by kernel_rfl) (by exact ⟨(D4.out.keep (Below.refl _ _).drew).c, X4.out.keep (Below.refl _ _).drew, Z4.out.keep (Below.refl _ _).drew, S4.out.keep (Below.refl _ _).drew, (show Made (w1.heap.size + 1) _ p from (by have := M4.out; simpa only [World.size_alloc] using this)).keep (Below.refl _ _).drew, H4.out.drew⟩) (fun hHeld => ?_)
  refine any_more (S' := (fun W : World => C9 W w1.heap.size hh ∧ C3 W w4.heap.size p ∧ B9 W w.heap.size noH ∧ Bo W (w.heap.size + 1) #[.int .i64 0, .slice none 0 0, .slice none 0 0] 39 ∧ Made (w1.heap.size + 1) W p ∧ Below w.heap.size w W)) hHeld (fun _ h => h) ?_; clear hHeld; intro W0 hHeld
  refine gkt 0 ?_ (h := by intro W hSw; obtain ⟨⟨y0, y1, y2, y3, y4, y5, y6, y7, y8⟩, ⟨y9, y10, y11⟩, _, _, _, _⟩ := hSw; go_simp; first | done | with_reducible rfl)
  refine gkt 1 ?_ (h := by intro W hSw; obtain ⟨⟨y0, y1, y2, y3, y4, y5, y6, y7, y8⟩, ⟨y9, y10, y11⟩, _, _, _, _⟩ := hSw; go_simp; first | done | with_reducible rfl)
  refine gkp 2 ?_
  refine gkt 3 ?_ (h := by intro W hSw; obtain ⟨⟨y0, y1, y2, y3, y4, y5, y6, y7, y8⟩, ⟨y9, y10, y11⟩, _, _, _, _⟩ := hSw; go_simp; first | done | with_reducible rfl)
  refine gkp 4 ?_
  refine gkp 5 ?_
  refine gkt 6 ?_ (h := by intro W hSw; obtain ⟨⟨y0, y1, y2, y3, y4, y5, y6, y7, y8⟩, ⟨y9, y10, y11⟩, _, _, _, _⟩ := hSw; go_simp; first | done | with_reducible rfl)
  refine gk1 7 (fun K hK => ?_)
  go_simp
  go_at_call 30; refine (HO.out p _ (made_in (hHeld.2.2.2.2.1)) PT.out).mono ?_; rintro e v1 ⟨rfl, h1⟩; have hR : (fun W : World => C9 W w1.heap.size hh ∧ C3 W w4.heap.size p ∧ B9 W w.heap.size noH ∧ Bo W (w.heap.size + 1) #[.int .i64 0, .slice none 0 0, .slice none 0 0] 39 ∧ Made (w1.heap.size + 1) W p ∧ Below w.heap.size w W) v1 := ⟨(hHeld.1).keep h1, (hHeld.2.1).keep h1, (hHeld.2.2.1).keep h1, (hHeld.2.2.2.1).keep h1, (hHeld.2.2.2.2.1).keep h1, gt hHeld.2.2.2.2.2 h1⟩
  refine hK.out _ _ hR (fun hHeld => ?_)
  clear hK K
  (try simp only [Act.put, sA, sZ, sS])
  refine any_more (S' := (fun W : World => C9 W w1.heap.size hh ∧ C3 W w4.heap.size p ∧ B9 W w.heap.size noH ∧ Bo W (w.heap.size + 1) #[.int .i64 0, .slice none 0 0, .slice none 0 0] 39 ∧ Made (w1.heap.size + 1) W p ∧ Below w.heap.size w W)) hHeld (fun _ h => h) ?_; clear hR hHeld; intro W1 hHeld
  refine gkp 8 ?_ (v := .bool true) (h := by intro W hSw; go_simp; first | done | rfl)
  refine wpAnyK_done (by kernel_rfl) ?_ _
  have Z7 := hid (hHeld.2.2.1)
  have S7 := hid (hHeld.2.2.2.1)
  have H7 := hid (hHeld.2.2.2.2.2)
  clear hHeld hlow
  obtain ⟨z0, z1, z2, z3, z4, z5, z6, z7, z8⟩ := Z7.out.c; have zf0 := Z7.out.fz 0; have zf1 := Z7.out.fz 1; have zf2 := Z7.out.fz 2; have zf3 := Z7.out.fz 3; have zf4 := Z7.out.fz 4; have zf5 := Z7.out.fz 5; have zf6 := Z7.out.fz 6; have zf7 := Z7.out.fz 7; have zf8 := Z7.out.fz 8
  have s0 := S7.out.cell 0 (.int .i64 0) rfl; have sf0 := S7.out.fz 0; have s1 := S7.out.cell 1 (.slice none 0 0) rfl; have sf1 := S7.out.fz 1; have s2 := S7.out.cell 2 (.slice none 0 0) rfl; have sf2 := S7.out.fz 2
  have hlow := H7.out
  go_wp2
  exact bodyPost_ret (ret_hs rfl rfl rfl (st_both Z7.out S7.out (by omega) noH _ _ _).1 (st_both Z7.out S7.out (by omega) noH _ _ _).2) rfl ⟨rfl, fr_both H7.out (Nat.le_refl _) (Nat.le_succ _) noH _ _ _⟩
set_option maxRecDepth 100000 in
set_option maxHeartbeats 8000000 in
theorem open_ok1 (o : Option Addr) (n c : Nat) (xs : List Nat) (w : World) (hT : Tab w) (h : Rd w o n c xs) (hx : ∀ x ∈ xs, x < 256) (hn : n ≤ 1000000000) (hh : Hd) (hp : peekV xs = .ok hh) (t : T) (s1 : St) (hd : R0 (xs.drop (szH hh.b)) = .ok t s1) (hq : eqH hh (headV t.pt hh.srs (ordV (xs.drop (szH hh.b))).1 hh.b) = true) : Calls Tryz.prog 8 #[.slice o n c] w fun x w' => (∃ p : Sh, x = .returned (.tuple #[.agg #[.int .i64 (hh).srs, .bool (hh).l, .bool (hh).b, .bool (hh).e, .bool (hh).x.n, .int .i64 (hh).x.lx, .int .i64 (hh).x.ly, .int .i64 (hh).x.hx, .int .i64 (hh).x.hy], .agg #[.int .i64 (p).k, .slice (p).xo (p).xn (p).xc, .slice (p).po (p).pn (p).pc], .int .i64 0]) ∧ p.t = t ∧ Made w.heap.size w' p) ∧ Below w.heap.size w w' := by
  have hbb : Below w.heap.size w ((w.alloc (.cells #[.int .i64 0, .bool false, .bool false, .bool false, .bool false, .int .i64 0, .int .i64 0, .int .i64 0, .int .i64 0] 29)).alloc (.cells #[.int .i64 0, .slice none 0 0, .slice none 0 0] 39)) := gt (ext1 _) (ext1 _)
  have BZ := hid ((B9.new w noH).keep (ext1 (.cells #[.int .i64 0, .slice none 0 0, .slice none 0 0] 39)))
  have BS : Hid (Bo ((w.alloc (.cells #[.int .i64 0, .bool false, .bool false, .bool false, .bool false, .int .i64 0, .int .i64 0, .int .i64 0, .int .i64 0] 29)).alloc (.cells #[.int .i64 0, .slice none 0 0, .slice none 0 0] 39)) (w.heap.size + 1) #[.int .i64 0, .slice none 0 0, .slice none 0 0] 39) := hid (by repeat (first | (refine at_new ?_; first | with_reducible rfl | (simp only [World.size_alloc]; done)) | refine at_old ?_))
  have PK := hid (peek_call o n c xs _ (h.keep hbb) hx hn)
  rw [hp] at PK
  simp only [pkV, pkE] at PK
  obtain ⟨-, -, -, hz, -, -⟩ := peek_inv hp
  obtain ⟨o', SL, SR⟩ := slice_l h (szH hh.b) (by rw [← h.1]; exact hz)
  have RD := hid (fun W (hb : Below w.heap.size w W) => read_ok o' (n - szH hh.b) (c - szH hh.b) (xs.drop (szH hh.b)) W (hT.keep hb) (SR W (h.keep hb)) (fun x hx' => hx x (List.mem_of_mem_drop hx')) (by omega) t s1 hd)
  have OC := hid (fun W (hb : Below w.heap.size w W) => Order_call o' (n - szH hh.b) (c - szH hh.b) (xs.drop (szH hh.b)) W (SR W (h.keep hb)) (fun x hx' => hx x (List.mem_of_mem_drop hx')) (by omega))
  have hc0 := (r0_good hd).2
  have HO := hid (fun (p : Sh) (W : World) (hI : In (fun b => b < W.heap.size) W p) (hpt : p.t = t) => by
    have k := headOf_call p hh.srs (ordV (xs.drop (szH hh.b))).1 hh.b W hI (by rw [chk_eq hI, hpt]; exact hc0)
    rw [← pt_of, hpt] at k
    exact k)
  obtain ⟨HV, hHV⟩ : ∃ H, H = headV t.pt hh.srs (ordV (xs.drop (szH hh.b))).1 hh.b := ⟨_, rfl⟩
  rw [← hHV] at HO hq
  have hbb := hid hbb
  clear hHV
  generalize (ordV (xs.drop (szH hh.b))).1 = od at *
  generalize (ordV (xs.drop (szH hh.b))).2 = ok2 at *
  generalize szH hh.b = sz at *
  clear h hx hn hT hp hd hz SR
  have EQ : ∀ W, (binOp .neq 29 (.agg #[.int .i64 (hh).srs, .bool (hh).l, .bool (hh).b, .bool (hh).e, .bool (hh).x.n, .int .i64 (hh).x.lx, .int .i64 (hh).x.ly, .int .i64 (hh).x.hx, .int .i64 (hh).x.hy]) (.agg #[.int .i64 (HV).srs, .bool (HV).l, .bool (HV).b, .bool (HV).e, .bool (HV).x.n, .int .i64 (HV).x.lx, .int .i64 (HV).x.ly, .int .i64 (HV).x.hx, .int .i64 (HV).x.hy])).run Tryz.prog W = .ok (.bool false) W := fun W => by rw [head_neq, hq]; rfl
  clear hq
  go_enter Tryz.func8, Tryz.ntmps8
  go_wp2_with (first | (go_at_call 6; refine PK.out.mono ?_; rintro e w1 ⟨rfl, he, b1⟩; clear he; have H1 := hid (gt (gt hbb.out b1) (ext1 (.cells #[.int .i64 (hh).srs, .bool (hh).l, .bool (hh).b, .bool (hh).e, .bool (hh).x.n, .int .i64 (hh).x.lx, .int .i64 (hh).x.ly, .int .i64 (hh).x.hx, .int .i64 (hh).x.hy] 29))); have Z1 := hid ((BZ.out.keep b1).keep (ext1 (.cells #[.int .i64 (hh).srs, .bool (hh).l, .bool (hh).b, .bool (hh).e, .bool (hh).x.n, .int .i64 (hh).x.lx, .int .i64 (hh).x.ly, .int .i64 (hh).x.hx, .int .i64 (hh).x.hy] 29))); have S1 := hid ((BS.out.keep b1).keep (ext1 (.cells #[.int .i64 (hh).srs, .bool (hh).l, .bool (hh).b, .bool (hh).e, .bool (hh).x.n, .int .i64 (hh).x.lx, .int .i64 (hh).x.ly, .int .i64 (hh).x.hx, .int .i64 (hh).x.hy] 29))); have D1 := hid (B9.new w1 hh); have hz1 := hid (show w.heap.size + 1 < w1.heap.size by have h1 := b1.size; simp only [World.size_alloc] at h1; omega); clear b1; have hlow := H1.out) | (go_at_call 28; refine (RD.out _ H1.out).mono ?_; rintro e w4 ⟨⟨p, rfl, hpt, hm⟩, hc4, b4⟩; clear hlow hc4; have H4 := hid (gt (gt H1.out b4) (ext1 (.cells #[.int .i64 (p).k, .slice (p).xo (p).xn (p).xc, .slice (p).po (p).pn (p).pc] 39))); have Z4 := hid ((Z1.out.keep b4).keep (ext1 (.cells #[.int .i64 (p).k, .slice (p).xo (p).xn (p).xc, .slice (p).po (p).pn (p).pc] 39))); have S4 := hid ((S1.out.keep b4).keep (ext1 (.cells #[.int .i64 (p).k, .slice (p).xo (p).xn (p).xc, .slice (p).po (p).pn (p).pc] 39))); have D4 := hid ((D1.out.keep b4).keep (ext1 (.cells #[.int .i64 (p).k, .slice (p).xo (p).xn (p).xc, .slice (p).po (p).pn (p).pc] 39))); have X4 := hid (C3.bx (Bx.new w4 p)); have M4 := hid (hm.keep (ext1 (.cells #[.int .i64 (p).k, .slice (p).xo (p).xn (p).xc, .slice (p).po (p).pn (p).pc] 39))); have PT := hid hpt; have hz4 := hid (show w1.heap.size < w4.heap.size by have h1 := b4.size; simp only [World.size_alloc] at h1; omega); clear b4 hm hpt; have hlow := H4.out) | (go_at_call 29; refine (OC.out _ H4.out).mono ?_; rintro e w5 ⟨rfl, hw5⟩; obtain rfl := hw5.symm))
  refine wp_region_K (S := (fun W : World => C9 W w1.heap.size hh ∧ C3 W w4.heap.size p ∧ B9 W w.heap.size noH ∧ Bo W (w.heap.size + 1) #[.int .i64 0, .slice none 0 0, .slice none 0 0] 39 ∧ Made (w1.heap.size + 1) W p ∧ Below w.heap.size w W)) (fun _ => false) (by kernel_rfl) (by exact ⟨(D4.out.keep (Below.refl _ _).drew).c, X4.out.keep (Below.refl _ _).drew, Z4.out.keep (Below.refl _ _).drew, S4.out.keep (Below.refl _ _).drew, (show Made (w1.heap.size + 1) _ p from (by have := M4.out; simpa only [World.size_alloc] using this)).keep (Below.refl _ _).drew, H4.out.drew⟩) (fun hHeld => ?_)
  refine any_more (S' := (fun W : World => C9 W w1.heap.size hh ∧ C3 W w4.heap.size p ∧ B9 W w.heap.size noH ∧ Bo W (w.heap.size + 1) #[.int .i64 0, .slice none 0 0, .slice none 0 0] 39 ∧ Made (w1.heap.size + 1) W p ∧ Below w.heap.size w W)) hHeld (fun _ h => h) ?_; clear hHeld; intro W0 hHeld
  refine gkt 0 ?_ (h := by intro W hSw; obtain ⟨⟨y0, y1, y2, y3, y4, y5, y6, y7, y8⟩, ⟨y9, y10, y11⟩, _, _, _, _⟩ := hSw; go_simp; first | done | with_reducible rfl)
  refine gkt 1 ?_ (h := by intro W hSw; obtain ⟨⟨y0, y1, y2, y3, y4, y5, y6, y7, y8⟩, ⟨y9, y10, y11⟩, _, _, _, _⟩ := hSw; go_simp; first | done | with_reducible rfl)
  refine gkp 2 ?_
  refine gkt 3 ?_ (h := by intro W hSw; obtain ⟨⟨y0, y1, y2, y3, y4, y5, y6, y7, y8⟩, ⟨y9, y10, y11⟩, _, _, _, _⟩ := hSw; go_simp; first | done | with_reducible rfl)
  refine gkp 4 ?_
  refine gkp 5 ?_
  refine gkt 6 ?_ (h := by intro W hSw; obtain ⟨⟨y0, y1, y2, y3, y4, y5, y6, y7, y8⟩, ⟨y9, y10, y11⟩, _, _, _, _⟩ := hSw; go_simp; first | done | with_reducible rfl)
  refine gk1 7 (fun K hK => ?_)
  go_simp
  go_at_call 30; refine (HO.out p _ (made_in (hHeld.2.2.2.2.1)) PT.out).mono ?_; rintro e v1 ⟨rfl, h1⟩; have hR : (fun W : World => C9 W w1.heap.size hh ∧ C3 W w4.heap.size p ∧ B9 W w.heap.size noH ∧ Bo W (w.heap.size + 1) #[.int .i64 0, .slice none 0 0, .slice none 0 0] 39 ∧ Made (w1.heap.size + 1) W p ∧ Below w.heap.size w W) v1 := ⟨(hHeld.1).keep h1, (hHeld.2.1).keep h1, (hHeld.2.2.1).keep h1, (hHeld.2.2.2.1).keep h1, (hHeld.2.2.2.2.1).keep h1, gt hHeld.2.2.2.2.2 h1⟩
  refine hK.out _ _ hR (fun hHeld => ?_)
  clear hK K
  (try simp only [Act.put, sA, sZ, sS])
  refine any_more (S' := (fun W : World => C9 W w1.heap.size hh ∧ C3 W w4.heap.size p ∧ B9 W w.heap.size noH ∧ Bo W (w.heap.size + 1) #[.int .i64 0, .slice none 0 0, .slice none 0 0] 39 ∧ Made (w1.heap.size + 1) W p ∧ Below w.heap.size w W)) hHeld (fun _ h => h) ?_; clear hR hHeld; intro W1 hHeld
  refine gkp 8 ?_ (v := .bool false) (h := by intro W hSw; go_simp; first | done | rfl)
  refine wpAnyK_done (by kernel_rfl) ?_ _
  have F7 := hid hHeld
  clear hHeld hlow
  have hlow := F7.out.2.2.2.2.2
  go_wp2
  clear hlow
  refine wp_region_K (S := (fun W : World => C9 W w1.heap.size hh ∧ C3 W w4.heap.size p ∧ Bz W w.heap.size ∧ Cz W (w.heap.size + 1) ∧ Made (w1.heap.size + 1) W p ∧ Below w.heap.size w W)) (fun _ => false) (by kernel_rfl) (by exact ⟨F7.out.1.keep (Below.refl _ _).drew, F7.out.2.1.keep (Below.refl _ _).drew, ⟨_, F7.out.2.2.1.keep (Below.refl _ _).drew⟩, ⟨_, _, _, F7.out.2.2.2.1.keep (Below.refl _ _).drew⟩, F7.out.2.2.2.2.1.keep (Below.refl _ _).drew, Below.drew F7.out.2.2.2.2.2⟩) (fun hHeld => ?_)
  refine any_more (S' := (fun W : World => C9 W w1.heap.size hh ∧ C3 W w4.heap.size p ∧ Bz W w.heap.size ∧ Cz W (w.heap.size + 1) ∧ Made (w1.heap.size + 1) W p ∧ Below w.heap.size w W)) hHeld (fun _ h => h) ?_; clear hHeld; intro W0 hHeld
  refine gkt 0 ?_ (h := by intro W hSw; obtain ⟨⟨y0, y1, y2, y3, y4, y5, y6, y7, y8⟩, ⟨y9, y10, y11⟩, _, _, _, _⟩ := hSw; go_simp; first | done | with_reducible rfl)
  refine gkt 1 ?_ (h := by intro W hSw; obtain ⟨⟨y0, y1, y2, y3, y4, y5, y6, y7, y8⟩, ⟨y9, y10, y11⟩, _, _, _, _⟩ := hSw; go_simp; first | done | with_reducible rfl)
  refine gk1 2 (fun K hK => ?_)
  obtain ⟨zx, hzx⟩ := hHeld.2.2.1; have ZZ := hid hzx; clear hzx; obtain ⟨z0, z1, z2, z3, z4, z5, z6, z7, z8⟩ := ZZ.out.c; have zf0 := ZZ.out.fz 0; have zf1 := ZZ.out.fz 1; have zf2 := ZZ.out.fz 2; have zf3 := ZZ.out.fz 3; have zf4 := ZZ.out.fz 4; have zf5 := ZZ.out.fz 5; have zf6 := ZZ.out.fz 6; have zf7 := ZZ.out.fz 7; have zf8 := ZZ.out.fz 8
  go_simp
  refine hK.out _ _ (by exact ⟨C9.other9 (hHeld.1) (by have h1 := hz1.out; have h4 := hz4.out; omega) hh, C3.other9 (hHeld.2.1) (by have h1 := hz1.out; have h4 := hz4.out; omega) hh, ⟨_, ZZ.out.put hh⟩, Cz.other9 (hHeld.2.2.2.1) (by omega) hh, Made.st9 (hHeld.2.2.2.2.1) (by have h1 := hz1.out; have h4 := hz4.out; omega) hh, fr9 (hHeld.2.2.2.2.2) (Nat.le_refl _) hh⟩) (fun hHeld => ?_)
  clear hK K
  (try simp only [Act.put, sA, sZ, sS])
  refine any_more (S' := (fun W : World => B9 W w.heap.size hh ∧ C9 W w1.heap.size hh ∧ C3 W w4.heap.size p ∧ Bz W w.heap.size ∧ Cz W (w.heap.size + 1) ∧ Made (w1.heap.size + 1) W p ∧ Below w.heap.size w W)) ⟨(ZZ.out.put hh), hHeld⟩ (fun _ h => h.2) ?_; clear hHeld; intro W1 hHeld
  refine gk1 3 (fun K hK => ?_)
  obtain ⟨u0, u1, u2, hzx⟩ := hHeld.2.2.2.2.1; have SS := hid hzx; clear hzx; have s0 := SS.out.cell 0 (u0) rfl; have sf0 := SS.out.fz 0; have s1 := SS.out.cell 1 (u1) rfl; have sf1 := SS.out.fz 1; have s2 := SS.out.cell 2 (u2) rfl; have sf2 := SS.out.fz 2
  go_simp
  refine hK.out _ _ (by exact ⟨B9.other3 (hHeld.1) (by omega) (.int .i64 p.k) (.slice p.xo p.xn p.xc) (.slice p.po p.pn p.pc), C9.other3 (hHeld.2.1) (by have h1 := hz1.out; have h4 := hz4.out; omega) (.int .i64 p.k) (.slice p.xo p.xn p.xc) (.slice p.po p.pn p.pc), C3.other3 (hHeld.2.2.1) (by have h1 := hz1.out; have h4 := hz4.out; omega) (.int .i64 p.k) (.slice p.xo p.xn p.xc) (.slice p.po p.pn p.pc), ⟨_, B9.other3 (hHeld.1) (by omega) (.int .i64 p.k) (.slice p.xo p.xn p.xc) (.slice p.po p.pn p.pc)⟩, ⟨_, _, _, ((SS.out.set 0 (.int .i64 p.k)).set 1 (.slice p.xo p.xn p.xc)).set 2 (.slice p.po p.pn p.pc)⟩, Made.st3 (hHeld.2.2.2.2.2.1) (by have h1 := hz1.out; have h4 := hz4.out; omega) (.int .i64 p.k) (.slice p.xo p.xn p.xc) (.slice p.po p.pn p.pc), ((((hHeld.2.2.2.2.2.2)).setCell (Nat.le_succ _) _).setCell (Nat.le_succ _) _).setCell (Nat.le_succ _) _⟩) (fun hHeld => ?_)
  clear hK K
  (try simp only [Act.put, sA, sZ, sS])
  refine any_more (S' := (fun W : World => Bo W (w.heap.size + 1) #[.int .i64 (p).k, .slice (p).xo (p).xn (p).xc, .slice (p).po (p).pn (p).pc] 39 ∧ B9 W w.heap.size hh ∧ C9 W w1.heap.size hh ∧ C3 W w4.heap.size p ∧ Bz W w.heap.size ∧ Cz W (w.heap.size + 1) ∧ Made (w1.heap.size + 1) W p ∧ Below w.heap.size w W)) ⟨(((SS.out.set 0 (.int .i64 p.k)).set 1 (.slice p.xo p.xn p.xc)).set 2 (.slice p.po p.pn p.pc)), hHeld⟩ (fun _ h => h.2) ?_; clear hHeld; intro W2 hHeld
  refine gkp 4 ?_
  refine wpAnyK_done (by kernel_rfl) ?_ _
  have B7 := hHeld.2.1
  have S7 := hHeld.1
  have M7 := hHeld.2.2.2.2.2.2.1
  have H7 := (hHeld.2.2.2.2.2.2.2)
  go_wp2
  exact bodyPost_ret (ret_hs rfl rfl rfl B7 S7) rfl ⟨⟨p, rfl, PT.out, M7.up (by have := hz1.out; omega)⟩, H7⟩
end Go.Proofs.YtpmfedimjjifaaaGreatDoor

/- Open as a whole; Canon and Retag; no statement of the seat is proved here. -/
namespace Go.Proofs.YtpmfedimjjifaaaGreatDoor
open Go.RowKit Go.Maps
open Bxs (boxL)

/-- A shape that may be, somewhere. -/
def GoodT' (t : T) : Prop := ∃ (S : Nat → Prop) (W : World) (p : Sh), In S W p ∧ Rg p ∧ checkN p = 0 ∧ p.t = t
/-- A blob's bytes, by the shape alone. -/
def mkT (t : T) (srs : Int) (l b : Bool) : List Nat := headBs (headV t.pt srs l b) ++ bytesI l (t.items l)
theorem make_t {s : Sh} (hc : checkN s = 0) {id : Int} (ho : okS id = true) (l b : Bool) : makeB s id l b = mkT s.t id l b := by
  rw [make_head s id l b hc ho, enc_eq hc, ← pt_of]; rfl
theorem open_t {t : T} (h : GoodT' t) {id : Int} (ho : okS id = true) (l b : Bool) : openV (mkT t id l b) = .ok (headV t.pt id l b) t := by
  obtain ⟨S, W, p, h1, h2, h3, rfl⟩ := h
  rw [← make_t h3 ho, open_make h1 h2 h3 ho, pt_of]
theorem good_made {N : Nat} {W : World} {p : Sh} (h : Made N W p) (hr : RgT p.t) (hc : chk p.t = 0) : GoodT' p.t := ⟨_, W, p, h, rg_of hr, by rw [chk_eq h]; exact hc, rfl⟩
theorem open_bad (o : Option Addr) (n c : Nat) (xs : List Nat) (w : World) (hT : Tab w) (h : Rd w o n c xs) (hx : ∀ x ∈ xs, x < 256) (hn : n ≤ 1000000000) (e : Nat) (hd : openV xs = .bad e) : Calls Tryz.prog 8 #[.slice o n c] w fun x w' => x = .returned (.tuple #[.agg #[.int .i64 (noH).srs, .bool (noH).l, .bool (noH).b, .bool (noH).e, .bool (noH).x.n, .int .i64 (noH).x.lx, .int .i64 (noH).x.ly, .int .i64 (noH).x.hx, .int .i64 (noH).x.hy], .agg #[.int .i64 0, .slice none 0 0, .slice none 0 0], .int .i64 (e : Int)]) ∧ (1 ≤ e ∧ e ≤ 20) ∧ Below w.heap.size w w' := by
  unfold openV at hd
  split at hd
  · rename_i e' hp
    injection hd with hd
    subst hd
    exact open_bad1 o n c xs w h hx hn _ hp
  · rename_i hh hp
    split at hd
    · rename_i e' hr
      injection hd with hd
      subst hd
      exact open_bad2 o n c xs w hT h hx hn hh hp _ hr
    · rename_i t s1 hr
      split at hd
      · cases hd
      · rename_i hq
        injection hd with hd
        subst hd
        exact (open_bad3 o n c xs w hT h hx hn hh hp t s1 hr (by simpa using hq)).mono fun x w' k => ⟨k.1, by omega, k.2⟩
theorem open_good {xs : List Nat} {hh : Hd} {t : T} (hd : openV xs = .ok hh t) : RgT t ∧ chk t = 0 := by
  obtain ⟨s1, hr⟩ := (open_iff.1 hd).r
  exact r0_good hr
theorem open_ok (o : Option Addr) (n c : Nat) (xs : List Nat) (w : World) (hT : Tab w) (h : Rd w o n c xs) (hx : ∀ x ∈ xs, x < 256) (hn : n ≤ 1000000000) (hh : Hd) (t : T) (hd : openV xs = .ok hh t) : Calls Tryz.prog 8 #[.slice o n c] w fun x w' => (∃ p : Sh, x = .returned (.tuple #[.agg #[.int .i64 (hh).srs, .bool (hh).l, .bool (hh).b, .bool (hh).e, .bool (hh).x.n, .int .i64 (hh).x.lx, .int .i64 (hh).x.ly, .int .i64 (hh).x.hx, .int .i64 (hh).x.hy], .agg #[.int .i64 (p).k, .slice (p).xo (p).xn (p).xc, .slice (p).po (p).pn (p).pc], .int .i64 0]) ∧ p.t = t ∧ Made w.heap.size w' p) ∧ Below w.heap.size w w' := by
  unfold openV at hd
  split at hd
  · cases hd
  · rename_i h' hp
    split at hd
    · cases hd
    · rename_i t' s1 hr
      split at hd
      · rename_i hq
        injection hd with h1 h2
        subst h1 h2
        exact open_ok1 o n c xs w hT h hx hn _ hp _ s1 hr hq
      · cases hd
set_option maxRecDepth 100000 in
set_option maxHeartbeats 8000000 in
theorem canon_bad (o : Option Addr) (n c : Nat) (xs : List Nat) (w : World) (hT : Tab w) (h : Rd w o n c xs) (hx : ∀ x ∈ xs, x < 256) (hn : n ≤ 1000000000) (e : Nat) (hd : openV xs = .bad e) : Calls Tryz.prog 11 #[.slice o n c] w fun x w' => x = .returned (.tuple #[.slice none 0 0, .int .i64 (e : Int)]) ∧ (1 ≤ e ∧ e ≤ 20) ∧ Below w.heap.size w w' := by
  have OP := hid (open_bad o n c xs w hT h hx hn e hd)
  clear h hx hn hT hd
  by_cases he : 1 ≤ e ∧ e ≤ 20
  · have he2 : ((e : Int) != 0) = true := by simp; omega
    go_enter Tryz.func11, Tryz.ntmps11
    go_wp2_with (go_at_call 8; refine OP.out.mono ?_; rintro x w1 ⟨rfl, he1, b1⟩; have H1 := hid (gt (gt b1 (ext1 (.cells #[.int .i64 (noH).srs, .bool (noH).l, .bool (noH).b, .bool (noH).e, .bool (noH).x.n, .int .i64 (noH).x.lx, .int .i64 (noH).x.ly, .int .i64 (noH).x.hx, .int .i64 (noH).x.hy] 29))) (ext1 (.cells #[.int .i64 0, .slice none 0 0, .slice none 0 0] 39))); clear b1 he1)
    go_ret2
    exact ⟨rfl, he, H1.out⟩
  · go_enter Tryz.func11, Tryz.ntmps11
    go_wp2_with (go_at_call 8; refine OP.out.mono ?_; rintro x w1 ⟨rfl, he1, b1⟩; exact absurd he1 he)
set_option maxRecDepth 100000 in
set_option maxHeartbeats 8000000 in
theorem retag_bad (o : Option Addr) (n c : Nat) (xs : List Nat) (w : World) (hT : Tab w) (h : Rd w o n c xs) (hx : ∀ x ∈ xs, x < 256) (hn : n ≤ 1000000000) (srs : Int) (e : Nat) (hd : openV xs = .bad e) : Calls Tryz.prog 15 #[.slice o n c, .int .i64 srs] w fun x w' => x = .returned (.tuple #[.slice none 0 0, .int .i64 (e : Int)]) ∧ (1 ≤ e ∧ e ≤ 20) ∧ Below w.heap.size w w' := by
  have OP := hid (open_bad o n c xs w hT h hx hn e hd)
  clear h hx hn hT hd
  by_cases he : 1 ≤ e ∧ e ≤ 20
  · have he2 : ((e : Int) != 0) = true := by simp; omega
    go_enter Tryz.func15, Tryz.ntmps15
    go_wp2_with (go_at_call 8; refine OP.out.mono ?_; rintro x w1 ⟨rfl, he1, b1⟩; have H1 := hid (gt (gt b1 (ext1 (.cells #[.int .i64 (noH).srs, .bool (noH).l, .bool (noH).b, .bool (noH).e, .bool (noH).x.n, .int .i64 (noH).x.lx, .int .i64 (noH).x.ly, .int .i64 (noH).x.hx, .int .i64 (noH).x.hy] 29))) (ext1 (.cells #[.int .i64 0, .slice none 0 0, .slice none 0 0] 39))); clear b1 he1)
    go_ret2
    exact ⟨rfl, he, H1.out⟩
  · go_enter Tryz.func15, Tryz.ntmps15
    go_wp2_with (go_at_call 8; refine OP.out.mono ?_; rintro x w1 ⟨rfl, he1, b1⟩; exact absurd he1 he)
set_option maxRecDepth 100000 in
set_option maxHeartbeats 8000000 in
theorem canon_ok (o : Option Addr) (n c : Nat) (xs : List Nat) (w : World) (hT : Tab w) (h : Rd w o n c xs) (hx : ∀ x ∈ xs, x < 256) (hn : n ≤ 1000000000) (hh : Hd) (t : T) (hd : openV xs = .ok hh t) : Calls Tryz.prog 11 #[.slice o n c] w fun x w' => ∃ ao k c', x = .returned (.tuple #[.slice ao k c', .int .i64 0]) ∧ w'.ownsRow w.heap.size 5 1 (.slice ao k c') k (bs (mkT t hh.srs false true)) ∧ GoodT' t ∧ Below w.heap.size w w' := by
  have OP := hid (open_ok o n c xs w hT h hx hn hh t hd)
  have OG := open_good hd
  have SO := (open_iff.1 hd).srs
  have MK := hid (fun (p : Sh) (W : World) (hb : Below w.heap.size w W) (hI : In (fun b => b < W.heap.size) W p) (hpt : p.t = t) => by
    have k := make_call p hh.srs false true W (hT.keep hb) hI
    rw [make_t (by rw [chk_eq hI, hpt]; exact OG.2) SO, hpt] at k
    exact k)
  have GT := hid (fun (p : Sh) (W : World) (hI : In (fun b => b < W.heap.size) W p) (hpt : p.t = t) => show GoodT' t from ⟨_, W, p, hI, rg_of (by rw [hpt]; exact OG.1), by rw [chk_eq hI, hpt]; exact OG.2, hpt⟩)
  clear h hx hn hT hd OG SO
  go_enter Tryz.func11, Tryz.ntmps11
  go_wp2_with (first | (go_at_call 8; refine OP.out.mono ?_; rintro x w1 ⟨⟨p, rfl, hpt, hm⟩, b1⟩; have H1 := hid (gt (gt b1 (ext1 (.cells #[.int .i64 (hh).srs, .bool (hh).l, .bool (hh).b, .bool (hh).e, .bool (hh).x.n, .int .i64 (hh).x.lx, .int .i64 (hh).x.ly, .int .i64 (hh).x.hx, .int .i64 (hh).x.hy] 29))) (ext1 (.cells #[.int .i64 (p).k, .slice (p).xo (p).xn (p).xc, .slice (p).po (p).pn (p).pc] 39))); have D1 := hid ((B9.new w1 hh).keep (ext1 (.cells #[.int .i64 (p).k, .slice (p).xo (p).xn (p).xc, .slice (p).po (p).pn (p).pc] 39))); have BX := hid ((show Bx ((w1.alloc (.cells #[.int .i64 (hh).srs, .bool (hh).l, .bool (hh).b, .bool (hh).e, .bool (hh).x.n, .int .i64 (hh).x.lx, .int .i64 (hh).x.ly, .int .i64 (hh).x.hx, .int .i64 (hh).x.hy] 29)).alloc (.cells #[.int .i64 (p).k, .slice (p).xo (p).xn (p).xc, .slice (p).po (p).pn (p).pc] 39)) (w1.heap.size + 1) p from (by have k := Bx.new (w1.alloc (.cells #[.int .i64 (hh).srs, .bool (hh).l, .bool (hh).b, .bool (hh).e, .bool (hh).x.n, .int .i64 (hh).x.lx, .int .i64 (hh).x.ly, .int .i64 (hh).x.hx, .int .i64 (hh).x.hy] 29)) p; rw [World.size_alloc] at k; exact k))); have HI := hid ((made_in hm).grow (gt (ext1 (.cells #[.int .i64 (hh).srs, .bool (hh).l, .bool (hh).b, .bool (hh).e, .bool (hh).x.n, .int .i64 (hh).x.lx, .int .i64 (hh).x.ly, .int .i64 (hh).x.hx, .int .i64 (hh).x.hy] 29)) (ext1 (.cells #[.int .i64 (p).k, .slice (p).xo (p).xn (p).xc, .slice (p).po (p).pn (p).pc] 39)))); have PT := hid hpt; obtain ⟨x0, x1, x2⟩ := BX.out.cells; obtain ⟨d0, d1, d2, d3, d4, d5, d6, d7, d8⟩ := D1.out.c; clear b1) | (go_at_call 17; refine (MK.out p _ H1.out HI.out PT.out).mono ?_; rintro x w2 ⟨ao, k, c', rfl, o2, b2⟩; have O2 := hid (own_base o2 H1.out.size); have H2 := hid (gt H1.out b2); clear o2 b2))
  go_ret2
  exact ⟨_, _, _, rfl, O2.out, GT.out p _ HI.out PT.out, H2.out⟩
set_option maxRecDepth 100000 in
set_option maxHeartbeats 8000000 in
theorem retag_arg (o : Option Addr) (n c : Nat) (xs : List Nat) (w : World) (hT : Tab w) (h : Rd w o n c xs) (hx : ∀ x ∈ xs, x < 256) (hn : n ≤ 1000000000) (srs : Int) (hs : okS srs = false) (hh : Hd) (t : T) (hd : openV xs = .ok hh t) : Calls Tryz.prog 15 #[.slice o n c, .int .i64 srs] w fun x w' => x = .returned (.tuple #[.slice none 0 0, .int .i64 2]) ∧ Below w.heap.size w w' := by
  have OP := hid (open_ok o n c xs w hT h hx hn hh t hd)
  have GS := hid (goodSrs_call srs)
  rw [hs] at GS
  clear h hx hn hT hd hs
  go_enter Tryz.func15, Tryz.ntmps15
  go_wp2_with (first | (go_at_call 8; refine OP.out.mono ?_; rintro x w1 ⟨⟨p, rfl, hpt, hm⟩, b1⟩; have H1 := hid (gt (gt b1 (ext1 (.cells #[.int .i64 (hh).srs, .bool (hh).l, .bool (hh).b, .bool (hh).e, .bool (hh).x.n, .int .i64 (hh).x.lx, .int .i64 (hh).x.ly, .int .i64 (hh).x.hx, .int .i64 (hh).x.hy] 29))) (ext1 (.cells #[.int .i64 (p).k, .slice (p).xo (p).xn (p).xc, .slice (p).po (p).pn (p).pc] 39))); have D1 := hid ((B9.new w1 hh).keep (ext1 (.cells #[.int .i64 (p).k, .slice (p).xo (p).xn (p).xc, .slice (p).po (p).pn (p).pc] 39))); obtain ⟨d0, d1, d2, d3, d4, d5, d6, d7, d8⟩ := D1.out.c; clear b1) | (go_at_call 34; refine (GS.out _).mono ?_; rintro x w2 ⟨rfl, b2⟩; have H2 := hid (gt H1.out b2); clear b2))
  go_ret2
  exact ⟨rfl, H2.out⟩
set_option maxRecDepth 100000 in
set_option maxHeartbeats 8000000 in
theorem retag_ok (o : Option Addr) (n c : Nat) (xs : List Nat) (w : World) (hT : Tab w) (h : Rd w o n c xs) (hx : ∀ x ∈ xs, x < 256) (hn : n ≤ 1000000000) (srs : Int) (hs : okS srs = true) (hh : Hd) (t : T) (hd : openV xs = .ok hh t) : Calls Tryz.prog 15 #[.slice o n c, .int .i64 srs] w fun x w' => ∃ ao k c', x = .returned (.tuple #[.slice ao k c', .int .i64 0]) ∧ w'.ownsRow w.heap.size 5 1 (.slice ao k c') k (bs (retV xs srs hh.l)) ∧ Below w.heap.size w w' := by
  have OP := hid (open_ok o n c xs w hT h hx hn hh t hd)
  have GS := hid (goodSrs_call srs)
  rw [hs] at GS
  have l8 := (open_iff.1 hd).len
  have LN := hid (show 4 ≤ n ∧ 8 ≤ n ∧ xs.length = n ∧ n ≤ 1000000000 by have := h.1; omega)
  have NU := hid (number_call srs 4 (by decide) hh.l)
  have SLa : ∀ W, (Instr.slice 22 (.slice o n c) none (some (.int .i64 4)) none).run Tryz.prog W = .ok (.slice o 4 c) W := fun W => slice_h o n c 4 (by have := LN.out; have := h.2.1; omega) W (fun e => (h.2.2.1 e).2)
  obtain ⟨o8, SL, SR⟩ := slice_l h 8 (by have := LN.out; omega)
  have SLb : ∀ W, (Instr.slice 22 (.slice o n c) (some (.int .i64 8)) none none).run Tryz.prog W = .ok (.slice o8 (n - 8) (c - 8)) W := SL
  clear SL
  have SR := hid SR
  have HR := hid (fun W (hb : Below w.heap.size w W) => h.keep hb)
  clear h hx hn hT hd hs l8
  go_enter Tryz.func15, Tryz.ntmps15
  go_wp2_with (first | (go_at_call 8; refine OP.out.mono ?_; rintro x w1 ⟨⟨p, rfl, hpt, hm⟩, b1⟩; have H1 := hid (gt (gt b1 (ext1 (.cells #[.int .i64 (hh).srs, .bool (hh).l, .bool (hh).b, .bool (hh).e, .bool (hh).x.n, .int .i64 (hh).x.lx, .int .i64 (hh).x.ly, .int .i64 (hh).x.hx, .int .i64 (hh).x.hy] 29))) (ext1 (.cells #[.int .i64 (p).k, .slice (p).xo (p).xn (p).xc, .slice (p).po (p).pn (p).pc] 39))); have D1 := hid ((B9.new w1 hh).keep (ext1 (.cells #[.int .i64 (p).k, .slice (p).xo (p).xn (p).xc, .slice (p).po (p).pn (p).pc] 39))); obtain ⟨d0, d1, d2, d3, d4, d5, d6, d7, d8⟩ := D1.out.c; clear b1) | (go_at_call 34; refine (GS.out _).mono ?_; rintro x w2 ⟨rfl, b2⟩; have H2 := hid (gt H1.out b2); have D2 := hid (D1.out.keep b2); clear b2 d0 d1 d2 d3 d4 d5 d6 d7 d8))
  refine wp_region_K (S := (fun W : World => C9 W w1.heap.size hh ∧ Rd W o n c xs ∧ Below w.heap.size w W)) (fun _ => false) (by kernel_rfl) (by exact ⟨(D2.out.keep (Below.refl _ _).drew).c, HR.out _ (H2.out.drew), H2.out.drew⟩) (fun hHeld => ?_)
  refine any_more (S' := (fun W : World => C9 W w1.heap.size hh ∧ Rd W o n c xs ∧ Below w.heap.size w W)) hHeld (fun _ h => h) ?_; clear hHeld; intro W0 hHeld
  refine gkp 0 ?_
  refine gkp 1 ?_
  refine gkp 2 ?_
  refine gkp 3 ?_
  refine gkt 4 ?_ (h := by intro W hSw; obtain ⟨⟨y0, y1, y2, y3, y4, y5, y6, y7, y8⟩, _, _⟩ := hSw; go_simp; first | done | with_reducible rfl)
  refine gkp 6 ?_
  refine gkp 7 ?_
  refine gk1 5 (fun K hK => ?_)
  go_simp
  go_at_call 36; refine (NU.out _).mono ?_; rintro e v1 ⟨g1, rfl, o1, h1⟩; have hR : (fun W : World => C9 W w1.heap.size hh ∧ Rd W o n c xs ∧ Below w.heap.size w W) v1 := ⟨(hHeld.1).keep h1, (hHeld.2.1).keep h1, gt hHeld.2.2 h1⟩
  refine hK.out _ _ hR (fun hHeld => ?_)
  clear hK K
  (try simp only [Act.put, sA, sZ, sS])
  refine any_more (S' := (fun W : World => Rd W (some ⟨g1, 0, none⟩) 4 4 (putN (U srs) 4 hh.l) ∧ C9 W w1.heap.size hh ∧ Rd W o n c xs ∧ Below w.heap.size w W)) ⟨rd_own o1, hHeld⟩ (fun _ h => h.2) ?_; clear hR hHeld; intro W1 hHeld
  refine gk1 8 (fun K hK => ?_)
  go_simp
  refine hK.out _ _ (by exact ⟨(hHeld.1).keep (ext1 _), (hHeld.2.1).keep (ext1 _), (hHeld.2.2.1).keep (ext1 _), gt hHeld.2.2.2 (ext1 _)⟩) (fun hHeld => ?_)
  clear hK K
  (try simp only [Act.put, sA, sZ, sS])
  refine any_more (S' := (fun W : World => Bo W W1.heap.size (pcs [⟨o, 4, c, xs.take 4⟩, ⟨some ⟨g1, 0, none⟩, 4, 4, putN (U srs) 4 hh.l⟩, ⟨o8, n - 8, c - 8, xs.drop 8⟩]) 22 ∧ Rd W (some ⟨g1, 0, none⟩) 4 4 (putN (U srs) 4 hh.l) ∧ C9 W w1.heap.size hh ∧ Rd W o n c xs ∧ Below w.heap.size w W)) ⟨heap_alloc_new _ _, hHeld⟩ (fun _ h => h.2) ?_; clear hHeld; intro W2 hHeld
  refine gk1 9 (fun K hK => ?_)
  go_simp
  go_at_call 35; refine (join_call W1.heap.size [⟨o, 4, c, xs.take 4⟩, ⟨some ⟨g1, 0, none⟩, 4, 4, putN (U srs) 4 hh.l⟩, ⟨o8, n - 8, c - 8, xs.drop 8⟩] W2 (hHeld.1) (rdL3 ((hHeld.2.2.2.1).take 4 LN.out.1) (hHeld.2.1) (SR.out W2 (hHeld.2.2.2.1))) (by have := LN.out; simp only [cat, List.flatMap_cons, List.flatMap_nil, List.append_nil, List.length_append, List.length_take, List.length_drop, putN_length]; omega) (by simp)).mono ?_; rintro e v3 ⟨ao3, n3, c3, rfl, o3, h3⟩; have hR : (fun W : World => Bo W W1.heap.size (pcs [⟨o, 4, c, xs.take 4⟩, ⟨some ⟨g1, 0, none⟩, 4, 4, putN (U srs) 4 hh.l⟩, ⟨o8, n - 8, c - 8, xs.drop 8⟩]) 22 ∧ Rd W (some ⟨g1, 0, none⟩) 4 4 (putN (U srs) 4 hh.l) ∧ C9 W w1.heap.size hh ∧ Rd W o n c xs ∧ Below w.heap.size w W) v3 := ⟨(hHeld.1).keep h3, (hHeld.2.1).keep h3, (hHeld.2.2.1).keep h3, (hHeld.2.2.2.1).keep h3, gt hHeld.2.2.2.2 h3⟩; have hO : Ow v3 w.heap.size ao3 n3 c3 (retV xs srs hh.l) := own_base (show v3.ownsRow _ 5 1 (.slice ao3 n3 c3) n3 (bs (retV xs srs hh.l)) by simpa [cat, retV] using o3) (hHeld.2.2.2.2).size
  refine hK.out _ _ hR (fun hHeld => ?_)
  clear hK K
  (try simp only [Act.put, sA, sZ, sS])
  refine any_more (S' := (fun W : World => Ow W w.heap.size ao3 n3 c3 (retV xs srs hh.l) ∧ Bo W W1.heap.size (pcs [⟨o, 4, c, xs.take 4⟩, ⟨some ⟨g1, 0, none⟩, 4, 4, putN (U srs) 4 hh.l⟩, ⟨o8, n - 8, c - 8, xs.drop 8⟩]) 22 ∧ Rd W (some ⟨g1, 0, none⟩) 4 4 (putN (U srs) 4 hh.l) ∧ C9 W w1.heap.size hh ∧ Rd W o n c xs ∧ Below w.heap.size w W)) ⟨hO, hHeld⟩ (fun _ h => h.2) ?_; clear hR hHeld; intro W3 hHeld
  refine gkp 10 ?_
  refine gkp 11 ?_
  refine wpAnyK_done (by kernel_rfl) ?_ _
  have hO := hHeld.1
  have hB := (hHeld.2.2.2.2.2)
  unfold Ow at hO
  go_wp2
  go_ret2
  exact ⟨_, _, _, rfl, hO, hB⟩
end Go.Proofs.YtpmfedimjjifaaaGreatDoor
