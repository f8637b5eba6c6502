/- The program's Make; no statement of the seat is proved here. -/
import Derived.Test.YtpmfedimjjifaaaGreatDoorJ28
import Derived.Test.YtpmfedimjjifaaaGreatDoorJ29
import Derived.Test.YtpmfedimjjifaaaGreatDoorJ25
namespace Go.Proofs.YtpmfedimjjifaaaGreatDoor
open Go.RowKit Go.Maps
open Bxs (boxL)

/-- A shape in a block of its own, as it is read. -/
def C3 (W : World) (b : Nat) (s : Sh) : Prop := W.cell? ⟨b, 0, none⟩ = some (.int .i64 s.k) ∧ W.cell? ⟨b, 1, none⟩ = some (.slice s.xo s.xn s.xc) ∧ W.cell? ⟨b, 2, none⟩ = some (.slice s.po s.pn s.pc)
theorem C3.keep {w w' : World} {b : Nat} {s : Sh} (h : C3 w b s) (k : Below w.heap.size w w') : C3 w' b s := ⟨keep_old k h.1, keep_old k h.2.1, keep_old k h.2.2⟩
theorem C3.bx {W : World} {b : Nat} {s : Sh} (h : Bx W b s) : C3 W b s := h.cells
theorem ow_rd {W : World} {B n c : Nat} {ao : Option Addr} {xs : List Nat} (h : Ow W B ao n c xs) : Rd W ao n c xs := rd_own' h

set_option maxRecDepth 100000 in
set_option maxHeartbeats 8000000 in
theorem make_call (s : Sh) (id : Int) (l b : Bool) (w : World) (hT : Tab w) (h : In (fun b => b < w.heap.size) w s) : Calls Tryz.prog 17 #[.agg #[.int .i64 (s).k, .slice (s).xo (s).xn (s).xc, .slice (s).po (s).pn (s).pc], .int .i64 id, .bool l, .bool b] w fun e w' => ∃ ao n c, e = .returned (.slice ao n c) ∧ w'.ownsRow w.heap.size 5 1 (.slice ao n c) n (bs (makeB s id l b)) ∧ Below w.heap.size w w' := by
  have hg : Below w.heap.size w (w.alloc (.cells #[.int .i64 (s).k, .slice (s).xo (s).xn (s).xc, .slice (s).po (s).pn (s).pc] 39)) := ext1 _
  have BX := hid (Bx.new w s)
  obtain ⟨x0, x1, x2⟩ := BX.out.cells
  have CK := hid (check_call s _ (hT.keep hg) (h.grow hg))
  have GS := hid (goodSrs_call id)
  by_cases hc : checkN s = 0
  · have hck : (checkN s != 0) = false := by rw [hc]; rfl
    cases ho : okS id with
    | false =>
      rw [show makeB s id l b = [] by unfold makeB; rw [if_neg (by rw [ho]; simp)]]
      rw [ho] at GS
      rw [hc] at CK
      clear hg h hT hc ho hck
      go_enter Tryz.func17, Tryz.ntmps17
      go_wp2_with (first | (go_at_call 39; refine CK.out.mono ?_; rintro e w3 ⟨rfl, b3⟩; have H3 := hid (gt (ext1 _) b3); clear b3) | (go_at_call 34; refine (GS.out _).mono ?_; rintro e w4 ⟨rfl, b4⟩; have H4 := hid (gt H3.out b4); clear b4))
      go_ret
      exact ⟨none, 0, 0, rfl, World.ownsRow_nil _ _ _ _, H4.out⟩
    | true =>
      have HO := hid (fun W (hb : Below w.heap.size w W) => headOf_call s id l b W (h.grow hb) hc)
      have MB := hid (make_head s id l b hc ho)
      have EC := hid (fun W (hb : Below w.heap.size w W) => encode_call s l W (hT.keep hb) (h.grow hb))
      obtain ⟨H, hH⟩ : ∃ H, H = headV (ptsOf s) id l b := ⟨_, rfl⟩
      rw [← hH] at HO MB
      have HB := hid (fun W => headBytes_call H W)
      have SM := hid (show (headBs H).length + (encB s l).length ≤ 1000000000 by have h1 := headBs_len H; have h2 : (encB s l).length ≤ 100000 := (by unfold encB; rw [if_pos hc, bytesI_length]; exact size_small h hc l); have h3 : szH H.b ≤ 40 := (by unfold szH; split <;> omega); omega)
      rw [ho] at GS
      rw [hc] at CK
      rw [MB.out]
      clear hg h hT hc ho hck hH
      go_enter Tryz.func17, Tryz.ntmps17
      go_wp2_with (first | (go_at_call 39; refine CK.out.mono ?_; rintro e w3 ⟨rfl, b3⟩; have H3 := hid (gt (ext1 _) b3); have X3 := hid (C3.bx (BX.out.keep b3)); clear b3 x0 x1 x2) | (go_at_call 34; refine (GS.out _).mono ?_; rintro e w4 ⟨rfl, b4⟩; have H4 := hid (gt H3.out b4); have X4 := hid (X3.out.keep b4); clear b4))
      refine wp_region_K (S := (fun W : World => C3 W w.heap.size s ∧ Below w.heap.size w W)) (fun _ => false) (by kernel_rfl) (by exact ⟨X4.out, H4.out.drew⟩) (fun hHeld => ?_)
      refine any_more (S' := (fun W : World => C3 W w.heap.size s ∧ Below w.heap.size w W)) hHeld (fun _ h => h) ?_; clear hHeld; intro W0 hHeld
      refine gkt 0 ?_ (h := by intro W hSw; obtain ⟨⟨y0, y1, y2⟩, _⟩ := hSw; go_simp; first | done | with_reducible rfl)
      refine gkp 1 ?_
      refine gkp 2 ?_
      refine gkp 3 ?_
      refine gkt 6 ?_ (h := by intro W hSw; obtain ⟨⟨y0, y1, y2⟩, _⟩ := hSw; go_simp; first | done | with_reducible rfl)
      refine gkp 7 ?_
      refine gk1 4 (fun K hK => ?_)
      go_simp
      go_at_call 30; refine (HO.out _ (hHeld.2)).mono ?_; rintro e v1 ⟨rfl, h1⟩; have hR : (fun W : World => C3 W w.heap.size s ∧ Below w.heap.size w W) v1 := ⟨(hHeld.1).keep h1, gt hHeld.2 h1⟩
      refine hK.out _ _ hR (fun hHeld => ?_)
      clear hK K
      (try simp only [Act.put, sA, sZ, sS])
      refine any_more (S' := (fun W : World => C3 W w.heap.size s ∧ Below w.heap.size w W)) hHeld (fun _ h => h) ?_; clear hR hHeld; intro W1 hHeld
      refine gk1 5 (fun K hK => ?_)
      go_simp
      go_at_call 40; refine (HB.out _).mono ?_; rintro e v2 ⟨ao2, n2, c2, rfl, o2, h2⟩; have hR : (fun W : World => C3 W w.heap.size s ∧ Below w.heap.size w W) v2 := ⟨(hHeld.1).keep h2, gt hHeld.2 h2⟩; have hO : Ow v2 w.heap.size ao2 n2 c2 (headBs H) := own_base o2 (hHeld.2).size
      refine hK.out _ _ hR (fun hHeld => ?_)
      clear hK K
      (try simp only [Act.put, sA, sZ, sS])
      refine any_more (S' := (fun W : World => Ow W w.heap.size ao2 n2 c2 (headBs H) ∧ C3 W w.heap.size s ∧ Below w.heap.size w W)) ⟨hO, hHeld⟩ (fun _ h => h.2) ?_; clear hR hHeld; intro W2 hHeld
      refine gk1 8 (fun K hK => ?_)
      go_simp
      go_at_call 41; refine (EC.out _ (hHeld.2.2)).mono ?_; rintro e v3 ⟨ao3, n3, c3, rfl, o3, -, h3⟩; have hR : (fun W : World => Ow W w.heap.size ao2 n2 c2 (headBs H) ∧ C3 W w.heap.size s ∧ Below w.heap.size w W) v3 := ⟨(hHeld.1).keep h3, (hHeld.2.1).keep h3, gt hHeld.2.2 h3⟩; have hO : Ow v3 w.heap.size ao3 n3 c3 (encB s l) := own_base o3 (hHeld.2.2).size
      refine hK.out _ _ hR (fun hHeld => ?_)
      clear hK K
      (try simp only [Act.put, sA, sZ, sS])
      refine any_more (S' := (fun W : World => Ow W w.heap.size ao3 n3 c3 (encB s l) ∧ Ow W w.heap.size ao2 n2 c2 (headBs H) ∧ C3 W w.heap.size s ∧ Below w.heap.size w W)) ⟨hO, hHeld⟩ (fun _ h => h.2) ?_; clear hR hHeld; intro W3 hHeld
      refine gk1 9 (fun K hK => ?_)
      go_simp
      refine hK.out _ _ (by exact ⟨(hHeld.1).keep (ext1 _), (hHeld.2.1).keep (ext1 _), (hHeld.2.2.1).keep (ext1 _), gt hHeld.2.2.2 (ext1 _)⟩) (fun hHeld => ?_)
      clear hK K
      (try simp only [Act.put, sA, sZ, sS])
      refine any_more (S' := (fun W : World => Bo W W3.heap.size (pcs [⟨ao2, n2, c2, headBs H⟩, ⟨ao3, n3, c3, encB s l⟩]) 22 ∧ Ow W w.heap.size ao3 n3 c3 (encB s l) ∧ Ow W w.heap.size ao2 n2 c2 (headBs H) ∧ C3 W w.heap.size s ∧ Below w.heap.size w W)) ⟨heap_alloc_new _ _, hHeld⟩ (fun _ h => h.2) ?_; clear hHeld; intro W4 hHeld
      refine gk1 10 (fun K hK => ?_)
      go_simp
      go_at_call 35; refine (join_call W3.heap.size [⟨ao2, n2, c2, headBs H⟩, ⟨ao3, n3, c3, encB s l⟩] W4 (hHeld.1) (rdL2 (ow_rd (hHeld.2.2.1)) (ow_rd (hHeld.2.1))) (by simp only [cat, List.flatMap_cons, List.flatMap_nil, List.append_nil, List.length_append]; have := SM.out; omega) (by simp)).mono ?_; rintro e v5 ⟨ao5, n5, c5, rfl, o5, h5⟩; have hR : (fun W : World => Bo W W3.heap.size (pcs [⟨ao2, n2, c2, headBs H⟩, ⟨ao3, n3, c3, encB s l⟩]) 22 ∧ Ow W w.heap.size ao3 n3 c3 (encB s l) ∧ Ow W w.heap.size ao2 n2 c2 (headBs H) ∧ C3 W w.heap.size s ∧ Below w.heap.size w W) v5 := ⟨(hHeld.1).keep h5, (hHeld.2.1).keep h5, (hHeld.2.2.1).keep h5, (hHeld.2.2.2.1).keep h5, gt hHeld.2.2.2.2 h5⟩; have hO : Ow v5 w.heap.size ao5 n5 c5 (headBs H ++ encB s l) := own_base (show v5.ownsRow _ 5 1 (.slice ao5 n5 c5) n5 (bs (headBs H ++ encB s l)) by simpa [cat] using o5) (hHeld.2.2.2.2).size
      refine hK.out _ _ hR (fun hHeld => ?_)
      clear hK K
      (try simp only [Act.put, sA, sZ, sS])
      refine any_more (S' := (fun W : World => Ow W w.heap.size ao5 n5 c5 (headBs H ++ encB s l) ∧ Bo W W3.heap.size (pcs [⟨ao2, n2, c2, headBs H⟩, ⟨ao3, n3, c3, encB s l⟩]) 22 ∧ Ow W w.heap.size ao3 n3 c3 (encB s l) ∧ Ow W w.heap.size ao2 n2 c2 (headBs H) ∧ C3 W w.heap.size s ∧ Below w.heap.size w W)) ⟨hO, hHeld⟩ (fun _ h => h.2) ?_; clear hR hHeld; intro W5 hHeld
      refine gkp 11 ?_
      refine wpAnyK_done (by kernel_rfl) ?_ _
      have hO := hHeld.1
      have hB := (hHeld.2.2.2.2.2)
      unfold Ow at hO
      go_wp2
      go_ret
      exact ⟨_, _, _, rfl, hO, hB⟩
  · rw [show makeB s id l b = [] by unfold makeB; rw [if_neg (fun hh => hc hh.1)]]
    have hck : (checkN s != 0) = true := by simp [hc]
    generalize checkN s = cc at *
    clear hg h hT hc
    go_enter Tryz.func17, Tryz.ntmps17
    go_wp2_with (go_at_call 39; refine CK.out.mono ?_; rintro e w3 ⟨rfl, b3⟩; have H3 := hid (gt (ext1 _) b3); clear b3)
    go_ret
    exact ⟨none, 0, 0, rfl, World.ownsRow_nil _ _ _ _, H3.out⟩
end Go.Proofs.YtpmfedimjjifaaaGreatDoor

/- How a blob begins; no statement of the seat is proved here. -/
namespace Go.Proofs.YtpmfedimjjifaaaGreatDoor
open Go.RowKit Go.Maps

theorem and_fin : ∀ c : Fin 256, (bits .and .u8 (c.val : Int) 1 != 0) = (c.val % 2 == 1) ∧ (bits .and .u8 (c.val : Int) 2 != 0) = (c.val / 2 % 2 == 1) ∧ (bits .and .u8 (c.val : Int) 16 != 0) = (c.val / 16 % 2 == 1) := by decide +kernel
theorem and_bits (f : Nat) (h : f < 256) : (bits .and .u8 (f : Int) 1 != 0) = (f % 2 == 1) ∧ (bits .and .u8 (f : Int) 2 != 0) = (f / 2 % 2 == 1) ∧ (bits .and .u8 (f : Int) 16 != 0) = (f / 16 % 2 == 1) := and_fin ⟨f, h⟩
theorem Rd.take {W : World} {o : Option Addr} {n c : Nat} {xs : List Nat} (h : Rd W o n c xs) (m : Nat) (hm : m ≤ n) : Rd W o m c (xs.take m) := by
  refine ⟨by rw [List.length_take, h.1]; omega, by have := h.2.1; omega, fun e => ?_, fun h0 => ?_⟩
  · have := h.2.2.1 e; omega
  · obtain ⟨b, off, e, hc⟩ := h.2.2.2 (by omega)
    refine ⟨b, off, e, fun t ht => ?_⟩
    rw [hc t (by omega)]
    simp [List.getD, ht]
/-- A block of some head. -/
def Bz (W : World) (b : Nat) : Prop := ∃ x, B9 W b x
theorem Bz.keep {W W' : World} {b : Nat} (h : Bz W b) (k : Below W.heap.size W W') : Bz W' b := by obtain ⟨x, h⟩ := h; exact ⟨x, h.keep k⟩
theorem C9.other9 {W : World} {b c : Nat} {h : Hd} (k : C9 W c h) (hne : c ≠ b) (q : Hd) : C9 (((((((((W.setCell ⟨b, 0, none⟩ (.int .i64 q.srs)).setCell ⟨b, 1, none⟩ (.bool q.l)).setCell ⟨b, 2, none⟩ (.bool q.b)).setCell ⟨b, 3, none⟩ (.bool q.e)).setCell ⟨b, 4, none⟩ (.bool q.x.n)).setCell ⟨b, 5, none⟩ (.int .i64 q.x.lx)).setCell ⟨b, 6, none⟩ (.int .i64 q.x.ly)).setCell ⟨b, 7, none⟩ (.int .i64 q.x.hx)).setCell ⟨b, 8, none⟩ (.int .i64 q.x.hy)) c h := by
  have e : ∀ (V : World) (i j : Nat) (v : Value), (V.setCell ⟨b, i, none⟩ v).cell? ⟨c, j, none⟩ = V.cell? ⟨c, j, none⟩ := fun V i j v => World.cell?_of_block (heap_setCell_other V ⟨b, i, none⟩ c v hne)
  unfold C9 at *
  simp only [e]
  exact k
theorem slice_h (o : Option Addr) (n c m : Nat) (hm : m ≤ c) (W : World) (h0 : o = none → c = 0) : (Instr.slice 22 (.slice o n c) none (some (.int .i64 (m : Int))) none).run Tryz.prog W = .ok (.slice o m c) W := by
  cases o with
  | none =>
    obtain rfl := h0 rfl
    obtain rfl : m = 0 := by omega
    kernel_rfl
  | some a => go_simp; first | done | rfl | omega
set_option maxRecDepth 100000 in
set_option maxHeartbeats 8000000 in
theorem begun_call (o : Option Addr) (n c : Nat) (xs : List Nat) (w : World) (h : Rd w o n c xs) (hx : ∀ x ∈ xs, x < 256) (hn : n ≤ 1000000000) : Calls Tryz.prog 20 #[.slice o n c] w fun e w' => e = .returned (.tuple #[.agg #[.int .i64 ((begunV xs).1).srs, .bool ((begunV xs).1).l, .bool ((begunV xs).1).b, .bool ((begunV xs).1).e, .bool ((begunV xs).1).x.n, .int .i64 ((begunV xs).1).x.lx, .int .i64 ((begunV xs).1).x.ly, .int .i64 ((begunV xs).1).x.hx, .int .i64 ((begunV xs).1).x.hy], .bool (begunV xs).2]) ∧ Below w.heap.size w w' := by
  have BZ := hid (B9.new w noH)
  obtain ⟨m, hm⟩ : ∃ m : Nat, m = min n 3 := ⟨_, rfl⟩
  have hmi : min (n : Int) 3 = (m : Int) := by omega
  have SL := slice_h o n c m (by have := h.2.1; omega)
  have SL' : ∀ W, (Instr.slice 22 (.slice o n c) none (some (.int .i64 (m : Int))) none).run Tryz.prog W = .ok (.slice o m c) W := fun W => SL W (fun e => (h.2.2.1 e).2)
  have hl : (xs.take 3).length = m := by rw [List.length_take, h.1]; omega
  have ht3 : xs.take m = xs.take 3 := by
    rw [← hl, List.length_take]
    by_cases h3 : 3 ≤ xs.length
    · rw [Nat.min_eq_left h3]
    · rw [Nat.min_eq_right (by omega), List.take_of_length_le (Nat.le_refl _), List.take_of_length_le (by omega)]
  have CV := conv_rd ((h.keep (ext1 (.cells #[.int .i64 0, .bool false, .bool false, .bool false, .bool false, .int .i64 0, .int .i64 0, .int .i64 0, .int .i64 0] 29))).take m (by omega)) 22 9 5 Tryz.underlying22 Tryz.underlying5 Tryz.underlying9
  rw [ht3] at CV
  have PC := hid (fun W => prefix_call (xs.take 3) (by rw [hl]; omega) (fun x hx' => hx x (List.mem_of_mem_take hx')) W)
  rw [hl] at PC
  clear SL
  have arm := hid True.intro
  by_cases hp : markN.take m = xs.take 3
  · rw [decide_eq_true hp] at PC
    by_cases h3 : n ≤ 3
    · have e : begunV xs = (noH, true) := by unfold begunV; rw [hl, if_neg (by simpa using hp), if_pos (by rw [h.1]; exact h3)]
      rw [e]
      have h3' : (n : Int) ≤ 3 := by omega
      clear h hx hn hp e hl ht3 hm
      generalize str (xs.take 3) = q at *
      go_enter Tryz.func20, Tryz.ntmps20
      go_wp2_with (go_at_call 46; refine (PC.out _).mono ?_; rintro e w6 ⟨rfl, b6⟩; have H6 := hid (gt (ext1 _) b6); have Z6 := hid (BZ.out.keep b6); clear b6; obtain ⟨z0, z1, z2, z3, z4, z5, z6, z7, z8⟩ := Z6.out.c; have zf0 := Z6.out.fz 0; have zf1 := Z6.out.fz 1; have zf2 := Z6.out.fz 2; have zf3 := Z6.out.fz 3; have zf4 := Z6.out.fz 4; have zf5 := Z6.out.fz 5; have zf6 := Z6.out.fz 6; have zf7 := Z6.out.fz 7; have zf8 := Z6.out.fz 8)
      exact bodyPost_ret (ret_h2 rfl rfl (Z6.out.put noH)) rfl ⟨rfl, fr9 H6.out (Nat.le_refl _) noH⟩
    · have e : begunV xs = (flagH (xs.getD 3 0), okF (xs.getD 3 0)) := by unfold begunV; rw [hl, if_neg (by simpa using hp), if_neg (by rw [h.1]; exact h3)]
      rw [e]
      have h3' : ¬ (n : Int) ≤ 3 := by omega
      have hf : xs.getD 3 0 < 256 := getD_lt hx 3 (by rw [h.1]; omega)
      obtain ⟨b, off, rfl, hc⟩ := h.2.2.2 (by omega)
      have CF := hid (fun W (hb : Below w.heap.size w W) => keep_old hb (hc 3 (by omega)))
      have hn4 : (3 : Int) < (n : Int) := by omega
      have hn5 : 3 < n := by omega
      unfold flagH okF
      generalize xs.getD 3 0 = f at *
      obtain ⟨A1, A2, A3⟩ := and_bits f hf
      obtain ⟨g, hg⟩ : ∃ g, g = decide (fl (f % 2 == 1) (f / 2 % 2 == 1) (f / 16 % 2 == 1) = f) := ⟨_, rfl⟩
      rw [← hg]
      obtain ⟨l, hl'⟩ : ∃ l, l = (f % 2 == 1) := ⟨_, rfl⟩
      obtain ⟨bx, hb'⟩ : ∃ l, l = (f / 2 % 2 == 1) := ⟨_, rfl⟩
      obtain ⟨em, he'⟩ : ∃ l, l = (f / 16 % 2 == 1) := ⟨_, rfl⟩
      rw [← hl', ← hb', ← he'] at hg
      rw [← hl'] at A1
      rw [← hb'] at A2
      rw [← he'] at A3
      rw [← hl', ← hb', ← he']
      have FC := hid (flags_call ⟨0, l, bx, em, ⟨false, 0, 0, 0, 0⟩⟩)
      simp only at FC
      have EQ : (((fl l bx em : Nat) : Int) == (f : Int)) = g := by rw [hg, Bool.eq_iff_iff]; simp; omega
      clear h hx hn hp e hl ht3 hm hf hc hg hl' hb' he'
      generalize str (xs.take 3) = q at *
      generalize fl l bx em = fn at *
      cases g
      · clear arm
        go_enter Tryz.func20, Tryz.ntmps20
        go_wp2_with (go_at_call 46; refine (PC.out _).mono ?_; rintro e w6 ⟨rfl, b6⟩; have H6 := hid (gt (ext1 _) b6); have Z6 := hid (BZ.out.keep b6); have c6 := CF.out _ H6.out; have hlow := H6.out; clear b6)
        have G6 := hid (gt H6.out (ext1 (.cells #[.int .i64 0, .bool l, .bool bx, .bool em, .bool false, .int .i64 0, .int .i64 0, .int .i64 0, .int .i64 0] 29)))
        refine wp_region_K (S := (fun W : World => Bz W w.heap.size ∧ C9 W w6.heap.size ⟨0, l, bx, em, ⟨false, 0, 0, 0, 0⟩⟩ ∧ Below w.heap.size w W)) (fun _ => false) (by kernel_rfl) (by exact ⟨⟨_, (Z6.out.keep (ext1 _)).keep (Below.refl _ _).drew⟩, (B9.new w6 ⟨0, l, bx, em, ⟨false, 0, 0, 0, 0⟩⟩).c, G6.out.drew⟩) (fun hHeld => ?_)
        refine any_more (S' := (fun W : World => Bz W w.heap.size ∧ C9 W w6.heap.size ⟨0, l, bx, em, ⟨false, 0, 0, 0, 0⟩⟩ ∧ Below w.heap.size w W)) hHeld (fun _ h => h) ?_; clear hHeld; intro W0 hHeld
        refine gkt 0 ?_ (h := by intro W hSw; obtain ⟨_, ⟨y0, y1, y2, y3, y4, y5, y6, y7, y8⟩, _⟩ := hSw; go_simp; first | done | with_reducible rfl)
        refine gkt 1 ?_ (h := by intro W hSw; obtain ⟨_, ⟨y0, y1, y2, y3, y4, y5, y6, y7, y8⟩, _⟩ := hSw; go_simp; first | done | with_reducible rfl)
        refine gkp 3 ?_
        refine gk1 2 (fun K hK => ?_)
        go_simp
        go_at_call 47; refine (FC.out _).mono ?_; rintro e v1 ⟨rfl, h1⟩; have hR : (fun W : World => Bz W w.heap.size ∧ C9 W w6.heap.size ⟨0, l, bx, em, ⟨false, 0, 0, 0, 0⟩⟩ ∧ Below w.heap.size w W) v1 := ⟨(hHeld.1).keep h1, (hHeld.2.1).keep h1, gt hHeld.2.2 h1⟩
        refine hK.out _ _ hR (fun hHeld => ?_)
        clear hK K
        (try simp only [Act.put, sA, sZ, sS])
        refine any_more (S' := (fun W : World => Bz W w.heap.size ∧ C9 W w6.heap.size ⟨0, l, bx, em, ⟨false, 0, 0, 0, 0⟩⟩ ∧ Below w.heap.size w W)) hHeld (fun _ h => h) ?_; clear hR hHeld; intro W1 hHeld
        refine gkp 4 ?_ (v := .bool false) (h := by intro W hSw; go_simp; first | done | rfl)
        refine gkp 5 ?_
        refine gku 6 ?_
        refine gku 7 ?_
        refine gku 8 ?_
        refine gku 9 ?_
        refine gku 10 ?_
        refine gku 11 ?_
        refine gku 12 ?_
        refine gkp 13 ?_
        refine gk1 14 (fun K hK => ?_)
        obtain ⟨zx, hzx⟩ := hHeld.1; have ZZ := hid hzx; clear hzx; obtain ⟨z0, z1, z2, z3, z4, z5, z6, z7, z8⟩ := ZZ.out.c; have zf0 := ZZ.out.fz 0; have zf1 := ZZ.out.fz 1; have zf2 := ZZ.out.fz 2; have zf3 := ZZ.out.fz 3; have zf4 := ZZ.out.fz 4; have zf5 := ZZ.out.fz 5; have zf6 := ZZ.out.fz 6; have zf7 := ZZ.out.fz 7; have zf8 := ZZ.out.fz 8
        go_simp
        refine hK.out _ _ (by exact ⟨⟨_, ZZ.out.put ⟨0, l, bx, em, ⟨false, 0, 0, 0, 0⟩⟩⟩, C9.other9 (hHeld.2.1) (by have := H6.out.size; have := Z6.out.lt; omega) ⟨0, l, bx, em, ⟨false, 0, 0, 0, 0⟩⟩, fr9 (hHeld.2.2) (Nat.le_refl _) ⟨0, l, bx, em, ⟨false, 0, 0, 0, 0⟩⟩⟩) (fun hHeld => ?_)
        clear hK K
        (try simp only [Act.put, sA, sZ, sS])
        refine any_more (S' := (fun W : World => B9 W w.heap.size ⟨0, l, bx, em, ⟨false, 0, 0, 0, 0⟩⟩ ∧ Bz W w.heap.size ∧ C9 W w6.heap.size ⟨0, l, bx, em, ⟨false, 0, 0, 0, 0⟩⟩ ∧ Below w.heap.size w W)) ⟨(ZZ.out.put ⟨0, l, bx, em, ⟨false, 0, 0, 0, 0⟩⟩), hHeld⟩ (fun _ h => h.2) ?_; clear hHeld; intro W2 hHeld
        refine gkp 15 ?_
        refine wpAnyK_done (by kernel_rfl) ?_ _
        have Z8 := hHeld.1
        have h8 := (hHeld.2.2.2)
        go_wp2
        exact bodyPost_ret (ret_h2 rfl rfl Z8) rfl ⟨rfl, h8⟩
      · cases bx
        · clear arm
          go_enter Tryz.func20, Tryz.ntmps20
          go_wp2_with (go_at_call 46; refine (PC.out _).mono ?_; rintro e w6 ⟨rfl, b6⟩; have H6 := hid (gt (ext1 _) b6); have Z6 := hid (BZ.out.keep b6); have c6 := CF.out _ H6.out; have hlow := H6.out; clear b6)
          have G6 := hid (gt H6.out (ext1 (.cells #[.int .i64 0, .bool l, .bool false, .bool em, .bool false, .int .i64 0, .int .i64 0, .int .i64 0, .int .i64 0] 29)))
          refine wp_region_K (S := (fun W : World => Bz W w.heap.size ∧ C9 W w6.heap.size ⟨0, l, false, em, ⟨false, 0, 0, 0, 0⟩⟩ ∧ Below w.heap.size w W)) (fun _ => false) (by kernel_rfl) (by exact ⟨⟨_, (Z6.out.keep (ext1 _)).keep (Below.refl _ _).drew⟩, (B9.new w6 ⟨0, l, false, em, ⟨false, 0, 0, 0, 0⟩⟩).c, G6.out.drew⟩) (fun hHeld => ?_)
          refine any_more (S' := (fun W : World => Bz W w.heap.size ∧ C9 W w6.heap.size ⟨0, l, false, em, ⟨false, 0, 0, 0, 0⟩⟩ ∧ Below w.heap.size w W)) hHeld (fun _ h => h) ?_; clear hHeld; intro W0 hHeld
          refine gkt 0 ?_ (h := by intro W hSw; obtain ⟨_, ⟨y0, y1, y2, y3, y4, y5, y6, y7, y8⟩, _⟩ := hSw; go_simp; first | done | with_reducible rfl)
          refine gkt 1 ?_ (h := by intro W hSw; obtain ⟨_, ⟨y0, y1, y2, y3, y4, y5, y6, y7, y8⟩, _⟩ := hSw; go_simp; first | done | with_reducible rfl)
          refine gkp 3 ?_
          refine gk1 2 (fun K hK => ?_)
          go_simp
          go_at_call 47; refine (FC.out _).mono ?_; rintro e v1 ⟨rfl, h1⟩; have hR : (fun W : World => Bz W w.heap.size ∧ C9 W w6.heap.size ⟨0, l, false, em, ⟨false, 0, 0, 0, 0⟩⟩ ∧ Below w.heap.size w W) v1 := ⟨(hHeld.1).keep h1, (hHeld.2.1).keep h1, gt hHeld.2.2 h1⟩
          refine hK.out _ _ hR (fun hHeld => ?_)
          clear hK K
          (try simp only [Act.put, sA, sZ, sS])
          refine any_more (S' := (fun W : World => Bz W w.heap.size ∧ C9 W w6.heap.size ⟨0, l, false, em, ⟨false, 0, 0, 0, 0⟩⟩ ∧ Below w.heap.size w W)) hHeld (fun _ h => h) ?_; clear hR hHeld; intro W1 hHeld
          refine gkp 4 ?_ (v := .bool true) (h := by intro W hSw; go_simp; first | done | rfl)
          refine gkp 5 ?_
          refine gkp 6 ?_
          refine gkt 7 ?_ (h := by intro W hSw; obtain ⟨_, ⟨y0, y1, y2, y3, y4, y5, y6, y7, y8⟩, _⟩ := hSw; go_simp; first | done | with_reducible rfl)
          refine gkp 8 ?_
          refine gku 9 ?_
          refine gku 10 ?_
          refine gkp 11 ?_
          refine gkp 12 ?_
          refine gkp 13 ?_
          refine gk1 14 (fun K hK => ?_)
          obtain ⟨zx, hzx⟩ := hHeld.1; have ZZ := hid hzx; clear hzx; obtain ⟨z0, z1, z2, z3, z4, z5, z6, z7, z8⟩ := ZZ.out.c; have zf0 := ZZ.out.fz 0; have zf1 := ZZ.out.fz 1; have zf2 := ZZ.out.fz 2; have zf3 := ZZ.out.fz 3; have zf4 := ZZ.out.fz 4; have zf5 := ZZ.out.fz 5; have zf6 := ZZ.out.fz 6; have zf7 := ZZ.out.fz 7; have zf8 := ZZ.out.fz 8
          go_simp
          refine hK.out _ _ (by exact ⟨⟨_, ZZ.out.put ⟨0, l, false, em, ⟨false, 0, 0, 0, 0⟩⟩⟩, C9.other9 (hHeld.2.1) (by have := H6.out.size; have := Z6.out.lt; omega) ⟨0, l, false, em, ⟨false, 0, 0, 0, 0⟩⟩, fr9 (hHeld.2.2) (Nat.le_refl _) ⟨0, l, false, em, ⟨false, 0, 0, 0, 0⟩⟩⟩) (fun hHeld => ?_)
          clear hK K
          (try simp only [Act.put, sA, sZ, sS])
          refine any_more (S' := (fun W : World => B9 W w.heap.size ⟨0, l, false, em, ⟨false, 0, 0, 0, 0⟩⟩ ∧ Bz W w.heap.size ∧ C9 W w6.heap.size ⟨0, l, false, em, ⟨false, 0, 0, 0, 0⟩⟩ ∧ Below w.heap.size w W)) ⟨(ZZ.out.put ⟨0, l, false, em, ⟨false, 0, 0, 0, 0⟩⟩), hHeld⟩ (fun _ h => h.2) ?_; clear hHeld; intro W2 hHeld
          refine gkp 15 ?_
          refine wpAnyK_done (by kernel_rfl) ?_ _
          have Z8 := hHeld.1
          have h8 := (hHeld.2.2.2)
          go_wp2
          exact bodyPost_ret (ret_h2 rfl rfl Z8) rfl ⟨rfl, h8⟩
        · clear arm
          go_enter Tryz.func20, Tryz.ntmps20
          go_wp2_with (go_at_call 46; refine (PC.out _).mono ?_; rintro e w6 ⟨rfl, b6⟩; have H6 := hid (gt (ext1 _) b6); have Z6 := hid (BZ.out.keep b6); have c6 := CF.out _ H6.out; have hlow := H6.out; clear b6)
          have G6 := hid (gt H6.out (ext1 (.cells #[.int .i64 0, .bool l, .bool true, .bool em, .bool false, .int .i64 0, .int .i64 0, .int .i64 0, .int .i64 0] 29)))
          refine wp_region_K (S := (fun W : World => Bz W w.heap.size ∧ C9 W w6.heap.size ⟨0, l, true, em, ⟨false, 0, 0, 0, 0⟩⟩ ∧ Below w.heap.size w W)) (fun _ => false) (by kernel_rfl) (by exact ⟨⟨_, (Z6.out.keep (ext1 _)).keep (Below.refl _ _).drew⟩, (B9.new w6 ⟨0, l, true, em, ⟨false, 0, 0, 0, 0⟩⟩).c, G6.out.drew⟩) (fun hHeld => ?_)
          refine any_more (S' := (fun W : World => Bz W w.heap.size ∧ C9 W w6.heap.size ⟨0, l, true, em, ⟨false, 0, 0, 0, 0⟩⟩ ∧ Below w.heap.size w W)) hHeld (fun _ h => h) ?_; clear hHeld; intro W0 hHeld
          refine gkt 0 ?_ (h := by intro W hSw; obtain ⟨_, ⟨y0, y1, y2, y3, y4, y5, y6, y7, y8⟩, _⟩ := hSw; go_simp; first | done | with_reducible rfl)
          refine gkt 1 ?_ (h := by intro W hSw; obtain ⟨_, ⟨y0, y1, y2, y3, y4, y5, y6, y7, y8⟩, _⟩ := hSw; go_simp; first | done | with_reducible rfl)
          refine gkp 3 ?_
          refine gk1 2 (fun K hK => ?_)
          go_simp
          go_at_call 47; refine (FC.out _).mono ?_; rintro e v1 ⟨rfl, h1⟩; have hR : (fun W : World => Bz W w.heap.size ∧ C9 W w6.heap.size ⟨0, l, true, em, ⟨false, 0, 0, 0, 0⟩⟩ ∧ Below w.heap.size w W) v1 := ⟨(hHeld.1).keep h1, (hHeld.2.1).keep h1, gt hHeld.2.2 h1⟩
          refine hK.out _ _ hR (fun hHeld => ?_)
          clear hK K
          (try simp only [Act.put, sA, sZ, sS])
          refine any_more (S' := (fun W : World => Bz W w.heap.size ∧ C9 W w6.heap.size ⟨0, l, true, em, ⟨false, 0, 0, 0, 0⟩⟩ ∧ Below w.heap.size w W)) hHeld (fun _ h => h) ?_; clear hR hHeld; intro W1 hHeld
          refine gkp 4 ?_ (v := .bool true) (h := by intro W hSw; go_simp; first | done | rfl)
          refine gkp 5 ?_
          refine gkp 6 ?_
          refine gkt 7 ?_ (h := by intro W hSw; obtain ⟨_, ⟨y0, y1, y2, y3, y4, y5, y6, y7, y8⟩, _⟩ := hSw; go_simp; first | done | with_reducible rfl)
          refine gkp 8 ?_
          refine gkp 9 ?_
          refine gkt 10 ?_ (h := by intro W hSw; obtain ⟨_, ⟨y0, y1, y2, y3, y4, y5, y6, y7, y8⟩, _⟩ := hSw; go_simp; first | done | with_reducible rfl)
          refine gkp 11 ?_
          refine gkp 12 ?_
          refine gkp 13 ?_
          refine gk1 14 (fun K hK => ?_)
          obtain ⟨zx, hzx⟩ := hHeld.1; have ZZ := hid hzx; clear hzx; obtain ⟨z0, z1, z2, z3, z4, z5, z6, z7, z8⟩ := ZZ.out.c; have zf0 := ZZ.out.fz 0; have zf1 := ZZ.out.fz 1; have zf2 := ZZ.out.fz 2; have zf3 := ZZ.out.fz 3; have zf4 := ZZ.out.fz 4; have zf5 := ZZ.out.fz 5; have zf6 := ZZ.out.fz 6; have zf7 := ZZ.out.fz 7; have zf8 := ZZ.out.fz 8
          go_simp
          refine hK.out _ _ (by exact ⟨⟨_, ZZ.out.put ⟨0, l, true, em, ⟨false, 0, 0, 0, 0⟩⟩⟩, C9.other9 (hHeld.2.1) (by have := H6.out.size; have := Z6.out.lt; omega) ⟨0, l, true, em, ⟨false, 0, 0, 0, 0⟩⟩, fr9 (hHeld.2.2) (Nat.le_refl _) ⟨0, l, true, em, ⟨false, 0, 0, 0, 0⟩⟩⟩) (fun hHeld => ?_)
          clear hK K
          (try simp only [Act.put, sA, sZ, sS])
          refine any_more (S' := (fun W : World => B9 W w.heap.size ⟨0, l, true, em, ⟨false, 0, 0, 0, 0⟩⟩ ∧ Bz W w.heap.size ∧ C9 W w6.heap.size ⟨0, l, true, em, ⟨false, 0, 0, 0, 0⟩⟩ ∧ Below w.heap.size w W)) ⟨(ZZ.out.put ⟨0, l, true, em, ⟨false, 0, 0, 0, 0⟩⟩), hHeld⟩ (fun _ h => h.2) ?_; clear hHeld; intro W2 hHeld
          refine gkp 15 ?_
          refine wpAnyK_done (by kernel_rfl) ?_ _
          have Z8 := hHeld.1
          have h8 := (hHeld.2.2.2)
          go_wp2
          exact bodyPost_ret (ret_h2 rfl rfl Z8) rfl ⟨rfl, h8⟩
  · rw [decide_eq_false hp] at PC
    have e : begunV xs = (noH, false) := by unfold begunV; rw [hl, if_pos hp]
    rw [e]
    clear h hx hn hp e hl ht3 hm
    generalize str (xs.take 3) = q at *
    go_enter Tryz.func20, Tryz.ntmps20
    go_wp2_with (go_at_call 46; refine (PC.out _).mono ?_; rintro e w6 ⟨rfl, b6⟩; have H6 := hid (gt (ext1 _) b6); have Z6 := hid (BZ.out.keep b6); clear b6; obtain ⟨z0, z1, z2, z3, z4, z5, z6, z7, z8⟩ := Z6.out.c; have zf0 := Z6.out.fz 0; have zf1 := Z6.out.fz 1; have zf2 := Z6.out.fz 2; have zf3 := Z6.out.fz 3; have zf4 := Z6.out.fz 4; have zf5 := Z6.out.fz 5; have zf6 := Z6.out.fz 6; have zf7 := Z6.out.fz 7; have zf8 := Z6.out.fz 8)
    exact bodyPost_ret (ret_h2 rfl rfl (Z6.out.put noH)) rfl ⟨rfl, fr9 H6.out (Nat.le_refl _) noH⟩
end Go.Proofs.YtpmfedimjjifaaaGreatDoor

/- The document's example, and the law BlobMakes; no statement of the seat is proved here. -/
namespace Go.Proofs.YtpmfedimjjifaaaGreatDoor
open Go.RowKit Go.Maps

theorem exP_check {W : World} {b : Nat} {u : TypeId} (hb : W.heap[b]? = some (.cells #[.int .i64 1, .int .i64 2] u)) : checkN (exP b) = 0 := by
  have e : (exP b).t = .mk 1 [(1, 2)] [] := by unfold exP; rw [Sh.t, tL]
  rw [chk_eq (exP_in hb), e]
  decide +kernel
def exL : List Nat := [71, 80, 0, 0, 0, 0, 16, 230, 0, 0, 0, 0, 1, 0, 0, 0, 0, 0, 0, 0, 1, 0, 0, 0, 0, 0, 0, 0, 2]
theorem exP_make {W : World} {b : Nat} {u : TypeId} (hb : W.heap[b]? = some (.cells #[.int .i64 1, .int .i64 2] u)) : makeB (exP b) 4326 false false = exL := by
  rw [make_head (exP b) 4326 false false (exP_check hb) (by decide), exP_enc hb]
  have e : ptsOf (exP b) = [(1, 2)] := by rw [← pt_of]; unfold exP; rw [Sh.t, tL, T.pt, ptL]; rfl
  rw [e]
  decide +kernel
set_option maxRecDepth 100000 in
set_option maxHeartbeats 8000000 in
theorem lives_call (w : World) (hT : Tab w) : Calls Tryz.prog 5 #[] w fun e w' => e = .returned (.bool true) ∧ Below w.heap.size w w' := by
  have EC := hid (make_call (exP (w.heap.size)) 4326 false false _ (hT.keep (ext1 (.cells #[.int .i64 1, .int .i64 2] 25))) (exP_in (heap_alloc_new w _)))
  rw [exP_make (heap_alloc_new w (.cells #[.int .i64 1, .int .i64 2] 25))] at EC
  clear hT
  go_enter Tryz.func5, Tryz.ntmps5
  go_wp2_with (go_at_call 17; refine EC.out.mono ?_; rintro e w3 ⟨a3, n3, c3, rfl, o3, b3⟩; have H3 := hid b3; obtain rfl : n3 = 29 := (by have := o3.1; rw [bs_length] at this; simp [exL] at this; omega); have R3 := rd_own' o3; have h29 : 29 ≤ c3 := R3.2.1; have SL : ∀ W, (Instr.slice 22 (.slice a3 29 c3) none (some (.int .i64 8)) none).run Tryz.prog W = .ok (.slice a3 8 c3) W := (fun W => slice_h a3 29 c3 8 (by omega) W (fun e => (R3.2.2.1 e).2)); have CV := conv_rd (P := Tryz.prog) (R3.take 8 (by omega)) 22 9 5 Tryz.underlying22 Tryz.underlying5 Tryz.underlying9; clear o3 b3 R3)
  go_ret
  exact ⟨congrArg (fun b => Ending.returned (.bool b)) (by decide +kernel), gt (ext1 _) H3.out⟩

/-- What a blob is made with, in a block of its own. -/
def Cq (W : World) (b : Nat) (z : Int) (l x : Bool) : Prop := W.cell? ⟨b, 0, none⟩ = some (.int .i64 z) ∧ W.cell? ⟨b, 1, none⟩ = some (.bool l) ∧ W.cell? ⟨b, 2, none⟩ = some (.bool x)
theorem Cq.keep {w w' : World} {b : Nat} {z : Int} {l x : Bool} (h : Cq w b z l x) (k : Below w.heap.size w w') : Cq w' b z l x := ⟨keep_old k h.1, keep_old k h.2.1, keep_old k h.2.2⟩
theorem Cq.of {W : World} {b : Nat} {z : Int} {l x : Bool} {t : TypeId} (h : Bo W b #[.int .i64 z, .bool l, .bool x] t) : Cq W b z l x := ⟨h.cell 0 _ rfl, h.cell 1 _ rfl, h.cell 2 _ rfl⟩
end Go.Proofs.YtpmfedimjjifaaaGreatDoor
