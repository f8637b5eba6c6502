/- Waste of the program; no statement of the seat is proved here. Waste of the document; no statement of the seat is proved here. -/
import Derived.Test.YtjlahomjhadnkaaGx
namespace Go.Proofs.Ytjlahomjhadnkaa
open Go.RowKit Go.Maps Wid

def ownN (a b : Rect) : Nat := areaN a + areaN b
def wasteN (a b : Rect) : Nat := if ownN a b ≤ areaN (uniR a b) then areaN (uniR a b) - ownN a b else ownN a b - areaN (uniR a b)
def wasteB (a b : Rect) : Bool := if ownN a b ≤ areaN (uniR a b) then false else true
theorem own_lt {a b : Rect} (ha : Bd a) (hb : Bd b) : ownN a b < 6277101735386680763835789423207666416102355444464034512896 := by
  have h1 := area_lt ha
  have h2 := area_lt hb
  unfold ownN
  omega

theorem C5.far3 {W : World} {b c : Nat} {r : Rect} (h : C5 W c r) (hc : c ≠ b) (u v x : Value) : C5 (((W.setCell ⟨b, 0, none⟩ u).setCell ⟨b, 1, none⟩ v).setCell ⟨b, 2, none⟩ x) c r := by
  have k : ∀ j, (((W.setCell ⟨b, 0, none⟩ u).setCell ⟨b, 1, none⟩ v).setCell ⟨b, 2, none⟩ x).cell? ⟨c, j, none⟩ = W.cell? ⟨c, j, none⟩ := fun j => by
    rw [World.cell?_setCell_other _ _ _ _ (fun e => hc (Addr.mk.inj e).1.symm), World.cell?_setCell_other _ _ _ _ (fun e => hc (Addr.mk.inj e).1.symm), World.cell?_setCell_other _ _ _ _ (fun e => hc (Addr.mk.inj e).1.symm)]
  unfold C5
  rw [k, k, k, k, k]
  exact h
set_option maxRecDepth 100000 in
set_option maxHeartbeats 16000000 in
theorem waste_call (a b : Rect) (ha : Bd a) (hb : Bd b) (w : World) : Calls Try.prog 8 #[.agg #[.bool (a).n, .int .i64 (a).lx, .int .i64 (a).ly, .int .i64 (a).hx, .int .i64 (a).hy], .agg #[.bool (b).n, .int .i64 (b).lx, .int .i64 (b).ly, .int .i64 (b).hx, .int .i64 (b).hy]] w fun e w' => e = .returned (.tuple #[.agg #[.int .u64 (W0 (wasteN a b)), .int .u64 (W1 (wasteN a b)), .int .u64 (W2 (wasteN a b))], .bool (wasteB a b)]) ∧ Below w.heap.size w w' := by
  have UC := hid (union_call a b)
  have AU := hid (area_call (uniR a b) (bd_uni ha hb))
  have AA := hid (area_call a ha)
  have AB := hid (area_call b hb)
  have DC := hid (fun W => show Calls Try.prog 37 #[.agg #[.int .u64 (W0 (areaN a)), .int .u64 (W1 (areaN a)), .int .u64 (W2 (areaN a))], .agg #[.int .u64 (W0 (areaN b)), .int .u64 (W1 (areaN b)), .int .u64 (W2 (areaN b))]] W fun e w' => e = .returned (.tuple #[.agg #[.int .u64 (W0 (ownN a b)), .int .u64 (W1 (ownN a b)), .int .u64 (W2 (ownN a b))], .bool true]) ∧ Below W.heap.size W w' from add_any (areaN a) (areaN b) (u192 (area_lt ha)) (u192 (area_lt hb)) W (own_lt ha hb))
  have h1 := u192 (area_lt (bd_uni ha hb))
  have h2 := own_lt ha hb
  by_cases hle : ownN a b ≤ areaN (uniR a b)
  · rw [show wasteN a b = areaN (uniR a b) - ownN a b from if_pos hle, show wasteB a b = false from if_pos hle]
    have S1 := hid (fun W => sub_any (areaN (uniR a b)) (ownN a b) h1 h2 W hle)
    clear h1 h2
    generalize areaN (uniR a b) - ownN a b = gg at *
    generalize areaN (uniR a b) = nu at *
    generalize ownN a b = ow at *
    generalize areaN a = na at *
    generalize areaN b = nb at *
    generalize uniR a b = U at *
    clear hle ha hb
    go_enter Try.func8, Try.ntmps8
    go_wp2
    refine wp_region_K (S := (fun W : World => C5 W (w.heap.size) a ∧ C5 W (w.heap.size + 1) b ∧ B3 W (w.heap.size + 1 + 1) 0 ∧ Below w.heap.size w W)) (fun i => i == 9) (by kernel_rfl) (⟨by exact C5.of (by repeat (first | (refine at_new ?_; first | with_reducible rfl | (simp only [World.size_alloc]; done)) | refine at_old ?_)), by exact C5.of (by repeat (first | (refine at_new ?_; first | with_reducible rfl | (simp only [World.size_alloc]; done)) | refine at_old ?_)), by exact B3.zero (by repeat (first | (refine at_new ?_; first | with_reducible rfl | (simp only [World.size_alloc]; done)) | refine at_old ?_)), (by repeat (first | with_reducible exact Below.refl _ _ | with_reducible assumption | with_reducible refine Below.drew ?_ | with_reducible refine below_drewN ?_ _ | with_reducible refine Below.alloc ?_ (by simp <;> omega) _ | with_reducible refine Below.setCell ?_ (by simp <;> omega) _))⟩) (fun hHeld => ?_)
    refine gkt 0 ?_ (h := by intro W hSw; obtain ⟨⟨y0, y1, y2, y3, y4⟩, ⟨y5, y6, y7, y8, y9⟩, _, _⟩ := hSw; go_simp; first | done | with_reducible rfl)
    refine gkt 2 ?_ (h := by intro W hSw; obtain ⟨⟨y0, y1, y2, y3, y4⟩, ⟨y5, y6, y7, y8, y9⟩, _, _⟩ := hSw; go_simp; first | done | with_reducible rfl)
    refine wpAnyK_ready (rs := [1, 8]) (by kernel_rfl) (by simp) ?_
    refine AllReadyK.cons (at_op _ _ _ rfl) (fun K hK => ?_) ?_
    · as_aux_lemma =>
        go_simp
        go_at_call 21; refine (AA.out _).mono ?_; rintro e v1 ⟨rfl, h1⟩; have hR : (fun W : World => C5 W (w.heap.size) a ∧ C5 W (w.heap.size + 1) b ∧ B3 W (w.heap.size + 1 + 1) 0 ∧ Below w.heap.size w W) v1 := ⟨hHeld.1.keep h1, hHeld.2.1.keep h1, hHeld.2.2.1.keep h1, gt hHeld.2.2.2 h1⟩; clear h1
        refine hK.out _ _ hR (fun hHeld => ?_)
        clear hK K
        (try simp only [Act.put, sA, sZ, sS])
        refine wpAnyK_ready (rs := [3, 8]) (by kernel_rfl) (by simp) ?_
        refine AllReadyK.cons (at_op _ _ _ rfl) (fun K hK => ?_) ?_
        · as_aux_lemma =>
            go_simp
            go_at_call 21; refine (AB.out _).mono ?_; rintro e v2 ⟨rfl, h2⟩; have hR : (fun W : World => C5 W (w.heap.size) a ∧ C5 W (w.heap.size + 1) b ∧ B3 W (w.heap.size + 1 + 1) 0 ∧ Below w.heap.size w W) v2 := ⟨hHeld.1.keep h2, hHeld.2.1.keep h2, hHeld.2.2.1.keep h2, gt hHeld.2.2.2 h2⟩; clear h2
            refine hK.out _ _ hR (fun hHeld => ?_)
            clear hK K
            (try simp only [Act.put, sA, sZ, sS])
            refine wpAnyK_ready (rs := [4, 8]) (by kernel_rfl) (by simp) ?_
            refine AllReadyK.cons (at_op _ _ _ rfl) (fun K hK => ?_) ?_
            · as_aux_lemma =>
                go_simp
                go_at_call 37; refine (DC.out _).mono ?_; rintro e v3 ⟨rfl, h3⟩; have hR : (fun W : World => C5 W (w.heap.size) a ∧ C5 W (w.heap.size + 1) b ∧ B3 W (w.heap.size + 1 + 1) 0 ∧ Below w.heap.size w W) v3 := ⟨hHeld.1.keep h3, hHeld.2.1.keep h3, hHeld.2.2.1.keep h3, gt hHeld.2.2.2 h3⟩; clear h3
                refine hK.out _ _ hR (fun hHeld => ?_)
                clear hK K
                (try simp only [Act.put, sA, sZ, sS])
                refine gkp 5 ?_
                refine gkp 6 ?_
                refine gkp 7 ?_
                refine gk1 8 (fun K hK => ?_)
                have hlt := (hHeld.2.2.1).lt
                go_simp
                refine hK.out _ _ (by exact ⟨hHeld.1.keep (ext1 _), hHeld.2.1.keep (ext1 _), hHeld.2.2.1.keep (ext1 _), gt hHeld.2.2.2 (ext1 _)⟩) (fun hHeld => ?_)
                clear hK K
                (try simp only [Act.put, sA, sZ, sS])
                refine wpAnyK_more (S' := (fun W : World => B3 W (v3.heap.size) 0 ∧ C5 W (w.heap.size) a ∧ C5 W (w.heap.size + 1) b ∧ B3 W (w.heap.size + 1 + 1) 0 ∧ Below w.heap.size w W)) (fun W h => h.2) ?_
                replace hHeld : (fun W : World => B3 W (v3.heap.size) 0 ∧ C5 W (w.heap.size) a ∧ C5 W (w.heap.size + 1) b ∧ B3 W (w.heap.size + 1 + 1) 0 ∧ Below w.heap.size w W) _ := ⟨by exact B3.zero (by repeat (first | (refine at_new ?_; first | with_reducible rfl | (simp only [World.size_alloc]; done)) | refine at_old ?_)), hHeld⟩
                obtain ⟨va1, hva1⟩ : ∃ W : World, W = (v3).alloc (.cells #[.int .u64 0, .int .u64 0, .int .u64 0] 28) := ⟨_, rfl⟩
                rw [← hva1] at hHeld ⊢
                clear hva1
                refine gkl 9 (fun K hK => ?_)
                have Z := hHeld.1; obtain ⟨u0, u1, u2⟩ := Z.c; have g0 := Z.fz 0; have g1 := Z.fz 1; have g2 := Z.fz 2; have hc := hHeld.2.2.2.2
                go_simp
                refine hK.out _ _ ?_
                clear hK K
                (try simp only [Act.put, sA, sZ, sS])
                refine gkp 10 ?_
                refine wpAnyK_done (by kernel_rfl) ?_ _
                have Z1 := Z.set ow
                have Z0 := (hHeld.2.2.2.1).far3 (show w.heap.size + 1 + 1 ≠ v3.heap.size by omega) (.int .u64 (W0 ow)) (.int .u64 (W1 ow)) (.int .u64 (W2 ow))
                have hd := show Below w.heap.size w ((((va1).setCell ⟨v3.heap.size, 0, none⟩ (.int .u64 (W0 ow))).setCell ⟨v3.heap.size, 1, none⟩ (.int .u64 (W1 ow))).setCell ⟨v3.heap.size, 2, none⟩ (.int .u64 (W2 ow))) from (by repeat (first | with_reducible exact Below.refl _ _ | with_reducible assumption | with_reducible refine Below.drew ?_ | with_reducible refine below_drewN ?_ _ | with_reducible refine Below.alloc ?_ (by simp <;> omega) _ | with_reducible refine Below.setCell ?_ (by simp <;> omega) _))
                have ZA := C5.far3 (hHeld.2.1) (show w.heap.size ≠ v3.heap.size by omega) (.int .u64 (W0 ow)) (.int .u64 (W1 ow)) (.int .u64 (W2 ow))
                have ZB := C5.far3 (hHeld.2.2.1) (show w.heap.size + 1 ≠ v3.heap.size by omega) (.int .u64 (W0 ow)) (.int .u64 (W1 ow)) (.int .u64 (W2 ow))
                clear hHeld hc u0 u1 u2 g0 g1 g2 Z
                obtain ⟨w9, hw9⟩ : ∃ W : World, W = (((va1).setCell ⟨v3.heap.size, 0, none⟩ (.int .u64 (W0 ow))).setCell ⟨v3.heap.size, 1, none⟩ (.int .u64 (W1 ow))).setCell ⟨v3.heap.size, 2, none⟩ (.int .u64 (W2 ow)) := ⟨_, rfl⟩
                rw [← hw9] at Z1 Z0 ZA ZB hd ⊢
                clear hw9
                have F := hid (show (fun W : World => C5 W (w.heap.size) a ∧ C5 W (w.heap.size + 1) b ∧ B3 W (w.heap.size + 1 + 1) 0 ∧ B3 W (v3.heap.size) ow ∧ Below w.heap.size w W) w9 from ⟨ZA, ZB, Z0, Z1, hd⟩)
                clear Z1 Z0 ZA ZB hd hlt
                obtain ⟨y0_0, y0_1, y0_2, y0_3, y0_4⟩ := F.out.1
                obtain ⟨y1_0, y1_1, y1_2, y1_3, y1_4⟩ := F.out.2.1
                obtain ⟨y2_0, y2_1, y2_2⟩ := F.out.2.2.1.c
                have f2_0 := F.out.2.2.1.fz 0
                have f2_1 := F.out.2.2.1.fz 1
                have f2_2 := F.out.2.2.1.fz 2
                obtain ⟨y3_0, y3_1, y3_2⟩ := F.out.2.2.2.1.c
                have f3_0 := F.out.2.2.2.1.fz 0
                have f3_1 := F.out.2.2.2.1.fz 1
                have f3_2 := F.out.2.2.2.1.fz 2
                have hlow := F.out.2.2.2.2
                go_wp2_with (first | (go_at_call 12; refine (UC.out _).mono ?_; rintro e w6 ⟨rfl, h6⟩; clear y0_0 y0_1 y0_2 y0_3 y0_4 y1_0 y1_1 y1_2 y1_3 y1_4 y2_0 y2_1 y2_2 f2_0 f2_1 f2_2 y3_0 y3_1 y3_2 f3_0 f3_1 f3_2 hlow; have F := hid (show (fun W : World => C5 W (w.heap.size) a ∧ C5 W (w.heap.size + 1) b ∧ B3 W (w.heap.size + 1 + 1) 0 ∧ B3 W (v3.heap.size) ow ∧ Below w.heap.size w W) w6 from ⟨F.out.1.keep h6, F.out.2.1.keep h6, F.out.2.2.1.keep h6, F.out.2.2.2.1.keep h6, gt F.out.2.2.2.2 h6⟩); clear h6 UC; obtain ⟨y0_0, y0_1, y0_2, y0_3, y0_4⟩ := F.out.1; obtain ⟨y1_0, y1_1, y1_2, y1_3, y1_4⟩ := F.out.2.1; obtain ⟨y2_0, y2_1, y2_2⟩ := F.out.2.2.1.c; have f2_0 := F.out.2.2.1.fz 0; have f2_1 := F.out.2.2.1.fz 1; have f2_2 := F.out.2.2.1.fz 2; obtain ⟨y3_0, y3_1, y3_2⟩ := F.out.2.2.2.1.c; have f3_0 := F.out.2.2.2.1.fz 0; have f3_1 := F.out.2.2.2.1.fz 1; have f3_2 := F.out.2.2.2.1.fz 2; have hlow := F.out.2.2.2.2) | (go_at_call 21; refine (AU.out _).mono ?_; rintro e v21 ⟨rfl, h6⟩; clear y0_0 y0_1 y0_2 y0_3 y0_4 y1_0 y1_1 y1_2 y1_3 y1_4 y2_0 y2_1 y2_2 f2_0 f2_1 f2_2 y3_0 y3_1 y3_2 f3_0 f3_1 f3_2 hlow; have F := hid (show (fun W : World => C5 W (w.heap.size) a ∧ C5 W (w.heap.size + 1) b ∧ B3 W (w.heap.size + 1 + 1) 0 ∧ B3 W (v3.heap.size) ow ∧ B3 W (v21.heap.size) nu ∧ Below w.heap.size w W) (v21.alloc (.cells #[.int .u64 (W0 nu), .int .u64 (W1 nu), .int .u64 (W2 nu)] 28)) from ⟨(F.out.1.keep h6).keep (ext1 _), (F.out.2.1.keep h6).keep (ext1 _), (F.out.2.2.1.keep h6).keep (ext1 _), (F.out.2.2.2.1.keep h6).keep (ext1 _), heap_alloc_new _ _, gt (gt F.out.2.2.2.2 h6) (ext1 _)⟩); clear h6 AU; obtain ⟨y0_0, y0_1, y0_2, y0_3, y0_4⟩ := F.out.1; obtain ⟨y1_0, y1_1, y1_2, y1_3, y1_4⟩ := F.out.2.1; obtain ⟨y2_0, y2_1, y2_2⟩ := F.out.2.2.1.c; have f2_0 := F.out.2.2.1.fz 0; have f2_1 := F.out.2.2.1.fz 1; have f2_2 := F.out.2.2.1.fz 2; obtain ⟨y3_0, y3_1, y3_2⟩ := F.out.2.2.2.1.c; have f3_0 := F.out.2.2.2.1.fz 0; have f3_1 := F.out.2.2.2.1.fz 1; have f3_2 := F.out.2.2.2.1.fz 2; obtain ⟨y4_0, y4_1, y4_2⟩ := F.out.2.2.2.2.1.c; have f4_0 := F.out.2.2.2.2.1.fz 0; have f4_1 := F.out.2.2.2.2.1.fz 1; have f4_2 := F.out.2.2.2.2.1.fz 2; have hlow := F.out.2.2.2.2.2) | (go_at_call 38; refine (S1.out _).mono ?_; rintro e v38 ⟨rfl, h6⟩; clear y0_0 y0_1 y0_2 y0_3 y0_4 y1_0 y1_1 y1_2 y1_3 y1_4 y2_0 y2_1 y2_2 f2_0 f2_1 f2_2 y3_0 y3_1 y3_2 f3_0 f3_1 f3_2 y4_0 y4_1 y4_2 f4_0 f4_1 f4_2 hlow; have F := hid (show (fun W : World => C5 W (w.heap.size) a ∧ C5 W (w.heap.size + 1) b ∧ B3 W (w.heap.size + 1 + 1) 0 ∧ B3 W (v3.heap.size) ow ∧ B3 W (v21.heap.size) nu ∧ B3 W (v38.heap.size) gg ∧ Below w.heap.size w W) (v38.alloc (.cells #[.int .u64 (W0 gg), .int .u64 (W1 gg), .int .u64 (W2 gg)] 28)) from ⟨(F.out.1.keep h6).keep (ext1 _), (F.out.2.1.keep h6).keep (ext1 _), (F.out.2.2.1.keep h6).keep (ext1 _), (F.out.2.2.2.1.keep h6).keep (ext1 _), (F.out.2.2.2.2.1.keep h6).keep (ext1 _), heap_alloc_new _ _, gt (gt F.out.2.2.2.2.2 h6) (ext1 _)⟩); clear h6 S1; obtain ⟨y0_0, y0_1, y0_2, y0_3, y0_4⟩ := F.out.1; obtain ⟨y1_0, y1_1, y1_2, y1_3, y1_4⟩ := F.out.2.1; obtain ⟨y2_0, y2_1, y2_2⟩ := F.out.2.2.1.c; have f2_0 := F.out.2.2.1.fz 0; have f2_1 := F.out.2.2.1.fz 1; have f2_2 := F.out.2.2.1.fz 2; obtain ⟨y3_0, y3_1, y3_2⟩ := F.out.2.2.2.1.c; have f3_0 := F.out.2.2.2.1.fz 0; have f3_1 := F.out.2.2.2.1.fz 1; have f3_2 := F.out.2.2.2.1.fz 2; obtain ⟨y4_0, y4_1, y4_2⟩ := F.out.2.2.2.2.1.c; have f4_0 := F.out.2.2.2.2.1.fz 0; have f4_1 := F.out.2.2.2.2.1.fz 1; have f4_2 := F.out.2.2.2.2.1.fz 2; obtain ⟨y5_0, y5_1, y5_2⟩ := F.out.2.2.2.2.2.1.c; have f5_0 := F.out.2.2.2.2.2.1.fz 0; have f5_1 := F.out.2.2.2.2.2.1.fz 1; have f5_2 := F.out.2.2.2.2.2.1.fz 2; have hlow := F.out.2.2.2.2.2.2))
                obtain ⟨z0, z1, z2⟩ := (F.out.2.2.1.set (gg)).c
                exact bodyPost_ret (v := .tuple #[.agg #[.int .u64 (W0 (gg)), .int .u64 (W1 (gg)), .int .u64 (W2 (gg))], .bool false]) (by simp [results, Try.results8, go_sem, z0, z1, z2]) rfl ⟨rfl, (by repeat (first | with_reducible exact Below.refl _ _ | with_reducible assumption | with_reducible refine Below.drew ?_ | with_reducible refine below_drewN ?_ _ | with_reducible refine Below.alloc ?_ (by simp <;> omega) _ | with_reducible refine Below.setCell ?_ (by simp <;> omega) _))⟩
            refine AllReadyK.cons (at_op _ _ _ rfl) (fun K hK => ?_) ?_
            · as_aux_lemma =>
                have hlt := (hHeld.2.2.1).lt
                go_simp
                refine hK.out _ _ (by exact ⟨hHeld.1.keep (ext1 _), hHeld.2.1.keep (ext1 _), hHeld.2.2.1.keep (ext1 _), gt hHeld.2.2.2 (ext1 _)⟩) (fun hHeld => ?_)
                clear hK K
                (try simp only [Act.put, sA, sZ, sS])
                refine wpAnyK_more (S' := (fun W : World => B3 W (v2.heap.size) 0 ∧ C5 W (w.heap.size) a ∧ C5 W (w.heap.size + 1) b ∧ B3 W (w.heap.size + 1 + 1) 0 ∧ Below w.heap.size w W)) (fun W h => h.2) ?_
                replace hHeld : (fun W : World => B3 W (v2.heap.size) 0 ∧ C5 W (w.heap.size) a ∧ C5 W (w.heap.size + 1) b ∧ B3 W (w.heap.size + 1 + 1) 0 ∧ Below w.heap.size w W) _ := ⟨by exact B3.zero (by repeat (first | (refine at_new ?_; first | with_reducible rfl | (simp only [World.size_alloc]; done)) | refine at_old ?_)), hHeld⟩
                obtain ⟨va1, hva1⟩ : ∃ W : World, W = (v2).alloc (.cells #[.int .u64 0, .int .u64 0, .int .u64 0] 28) := ⟨_, rfl⟩
                rw [← hva1] at hHeld ⊢
                clear hva1
                refine gk1 4 (fun K hK => ?_)
                go_simp
                go_at_call 37; refine (DC.out _).mono ?_; rintro e v3 ⟨rfl, h3⟩; have hR : (fun W : World => B3 W (v2.heap.size) 0 ∧ C5 W (w.heap.size) a ∧ C5 W (w.heap.size + 1) b ∧ B3 W (w.heap.size + 1 + 1) 0 ∧ Below w.heap.size w W) v3 := ⟨hHeld.1.keep h3, hHeld.2.1.keep h3, hHeld.2.2.1.keep h3, hHeld.2.2.2.1.keep h3, gt hHeld.2.2.2.2 h3⟩; clear h3
                refine hK.out _ _ hR (fun hHeld => ?_)
                clear hK K
                (try simp only [Act.put, sA, sZ, sS])
                refine gkp 5 ?_
                refine gkp 6 ?_
                refine gkp 7 ?_
                refine gkl 9 (fun K hK => ?_)
                have Z := hHeld.1; obtain ⟨u0, u1, u2⟩ := Z.c; have g0 := Z.fz 0; have g1 := Z.fz 1; have g2 := Z.fz 2; have hc := hHeld.2.2.2.2
                go_simp
                refine hK.out _ _ ?_
                clear hK K
                (try simp only [Act.put, sA, sZ, sS])
                refine gkp 10 ?_
                refine wpAnyK_done (by kernel_rfl) ?_ _
                have Z1 := Z.set ow
                have Z0 := (hHeld.2.2.2.1).far3 (show w.heap.size + 1 + 1 ≠ v2.heap.size by omega) (.int .u64 (W0 ow)) (.int .u64 (W1 ow)) (.int .u64 (W2 ow))
                have hd := show Below w.heap.size w ((((v3).setCell ⟨v2.heap.size, 0, none⟩ (.int .u64 (W0 ow))).setCell ⟨v2.heap.size, 1, none⟩ (.int .u64 (W1 ow))).setCell ⟨v2.heap.size, 2, none⟩ (.int .u64 (W2 ow))) from (by repeat (first | with_reducible exact Below.refl _ _ | with_reducible assumption | with_reducible refine Below.drew ?_ | with_reducible refine below_drewN ?_ _ | with_reducible refine Below.alloc ?_ (by simp <;> omega) _ | with_reducible refine Below.setCell ?_ (by simp <;> omega) _))
                have ZA := C5.far3 (hHeld.2.1) (show w.heap.size ≠ v2.heap.size by omega) (.int .u64 (W0 ow)) (.int .u64 (W1 ow)) (.int .u64 (W2 ow))
                have ZB := C5.far3 (hHeld.2.2.1) (show w.heap.size + 1 ≠ v2.heap.size by omega) (.int .u64 (W0 ow)) (.int .u64 (W1 ow)) (.int .u64 (W2 ow))
                clear hHeld hc u0 u1 u2 g0 g1 g2 Z
                obtain ⟨w9, hw9⟩ : ∃ W : World, W = (((v3).setCell ⟨v2.heap.size, 0, none⟩ (.int .u64 (W0 ow))).setCell ⟨v2.heap.size, 1, none⟩ (.int .u64 (W1 ow))).setCell ⟨v2.heap.size, 2, none⟩ (.int .u64 (W2 ow)) := ⟨_, rfl⟩
                rw [← hw9] at Z1 Z0 ZA ZB hd ⊢
                clear hw9
                have F := hid (show (fun W : World => C5 W (w.heap.size) a ∧ C5 W (w.heap.size + 1) b ∧ B3 W (w.heap.size + 1 + 1) 0 ∧ B3 W (v2.heap.size) ow ∧ Below w.heap.size w W) w9 from ⟨ZA, ZB, Z0, Z1, hd⟩)
                clear Z1 Z0 ZA ZB hd hlt
                obtain ⟨y0_0, y0_1, y0_2, y0_3, y0_4⟩ := F.out.1
                obtain ⟨y1_0, y1_1, y1_2, y1_3, y1_4⟩ := F.out.2.1
                obtain ⟨y2_0, y2_1, y2_2⟩ := F.out.2.2.1.c
                have f2_0 := F.out.2.2.1.fz 0
                have f2_1 := F.out.2.2.1.fz 1
                have f2_2 := F.out.2.2.1.fz 2
                obtain ⟨y3_0, y3_1, y3_2⟩ := F.out.2.2.2.1.c
                have f3_0 := F.out.2.2.2.1.fz 0
                have f3_1 := F.out.2.2.2.1.fz 1
                have f3_2 := F.out.2.2.2.1.fz 2
                have hlow := F.out.2.2.2.2
                go_wp2_with (first | (go_at_call 12; refine (UC.out _).mono ?_; rintro e w6 ⟨rfl, h6⟩; clear y0_0 y0_1 y0_2 y0_3 y0_4 y1_0 y1_1 y1_2 y1_3 y1_4 y2_0 y2_1 y2_2 f2_0 f2_1 f2_2 y3_0 y3_1 y3_2 f3_0 f3_1 f3_2 hlow; have F := hid (show (fun W : World => C5 W (w.heap.size) a ∧ C5 W (w.heap.size + 1) b ∧ B3 W (w.heap.size + 1 + 1) 0 ∧ B3 W (v2.heap.size) ow ∧ Below w.heap.size w W) w6 from ⟨F.out.1.keep h6, F.out.2.1.keep h6, F.out.2.2.1.keep h6, F.out.2.2.2.1.keep h6, gt F.out.2.2.2.2 h6⟩); clear h6 UC; obtain ⟨y0_0, y0_1, y0_2, y0_3, y0_4⟩ := F.out.1; obtain ⟨y1_0, y1_1, y1_2, y1_3, y1_4⟩ := F.out.2.1; obtain ⟨y2_0, y2_1, y2_2⟩ := F.out.2.2.1.c; have f2_0 := F.out.2.2.1.fz 0; have f2_1 := F.out.2.2.1.fz 1; have f2_2 := F.out.2.2.1.fz 2; obtain ⟨y3_0, y3_1, y3_2⟩ := F.out.2.2.2.1.c; have f3_0 := F.out.2.2.2.1.fz 0; have f3_1 := F.out.2.2.2.1.fz 1; have f3_2 := F.out.2.2.2.1.fz 2; have hlow := F.out.2.2.2.2) | (go_at_call 21; refine (AU.out _).mono ?_; rintro e v21 ⟨rfl, h6⟩; clear y0_0 y0_1 y0_2 y0_3 y0_4 y1_0 y1_1 y1_2 y1_3 y1_4 y2_0 y2_1 y2_2 f2_0 f2_1 f2_2 y3_0 y3_1 y3_2 f3_0 f3_1 f3_2 hlow; have F := hid (show (fun W : World => C5 W (w.heap.size) a ∧ C5 W (w.heap.size + 1) b ∧ B3 W (w.heap.size + 1 + 1) 0 ∧ B3 W (v2.heap.size) ow ∧ B3 W (v21.heap.size) nu ∧ Below w.heap.size w W) (v21.alloc (.cells #[.int .u64 (W0 nu), .int .u64 (W1 nu), .int .u64 (W2 nu)] 28)) from ⟨(F.out.1.keep h6).keep (ext1 _), (F.out.2.1.keep h6).keep (ext1 _), (F.out.2.2.1.keep h6).keep (ext1 _), (F.out.2.2.2.1.keep h6).keep (ext1 _), heap_alloc_new _ _, gt (gt F.out.2.2.2.2 h6) (ext1 _)⟩); clear h6 AU; obtain ⟨y0_0, y0_1, y0_2, y0_3, y0_4⟩ := F.out.1; obtain ⟨y1_0, y1_1, y1_2, y1_3, y1_4⟩ := F.out.2.1; obtain ⟨y2_0, y2_1, y2_2⟩ := F.out.2.2.1.c; have f2_0 := F.out.2.2.1.fz 0; have f2_1 := F.out.2.2.1.fz 1; have f2_2 := F.out.2.2.1.fz 2; obtain ⟨y3_0, y3_1, y3_2⟩ := F.out.2.2.2.1.c; have f3_0 := F.out.2.2.2.1.fz 0; have f3_1 := F.out.2.2.2.1.fz 1; have f3_2 := F.out.2.2.2.1.fz 2; obtain ⟨y4_0, y4_1, y4_2⟩ := F.out.2.2.2.2.1.c; have f4_0 := F.out.2.2.2.2.1.fz 0; have f4_1 := F.out.2.2.2.2.1.fz 1; have f4_2 := F.out.2.2.2.2.1.fz 2; have hlow := F.out.2.2.2.2.2) | (go_at_call 38; refine (S1.out _).mono ?_; rintro e v38 ⟨rfl, h6⟩; clear y0_0 y0_1 y0_2 y0_3 y0_4 y1_0 y1_1 y1_2 y1_3 y1_4 y2_0 y2_1 y2_2 f2_0 f2_1 f2_2 y3_0 y3_1 y3_2 f3_0 f3_1 f3_2 y4_0 y4_1 y4_2 f4_0 f4_1 f4_2 hlow; have F := hid (show (fun W : World => C5 W (w.heap.size) a ∧ C5 W (w.heap.size + 1) b ∧ B3 W (w.heap.size + 1 + 1) 0 ∧ B3 W (v2.heap.size) ow ∧ B3 W (v21.heap.size) nu ∧ B3 W (v38.heap.size) gg ∧ Below w.heap.size w W) (v38.alloc (.cells #[.int .u64 (W0 gg), .int .u64 (W1 gg), .int .u64 (W2 gg)] 28)) from ⟨(F.out.1.keep h6).keep (ext1 _), (F.out.2.1.keep h6).keep (ext1 _), (F.out.2.2.1.keep h6).keep (ext1 _), (F.out.2.2.2.1.keep h6).keep (ext1 _), (F.out.2.2.2.2.1.keep h6).keep (ext1 _), heap_alloc_new _ _, gt (gt F.out.2.2.2.2.2 h6) (ext1 _)⟩); clear h6 S1; obtain ⟨y0_0, y0_1, y0_2, y0_3, y0_4⟩ := F.out.1; obtain ⟨y1_0, y1_1, y1_2, y1_3, y1_4⟩ := F.out.2.1; obtain ⟨y2_0, y2_1, y2_2⟩ := F.out.2.2.1.c; have f2_0 := F.out.2.2.1.fz 0; have f2_1 := F.out.2.2.1.fz 1; have f2_2 := F.out.2.2.1.fz 2; obtain ⟨y3_0, y3_1, y3_2⟩ := F.out.2.2.2.1.c; have f3_0 := F.out.2.2.2.1.fz 0; have f3_1 := F.out.2.2.2.1.fz 1; have f3_2 := F.out.2.2.2.1.fz 2; obtain ⟨y4_0, y4_1, y4_2⟩ := F.out.2.2.2.2.1.c; have f4_0 := F.out.2.2.2.2.1.fz 0; have f4_1 := F.out.2.2.2.2.1.fz 1; have f4_2 := F.out.2.2.2.2.1.fz 2; obtain ⟨y5_0, y5_1, y5_2⟩ := F.out.2.2.2.2.2.1.c; have f5_0 := F.out.2.2.2.2.2.1.fz 0; have f5_1 := F.out.2.2.2.2.2.1.fz 1; have f5_2 := F.out.2.2.2.2.2.1.fz 2; have hlow := F.out.2.2.2.2.2.2))
                obtain ⟨z0, z1, z2⟩ := (F.out.2.2.1.set (gg)).c
                exact bodyPost_ret (v := .tuple #[.agg #[.int .u64 (W0 (gg)), .int .u64 (W1 (gg)), .int .u64 (W2 (gg))], .bool false]) (by simp [results, Try.results8, go_sem, z0, z1, z2]) rfl ⟨rfl, (by repeat (first | with_reducible exact Below.refl _ _ | with_reducible assumption | with_reducible refine Below.drew ?_ | with_reducible refine below_drewN ?_ _ | with_reducible refine Below.alloc ?_ (by simp <;> omega) _ | with_reducible refine Below.setCell ?_ (by simp <;> omega) _))⟩
            exact AllReadyK.nil
        refine AllReadyK.cons (at_op _ _ _ rfl) (fun K hK => ?_) ?_
        · as_aux_lemma =>
            have hlt := (hHeld.2.2.1).lt
            go_simp
            refine hK.out _ _ (by exact ⟨hHeld.1.keep (ext1 _), hHeld.2.1.keep (ext1 _), hHeld.2.2.1.keep (ext1 _), gt hHeld.2.2.2 (ext1 _)⟩) (fun hHeld => ?_)
            clear hK K
            (try simp only [Act.put, sA, sZ, sS])
            refine wpAnyK_more (S' := (fun W : World => B3 W (v1.heap.size) 0 ∧ C5 W (w.heap.size) a ∧ C5 W (w.heap.size + 1) b ∧ B3 W (w.heap.size + 1 + 1) 0 ∧ Below w.heap.size w W)) (fun W h => h.2) ?_
            replace hHeld : (fun W : World => B3 W (v1.heap.size) 0 ∧ C5 W (w.heap.size) a ∧ C5 W (w.heap.size + 1) b ∧ B3 W (w.heap.size + 1 + 1) 0 ∧ Below w.heap.size w W) _ := ⟨by exact B3.zero (by repeat (first | (refine at_new ?_; first | with_reducible rfl | (simp only [World.size_alloc]; done)) | refine at_old ?_)), hHeld⟩
            obtain ⟨va1, hva1⟩ : ∃ W : World, W = (v1).alloc (.cells #[.int .u64 0, .int .u64 0, .int .u64 0] 28) := ⟨_, rfl⟩
            rw [← hva1] at hHeld ⊢
            clear hva1
            refine gk1 3 (fun K hK => ?_)
            go_simp
            go_at_call 21; refine (AB.out _).mono ?_; rintro e v2 ⟨rfl, h2⟩; have hR : (fun W : World => B3 W (v1.heap.size) 0 ∧ C5 W (w.heap.size) a ∧ C5 W (w.heap.size + 1) b ∧ B3 W (w.heap.size + 1 + 1) 0 ∧ Below w.heap.size w W) v2 := ⟨hHeld.1.keep h2, hHeld.2.1.keep h2, hHeld.2.2.1.keep h2, hHeld.2.2.2.1.keep h2, gt hHeld.2.2.2.2 h2⟩; clear h2
            refine hK.out _ _ hR (fun hHeld => ?_)
            clear hK K
            (try simp only [Act.put, sA, sZ, sS])
            refine gk1 4 (fun K hK => ?_)
            go_simp
            go_at_call 37; refine (DC.out _).mono ?_; rintro e v3 ⟨rfl, h3⟩; have hR : (fun W : World => B3 W (v1.heap.size) 0 ∧ C5 W (w.heap.size) a ∧ C5 W (w.heap.size + 1) b ∧ B3 W (w.heap.size + 1 + 1) 0 ∧ Below w.heap.size w W) v3 := ⟨hHeld.1.keep h3, hHeld.2.1.keep h3, hHeld.2.2.1.keep h3, hHeld.2.2.2.1.keep h3, gt hHeld.2.2.2.2 h3⟩; clear h3
            refine hK.out _ _ hR (fun hHeld => ?_)
            clear hK K
            (try simp only [Act.put, sA, sZ, sS])
            refine gkp 5 ?_
            refine gkp 6 ?_
            refine gkp 7 ?_
            refine gkl 9 (fun K hK => ?_)
            have Z := hHeld.1; obtain ⟨u0, u1, u2⟩ := Z.c; have g0 := Z.fz 0; have g1 := Z.fz 1; have g2 := Z.fz 2; have hc := hHeld.2.2.2.2
            go_simp
            refine hK.out _ _ ?_
            clear hK K
            (try simp only [Act.put, sA, sZ, sS])
            refine gkp 10 ?_
            refine wpAnyK_done (by kernel_rfl) ?_ _
            have Z1 := Z.set ow
            have Z0 := (hHeld.2.2.2.1).far3 (show w.heap.size + 1 + 1 ≠ v1.heap.size by omega) (.int .u64 (W0 ow)) (.int .u64 (W1 ow)) (.int .u64 (W2 ow))
            have hd := show Below w.heap.size w ((((v3).setCell ⟨v1.heap.size, 0, none⟩ (.int .u64 (W0 ow))).setCell ⟨v1.heap.size, 1, none⟩ (.int .u64 (W1 ow))).setCell ⟨v1.heap.size, 2, none⟩ (.int .u64 (W2 ow))) from (by repeat (first | with_reducible exact Below.refl _ _ | with_reducible assumption | with_reducible refine Below.drew ?_ | with_reducible refine below_drewN ?_ _ | with_reducible refine Below.alloc ?_ (by simp <;> omega) _ | with_reducible refine Below.setCell ?_ (by simp <;> omega) _))
            have ZA := C5.far3 (hHeld.2.1) (show w.heap.size ≠ v1.heap.size by omega) (.int .u64 (W0 ow)) (.int .u64 (W1 ow)) (.int .u64 (W2 ow))
            have ZB := C5.far3 (hHeld.2.2.1) (show w.heap.size + 1 ≠ v1.heap.size by omega) (.int .u64 (W0 ow)) (.int .u64 (W1 ow)) (.int .u64 (W2 ow))
            clear hHeld hc u0 u1 u2 g0 g1 g2 Z
            obtain ⟨w9, hw9⟩ : ∃ W : World, W = (((v3).setCell ⟨v1.heap.size, 0, none⟩ (.int .u64 (W0 ow))).setCell ⟨v1.heap.size, 1, none⟩ (.int .u64 (W1 ow))).setCell ⟨v1.heap.size, 2, none⟩ (.int .u64 (W2 ow)) := ⟨_, rfl⟩
            rw [← hw9] at Z1 Z0 ZA ZB hd ⊢
            clear hw9
            have F := hid (show (fun W : World => C5 W (w.heap.size) a ∧ C5 W (w.heap.size + 1) b ∧ B3 W (w.heap.size + 1 + 1) 0 ∧ B3 W (v1.heap.size) ow ∧ Below w.heap.size w W) w9 from ⟨ZA, ZB, Z0, Z1, hd⟩)
            clear Z1 Z0 ZA ZB hd hlt
            obtain ⟨y0_0, y0_1, y0_2, y0_3, y0_4⟩ := F.out.1
            obtain ⟨y1_0, y1_1, y1_2, y1_3, y1_4⟩ := F.out.2.1
            obtain ⟨y2_0, y2_1, y2_2⟩ := F.out.2.2.1.c
            have f2_0 := F.out.2.2.1.fz 0
            have f2_1 := F.out.2.2.1.fz 1
            have f2_2 := F.out.2.2.1.fz 2
            obtain ⟨y3_0, y3_1, y3_2⟩ := F.out.2.2.2.1.c
            have f3_0 := F.out.2.2.2.1.fz 0
            have f3_1 := F.out.2.2.2.1.fz 1
            have f3_2 := F.out.2.2.2.1.fz 2
            have hlow := F.out.2.2.2.2
            go_wp2_with (first | (go_at_call 12; refine (UC.out _).mono ?_; rintro e w6 ⟨rfl, h6⟩; clear y0_0 y0_1 y0_2 y0_3 y0_4 y1_0 y1_1 y1_2 y1_3 y1_4 y2_0 y2_1 y2_2 f2_0 f2_1 f2_2 y3_0 y3_1 y3_2 f3_0 f3_1 f3_2 hlow; have F := hid (show (fun W : World => C5 W (w.heap.size) a ∧ C5 W (w.heap.size + 1) b ∧ B3 W (w.heap.size + 1 + 1) 0 ∧ B3 W (v1.heap.size) ow ∧ Below w.heap.size w W) w6 from ⟨F.out.1.keep h6, F.out.2.1.keep h6, F.out.2.2.1.keep h6, F.out.2.2.2.1.keep h6, gt F.out.2.2.2.2 h6⟩); clear h6 UC; obtain ⟨y0_0, y0_1, y0_2, y0_3, y0_4⟩ := F.out.1; obtain ⟨y1_0, y1_1, y1_2, y1_3, y1_4⟩ := F.out.2.1; obtain ⟨y2_0, y2_1, y2_2⟩ := F.out.2.2.1.c; have f2_0 := F.out.2.2.1.fz 0; have f2_1 := F.out.2.2.1.fz 1; have f2_2 := F.out.2.2.1.fz 2; obtain ⟨y3_0, y3_1, y3_2⟩ := F.out.2.2.2.1.c; have f3_0 := F.out.2.2.2.1.fz 0; have f3_1 := F.out.2.2.2.1.fz 1; have f3_2 := F.out.2.2.2.1.fz 2; have hlow := F.out.2.2.2.2) | (go_at_call 21; refine (AU.out _).mono ?_; rintro e v21 ⟨rfl, h6⟩; clear y0_0 y0_1 y0_2 y0_3 y0_4 y1_0 y1_1 y1_2 y1_3 y1_4 y2_0 y2_1 y2_2 f2_0 f2_1 f2_2 y3_0 y3_1 y3_2 f3_0 f3_1 f3_2 hlow; have F := hid (show (fun W : World => C5 W (w.heap.size) a ∧ C5 W (w.heap.size + 1) b ∧ B3 W (w.heap.size + 1 + 1) 0 ∧ B3 W (v1.heap.size) ow ∧ B3 W (v21.heap.size) nu ∧ Below w.heap.size w W) (v21.alloc (.cells #[.int .u64 (W0 nu), .int .u64 (W1 nu), .int .u64 (W2 nu)] 28)) from ⟨(F.out.1.keep h6).keep (ext1 _), (F.out.2.1.keep h6).keep (ext1 _), (F.out.2.2.1.keep h6).keep (ext1 _), (F.out.2.2.2.1.keep h6).keep (ext1 _), heap_alloc_new _ _, gt (gt F.out.2.2.2.2 h6) (ext1 _)⟩); clear h6 AU; obtain ⟨y0_0, y0_1, y0_2, y0_3, y0_4⟩ := F.out.1; obtain ⟨y1_0, y1_1, y1_2, y1_3, y1_4⟩ := F.out.2.1; obtain ⟨y2_0, y2_1, y2_2⟩ := F.out.2.2.1.c; have f2_0 := F.out.2.2.1.fz 0; have f2_1 := F.out.2.2.1.fz 1; have f2_2 := F.out.2.2.1.fz 2; obtain ⟨y3_0, y3_1, y3_2⟩ := F.out.2.2.2.1.c; have f3_0 := F.out.2.2.2.1.fz 0; have f3_1 := F.out.2.2.2.1.fz 1; have f3_2 := F.out.2.2.2.1.fz 2; obtain ⟨y4_0, y4_1, y4_2⟩ := F.out.2.2.2.2.1.c; have f4_0 := F.out.2.2.2.2.1.fz 0; have f4_1 := F.out.2.2.2.2.1.fz 1; have f4_2 := F.out.2.2.2.2.1.fz 2; have hlow := F.out.2.2.2.2.2) | (go_at_call 38; refine (S1.out _).mono ?_; rintro e v38 ⟨rfl, h6⟩; clear y0_0 y0_1 y0_2 y0_3 y0_4 y1_0 y1_1 y1_2 y1_3 y1_4 y2_0 y2_1 y2_2 f2_0 f2_1 f2_2 y3_0 y3_1 y3_2 f3_0 f3_1 f3_2 y4_0 y4_1 y4_2 f4_0 f4_1 f4_2 hlow; have F := hid (show (fun W : World => C5 W (w.heap.size) a ∧ C5 W (w.heap.size + 1) b ∧ B3 W (w.heap.size + 1 + 1) 0 ∧ B3 W (v1.heap.size) ow ∧ B3 W (v21.heap.size) nu ∧ B3 W (v38.heap.size) gg ∧ Below w.heap.size w W) (v38.alloc (.cells #[.int .u64 (W0 gg), .int .u64 (W1 gg), .int .u64 (W2 gg)] 28)) from ⟨(F.out.1.keep h6).keep (ext1 _), (F.out.2.1.keep h6).keep (ext1 _), (F.out.2.2.1.keep h6).keep (ext1 _), (F.out.2.2.2.1.keep h6).keep (ext1 _), (F.out.2.2.2.2.1.keep h6).keep (ext1 _), heap_alloc_new _ _, gt (gt F.out.2.2.2.2.2 h6) (ext1 _)⟩); clear h6 S1; obtain ⟨y0_0, y0_1, y0_2, y0_3, y0_4⟩ := F.out.1; obtain ⟨y1_0, y1_1, y1_2, y1_3, y1_4⟩ := F.out.2.1; obtain ⟨y2_0, y2_1, y2_2⟩ := F.out.2.2.1.c; have f2_0 := F.out.2.2.1.fz 0; have f2_1 := F.out.2.2.1.fz 1; have f2_2 := F.out.2.2.1.fz 2; obtain ⟨y3_0, y3_1, y3_2⟩ := F.out.2.2.2.1.c; have f3_0 := F.out.2.2.2.1.fz 0; have f3_1 := F.out.2.2.2.1.fz 1; have f3_2 := F.out.2.2.2.1.fz 2; obtain ⟨y4_0, y4_1, y4_2⟩ := F.out.2.2.2.2.1.c; have f4_0 := F.out.2.2.2.2.1.fz 0; have f4_1 := F.out.2.2.2.2.1.fz 1; have f4_2 := F.out.2.2.2.2.1.fz 2; obtain ⟨y5_0, y5_1, y5_2⟩ := F.out.2.2.2.2.2.1.c; have f5_0 := F.out.2.2.2.2.2.1.fz 0; have f5_1 := F.out.2.2.2.2.2.1.fz 1; have f5_2 := F.out.2.2.2.2.2.1.fz 2; have hlow := F.out.2.2.2.2.2.2))
            obtain ⟨z0, z1, z2⟩ := (F.out.2.2.1.set (gg)).c
            exact bodyPost_ret (v := .tuple #[.agg #[.int .u64 (W0 (gg)), .int .u64 (W1 (gg)), .int .u64 (W2 (gg))], .bool false]) (by simp [results, Try.results8, go_sem, z0, z1, z2]) rfl ⟨rfl, (by repeat (first | with_reducible exact Below.refl _ _ | with_reducible assumption | with_reducible refine Below.drew ?_ | with_reducible refine below_drewN ?_ _ | with_reducible refine Below.alloc ?_ (by simp <;> omega) _ | with_reducible refine Below.setCell ?_ (by simp <;> omega) _))⟩
        exact AllReadyK.nil
    refine AllReadyK.cons (at_op _ _ _ rfl) (fun K hK => ?_) ?_
    · as_aux_lemma =>
        have hlt : w.heap.size + 1 + 1 < w.heap.size + 1 + 1 + 1 := by omega
        go_simp
        refine hK.out _ _ (by exact ⟨hHeld.1.keep (ext1 _), hHeld.2.1.keep (ext1 _), hHeld.2.2.1.keep (ext1 _), gt hHeld.2.2.2 (ext1 _)⟩) (fun hHeld => ?_)
        clear hK K
        (try simp only [Act.put, sA, sZ, sS])
        refine wpAnyK_more (S' := (fun W : World => B3 W (w.heap.size + 1 + 1 + 1) 0 ∧ C5 W (w.heap.size) a ∧ C5 W (w.heap.size + 1) b ∧ B3 W (w.heap.size + 1 + 1) 0 ∧ Below w.heap.size w W)) (fun W h => h.2) ?_
        replace hHeld : (fun W : World => B3 W (w.heap.size + 1 + 1 + 1) 0 ∧ C5 W (w.heap.size) a ∧ C5 W (w.heap.size + 1) b ∧ B3 W (w.heap.size + 1 + 1) 0 ∧ Below w.heap.size w W) _ := ⟨by exact B3.zero (by repeat (first | (refine at_new ?_; first | with_reducible rfl | (simp only [World.size_alloc]; done)) | refine at_old ?_)), hHeld⟩
        obtain ⟨va1, hva1⟩ : ∃ W : World, W = World.drew ((((w.alloc (.cells #[.bool (a).n, .int .i64 (a).lx, .int .i64 (a).ly, .int .i64 (a).hx, .int .i64 (a).hy] 25)).alloc (.cells #[.bool (b).n, .int .i64 (b).lx, .int .i64 (b).ly, .int .i64 (b).hx, .int .i64 (b).hy] 25)).alloc (.cells #[.int .u64 0, .int .u64 0, .int .u64 0] 28)).alloc (.cells #[.int .u64 0, .int .u64 0, .int .u64 0] 28)) := ⟨_, rfl⟩
        rw [← hva1] at hHeld ⊢
        clear hva1
        refine gk1 1 (fun K hK => ?_)
        go_simp
        go_at_call 21; refine (AA.out _).mono ?_; rintro e v1 ⟨rfl, h1⟩; have hR : (fun W : World => B3 W (w.heap.size + 1 + 1 + 1) 0 ∧ C5 W (w.heap.size) a ∧ C5 W (w.heap.size + 1) b ∧ B3 W (w.heap.size + 1 + 1) 0 ∧ Below w.heap.size w W) v1 := ⟨hHeld.1.keep h1, hHeld.2.1.keep h1, hHeld.2.2.1.keep h1, hHeld.2.2.2.1.keep h1, gt hHeld.2.2.2.2 h1⟩; clear h1
        refine hK.out _ _ hR (fun hHeld => ?_)
        clear hK K
        (try simp only [Act.put, sA, sZ, sS])
        refine gk1 3 (fun K hK => ?_)
        go_simp
        go_at_call 21; refine (AB.out _).mono ?_; rintro e v2 ⟨rfl, h2⟩; have hR : (fun W : World => B3 W (w.heap.size + 1 + 1 + 1) 0 ∧ C5 W (w.heap.size) a ∧ C5 W (w.heap.size + 1) b ∧ B3 W (w.heap.size + 1 + 1) 0 ∧ Below w.heap.size w W) v2 := ⟨hHeld.1.keep h2, hHeld.2.1.keep h2, hHeld.2.2.1.keep h2, hHeld.2.2.2.1.keep h2, gt hHeld.2.2.2.2 h2⟩; clear h2
        refine hK.out _ _ hR (fun hHeld => ?_)
        clear hK K
        (try simp only [Act.put, sA, sZ, sS])
        refine gk1 4 (fun K hK => ?_)
        go_simp
        go_at_call 37; refine (DC.out _).mono ?_; rintro e v3 ⟨rfl, h3⟩; have hR : (fun W : World => B3 W (w.heap.size + 1 + 1 + 1) 0 ∧ C5 W (w.heap.size) a ∧ C5 W (w.heap.size + 1) b ∧ B3 W (w.heap.size + 1 + 1) 0 ∧ Below w.heap.size w W) v3 := ⟨hHeld.1.keep h3, hHeld.2.1.keep h3, hHeld.2.2.1.keep h3, hHeld.2.2.2.1.keep h3, gt hHeld.2.2.2.2 h3⟩; clear h3
        refine hK.out _ _ hR (fun hHeld => ?_)
        clear hK K
        (try simp only [Act.put, sA, sZ, sS])
        refine gkp 5 ?_
        refine gkp 6 ?_
        refine gkp 7 ?_
        refine gkl 9 (fun K hK => ?_)
        have Z := hHeld.1; obtain ⟨u0, u1, u2⟩ := Z.c; have g0 := Z.fz 0; have g1 := Z.fz 1; have g2 := Z.fz 2; have hc := hHeld.2.2.2.2
        go_simp
        refine hK.out _ _ ?_
        clear hK K
        (try simp only [Act.put, sA, sZ, sS])
        refine gkp 10 ?_
        refine wpAnyK_done (by kernel_rfl) ?_ _
        have Z1 := Z.set ow
        have Z0 := (hHeld.2.2.2.1).far3 (show w.heap.size + 1 + 1 ≠ w.heap.size + 1 + 1 + 1 by omega) (.int .u64 (W0 ow)) (.int .u64 (W1 ow)) (.int .u64 (W2 ow))
        have hd := show Below w.heap.size w ((((v3).setCell ⟨w.heap.size + 1 + 1 + 1, 0, none⟩ (.int .u64 (W0 ow))).setCell ⟨w.heap.size + 1 + 1 + 1, 1, none⟩ (.int .u64 (W1 ow))).setCell ⟨w.heap.size + 1 + 1 + 1, 2, none⟩ (.int .u64 (W2 ow))) from (by repeat (first | with_reducible exact Below.refl _ _ | with_reducible assumption | with_reducible refine Below.drew ?_ | with_reducible refine below_drewN ?_ _ | with_reducible refine Below.alloc ?_ (by simp <;> omega) _ | with_reducible refine Below.setCell ?_ (by simp <;> omega) _))
        have ZA := C5.far3 (hHeld.2.1) (show w.heap.size ≠ w.heap.size + 1 + 1 + 1 by omega) (.int .u64 (W0 ow)) (.int .u64 (W1 ow)) (.int .u64 (W2 ow))
        have ZB := C5.far3 (hHeld.2.2.1) (show w.heap.size + 1 ≠ w.heap.size + 1 + 1 + 1 by omega) (.int .u64 (W0 ow)) (.int .u64 (W1 ow)) (.int .u64 (W2 ow))
        clear hHeld hc u0 u1 u2 g0 g1 g2 Z
        obtain ⟨w9, hw9⟩ : ∃ W : World, W = (((v3).setCell ⟨w.heap.size + 1 + 1 + 1, 0, none⟩ (.int .u64 (W0 ow))).setCell ⟨w.heap.size + 1 + 1 + 1, 1, none⟩ (.int .u64 (W1 ow))).setCell ⟨w.heap.size + 1 + 1 + 1, 2, none⟩ (.int .u64 (W2 ow)) := ⟨_, rfl⟩
        rw [← hw9] at Z1 Z0 ZA ZB hd ⊢
        clear hw9
        have F := hid (show (fun W : World => C5 W (w.heap.size) a ∧ C5 W (w.heap.size + 1) b ∧ B3 W (w.heap.size + 1 + 1) 0 ∧ B3 W (w.heap.size + 1 + 1 + 1) ow ∧ Below w.heap.size w W) w9 from ⟨ZA, ZB, Z0, Z1, hd⟩)
        clear Z1 Z0 ZA ZB hd hlt
        obtain ⟨y0_0, y0_1, y0_2, y0_3, y0_4⟩ := F.out.1
        obtain ⟨y1_0, y1_1, y1_2, y1_3, y1_4⟩ := F.out.2.1
        obtain ⟨y2_0, y2_1, y2_2⟩ := F.out.2.2.1.c
        have f2_0 := F.out.2.2.1.fz 0
        have f2_1 := F.out.2.2.1.fz 1
        have f2_2 := F.out.2.2.1.fz 2
        obtain ⟨y3_0, y3_1, y3_2⟩ := F.out.2.2.2.1.c
        have f3_0 := F.out.2.2.2.1.fz 0
        have f3_1 := F.out.2.2.2.1.fz 1
        have f3_2 := F.out.2.2.2.1.fz 2
        have hlow := F.out.2.2.2.2
        go_wp2_with (first | (go_at_call 12; refine (UC.out _).mono ?_; rintro e w6 ⟨rfl, h6⟩; clear y0_0 y0_1 y0_2 y0_3 y0_4 y1_0 y1_1 y1_2 y1_3 y1_4 y2_0 y2_1 y2_2 f2_0 f2_1 f2_2 y3_0 y3_1 y3_2 f3_0 f3_1 f3_2 hlow; have F := hid (show (fun W : World => C5 W (w.heap.size) a ∧ C5 W (w.heap.size + 1) b ∧ B3 W (w.heap.size + 1 + 1) 0 ∧ B3 W (w.heap.size + 1 + 1 + 1) ow ∧ Below w.heap.size w W) w6 from ⟨F.out.1.keep h6, F.out.2.1.keep h6, F.out.2.2.1.keep h6, F.out.2.2.2.1.keep h6, gt F.out.2.2.2.2 h6⟩); clear h6 UC; obtain ⟨y0_0, y0_1, y0_2, y0_3, y0_4⟩ := F.out.1; obtain ⟨y1_0, y1_1, y1_2, y1_3, y1_4⟩ := F.out.2.1; obtain ⟨y2_0, y2_1, y2_2⟩ := F.out.2.2.1.c; have f2_0 := F.out.2.2.1.fz 0; have f2_1 := F.out.2.2.1.fz 1; have f2_2 := F.out.2.2.1.fz 2; obtain ⟨y3_0, y3_1, y3_2⟩ := F.out.2.2.2.1.c; have f3_0 := F.out.2.2.2.1.fz 0; have f3_1 := F.out.2.2.2.1.fz 1; have f3_2 := F.out.2.2.2.1.fz 2; have hlow := F.out.2.2.2.2) | (go_at_call 21; refine (AU.out _).mono ?_; rintro e v21 ⟨rfl, h6⟩; clear y0_0 y0_1 y0_2 y0_3 y0_4 y1_0 y1_1 y1_2 y1_3 y1_4 y2_0 y2_1 y2_2 f2_0 f2_1 f2_2 y3_0 y3_1 y3_2 f3_0 f3_1 f3_2 hlow; have F := hid (show (fun W : World => C5 W (w.heap.size) a ∧ C5 W (w.heap.size + 1) b ∧ B3 W (w.heap.size + 1 + 1) 0 ∧ B3 W (w.heap.size + 1 + 1 + 1) ow ∧ B3 W (v21.heap.size) nu ∧ Below w.heap.size w W) (v21.alloc (.cells #[.int .u64 (W0 nu), .int .u64 (W1 nu), .int .u64 (W2 nu)] 28)) from ⟨(F.out.1.keep h6).keep (ext1 _), (F.out.2.1.keep h6).keep (ext1 _), (F.out.2.2.1.keep h6).keep (ext1 _), (F.out.2.2.2.1.keep h6).keep (ext1 _), heap_alloc_new _ _, gt (gt F.out.2.2.2.2 h6) (ext1 _)⟩); clear h6 AU; obtain ⟨y0_0, y0_1, y0_2, y0_3, y0_4⟩ := F.out.1; obtain ⟨y1_0, y1_1, y1_2, y1_3, y1_4⟩ := F.out.2.1; obtain ⟨y2_0, y2_1, y2_2⟩ := F.out.2.2.1.c; have f2_0 := F.out.2.2.1.fz 0; have f2_1 := F.out.2.2.1.fz 1; have f2_2 := F.out.2.2.1.fz 2; obtain ⟨y3_0, y3_1, y3_2⟩ := F.out.2.2.2.1.c; have f3_0 := F.out.2.2.2.1.fz 0; have f3_1 := F.out.2.2.2.1.fz 1; have f3_2 := F.out.2.2.2.1.fz 2; obtain ⟨y4_0, y4_1, y4_2⟩ := F.out.2.2.2.2.1.c; have f4_0 := F.out.2.2.2.2.1.fz 0; have f4_1 := F.out.2.2.2.2.1.fz 1; have f4_2 := F.out.2.2.2.2.1.fz 2; have hlow := F.out.2.2.2.2.2) | (go_at_call 38; refine (S1.out _).mono ?_; rintro e v38 ⟨rfl, h6⟩; clear y0_0 y0_1 y0_2 y0_3 y0_4 y1_0 y1_1 y1_2 y1_3 y1_4 y2_0 y2_1 y2_2 f2_0 f2_1 f2_2 y3_0 y3_1 y3_2 f3_0 f3_1 f3_2 y4_0 y4_1 y4_2 f4_0 f4_1 f4_2 hlow; have F := hid (show (fun W : World => C5 W (w.heap.size) a ∧ C5 W (w.heap.size + 1) b ∧ B3 W (w.heap.size + 1 + 1) 0 ∧ B3 W (w.heap.size + 1 + 1 + 1) ow ∧ B3 W (v21.heap.size) nu ∧ B3 W (v38.heap.size) gg ∧ Below w.heap.size w W) (v38.alloc (.cells #[.int .u64 (W0 gg), .int .u64 (W1 gg), .int .u64 (W2 gg)] 28)) from ⟨(F.out.1.keep h6).keep (ext1 _), (F.out.2.1.keep h6).keep (ext1 _), (F.out.2.2.1.keep h6).keep (ext1 _), (F.out.2.2.2.1.keep h6).keep (ext1 _), (F.out.2.2.2.2.1.keep h6).keep (ext1 _), heap_alloc_new _ _, gt (gt F.out.2.2.2.2.2 h6) (ext1 _)⟩); clear h6 S1; obtain ⟨y0_0, y0_1, y0_2, y0_3, y0_4⟩ := F.out.1; obtain ⟨y1_0, y1_1, y1_2, y1_3, y1_4⟩ := F.out.2.1; obtain ⟨y2_0, y2_1, y2_2⟩ := F.out.2.2.1.c; have f2_0 := F.out.2.2.1.fz 0; have f2_1 := F.out.2.2.1.fz 1; have f2_2 := F.out.2.2.1.fz 2; obtain ⟨y3_0, y3_1, y3_2⟩ := F.out.2.2.2.1.c; have f3_0 := F.out.2.2.2.1.fz 0; have f3_1 := F.out.2.2.2.1.fz 1; have f3_2 := F.out.2.2.2.1.fz 2; obtain ⟨y4_0, y4_1, y4_2⟩ := F.out.2.2.2.2.1.c; have f4_0 := F.out.2.2.2.2.1.fz 0; have f4_1 := F.out.2.2.2.2.1.fz 1; have f4_2 := F.out.2.2.2.2.1.fz 2; obtain ⟨y5_0, y5_1, y5_2⟩ := F.out.2.2.2.2.2.1.c; have f5_0 := F.out.2.2.2.2.2.1.fz 0; have f5_1 := F.out.2.2.2.2.2.1.fz 1; have f5_2 := F.out.2.2.2.2.2.1.fz 2; have hlow := F.out.2.2.2.2.2.2))
        obtain ⟨z0, z1, z2⟩ := (F.out.2.2.1.set (gg)).c
        exact bodyPost_ret (v := .tuple #[.agg #[.int .u64 (W0 (gg)), .int .u64 (W1 (gg)), .int .u64 (W2 (gg))], .bool false]) (by simp [results, Try.results8, go_sem, z0, z1, z2]) rfl ⟨rfl, (by repeat (first | with_reducible exact Below.refl _ _ | with_reducible assumption | with_reducible refine Below.drew ?_ | with_reducible refine below_drewN ?_ _ | with_reducible refine Below.alloc ?_ (by simp <;> omega) _ | with_reducible refine Below.setCell ?_ (by simp <;> omega) _))⟩
    exact AllReadyK.nil
  · rw [show wasteN a b = ownN a b - areaN (uniR a b) from if_neg hle, show wasteB a b = true from if_neg hle]
    have S1 := hid (fun W => sub_under (areaN (uniR a b)) (ownN a b) h1 h2 W hle)
    have S2 := hid (fun W => sub_any (ownN a b) (areaN (uniR a b)) h2 h1 W (by omega))
    clear h1 h2
    generalize ownN a b - areaN (uniR a b) = gg at *
    generalize areaN (uniR a b) = nu at *
    generalize ownN a b = ow at *
    generalize areaN a = na at *
    generalize areaN b = nb at *
    generalize uniR a b = U at *
    clear hle ha hb
    go_enter Try.func8, Try.ntmps8
    go_wp2
    refine wp_region_K (S := (fun W : World => C5 W (w.heap.size) a ∧ C5 W (w.heap.size + 1) b ∧ B3 W (w.heap.size + 1 + 1) 0 ∧ Below w.heap.size w W)) (fun i => i == 9) (by kernel_rfl) (⟨by exact C5.of (by repeat (first | (refine at_new ?_; first | with_reducible rfl | (simp only [World.size_alloc]; done)) | refine at_old ?_)), by exact C5.of (by repeat (first | (refine at_new ?_; first | with_reducible rfl | (simp only [World.size_alloc]; done)) | refine at_old ?_)), by exact B3.zero (by repeat (first | (refine at_new ?_; first | with_reducible rfl | (simp only [World.size_alloc]; done)) | refine at_old ?_)), (by repeat (first | with_reducible exact Below.refl _ _ | with_reducible assumption | with_reducible refine Below.drew ?_ | with_reducible refine below_drewN ?_ _ | with_reducible refine Below.alloc ?_ (by simp <;> omega) _ | with_reducible refine Below.setCell ?_ (by simp <;> omega) _))⟩) (fun hHeld => ?_)
    refine gkt 0 ?_ (h := by intro W hSw; obtain ⟨⟨y0, y1, y2, y3, y4⟩, ⟨y5, y6, y7, y8, y9⟩, _, _⟩ := hSw; go_simp; first | done | with_reducible rfl)
    refine gkt 2 ?_ (h := by intro W hSw; obtain ⟨⟨y0, y1, y2, y3, y4⟩, ⟨y5, y6, y7, y8, y9⟩, _, _⟩ := hSw; go_simp; first | done | with_reducible rfl)
    refine wpAnyK_ready (rs := [1, 8]) (by kernel_rfl) (by simp) ?_
    refine AllReadyK.cons (at_op _ _ _ rfl) (fun K hK => ?_) ?_
    · as_aux_lemma =>
        go_simp
        go_at_call 21; refine (AA.out _).mono ?_; rintro e v1 ⟨rfl, h1⟩; have hR : (fun W : World => C5 W (w.heap.size) a ∧ C5 W (w.heap.size + 1) b ∧ B3 W (w.heap.size + 1 + 1) 0 ∧ Below w.heap.size w W) v1 := ⟨hHeld.1.keep h1, hHeld.2.1.keep h1, hHeld.2.2.1.keep h1, gt hHeld.2.2.2 h1⟩; clear h1
        refine hK.out _ _ hR (fun hHeld => ?_)
        clear hK K
        (try simp only [Act.put, sA, sZ, sS])
        refine wpAnyK_ready (rs := [3, 8]) (by kernel_rfl) (by simp) ?_
        refine AllReadyK.cons (at_op _ _ _ rfl) (fun K hK => ?_) ?_
        · as_aux_lemma =>
            go_simp
            go_at_call 21; refine (AB.out _).mono ?_; rintro e v2 ⟨rfl, h2⟩; have hR : (fun W : World => C5 W (w.heap.size) a ∧ C5 W (w.heap.size + 1) b ∧ B3 W (w.heap.size + 1 + 1) 0 ∧ Below w.heap.size w W) v2 := ⟨hHeld.1.keep h2, hHeld.2.1.keep h2, hHeld.2.2.1.keep h2, gt hHeld.2.2.2 h2⟩; clear h2
            refine hK.out _ _ hR (fun hHeld => ?_)
            clear hK K
            (try simp only [Act.put, sA, sZ, sS])
            refine wpAnyK_ready (rs := [4, 8]) (by kernel_rfl) (by simp) ?_
            refine AllReadyK.cons (at_op _ _ _ rfl) (fun K hK => ?_) ?_
            · as_aux_lemma =>
                go_simp
                go_at_call 37; refine (DC.out _).mono ?_; rintro e v3 ⟨rfl, h3⟩; have hR : (fun W : World => C5 W (w.heap.size) a ∧ C5 W (w.heap.size + 1) b ∧ B3 W (w.heap.size + 1 + 1) 0 ∧ Below w.heap.size w W) v3 := ⟨hHeld.1.keep h3, hHeld.2.1.keep h3, hHeld.2.2.1.keep h3, gt hHeld.2.2.2 h3⟩; clear h3
                refine hK.out _ _ hR (fun hHeld => ?_)
                clear hK K
                (try simp only [Act.put, sA, sZ, sS])
                refine gkp 5 ?_
                refine gkp 6 ?_
                refine gkp 7 ?_
                refine gk1 8 (fun K hK => ?_)
                have hlt := (hHeld.2.2.1).lt
                go_simp
                refine hK.out _ _ (by exact ⟨hHeld.1.keep (ext1 _), hHeld.2.1.keep (ext1 _), hHeld.2.2.1.keep (ext1 _), gt hHeld.2.2.2 (ext1 _)⟩) (fun hHeld => ?_)
                clear hK K
                (try simp only [Act.put, sA, sZ, sS])
                refine wpAnyK_more (S' := (fun W : World => B3 W (v3.heap.size) 0 ∧ C5 W (w.heap.size) a ∧ C5 W (w.heap.size + 1) b ∧ B3 W (w.heap.size + 1 + 1) 0 ∧ Below w.heap.size w W)) (fun W h => h.2) ?_
                replace hHeld : (fun W : World => B3 W (v3.heap.size) 0 ∧ C5 W (w.heap.size) a ∧ C5 W (w.heap.size + 1) b ∧ B3 W (w.heap.size + 1 + 1) 0 ∧ Below w.heap.size w W) _ := ⟨by exact B3.zero (by repeat (first | (refine at_new ?_; first | with_reducible rfl | (simp only [World.size_alloc]; done)) | refine at_old ?_)), hHeld⟩
                obtain ⟨va1, hva1⟩ : ∃ W : World, W = (v3).alloc (.cells #[.int .u64 0, .int .u64 0, .int .u64 0] 28) := ⟨_, rfl⟩
                rw [← hva1] at hHeld ⊢
                clear hva1
                refine gkl 9 (fun K hK => ?_)
                have Z := hHeld.1; obtain ⟨u0, u1, u2⟩ := Z.c; have g0 := Z.fz 0; have g1 := Z.fz 1; have g2 := Z.fz 2; have hc := hHeld.2.2.2.2
                go_simp
                refine hK.out _ _ ?_
                clear hK K
                (try simp only [Act.put, sA, sZ, sS])
                refine gkp 10 ?_
                refine wpAnyK_done (by kernel_rfl) ?_ _
                have Z1 := Z.set ow
                have Z0 := (hHeld.2.2.2.1).far3 (show w.heap.size + 1 + 1 ≠ v3.heap.size by omega) (.int .u64 (W0 ow)) (.int .u64 (W1 ow)) (.int .u64 (W2 ow))
                have hd := show Below w.heap.size w ((((va1).setCell ⟨v3.heap.size, 0, none⟩ (.int .u64 (W0 ow))).setCell ⟨v3.heap.size, 1, none⟩ (.int .u64 (W1 ow))).setCell ⟨v3.heap.size, 2, none⟩ (.int .u64 (W2 ow))) from (by repeat (first | with_reducible exact Below.refl _ _ | with_reducible assumption | with_reducible refine Below.drew ?_ | with_reducible refine below_drewN ?_ _ | with_reducible refine Below.alloc ?_ (by simp <;> omega) _ | with_reducible refine Below.setCell ?_ (by simp <;> omega) _))
                have ZA := C5.far3 (hHeld.2.1) (show w.heap.size ≠ v3.heap.size by omega) (.int .u64 (W0 ow)) (.int .u64 (W1 ow)) (.int .u64 (W2 ow))
                have ZB := C5.far3 (hHeld.2.2.1) (show w.heap.size + 1 ≠ v3.heap.size by omega) (.int .u64 (W0 ow)) (.int .u64 (W1 ow)) (.int .u64 (W2 ow))
                clear hHeld hc u0 u1 u2 g0 g1 g2 Z
                obtain ⟨w9, hw9⟩ : ∃ W : World, W = (((va1).setCell ⟨v3.heap.size, 0, none⟩ (.int .u64 (W0 ow))).setCell ⟨v3.heap.size, 1, none⟩ (.int .u64 (W1 ow))).setCell ⟨v3.heap.size, 2, none⟩ (.int .u64 (W2 ow)) := ⟨_, rfl⟩
                rw [← hw9] at Z1 Z0 ZA ZB hd ⊢
                clear hw9
                have F := hid (show (fun W : World => C5 W (w.heap.size) a ∧ C5 W (w.heap.size + 1) b ∧ B3 W (w.heap.size + 1 + 1) 0 ∧ B3 W (v3.heap.size) ow ∧ Below w.heap.size w W) w9 from ⟨ZA, ZB, Z0, Z1, hd⟩)
                clear Z1 Z0 ZA ZB hd hlt
                obtain ⟨y0_0, y0_1, y0_2, y0_3, y0_4⟩ := F.out.1
                obtain ⟨y1_0, y1_1, y1_2, y1_3, y1_4⟩ := F.out.2.1
                obtain ⟨y2_0, y2_1, y2_2⟩ := F.out.2.2.1.c
                have f2_0 := F.out.2.2.1.fz 0
                have f2_1 := F.out.2.2.1.fz 1
                have f2_2 := F.out.2.2.1.fz 2
                obtain ⟨y3_0, y3_1, y3_2⟩ := F.out.2.2.2.1.c
                have f3_0 := F.out.2.2.2.1.fz 0
                have f3_1 := F.out.2.2.2.1.fz 1
                have f3_2 := F.out.2.2.2.1.fz 2
                have hlow := F.out.2.2.2.2
                go_wp2_with (first | (go_at_call 12; refine (UC.out _).mono ?_; rintro e w6 ⟨rfl, h6⟩; clear y0_0 y0_1 y0_2 y0_3 y0_4 y1_0 y1_1 y1_2 y1_3 y1_4 y2_0 y2_1 y2_2 f2_0 f2_1 f2_2 y3_0 y3_1 y3_2 f3_0 f3_1 f3_2 hlow; have F := hid (show (fun W : World => C5 W (w.heap.size) a ∧ C5 W (w.heap.size + 1) b ∧ B3 W (w.heap.size + 1 + 1) 0 ∧ B3 W (v3.heap.size) ow ∧ Below w.heap.size w W) w6 from ⟨F.out.1.keep h6, F.out.2.1.keep h6, F.out.2.2.1.keep h6, F.out.2.2.2.1.keep h6, gt F.out.2.2.2.2 h6⟩); clear h6 UC; obtain ⟨y0_0, y0_1, y0_2, y0_3, y0_4⟩ := F.out.1; obtain ⟨y1_0, y1_1, y1_2, y1_3, y1_4⟩ := F.out.2.1; obtain ⟨y2_0, y2_1, y2_2⟩ := F.out.2.2.1.c; have f2_0 := F.out.2.2.1.fz 0; have f2_1 := F.out.2.2.1.fz 1; have f2_2 := F.out.2.2.1.fz 2; obtain ⟨y3_0, y3_1, y3_2⟩ := F.out.2.2.2.1.c; have f3_0 := F.out.2.2.2.1.fz 0; have f3_1 := F.out.2.2.2.1.fz 1; have f3_2 := F.out.2.2.2.1.fz 2; have hlow := F.out.2.2.2.2) | (go_at_call 21; refine (AU.out _).mono ?_; rintro e v21 ⟨rfl, h6⟩; clear y0_0 y0_1 y0_2 y0_3 y0_4 y1_0 y1_1 y1_2 y1_3 y1_4 y2_0 y2_1 y2_2 f2_0 f2_1 f2_2 y3_0 y3_1 y3_2 f3_0 f3_1 f3_2 hlow; have F := hid (show (fun W : World => C5 W (w.heap.size) a ∧ C5 W (w.heap.size + 1) b ∧ B3 W (w.heap.size + 1 + 1) 0 ∧ B3 W (v3.heap.size) ow ∧ B3 W (v21.heap.size) nu ∧ Below w.heap.size w W) (v21.alloc (.cells #[.int .u64 (W0 nu), .int .u64 (W1 nu), .int .u64 (W2 nu)] 28)) from ⟨(F.out.1.keep h6).keep (ext1 _), (F.out.2.1.keep h6).keep (ext1 _), (F.out.2.2.1.keep h6).keep (ext1 _), (F.out.2.2.2.1.keep h6).keep (ext1 _), heap_alloc_new _ _, gt (gt F.out.2.2.2.2 h6) (ext1 _)⟩); clear h6 AU; obtain ⟨y0_0, y0_1, y0_2, y0_3, y0_4⟩ := F.out.1; obtain ⟨y1_0, y1_1, y1_2, y1_3, y1_4⟩ := F.out.2.1; obtain ⟨y2_0, y2_1, y2_2⟩ := F.out.2.2.1.c; have f2_0 := F.out.2.2.1.fz 0; have f2_1 := F.out.2.2.1.fz 1; have f2_2 := F.out.2.2.1.fz 2; obtain ⟨y3_0, y3_1, y3_2⟩ := F.out.2.2.2.1.c; have f3_0 := F.out.2.2.2.1.fz 0; have f3_1 := F.out.2.2.2.1.fz 1; have f3_2 := F.out.2.2.2.1.fz 2; obtain ⟨y4_0, y4_1, y4_2⟩ := F.out.2.2.2.2.1.c; have f4_0 := F.out.2.2.2.2.1.fz 0; have f4_1 := F.out.2.2.2.2.1.fz 1; have f4_2 := F.out.2.2.2.2.1.fz 2; have hlow := F.out.2.2.2.2.2) | (go_at_call 38; refine (S1.out _).mono ?_; rintro e v38 ⟨rfl, h6⟩; clear y0_0 y0_1 y0_2 y0_3 y0_4 y1_0 y1_1 y1_2 y1_3 y1_4 y2_0 y2_1 y2_2 f2_0 f2_1 f2_2 y3_0 y3_1 y3_2 f3_0 f3_1 f3_2 y4_0 y4_1 y4_2 f4_0 f4_1 f4_2 hlow; have F := hid (show (fun W : World => C5 W (w.heap.size) a ∧ C5 W (w.heap.size + 1) b ∧ B3 W (w.heap.size + 1 + 1) 0 ∧ B3 W (v3.heap.size) ow ∧ B3 W (v21.heap.size) nu ∧ B3 W (v38.heap.size) 0 ∧ Below w.heap.size w W) (v38.alloc (.cells #[.int .u64 0, .int .u64 0, .int .u64 0] 28)) from ⟨(F.out.1.keep h6).keep (ext1 _), (F.out.2.1.keep h6).keep (ext1 _), (F.out.2.2.1.keep h6).keep (ext1 _), (F.out.2.2.2.1.keep h6).keep (ext1 _), (F.out.2.2.2.2.1.keep h6).keep (ext1 _), B3.zero (heap_alloc_new _ _), gt (gt F.out.2.2.2.2.2 h6) (ext1 _)⟩); clear h6 S1; obtain ⟨y0_0, y0_1, y0_2, y0_3, y0_4⟩ := F.out.1; obtain ⟨y1_0, y1_1, y1_2, y1_3, y1_4⟩ := F.out.2.1; obtain ⟨y2_0, y2_1, y2_2⟩ := F.out.2.2.1.c; have f2_0 := F.out.2.2.1.fz 0; have f2_1 := F.out.2.2.1.fz 1; have f2_2 := F.out.2.2.1.fz 2; obtain ⟨y3_0, y3_1, y3_2⟩ := F.out.2.2.2.1.c; have f3_0 := F.out.2.2.2.1.fz 0; have f3_1 := F.out.2.2.2.1.fz 1; have f3_2 := F.out.2.2.2.1.fz 2; obtain ⟨y4_0, y4_1, y4_2⟩ := F.out.2.2.2.2.1.c; have f4_0 := F.out.2.2.2.2.1.fz 0; have f4_1 := F.out.2.2.2.2.1.fz 1; have f4_2 := F.out.2.2.2.2.1.fz 2; obtain ⟨y5_0, y5_1, y5_2⟩ := F.out.2.2.2.2.2.1.c; have f5_0 := F.out.2.2.2.2.2.1.fz 0; have f5_1 := F.out.2.2.2.2.2.1.fz 1; have f5_2 := F.out.2.2.2.2.2.1.fz 2; have hlow := F.out.2.2.2.2.2.2) | (go_at_call 38; refine (S2.out _).mono ?_; rintro e v39 ⟨rfl, h6⟩; clear y0_0 y0_1 y0_2 y0_3 y0_4 y1_0 y1_1 y1_2 y1_3 y1_4 y2_0 y2_1 y2_2 f2_0 f2_1 f2_2 y3_0 y3_1 y3_2 f3_0 f3_1 f3_2 y4_0 y4_1 y4_2 f4_0 f4_1 f4_2 y5_0 y5_1 y5_2 f5_0 f5_1 f5_2 hlow; have F := hid (show (fun W : World => C5 W (w.heap.size) a ∧ C5 W (w.heap.size + 1) b ∧ B3 W (w.heap.size + 1 + 1) 0 ∧ B3 W (v3.heap.size) ow ∧ B3 W (v21.heap.size) nu ∧ B3 W (v38.heap.size) 0 ∧ B3 W (v39.heap.size) gg ∧ Below w.heap.size w W) (v39.alloc (.cells #[.int .u64 (W0 gg), .int .u64 (W1 gg), .int .u64 (W2 gg)] 28)) from ⟨(F.out.1.keep h6).keep (ext1 _), (F.out.2.1.keep h6).keep (ext1 _), (F.out.2.2.1.keep h6).keep (ext1 _), (F.out.2.2.2.1.keep h6).keep (ext1 _), (F.out.2.2.2.2.1.keep h6).keep (ext1 _), (F.out.2.2.2.2.2.1.keep h6).keep (ext1 _), heap_alloc_new _ _, gt (gt F.out.2.2.2.2.2.2 h6) (ext1 _)⟩); clear h6 S2; obtain ⟨y0_0, y0_1, y0_2, y0_3, y0_4⟩ := F.out.1; obtain ⟨y1_0, y1_1, y1_2, y1_3, y1_4⟩ := F.out.2.1; obtain ⟨y2_0, y2_1, y2_2⟩ := F.out.2.2.1.c; have f2_0 := F.out.2.2.1.fz 0; have f2_1 := F.out.2.2.1.fz 1; have f2_2 := F.out.2.2.1.fz 2; obtain ⟨y3_0, y3_1, y3_2⟩ := F.out.2.2.2.1.c; have f3_0 := F.out.2.2.2.1.fz 0; have f3_1 := F.out.2.2.2.1.fz 1; have f3_2 := F.out.2.2.2.1.fz 2; obtain ⟨y4_0, y4_1, y4_2⟩ := F.out.2.2.2.2.1.c; have f4_0 := F.out.2.2.2.2.1.fz 0; have f4_1 := F.out.2.2.2.2.1.fz 1; have f4_2 := F.out.2.2.2.2.1.fz 2; obtain ⟨y5_0, y5_1, y5_2⟩ := F.out.2.2.2.2.2.1.c; have f5_0 := F.out.2.2.2.2.2.1.fz 0; have f5_1 := F.out.2.2.2.2.2.1.fz 1; have f5_2 := F.out.2.2.2.2.2.1.fz 2; obtain ⟨y6_0, y6_1, y6_2⟩ := F.out.2.2.2.2.2.2.1.c; have f6_0 := F.out.2.2.2.2.2.2.1.fz 0; have f6_1 := F.out.2.2.2.2.2.2.1.fz 1; have f6_2 := F.out.2.2.2.2.2.2.1.fz 2; have hlow := F.out.2.2.2.2.2.2.2))
                obtain ⟨z0, z1, z2⟩ := (F.out.2.2.1.set (gg)).c
                exact bodyPost_ret (v := .tuple #[.agg #[.int .u64 (W0 (gg)), .int .u64 (W1 (gg)), .int .u64 (W2 (gg))], .bool true]) (by simp [results, Try.results8, go_sem, z0, z1, z2]) rfl ⟨rfl, (by repeat (first | with_reducible exact Below.refl _ _ | with_reducible assumption | with_reducible refine Below.drew ?_ | with_reducible refine below_drewN ?_ _ | with_reducible refine Below.alloc ?_ (by simp <;> omega) _ | with_reducible refine Below.setCell ?_ (by simp <;> omega) _))⟩
            refine AllReadyK.cons (at_op _ _ _ rfl) (fun K hK => ?_) ?_
            · as_aux_lemma =>
                have hlt := (hHeld.2.2.1).lt
                go_simp
                refine hK.out _ _ (by exact ⟨hHeld.1.keep (ext1 _), hHeld.2.1.keep (ext1 _), hHeld.2.2.1.keep (ext1 _), gt hHeld.2.2.2 (ext1 _)⟩) (fun hHeld => ?_)
                clear hK K
                (try simp only [Act.put, sA, sZ, sS])
                refine wpAnyK_more (S' := (fun W : World => B3 W (v2.heap.size) 0 ∧ C5 W (w.heap.size) a ∧ C5 W (w.heap.size + 1) b ∧ B3 W (w.heap.size + 1 + 1) 0 ∧ Below w.heap.size w W)) (fun W h => h.2) ?_
                replace hHeld : (fun W : World => B3 W (v2.heap.size) 0 ∧ C5 W (w.heap.size) a ∧ C5 W (w.heap.size + 1) b ∧ B3 W (w.heap.size + 1 + 1) 0 ∧ Below w.heap.size w W) _ := ⟨by exact B3.zero (by repeat (first | (refine at_new ?_; first | with_reducible rfl | (simp only [World.size_alloc]; done)) | refine at_old ?_)), hHeld⟩
                obtain ⟨va1, hva1⟩ : ∃ W : World, W = (v2).alloc (.cells #[.int .u64 0, .int .u64 0, .int .u64 0] 28) := ⟨_, rfl⟩
                rw [← hva1] at hHeld ⊢
                clear hva1
                refine gk1 4 (fun K hK => ?_)
                go_simp
                go_at_call 37; refine (DC.out _).mono ?_; rintro e v3 ⟨rfl, h3⟩; have hR : (fun W : World => B3 W (v2.heap.size) 0 ∧ C5 W (w.heap.size) a ∧ C5 W (w.heap.size + 1) b ∧ B3 W (w.heap.size + 1 + 1) 0 ∧ Below w.heap.size w W) v3 := ⟨hHeld.1.keep h3, hHeld.2.1.keep h3, hHeld.2.2.1.keep h3, hHeld.2.2.2.1.keep h3, gt hHeld.2.2.2.2 h3⟩; clear h3
                refine hK.out _ _ hR (fun hHeld => ?_)
                clear hK K
                (try simp only [Act.put, sA, sZ, sS])
                refine gkp 5 ?_
                refine gkp 6 ?_
                refine gkp 7 ?_
                refine gkl 9 (fun K hK => ?_)
                have Z := hHeld.1; obtain ⟨u0, u1, u2⟩ := Z.c; have g0 := Z.fz 0; have g1 := Z.fz 1; have g2 := Z.fz 2; have hc := hHeld.2.2.2.2
                go_simp
                refine hK.out _ _ ?_
                clear hK K
                (try simp only [Act.put, sA, sZ, sS])
                refine gkp 10 ?_
                refine wpAnyK_done (by kernel_rfl) ?_ _
                have Z1 := Z.set ow
                have Z0 := (hHeld.2.2.2.1).far3 (show w.heap.size + 1 + 1 ≠ v2.heap.size by omega) (.int .u64 (W0 ow)) (.int .u64 (W1 ow)) (.int .u64 (W2 ow))
                have hd := show Below w.heap.size w ((((v3).setCell ⟨v2.heap.size, 0, none⟩ (.int .u64 (W0 ow))).setCell ⟨v2.heap.size, 1, none⟩ (.int .u64 (W1 ow))).setCell ⟨v2.heap.size, 2, none⟩ (.int .u64 (W2 ow))) from (by repeat (first | with_reducible exact Below.refl _ _ | with_reducible assumption | with_reducible refine Below.drew ?_ | with_reducible refine below_drewN ?_ _ | with_reducible refine Below.alloc ?_ (by simp <;> omega) _ | with_reducible refine Below.setCell ?_ (by simp <;> omega) _))
                have ZA := C5.far3 (hHeld.2.1) (show w.heap.size ≠ v2.heap.size by omega) (.int .u64 (W0 ow)) (.int .u64 (W1 ow)) (.int .u64 (W2 ow))
                have ZB := C5.far3 (hHeld.2.2.1) (show w.heap.size + 1 ≠ v2.heap.size by omega) (.int .u64 (W0 ow)) (.int .u64 (W1 ow)) (.int .u64 (W2 ow))
                clear hHeld hc u0 u1 u2 g0 g1 g2 Z
                obtain ⟨w9, hw9⟩ : ∃ W : World, W = (((v3).setCell ⟨v2.heap.size, 0, none⟩ (.int .u64 (W0 ow))).setCell ⟨v2.heap.size, 1, none⟩ (.int .u64 (W1 ow))).setCell ⟨v2.heap.size, 2, none⟩ (.int .u64 (W2 ow)) := ⟨_, rfl⟩
                rw [← hw9] at Z1 Z0 ZA ZB hd ⊢
                clear hw9
                have F := hid (show (fun W : World => C5 W (w.heap.size) a ∧ C5 W (w.heap.size + 1) b ∧ B3 W (w.heap.size + 1 + 1) 0 ∧ B3 W (v2.heap.size) ow ∧ Below w.heap.size w W) w9 from ⟨ZA, ZB, Z0, Z1, hd⟩)
                clear Z1 Z0 ZA ZB hd hlt
                obtain ⟨y0_0, y0_1, y0_2, y0_3, y0_4⟩ := F.out.1
                obtain ⟨y1_0, y1_1, y1_2, y1_3, y1_4⟩ := F.out.2.1
                obtain ⟨y2_0, y2_1, y2_2⟩ := F.out.2.2.1.c
                have f2_0 := F.out.2.2.1.fz 0
                have f2_1 := F.out.2.2.1.fz 1
                have f2_2 := F.out.2.2.1.fz 2
                obtain ⟨y3_0, y3_1, y3_2⟩ := F.out.2.2.2.1.c
                have f3_0 := F.out.2.2.2.1.fz 0
                have f3_1 := F.out.2.2.2.1.fz 1
                have f3_2 := F.out.2.2.2.1.fz 2
                have hlow := F.out.2.2.2.2
                go_wp2_with (first | (go_at_call 12; refine (UC.out _).mono ?_; rintro e w6 ⟨rfl, h6⟩; clear y0_0 y0_1 y0_2 y0_3 y0_4 y1_0 y1_1 y1_2 y1_3 y1_4 y2_0 y2_1 y2_2 f2_0 f2_1 f2_2 y3_0 y3_1 y3_2 f3_0 f3_1 f3_2 hlow; have F := hid (show (fun W : World => C5 W (w.heap.size) a ∧ C5 W (w.heap.size + 1) b ∧ B3 W (w.heap.size + 1 + 1) 0 ∧ B3 W (v2.heap.size) ow ∧ Below w.heap.size w W) w6 from ⟨F.out.1.keep h6, F.out.2.1.keep h6, F.out.2.2.1.keep h6, F.out.2.2.2.1.keep h6, gt F.out.2.2.2.2 h6⟩); clear h6 UC; obtain ⟨y0_0, y0_1, y0_2, y0_3, y0_4⟩ := F.out.1; obtain ⟨y1_0, y1_1, y1_2, y1_3, y1_4⟩ := F.out.2.1; obtain ⟨y2_0, y2_1, y2_2⟩ := F.out.2.2.1.c; have f2_0 := F.out.2.2.1.fz 0; have f2_1 := F.out.2.2.1.fz 1; have f2_2 := F.out.2.2.1.fz 2; obtain ⟨y3_0, y3_1, y3_2⟩ := F.out.2.2.2.1.c; have f3_0 := F.out.2.2.2.1.fz 0; have f3_1 := F.out.2.2.2.1.fz 1; have f3_2 := F.out.2.2.2.1.fz 2; have hlow := F.out.2.2.2.2) | (go_at_call 21; refine (AU.out _).mono ?_; rintro e v21 ⟨rfl, h6⟩; clear y0_0 y0_1 y0_2 y0_3 y0_4 y1_0 y1_1 y1_2 y1_3 y1_4 y2_0 y2_1 y2_2 f2_0 f2_1 f2_2 y3_0 y3_1 y3_2 f3_0 f3_1 f3_2 hlow; have F := hid (show (fun W : World => C5 W (w.heap.size) a ∧ C5 W (w.heap.size + 1) b ∧ B3 W (w.heap.size + 1 + 1) 0 ∧ B3 W (v2.heap.size) ow ∧ B3 W (v21.heap.size) nu ∧ Below w.heap.size w W) (v21.alloc (.cells #[.int .u64 (W0 nu), .int .u64 (W1 nu), .int .u64 (W2 nu)] 28)) from ⟨(F.out.1.keep h6).keep (ext1 _), (F.out.2.1.keep h6).keep (ext1 _), (F.out.2.2.1.keep h6).keep (ext1 _), (F.out.2.2.2.1.keep h6).keep (ext1 _), heap_alloc_new _ _, gt (gt F.out.2.2.2.2 h6) (ext1 _)⟩); clear h6 AU; obtain ⟨y0_0, y0_1, y0_2, y0_3, y0_4⟩ := F.out.1; obtain ⟨y1_0, y1_1, y1_2, y1_3, y1_4⟩ := F.out.2.1; obtain ⟨y2_0, y2_1, y2_2⟩ := F.out.2.2.1.c; have f2_0 := F.out.2.2.1.fz 0; have f2_1 := F.out.2.2.1.fz 1; have f2_2 := F.out.2.2.1.fz 2; obtain ⟨y3_0, y3_1, y3_2⟩ := F.out.2.2.2.1.c; have f3_0 := F.out.2.2.2.1.fz 0; have f3_1 := F.out.2.2.2.1.fz 1; have f3_2 := F.out.2.2.2.1.fz 2; obtain ⟨y4_0, y4_1, y4_2⟩ := F.out.2.2.2.2.1.c; have f4_0 := F.out.2.2.2.2.1.fz 0; have f4_1 := F.out.2.2.2.2.1.fz 1; have f4_2 := F.out.2.2.2.2.1.fz 2; have hlow := F.out.2.2.2.2.2) | (go_at_call 38; refine (S1.out _).mono ?_; rintro e v38 ⟨rfl, h6⟩; clear y0_0 y0_1 y0_2 y0_3 y0_4 y1_0 y1_1 y1_2 y1_3 y1_4 y2_0 y2_1 y2_2 f2_0 f2_1 f2_2 y3_0 y3_1 y3_2 f3_0 f3_1 f3_2 y4_0 y4_1 y4_2 f4_0 f4_1 f4_2 hlow; have F := hid (show (fun W : World => C5 W (w.heap.size) a ∧ C5 W (w.heap.size + 1) b ∧ B3 W (w.heap.size + 1 + 1) 0 ∧ B3 W (v2.heap.size) ow ∧ B3 W (v21.heap.size) nu ∧ B3 W (v38.heap.size) 0 ∧ Below w.heap.size w W) (v38.alloc (.cells #[.int .u64 0, .int .u64 0, .int .u64 0] 28)) from ⟨(F.out.1.keep h6).keep (ext1 _), (F.out.2.1.keep h6).keep (ext1 _), (F.out.2.2.1.keep h6).keep (ext1 _), (F.out.2.2.2.1.keep h6).keep (ext1 _), (F.out.2.2.2.2.1.keep h6).keep (ext1 _), B3.zero (heap_alloc_new _ _), gt (gt F.out.2.2.2.2.2 h6) (ext1 _)⟩); clear h6 S1; obtain ⟨y0_0, y0_1, y0_2, y0_3, y0_4⟩ := F.out.1; obtain ⟨y1_0, y1_1, y1_2, y1_3, y1_4⟩ := F.out.2.1; obtain ⟨y2_0, y2_1, y2_2⟩ := F.out.2.2.1.c; have f2_0 := F.out.2.2.1.fz 0; have f2_1 := F.out.2.2.1.fz 1; have f2_2 := F.out.2.2.1.fz 2; obtain ⟨y3_0, y3_1, y3_2⟩ := F.out.2.2.2.1.c; have f3_0 := F.out.2.2.2.1.fz 0; have f3_1 := F.out.2.2.2.1.fz 1; have f3_2 := F.out.2.2.2.1.fz 2; obtain ⟨y4_0, y4_1, y4_2⟩ := F.out.2.2.2.2.1.c; have f4_0 := F.out.2.2.2.2.1.fz 0; have f4_1 := F.out.2.2.2.2.1.fz 1; have f4_2 := F.out.2.2.2.2.1.fz 2; obtain ⟨y5_0, y5_1, y5_2⟩ := F.out.2.2.2.2.2.1.c; have f5_0 := F.out.2.2.2.2.2.1.fz 0; have f5_1 := F.out.2.2.2.2.2.1.fz 1; have f5_2 := F.out.2.2.2.2.2.1.fz 2; have hlow := F.out.2.2.2.2.2.2) | (go_at_call 38; refine (S2.out _).mono ?_; rintro e v39 ⟨rfl, h6⟩; clear y0_0 y0_1 y0_2 y0_3 y0_4 y1_0 y1_1 y1_2 y1_3 y1_4 y2_0 y2_1 y2_2 f2_0 f2_1 f2_2 y3_0 y3_1 y3_2 f3_0 f3_1 f3_2 y4_0 y4_1 y4_2 f4_0 f4_1 f4_2 y5_0 y5_1 y5_2 f5_0 f5_1 f5_2 hlow; have F := hid (show (fun W : World => C5 W (w.heap.size) a ∧ C5 W (w.heap.size + 1) b ∧ B3 W (w.heap.size + 1 + 1) 0 ∧ B3 W (v2.heap.size) ow ∧ B3 W (v21.heap.size) nu ∧ B3 W (v38.heap.size) 0 ∧ B3 W (v39.heap.size) gg ∧ Below w.heap.size w W) (v39.alloc (.cells #[.int .u64 (W0 gg), .int .u64 (W1 gg), .int .u64 (W2 gg)] 28)) from ⟨(F.out.1.keep h6).keep (ext1 _), (F.out.2.1.keep h6).keep (ext1 _), (F.out.2.2.1.keep h6).keep (ext1 _), (F.out.2.2.2.1.keep h6).keep (ext1 _), (F.out.2.2.2.2.1.keep h6).keep (ext1 _), (F.out.2.2.2.2.2.1.keep h6).keep (ext1 _), heap_alloc_new _ _, gt (gt F.out.2.2.2.2.2.2 h6) (ext1 _)⟩); clear h6 S2; obtain ⟨y0_0, y0_1, y0_2, y0_3, y0_4⟩ := F.out.1; obtain ⟨y1_0, y1_1, y1_2, y1_3, y1_4⟩ := F.out.2.1; obtain ⟨y2_0, y2_1, y2_2⟩ := F.out.2.2.1.c; have f2_0 := F.out.2.2.1.fz 0; have f2_1 := F.out.2.2.1.fz 1; have f2_2 := F.out.2.2.1.fz 2; obtain ⟨y3_0, y3_1, y3_2⟩ := F.out.2.2.2.1.c; have f3_0 := F.out.2.2.2.1.fz 0; have f3_1 := F.out.2.2.2.1.fz 1; have f3_2 := F.out.2.2.2.1.fz 2; obtain ⟨y4_0, y4_1, y4_2⟩ := F.out.2.2.2.2.1.c; have f4_0 := F.out.2.2.2.2.1.fz 0; have f4_1 := F.out.2.2.2.2.1.fz 1; have f4_2 := F.out.2.2.2.2.1.fz 2; obtain ⟨y5_0, y5_1, y5_2⟩ := F.out.2.2.2.2.2.1.c; have f5_0 := F.out.2.2.2.2.2.1.fz 0; have f5_1 := F.out.2.2.2.2.2.1.fz 1; have f5_2 := F.out.2.2.2.2.2.1.fz 2; obtain ⟨y6_0, y6_1, y6_2⟩ := F.out.2.2.2.2.2.2.1.c; have f6_0 := F.out.2.2.2.2.2.2.1.fz 0; have f6_1 := F.out.2.2.2.2.2.2.1.fz 1; have f6_2 := F.out.2.2.2.2.2.2.1.fz 2; have hlow := F.out.2.2.2.2.2.2.2))
                obtain ⟨z0, z1, z2⟩ := (F.out.2.2.1.set (gg)).c
                exact bodyPost_ret (v := .tuple #[.agg #[.int .u64 (W0 (gg)), .int .u64 (W1 (gg)), .int .u64 (W2 (gg))], .bool true]) (by simp [results, Try.results8, go_sem, z0, z1, z2]) rfl ⟨rfl, (by repeat (first | with_reducible exact Below.refl _ _ | with_reducible assumption | with_reducible refine Below.drew ?_ | with_reducible refine below_drewN ?_ _ | with_reducible refine Below.alloc ?_ (by simp <;> omega) _ | with_reducible refine Below.setCell ?_ (by simp <;> omega) _))⟩
            exact AllReadyK.nil
        refine AllReadyK.cons (at_op _ _ _ rfl) (fun K hK => ?_) ?_
        · as_aux_lemma =>
            have hlt := (hHeld.2.2.1).lt
            go_simp
            refine hK.out _ _ (by exact ⟨hHeld.1.keep (ext1 _), hHeld.2.1.keep (ext1 _), hHeld.2.2.1.keep (ext1 _), gt hHeld.2.2.2 (ext1 _)⟩) (fun hHeld => ?_)
            clear hK K
            (try simp only [Act.put, sA, sZ, sS])
            refine wpAnyK_more (S' := (fun W : World => B3 W (v1.heap.size) 0 ∧ C5 W (w.heap.size) a ∧ C5 W (w.heap.size + 1) b ∧ B3 W (w.heap.size + 1 + 1) 0 ∧ Below w.heap.size w W)) (fun W h => h.2) ?_
            replace hHeld : (fun W : World => B3 W (v1.heap.size) 0 ∧ C5 W (w.heap.size) a ∧ C5 W (w.heap.size + 1) b ∧ B3 W (w.heap.size + 1 + 1) 0 ∧ Below w.heap.size w W) _ := ⟨by exact B3.zero (by repeat (first | (refine at_new ?_; first | with_reducible rfl | (simp only [World.size_alloc]; done)) | refine at_old ?_)), hHeld⟩
            obtain ⟨va1, hva1⟩ : ∃ W : World, W = (v1).alloc (.cells #[.int .u64 0, .int .u64 0, .int .u64 0] 28) := ⟨_, rfl⟩
            rw [← hva1] at hHeld ⊢
            clear hva1
            refine gk1 3 (fun K hK => ?_)
            go_simp
            go_at_call 21; refine (AB.out _).mono ?_; rintro e v2 ⟨rfl, h2⟩; have hR : (fun W : World => B3 W (v1.heap.size) 0 ∧ C5 W (w.heap.size) a ∧ C5 W (w.heap.size + 1) b ∧ B3 W (w.heap.size + 1 + 1) 0 ∧ Below w.heap.size w W) v2 := ⟨hHeld.1.keep h2, hHeld.2.1.keep h2, hHeld.2.2.1.keep h2, hHeld.2.2.2.1.keep h2, gt hHeld.2.2.2.2 h2⟩; clear h2
            refine hK.out _ _ hR (fun hHeld => ?_)
            clear hK K
            (try simp only [Act.put, sA, sZ, sS])
            refine gk1 4 (fun K hK => ?_)
            go_simp
            go_at_call 37; refine (DC.out _).mono ?_; rintro e v3 ⟨rfl, h3⟩; have hR : (fun W : World => B3 W (v1.heap.size) 0 ∧ C5 W (w.heap.size) a ∧ C5 W (w.heap.size + 1) b ∧ B3 W (w.heap.size + 1 + 1) 0 ∧ Below w.heap.size w W) v3 := ⟨hHeld.1.keep h3, hHeld.2.1.keep h3, hHeld.2.2.1.keep h3, hHeld.2.2.2.1.keep h3, gt hHeld.2.2.2.2 h3⟩; clear h3
            refine hK.out _ _ hR (fun hHeld => ?_)
            clear hK K
            (try simp only [Act.put, sA, sZ, sS])
            refine gkp 5 ?_
            refine gkp 6 ?_
            refine gkp 7 ?_
            refine gkl 9 (fun K hK => ?_)
            have Z := hHeld.1; obtain ⟨u0, u1, u2⟩ := Z.c; have g0 := Z.fz 0; have g1 := Z.fz 1; have g2 := Z.fz 2; have hc := hHeld.2.2.2.2
            go_simp
            refine hK.out _ _ ?_
            clear hK K
            (try simp only [Act.put, sA, sZ, sS])
            refine gkp 10 ?_
            refine wpAnyK_done (by kernel_rfl) ?_ _
            have Z1 := Z.set ow
            have Z0 := (hHeld.2.2.2.1).far3 (show w.heap.size + 1 + 1 ≠ v1.heap.size by omega) (.int .u64 (W0 ow)) (.int .u64 (W1 ow)) (.int .u64 (W2 ow))
            have hd := show Below w.heap.size w ((((v3).setCell ⟨v1.heap.size, 0, none⟩ (.int .u64 (W0 ow))).setCell ⟨v1.heap.size, 1, none⟩ (.int .u64 (W1 ow))).setCell ⟨v1.heap.size, 2, none⟩ (.int .u64 (W2 ow))) from (by repeat (first | with_reducible exact Below.refl _ _ | with_reducible assumption | with_reducible refine Below.drew ?_ | with_reducible refine below_drewN ?_ _ | with_reducible refine Below.alloc ?_ (by simp <;> omega) _ | with_reducible refine Below.setCell ?_ (by simp <;> omega) _))
            have ZA := C5.far3 (hHeld.2.1) (show w.heap.size ≠ v1.heap.size by omega) (.int .u64 (W0 ow)) (.int .u64 (W1 ow)) (.int .u64 (W2 ow))
            have ZB := C5.far3 (hHeld.2.2.1) (show w.heap.size + 1 ≠ v1.heap.size by omega) (.int .u64 (W0 ow)) (.int .u64 (W1 ow)) (.int .u64 (W2 ow))
            clear hHeld hc u0 u1 u2 g0 g1 g2 Z
            obtain ⟨w9, hw9⟩ : ∃ W : World, W = (((v3).setCell ⟨v1.heap.size, 0, none⟩ (.int .u64 (W0 ow))).setCell ⟨v1.heap.size, 1, none⟩ (.int .u64 (W1 ow))).setCell ⟨v1.heap.size, 2, none⟩ (.int .u64 (W2 ow)) := ⟨_, rfl⟩
            rw [← hw9] at Z1 Z0 ZA ZB hd ⊢
            clear hw9
            have F := hid (show (fun W : World => C5 W (w.heap.size) a ∧ C5 W (w.heap.size + 1) b ∧ B3 W (w.heap.size + 1 + 1) 0 ∧ B3 W (v1.heap.size) ow ∧ Below w.heap.size w W) w9 from ⟨ZA, ZB, Z0, Z1, hd⟩)
            clear Z1 Z0 ZA ZB hd hlt
            obtain ⟨y0_0, y0_1, y0_2, y0_3, y0_4⟩ := F.out.1
            obtain ⟨y1_0, y1_1, y1_2, y1_3, y1_4⟩ := F.out.2.1
            obtain ⟨y2_0, y2_1, y2_2⟩ := F.out.2.2.1.c
            have f2_0 := F.out.2.2.1.fz 0
            have f2_1 := F.out.2.2.1.fz 1
            have f2_2 := F.out.2.2.1.fz 2
            obtain ⟨y3_0, y3_1, y3_2⟩ := F.out.2.2.2.1.c
            have f3_0 := F.out.2.2.2.1.fz 0
            have f3_1 := F.out.2.2.2.1.fz 1
            have f3_2 := F.out.2.2.2.1.fz 2
            have hlow := F.out.2.2.2.2
            go_wp2_with (first | (go_at_call 12; refine (UC.out _).mono ?_; rintro e w6 ⟨rfl, h6⟩; clear y0_0 y0_1 y0_2 y0_3 y0_4 y1_0 y1_1 y1_2 y1_3 y1_4 y2_0 y2_1 y2_2 f2_0 f2_1 f2_2 y3_0 y3_1 y3_2 f3_0 f3_1 f3_2 hlow; have F := hid (show (fun W : World => C5 W (w.heap.size) a ∧ C5 W (w.heap.size + 1) b ∧ B3 W (w.heap.size + 1 + 1) 0 ∧ B3 W (v1.heap.size) ow ∧ Below w.heap.size w W) w6 from ⟨F.out.1.keep h6, F.out.2.1.keep h6, F.out.2.2.1.keep h6, F.out.2.2.2.1.keep h6, gt F.out.2.2.2.2 h6⟩); clear h6 UC; obtain ⟨y0_0, y0_1, y0_2, y0_3, y0_4⟩ := F.out.1; obtain ⟨y1_0, y1_1, y1_2, y1_3, y1_4⟩ := F.out.2.1; obtain ⟨y2_0, y2_1, y2_2⟩ := F.out.2.2.1.c; have f2_0 := F.out.2.2.1.fz 0; have f2_1 := F.out.2.2.1.fz 1; have f2_2 := F.out.2.2.1.fz 2; obtain ⟨y3_0, y3_1, y3_2⟩ := F.out.2.2.2.1.c; have f3_0 := F.out.2.2.2.1.fz 0; have f3_1 := F.out.2.2.2.1.fz 1; have f3_2 := F.out.2.2.2.1.fz 2; have hlow := F.out.2.2.2.2) | (go_at_call 21; refine (AU.out _).mono ?_; rintro e v21 ⟨rfl, h6⟩; clear y0_0 y0_1 y0_2 y0_3 y0_4 y1_0 y1_1 y1_2 y1_3 y1_4 y2_0 y2_1 y2_2 f2_0 f2_1 f2_2 y3_0 y3_1 y3_2 f3_0 f3_1 f3_2 hlow; have F := hid (show (fun W : World => C5 W (w.heap.size) a ∧ C5 W (w.heap.size + 1) b ∧ B3 W (w.heap.size + 1 + 1) 0 ∧ B3 W (v1.heap.size) ow ∧ B3 W (v21.heap.size) nu ∧ Below w.heap.size w W) (v21.alloc (.cells #[.int .u64 (W0 nu), .int .u64 (W1 nu), .int .u64 (W2 nu)] 28)) from ⟨(F.out.1.keep h6).keep (ext1 _), (F.out.2.1.keep h6).keep (ext1 _), (F.out.2.2.1.keep h6).keep (ext1 _), (F.out.2.2.2.1.keep h6).keep (ext1 _), heap_alloc_new _ _, gt (gt F.out.2.2.2.2 h6) (ext1 _)⟩); clear h6 AU; obtain ⟨y0_0, y0_1, y0_2, y0_3, y0_4⟩ := F.out.1; obtain ⟨y1_0, y1_1, y1_2, y1_3, y1_4⟩ := F.out.2.1; obtain ⟨y2_0, y2_1, y2_2⟩ := F.out.2.2.1.c; have f2_0 := F.out.2.2.1.fz 0; have f2_1 := F.out.2.2.1.fz 1; have f2_2 := F.out.2.2.1.fz 2; obtain ⟨y3_0, y3_1, y3_2⟩ := F.out.2.2.2.1.c; have f3_0 := F.out.2.2.2.1.fz 0; have f3_1 := F.out.2.2.2.1.fz 1; have f3_2 := F.out.2.2.2.1.fz 2; obtain ⟨y4_0, y4_1, y4_2⟩ := F.out.2.2.2.2.1.c; have f4_0 := F.out.2.2.2.2.1.fz 0; have f4_1 := F.out.2.2.2.2.1.fz 1; have f4_2 := F.out.2.2.2.2.1.fz 2; have hlow := F.out.2.2.2.2.2) | (go_at_call 38; refine (S1.out _).mono ?_; rintro e v38 ⟨rfl, h6⟩; clear y0_0 y0_1 y0_2 y0_3 y0_4 y1_0 y1_1 y1_2 y1_3 y1_4 y2_0 y2_1 y2_2 f2_0 f2_1 f2_2 y3_0 y3_1 y3_2 f3_0 f3_1 f3_2 y4_0 y4_1 y4_2 f4_0 f4_1 f4_2 hlow; have F := hid (show (fun W : World => C5 W (w.heap.size) a ∧ C5 W (w.heap.size + 1) b ∧ B3 W (w.heap.size + 1 + 1) 0 ∧ B3 W (v1.heap.size) ow ∧ B3 W (v21.heap.size) nu ∧ B3 W (v38.heap.size) 0 ∧ Below w.heap.size w W) (v38.alloc (.cells #[.int .u64 0, .int .u64 0, .int .u64 0] 28)) from ⟨(F.out.1.keep h6).keep (ext1 _), (F.out.2.1.keep h6).keep (ext1 _), (F.out.2.2.1.keep h6).keep (ext1 _), (F.out.2.2.2.1.keep h6).keep (ext1 _), (F.out.2.2.2.2.1.keep h6).keep (ext1 _), B3.zero (heap_alloc_new _ _), gt (gt F.out.2.2.2.2.2 h6) (ext1 _)⟩); clear h6 S1; obtain ⟨y0_0, y0_1, y0_2, y0_3, y0_4⟩ := F.out.1; obtain ⟨y1_0, y1_1, y1_2, y1_3, y1_4⟩ := F.out.2.1; obtain ⟨y2_0, y2_1, y2_2⟩ := F.out.2.2.1.c; have f2_0 := F.out.2.2.1.fz 0; have f2_1 := F.out.2.2.1.fz 1; have f2_2 := F.out.2.2.1.fz 2; obtain ⟨y3_0, y3_1, y3_2⟩ := F.out.2.2.2.1.c; have f3_0 := F.out.2.2.2.1.fz 0; have f3_1 := F.out.2.2.2.1.fz 1; have f3_2 := F.out.2.2.2.1.fz 2; obtain ⟨y4_0, y4_1, y4_2⟩ := F.out.2.2.2.2.1.c; have f4_0 := F.out.2.2.2.2.1.fz 0; have f4_1 := F.out.2.2.2.2.1.fz 1; have f4_2 := F.out.2.2.2.2.1.fz 2; obtain ⟨y5_0, y5_1, y5_2⟩ := F.out.2.2.2.2.2.1.c; have f5_0 := F.out.2.2.2.2.2.1.fz 0; have f5_1 := F.out.2.2.2.2.2.1.fz 1; have f5_2 := F.out.2.2.2.2.2.1.fz 2; have hlow := F.out.2.2.2.2.2.2) | (go_at_call 38; refine (S2.out _).mono ?_; rintro e v39 ⟨rfl, h6⟩; clear y0_0 y0_1 y0_2 y0_3 y0_4 y1_0 y1_1 y1_2 y1_3 y1_4 y2_0 y2_1 y2_2 f2_0 f2_1 f2_2 y3_0 y3_1 y3_2 f3_0 f3_1 f3_2 y4_0 y4_1 y4_2 f4_0 f4_1 f4_2 y5_0 y5_1 y5_2 f5_0 f5_1 f5_2 hlow; have F := hid (show (fun W : World => C5 W (w.heap.size) a ∧ C5 W (w.heap.size + 1) b ∧ B3 W (w.heap.size + 1 + 1) 0 ∧ B3 W (v1.heap.size) ow ∧ B3 W (v21.heap.size) nu ∧ B3 W (v38.heap.size) 0 ∧ B3 W (v39.heap.size) gg ∧ Below w.heap.size w W) (v39.alloc (.cells #[.int .u64 (W0 gg), .int .u64 (W1 gg), .int .u64 (W2 gg)] 28)) from ⟨(F.out.1.keep h6).keep (ext1 _), (F.out.2.1.keep h6).keep (ext1 _), (F.out.2.2.1.keep h6).keep (ext1 _), (F.out.2.2.2.1.keep h6).keep (ext1 _), (F.out.2.2.2.2.1.keep h6).keep (ext1 _), (F.out.2.2.2.2.2.1.keep h6).keep (ext1 _), heap_alloc_new _ _, gt (gt F.out.2.2.2.2.2.2 h6) (ext1 _)⟩); clear h6 S2; obtain ⟨y0_0, y0_1, y0_2, y0_3, y0_4⟩ := F.out.1; obtain ⟨y1_0, y1_1, y1_2, y1_3, y1_4⟩ := F.out.2.1; obtain ⟨y2_0, y2_1, y2_2⟩ := F.out.2.2.1.c; have f2_0 := F.out.2.2.1.fz 0; have f2_1 := F.out.2.2.1.fz 1; have f2_2 := F.out.2.2.1.fz 2; obtain ⟨y3_0, y3_1, y3_2⟩ := F.out.2.2.2.1.c; have f3_0 := F.out.2.2.2.1.fz 0; have f3_1 := F.out.2.2.2.1.fz 1; have f3_2 := F.out.2.2.2.1.fz 2; obtain ⟨y4_0, y4_1, y4_2⟩ := F.out.2.2.2.2.1.c; have f4_0 := F.out.2.2.2.2.1.fz 0; have f4_1 := F.out.2.2.2.2.1.fz 1; have f4_2 := F.out.2.2.2.2.1.fz 2; obtain ⟨y5_0, y5_1, y5_2⟩ := F.out.2.2.2.2.2.1.c; have f5_0 := F.out.2.2.2.2.2.1.fz 0; have f5_1 := F.out.2.2.2.2.2.1.fz 1; have f5_2 := F.out.2.2.2.2.2.1.fz 2; obtain ⟨y6_0, y6_1, y6_2⟩ := F.out.2.2.2.2.2.2.1.c; have f6_0 := F.out.2.2.2.2.2.2.1.fz 0; have f6_1 := F.out.2.2.2.2.2.2.1.fz 1; have f6_2 := F.out.2.2.2.2.2.2.1.fz 2; have hlow := F.out.2.2.2.2.2.2.2))
            obtain ⟨z0, z1, z2⟩ := (F.out.2.2.1.set (gg)).c
            exact bodyPost_ret (v := .tuple #[.agg #[.int .u64 (W0 (gg)), .int .u64 (W1 (gg)), .int .u64 (W2 (gg))], .bool true]) (by simp [results, Try.results8, go_sem, z0, z1, z2]) rfl ⟨rfl, (by repeat (first | with_reducible exact Below.refl _ _ | with_reducible assumption | with_reducible refine Below.drew ?_ | with_reducible refine below_drewN ?_ _ | with_reducible refine Below.alloc ?_ (by simp <;> omega) _ | with_reducible refine Below.setCell ?_ (by simp <;> omega) _))⟩
        exact AllReadyK.nil
    refine AllReadyK.cons (at_op _ _ _ rfl) (fun K hK => ?_) ?_
    · as_aux_lemma =>
        have hlt : w.heap.size + 1 + 1 < w.heap.size + 1 + 1 + 1 := by omega
        go_simp
        refine hK.out _ _ (by exact ⟨hHeld.1.keep (ext1 _), hHeld.2.1.keep (ext1 _), hHeld.2.2.1.keep (ext1 _), gt hHeld.2.2.2 (ext1 _)⟩) (fun hHeld => ?_)
        clear hK K
        (try simp only [Act.put, sA, sZ, sS])
        refine wpAnyK_more (S' := (fun W : World => B3 W (w.heap.size + 1 + 1 + 1) 0 ∧ C5 W (w.heap.size) a ∧ C5 W (w.heap.size + 1) b ∧ B3 W (w.heap.size + 1 + 1) 0 ∧ Below w.heap.size w W)) (fun W h => h.2) ?_
        replace hHeld : (fun W : World => B3 W (w.heap.size + 1 + 1 + 1) 0 ∧ C5 W (w.heap.size) a ∧ C5 W (w.heap.size + 1) b ∧ B3 W (w.heap.size + 1 + 1) 0 ∧ Below w.heap.size w W) _ := ⟨by exact B3.zero (by repeat (first | (refine at_new ?_; first | with_reducible rfl | (simp only [World.size_alloc]; done)) | refine at_old ?_)), hHeld⟩
        obtain ⟨va1, hva1⟩ : ∃ W : World, W = World.drew ((((w.alloc (.cells #[.bool (a).n, .int .i64 (a).lx, .int .i64 (a).ly, .int .i64 (a).hx, .int .i64 (a).hy] 25)).alloc (.cells #[.bool (b).n, .int .i64 (b).lx, .int .i64 (b).ly, .int .i64 (b).hx, .int .i64 (b).hy] 25)).alloc (.cells #[.int .u64 0, .int .u64 0, .int .u64 0] 28)).alloc (.cells #[.int .u64 0, .int .u64 0, .int .u64 0] 28)) := ⟨_, rfl⟩
        rw [← hva1] at hHeld ⊢
        clear hva1
        refine gk1 1 (fun K hK => ?_)
        go_simp
        go_at_call 21; refine (AA.out _).mono ?_; rintro e v1 ⟨rfl, h1⟩; have hR : (fun W : World => B3 W (w.heap.size + 1 + 1 + 1) 0 ∧ C5 W (w.heap.size) a ∧ C5 W (w.heap.size + 1) b ∧ B3 W (w.heap.size + 1 + 1) 0 ∧ Below w.heap.size w W) v1 := ⟨hHeld.1.keep h1, hHeld.2.1.keep h1, hHeld.2.2.1.keep h1, hHeld.2.2.2.1.keep h1, gt hHeld.2.2.2.2 h1⟩; clear h1
        refine hK.out _ _ hR (fun hHeld => ?_)
        clear hK K
        (try simp only [Act.put, sA, sZ, sS])
        refine gk1 3 (fun K hK => ?_)
        go_simp
        go_at_call 21; refine (AB.out _).mono ?_; rintro e v2 ⟨rfl, h2⟩; have hR : (fun W : World => B3 W (w.heap.size + 1 + 1 + 1) 0 ∧ C5 W (w.heap.size) a ∧ C5 W (w.heap.size + 1) b ∧ B3 W (w.heap.size + 1 + 1) 0 ∧ Below w.heap.size w W) v2 := ⟨hHeld.1.keep h2, hHeld.2.1.keep h2, hHeld.2.2.1.keep h2, hHeld.2.2.2.1.keep h2, gt hHeld.2.2.2.2 h2⟩; clear h2
        refine hK.out _ _ hR (fun hHeld => ?_)
        clear hK K
        (try simp only [Act.put, sA, sZ, sS])
        refine gk1 4 (fun K hK => ?_)
        go_simp
        go_at_call 37; refine (DC.out _).mono ?_; rintro e v3 ⟨rfl, h3⟩; have hR : (fun W : World => B3 W (w.heap.size + 1 + 1 + 1) 0 ∧ C5 W (w.heap.size) a ∧ C5 W (w.heap.size + 1) b ∧ B3 W (w.heap.size + 1 + 1) 0 ∧ Below w.heap.size w W) v3 := ⟨hHeld.1.keep h3, hHeld.2.1.keep h3, hHeld.2.2.1.keep h3, hHeld.2.2.2.1.keep h3, gt hHeld.2.2.2.2 h3⟩; clear h3
        refine hK.out _ _ hR (fun hHeld => ?_)
        clear hK K
        (try simp only [Act.put, sA, sZ, sS])
        refine gkp 5 ?_
        refine gkp 6 ?_
        refine gkp 7 ?_
        refine gkl 9 (fun K hK => ?_)
        have Z := hHeld.1; obtain ⟨u0, u1, u2⟩ := Z.c; have g0 := Z.fz 0; have g1 := Z.fz 1; have g2 := Z.fz 2; have hc := hHeld.2.2.2.2
        go_simp
        refine hK.out _ _ ?_
        clear hK K
        (try simp only [Act.put, sA, sZ, sS])
        refine gkp 10 ?_
        refine wpAnyK_done (by kernel_rfl) ?_ _
        have Z1 := Z.set ow
        have Z0 := (hHeld.2.2.2.1).far3 (show w.heap.size + 1 + 1 ≠ w.heap.size + 1 + 1 + 1 by omega) (.int .u64 (W0 ow)) (.int .u64 (W1 ow)) (.int .u64 (W2 ow))
        have hd := show Below w.heap.size w ((((v3).setCell ⟨w.heap.size + 1 + 1 + 1, 0, none⟩ (.int .u64 (W0 ow))).setCell ⟨w.heap.size + 1 + 1 + 1, 1, none⟩ (.int .u64 (W1 ow))).setCell ⟨w.heap.size + 1 + 1 + 1, 2, none⟩ (.int .u64 (W2 ow))) from (by repeat (first | with_reducible exact Below.refl _ _ | with_reducible assumption | with_reducible refine Below.drew ?_ | with_reducible refine below_drewN ?_ _ | with_reducible refine Below.alloc ?_ (by simp <;> omega) _ | with_reducible refine Below.setCell ?_ (by simp <;> omega) _))
        have ZA := C5.far3 (hHeld.2.1) (show w.heap.size ≠ w.heap.size + 1 + 1 + 1 by omega) (.int .u64 (W0 ow)) (.int .u64 (W1 ow)) (.int .u64 (W2 ow))
        have ZB := C5.far3 (hHeld.2.2.1) (show w.heap.size + 1 ≠ w.heap.size + 1 + 1 + 1 by omega) (.int .u64 (W0 ow)) (.int .u64 (W1 ow)) (.int .u64 (W2 ow))
        clear hHeld hc u0 u1 u2 g0 g1 g2 Z
        obtain ⟨w9, hw9⟩ : ∃ W : World, W = (((v3).setCell ⟨w.heap.size + 1 + 1 + 1, 0, none⟩ (.int .u64 (W0 ow))).setCell ⟨w.heap.size + 1 + 1 + 1, 1, none⟩ (.int .u64 (W1 ow))).setCell ⟨w.heap.size + 1 + 1 + 1, 2, none⟩ (.int .u64 (W2 ow)) := ⟨_, rfl⟩
        rw [← hw9] at Z1 Z0 ZA ZB hd ⊢
        clear hw9
        have F := hid (show (fun W : World => C5 W (w.heap.size) a ∧ C5 W (w.heap.size + 1) b ∧ B3 W (w.heap.size + 1 + 1) 0 ∧ B3 W (w.heap.size + 1 + 1 + 1) ow ∧ Below w.heap.size w W) w9 from ⟨ZA, ZB, Z0, Z1, hd⟩)
        clear Z1 Z0 ZA ZB hd hlt
        obtain ⟨y0_0, y0_1, y0_2, y0_3, y0_4⟩ := F.out.1
        obtain ⟨y1_0, y1_1, y1_2, y1_3, y1_4⟩ := F.out.2.1
        obtain ⟨y2_0, y2_1, y2_2⟩ := F.out.2.2.1.c
        have f2_0 := F.out.2.2.1.fz 0
        have f2_1 := F.out.2.2.1.fz 1
        have f2_2 := F.out.2.2.1.fz 2
        obtain ⟨y3_0, y3_1, y3_2⟩ := F.out.2.2.2.1.c
        have f3_0 := F.out.2.2.2.1.fz 0
        have f3_1 := F.out.2.2.2.1.fz 1
        have f3_2 := F.out.2.2.2.1.fz 2
        have hlow := F.out.2.2.2.2
        go_wp2_with (first | (go_at_call 12; refine (UC.out _).mono ?_; rintro e w6 ⟨rfl, h6⟩; clear y0_0 y0_1 y0_2 y0_3 y0_4 y1_0 y1_1 y1_2 y1_3 y1_4 y2_0 y2_1 y2_2 f2_0 f2_1 f2_2 y3_0 y3_1 y3_2 f3_0 f3_1 f3_2 hlow; have F := hid (show (fun W : World => C5 W (w.heap.size) a ∧ C5 W (w.heap.size + 1) b ∧ B3 W (w.heap.size + 1 + 1) 0 ∧ B3 W (w.heap.size + 1 + 1 + 1) ow ∧ Below w.heap.size w W) w6 from ⟨F.out.1.keep h6, F.out.2.1.keep h6, F.out.2.2.1.keep h6, F.out.2.2.2.1.keep h6, gt F.out.2.2.2.2 h6⟩); clear h6 UC; obtain ⟨y0_0, y0_1, y0_2, y0_3, y0_4⟩ := F.out.1; obtain ⟨y1_0, y1_1, y1_2, y1_3, y1_4⟩ := F.out.2.1; obtain ⟨y2_0, y2_1, y2_2⟩ := F.out.2.2.1.c; have f2_0 := F.out.2.2.1.fz 0; have f2_1 := F.out.2.2.1.fz 1; have f2_2 := F.out.2.2.1.fz 2; obtain ⟨y3_0, y3_1, y3_2⟩ := F.out.2.2.2.1.c; have f3_0 := F.out.2.2.2.1.fz 0; have f3_1 := F.out.2.2.2.1.fz 1; have f3_2 := F.out.2.2.2.1.fz 2; have hlow := F.out.2.2.2.2) | (go_at_call 21; refine (AU.out _).mono ?_; rintro e v21 ⟨rfl, h6⟩; clear y0_0 y0_1 y0_2 y0_3 y0_4 y1_0 y1_1 y1_2 y1_3 y1_4 y2_0 y2_1 y2_2 f2_0 f2_1 f2_2 y3_0 y3_1 y3_2 f3_0 f3_1 f3_2 hlow; have F := hid (show (fun W : World => C5 W (w.heap.size) a ∧ C5 W (w.heap.size + 1) b ∧ B3 W (w.heap.size + 1 + 1) 0 ∧ B3 W (w.heap.size + 1 + 1 + 1) ow ∧ B3 W (v21.heap.size) nu ∧ Below w.heap.size w W) (v21.alloc (.cells #[.int .u64 (W0 nu), .int .u64 (W1 nu), .int .u64 (W2 nu)] 28)) from ⟨(F.out.1.keep h6).keep (ext1 _), (F.out.2.1.keep h6).keep (ext1 _), (F.out.2.2.1.keep h6).keep (ext1 _), (F.out.2.2.2.1.keep h6).keep (ext1 _), heap_alloc_new _ _, gt (gt F.out.2.2.2.2 h6) (ext1 _)⟩); clear h6 AU; obtain ⟨y0_0, y0_1, y0_2, y0_3, y0_4⟩ := F.out.1; obtain ⟨y1_0, y1_1, y1_2, y1_3, y1_4⟩ := F.out.2.1; obtain ⟨y2_0, y2_1, y2_2⟩ := F.out.2.2.1.c; have f2_0 := F.out.2.2.1.fz 0; have f2_1 := F.out.2.2.1.fz 1; have f2_2 := F.out.2.2.1.fz 2; obtain ⟨y3_0, y3_1, y3_2⟩ := F.out.2.2.2.1.c; have f3_0 := F.out.2.2.2.1.fz 0; have f3_1 := F.out.2.2.2.1.fz 1; have f3_2 := F.out.2.2.2.1.fz 2; obtain ⟨y4_0, y4_1, y4_2⟩ := F.out.2.2.2.2.1.c; have f4_0 := F.out.2.2.2.2.1.fz 0; have f4_1 := F.out.2.2.2.2.1.fz 1; have f4_2 := F.out.2.2.2.2.1.fz 2; have hlow := F.out.2.2.2.2.2) | (go_at_call 38; refine (S1.out _).mono ?_; rintro e v38 ⟨rfl, h6⟩; clear y0_0 y0_1 y0_2 y0_3 y0_4 y1_0 y1_1 y1_2 y1_3 y1_4 y2_0 y2_1 y2_2 f2_0 f2_1 f2_2 y3_0 y3_1 y3_2 f3_0 f3_1 f3_2 y4_0 y4_1 y4_2 f4_0 f4_1 f4_2 hlow; have F := hid (show (fun W : World => C5 W (w.heap.size) a ∧ C5 W (w.heap.size + 1) b ∧ B3 W (w.heap.size + 1 + 1) 0 ∧ B3 W (w.heap.size + 1 + 1 + 1) ow ∧ B3 W (v21.heap.size) nu ∧ B3 W (v38.heap.size) 0 ∧ Below w.heap.size w W) (v38.alloc (.cells #[.int .u64 0, .int .u64 0, .int .u64 0] 28)) from ⟨(F.out.1.keep h6).keep (ext1 _), (F.out.2.1.keep h6).keep (ext1 _), (F.out.2.2.1.keep h6).keep (ext1 _), (F.out.2.2.2.1.keep h6).keep (ext1 _), (F.out.2.2.2.2.1.keep h6).keep (ext1 _), B3.zero (heap_alloc_new _ _), gt (gt F.out.2.2.2.2.2 h6) (ext1 _)⟩); clear h6 S1; obtain ⟨y0_0, y0_1, y0_2, y0_3, y0_4⟩ := F.out.1; obtain ⟨y1_0, y1_1, y1_2, y1_3, y1_4⟩ := F.out.2.1; obtain ⟨y2_0, y2_1, y2_2⟩ := F.out.2.2.1.c; have f2_0 := F.out.2.2.1.fz 0; have f2_1 := F.out.2.2.1.fz 1; have f2_2 := F.out.2.2.1.fz 2; obtain ⟨y3_0, y3_1, y3_2⟩ := F.out.2.2.2.1.c; have f3_0 := F.out.2.2.2.1.fz 0; have f3_1 := F.out.2.2.2.1.fz 1; have f3_2 := F.out.2.2.2.1.fz 2; obtain ⟨y4_0, y4_1, y4_2⟩ := F.out.2.2.2.2.1.c; have f4_0 := F.out.2.2.2.2.1.fz 0; have f4_1 := F.out.2.2.2.2.1.fz 1; have f4_2 := F.out.2.2.2.2.1.fz 2; obtain ⟨y5_0, y5_1, y5_2⟩ := F.out.2.2.2.2.2.1.c; have f5_0 := F.out.2.2.2.2.2.1.fz 0; have f5_1 := F.out.2.2.2.2.2.1.fz 1; have f5_2 := F.out.2.2.2.2.2.1.fz 2; have hlow := F.out.2.2.2.2.2.2) | (go_at_call 38; refine (S2.out _).mono ?_; rintro e v39 ⟨rfl, h6⟩; clear y0_0 y0_1 y0_2 y0_3 y0_4 y1_0 y1_1 y1_2 y1_3 y1_4 y2_0 y2_1 y2_2 f2_0 f2_1 f2_2 y3_0 y3_1 y3_2 f3_0 f3_1 f3_2 y4_0 y4_1 y4_2 f4_0 f4_1 f4_2 y5_0 y5_1 y5_2 f5_0 f5_1 f5_2 hlow; have F := hid (show (fun W : World => C5 W (w.heap.size) a ∧ C5 W (w.heap.size + 1) b ∧ B3 W (w.heap.size + 1 + 1) 0 ∧ B3 W (w.heap.size + 1 + 1 + 1) ow ∧ B3 W (v21.heap.size) nu ∧ B3 W (v38.heap.size) 0 ∧ B3 W (v39.heap.size) gg ∧ Below w.heap.size w W) (v39.alloc (.cells #[.int .u64 (W0 gg), .int .u64 (W1 gg), .int .u64 (W2 gg)] 28)) from ⟨(F.out.1.keep h6).keep (ext1 _), (F.out.2.1.keep h6).keep (ext1 _), (F.out.2.2.1.keep h6).keep (ext1 _), (F.out.2.2.2.1.keep h6).keep (ext1 _), (F.out.2.2.2.2.1.keep h6).keep (ext1 _), (F.out.2.2.2.2.2.1.keep h6).keep (ext1 _), heap_alloc_new _ _, gt (gt F.out.2.2.2.2.2.2 h6) (ext1 _)⟩); clear h6 S2; obtain ⟨y0_0, y0_1, y0_2, y0_3, y0_4⟩ := F.out.1; obtain ⟨y1_0, y1_1, y1_2, y1_3, y1_4⟩ := F.out.2.1; obtain ⟨y2_0, y2_1, y2_2⟩ := F.out.2.2.1.c; have f2_0 := F.out.2.2.1.fz 0; have f2_1 := F.out.2.2.1.fz 1; have f2_2 := F.out.2.2.1.fz 2; obtain ⟨y3_0, y3_1, y3_2⟩ := F.out.2.2.2.1.c; have f3_0 := F.out.2.2.2.1.fz 0; have f3_1 := F.out.2.2.2.1.fz 1; have f3_2 := F.out.2.2.2.1.fz 2; obtain ⟨y4_0, y4_1, y4_2⟩ := F.out.2.2.2.2.1.c; have f4_0 := F.out.2.2.2.2.1.fz 0; have f4_1 := F.out.2.2.2.2.1.fz 1; have f4_2 := F.out.2.2.2.2.1.fz 2; obtain ⟨y5_0, y5_1, y5_2⟩ := F.out.2.2.2.2.2.1.c; have f5_0 := F.out.2.2.2.2.2.1.fz 0; have f5_1 := F.out.2.2.2.2.2.1.fz 1; have f5_2 := F.out.2.2.2.2.2.1.fz 2; obtain ⟨y6_0, y6_1, y6_2⟩ := F.out.2.2.2.2.2.2.1.c; have f6_0 := F.out.2.2.2.2.2.2.1.fz 0; have f6_1 := F.out.2.2.2.2.2.2.1.fz 1; have f6_2 := F.out.2.2.2.2.2.2.1.fz 2; have hlow := F.out.2.2.2.2.2.2.2))
        obtain ⟨z0, z1, z2⟩ := (F.out.2.2.1.set (gg)).c
        exact bodyPost_ret (v := .tuple #[.agg #[.int .u64 (W0 (gg)), .int .u64 (W1 (gg)), .int .u64 (W2 (gg))], .bool true]) (by simp [results, Try.results8, go_sem, z0, z1, z2]) rfl ⟨rfl, (by repeat (first | with_reducible exact Below.refl _ _ | with_reducible assumption | with_reducible refine Below.drew ?_ | with_reducible refine below_drewN ?_ _ | with_reducible refine Below.alloc ?_ (by simp <;> omega) _ | with_reducible refine Below.setCell ?_ (by simp <;> omega) _))⟩
    exact AllReadyK.nil
end Go.Proofs.Ytjlahomjhadnkaa
namespace Go.Proofs.Ytjlahomjhadnkaa
open Go.RowKit Go.Maps Wid

set_option maxRecDepth 100000 in
set_option maxHeartbeats 16000000 in
theorem rwaste_call (a b : Rect) (ha : Bd a) (hb : Bd b) (w : World) : Calls Try.prog 9 #[.agg #[.bool (a).n, .int .i64 (a).lx, .int .i64 (a).ly, .int .i64 (a).hx, .int .i64 (a).hy], .agg #[.bool (b).n, .int .i64 (b).lx, .int .i64 (b).ly, .int .i64 (b).hx, .int .i64 (b).hy]] w fun e w' => e = .returned (.tuple #[.agg #[.int .u64 (W0 (wasteN a b)), .int .u64 (W1 (wasteN a b)), .int .u64 (W2 (wasteN a b))], .bool (wasteB a b)]) ∧ Below w.heap.size w w' := by
  have UC := hid (runion_call a b)
  have AU := hid (rarea_call (uniR a b) (bd_uni ha hb))
  have AA := hid (rarea_call a ha)
  have AB := hid (rarea_call b hb)
  have DC := hid (fun W => show Calls Try.prog 39 #[.agg #[.int .u64 (W0 (areaN a)), .int .u64 (W1 (areaN a)), .int .u64 (W2 (areaN a))], .agg #[.int .u64 (W0 (areaN b)), .int .u64 (W1 (areaN b)), .int .u64 (W2 (areaN b))]] W fun e w' => e = .returned (.tuple #[.agg #[.int .u64 (W0 (ownN a b)), .int .u64 (W1 (ownN a b)), .int .u64 (W2 (ownN a b))], .bool true]) ∧ Below W.heap.size W w' from radd_any (areaN a) (areaN b) (u192 (area_lt ha)) (u192 (area_lt hb)) W (own_lt ha hb))
  have h1 := u192 (area_lt (bd_uni ha hb))
  have h2 := own_lt ha hb
  by_cases hle : ownN a b ≤ areaN (uniR a b)
  · rw [show wasteN a b = areaN (uniR a b) - ownN a b from if_pos hle, show wasteB a b = false from if_pos hle]
    have S1 := hid (fun W => rsub_le (areaN (uniR a b)) (ownN a b) h1 h2 W hle)
    have CC := hid (fun W => rcmp_any (areaN (uniR a b)) (ownN a b) h1 h2 W (cmpN (areaN (uniR a b)) (ownN a b)) (hid rfl))
    have hcmp : ¬ cmpN (areaN (uniR a b)) (ownN a b) < 0 := by unfold cmpN; split <;> (try split) <;> omega
    clear h1 h2
    generalize cmpN (areaN (uniR a b)) (ownN a b) = cm at *
    generalize areaN (uniR a b) - ownN a b = gg at *
    generalize areaN (uniR a b) = nu at *
    generalize ownN a b = ow at *
    generalize areaN a = na at *
    generalize areaN b = nb at *
    generalize uniR a b = U at *
    clear hle ha hb
    go_enter Try.func9, Try.ntmps9
    go_wp2
    refine wp_region_K (S := (fun W : World => C5 W (w.heap.size) a ∧ C5 W (w.heap.size + 1) b ∧ R3 W (w.heap.size + 1 + 1) 0 ∧ Below w.heap.size w W)) (fun i => i == 9) (by kernel_rfl) (⟨by exact C5.of (by repeat (first | (refine at_new ?_; first | with_reducible rfl | (simp only [World.size_alloc]; done)) | refine at_old ?_)), by exact C5.of (by repeat (first | (refine at_new ?_; first | with_reducible rfl | (simp only [World.size_alloc]; done)) | refine at_old ?_)), by exact R3.zero (by repeat (first | (refine at_new ?_; first | with_reducible rfl | (simp only [World.size_alloc]; done)) | refine at_old ?_)), (by repeat (first | with_reducible exact Below.refl _ _ | with_reducible assumption | with_reducible refine Below.drew ?_ | with_reducible refine below_drewN ?_ _ | with_reducible refine Below.alloc ?_ (by simp <;> omega) _ | with_reducible refine Below.setCell ?_ (by simp <;> omega) _))⟩) (fun hHeld => ?_)
    refine gkt 0 ?_ (h := by intro W hSw; obtain ⟨⟨y0, y1, y2, y3, y4⟩, ⟨y5, y6, y7, y8, y9⟩, _, _⟩ := hSw; go_simp; first | done | with_reducible rfl)
    refine gkt 2 ?_ (h := by intro W hSw; obtain ⟨⟨y0, y1, y2, y3, y4⟩, ⟨y5, y6, y7, y8, y9⟩, _, _⟩ := hSw; go_simp; first | done | with_reducible rfl)
    refine wpAnyK_ready (rs := [1, 8]) (by kernel_rfl) (by simp) ?_
    refine AllReadyK.cons (at_op _ _ _ rfl) (fun K hK => ?_) ?_
    · as_aux_lemma =>
        go_simp
        go_at_call 22; refine (AA.out _).mono ?_; rintro e v1 ⟨rfl, h1⟩; have hR : (fun W : World => C5 W (w.heap.size) a ∧ C5 W (w.heap.size + 1) b ∧ R3 W (w.heap.size + 1 + 1) 0 ∧ Below w.heap.size w W) v1 := ⟨hHeld.1.keep h1, hHeld.2.1.keep h1, hHeld.2.2.1.keep h1, gt hHeld.2.2.2 h1⟩; clear h1
        refine hK.out _ _ hR (fun hHeld => ?_)
        clear hK K
        (try simp only [Act.put, sA, sZ, sS])
        refine wpAnyK_ready (rs := [3, 8]) (by kernel_rfl) (by simp) ?_
        refine AllReadyK.cons (at_op _ _ _ rfl) (fun K hK => ?_) ?_
        · as_aux_lemma =>
            go_simp
            go_at_call 22; refine (AB.out _).mono ?_; rintro e v2 ⟨rfl, h2⟩; have hR : (fun W : World => C5 W (w.heap.size) a ∧ C5 W (w.heap.size + 1) b ∧ R3 W (w.heap.size + 1 + 1) 0 ∧ Below w.heap.size w W) v2 := ⟨hHeld.1.keep h2, hHeld.2.1.keep h2, hHeld.2.2.1.keep h2, gt hHeld.2.2.2 h2⟩; clear h2
            refine hK.out _ _ hR (fun hHeld => ?_)
            clear hK K
            (try simp only [Act.put, sA, sZ, sS])
            refine wpAnyK_ready (rs := [4, 8]) (by kernel_rfl) (by simp) ?_
            refine AllReadyK.cons (at_op _ _ _ rfl) (fun K hK => ?_) ?_
            · as_aux_lemma =>
                go_simp
                go_at_call 39; refine (DC.out _).mono ?_; rintro e v3 ⟨rfl, h3⟩; have hR : (fun W : World => C5 W (w.heap.size) a ∧ C5 W (w.heap.size + 1) b ∧ R3 W (w.heap.size + 1 + 1) 0 ∧ Below w.heap.size w W) v3 := ⟨hHeld.1.keep h3, hHeld.2.1.keep h3, hHeld.2.2.1.keep h3, gt hHeld.2.2.2 h3⟩; clear h3
                refine hK.out _ _ hR (fun hHeld => ?_)
                clear hK K
                (try simp only [Act.put, sA, sZ, sS])
                refine gkp 5 ?_
                refine gkp 6 ?_
                refine gkp 7 ?_
                refine gk1 8 (fun K hK => ?_)
                have hlt := (hHeld.2.2.1).lt
                go_simp
                refine hK.out _ _ (by exact ⟨hHeld.1.keep (ext1 _), hHeld.2.1.keep (ext1 _), hHeld.2.2.1.keep (ext1 _), gt hHeld.2.2.2 (ext1 _)⟩) (fun hHeld => ?_)
                clear hK K
                (try simp only [Act.put, sA, sZ, sS])
                refine wpAnyK_more (S' := (fun W : World => R3 W (v3.heap.size) 0 ∧ C5 W (w.heap.size) a ∧ C5 W (w.heap.size + 1) b ∧ R3 W (w.heap.size + 1 + 1) 0 ∧ Below w.heap.size w W)) (fun W h => h.2) ?_
                replace hHeld : (fun W : World => R3 W (v3.heap.size) 0 ∧ C5 W (w.heap.size) a ∧ C5 W (w.heap.size + 1) b ∧ R3 W (w.heap.size + 1 + 1) 0 ∧ Below w.heap.size w W) _ := ⟨by exact R3.zero (by repeat (first | (refine at_new ?_; first | with_reducible rfl | (simp only [World.size_alloc]; done)) | refine at_old ?_)), hHeld⟩
                obtain ⟨va1, hva1⟩ : ∃ W : World, W = (v3).alloc (.cells #[.int .u64 0, .int .u64 0, .int .u64 0] 27) := ⟨_, rfl⟩
                rw [← hva1] at hHeld ⊢
                clear hva1
                refine gkl 9 (fun K hK => ?_)
                have Z := hHeld.1; obtain ⟨u0, u1, u2⟩ := Z.c; have g0 := Z.fz 0; have g1 := Z.fz 1; have g2 := Z.fz 2; have hc := hHeld.2.2.2.2
                go_simp
                refine hK.out _ _ ?_
                clear hK K
                (try simp only [Act.put, sA, sZ, sS])
                refine gkp 10 ?_
                refine wpAnyK_done (by kernel_rfl) ?_ _
                have Z1 := Z.set ow
                have Z0 := (hHeld.2.2.2.1).far3 (show w.heap.size + 1 + 1 ≠ v3.heap.size by omega) (.int .u64 (W0 ow)) (.int .u64 (W1 ow)) (.int .u64 (W2 ow))
                have hd := show Below w.heap.size w ((((va1).setCell ⟨v3.heap.size, 0, none⟩ (.int .u64 (W0 ow))).setCell ⟨v3.heap.size, 1, none⟩ (.int .u64 (W1 ow))).setCell ⟨v3.heap.size, 2, none⟩ (.int .u64 (W2 ow))) from (by repeat (first | with_reducible exact Below.refl _ _ | with_reducible assumption | with_reducible refine Below.drew ?_ | with_reducible refine below_drewN ?_ _ | with_reducible refine Below.alloc ?_ (by simp <;> omega) _ | with_reducible refine Below.setCell ?_ (by simp <;> omega) _))
                have ZA := C5.far3 (hHeld.2.1) (show w.heap.size ≠ v3.heap.size by omega) (.int .u64 (W0 ow)) (.int .u64 (W1 ow)) (.int .u64 (W2 ow))
                have ZB := C5.far3 (hHeld.2.2.1) (show w.heap.size + 1 ≠ v3.heap.size by omega) (.int .u64 (W0 ow)) (.int .u64 (W1 ow)) (.int .u64 (W2 ow))
                clear hHeld hc u0 u1 u2 g0 g1 g2 Z
                obtain ⟨w9, hw9⟩ : ∃ W : World, W = (((va1).setCell ⟨v3.heap.size, 0, none⟩ (.int .u64 (W0 ow))).setCell ⟨v3.heap.size, 1, none⟩ (.int .u64 (W1 ow))).setCell ⟨v3.heap.size, 2, none⟩ (.int .u64 (W2 ow)) := ⟨_, rfl⟩
                rw [← hw9] at Z1 Z0 ZA ZB hd ⊢
                clear hw9
                have F := hid (show (fun W : World => C5 W (w.heap.size) a ∧ C5 W (w.heap.size + 1) b ∧ R3 W (w.heap.size + 1 + 1) 0 ∧ R3 W (v3.heap.size) ow ∧ Below w.heap.size w W) w9 from ⟨ZA, ZB, Z0, Z1, hd⟩)
                clear Z1 Z0 ZA ZB hd hlt
                obtain ⟨y0_0, y0_1, y0_2, y0_3, y0_4⟩ := F.out.1
                obtain ⟨y1_0, y1_1, y1_2, y1_3, y1_4⟩ := F.out.2.1
                obtain ⟨y2_0, y2_1, y2_2⟩ := F.out.2.2.1.c
                have f2_0 := F.out.2.2.1.fz 0
                have f2_1 := F.out.2.2.1.fz 1
                have f2_2 := F.out.2.2.1.fz 2
                obtain ⟨y3_0, y3_1, y3_2⟩ := F.out.2.2.2.1.c
                have f3_0 := F.out.2.2.2.1.fz 0
                have f3_1 := F.out.2.2.2.1.fz 1
                have f3_2 := F.out.2.2.2.1.fz 2
                have hlow := F.out.2.2.2.2
                go_wp2_with (first | (go_at_call 13; refine (UC.out _).mono ?_; rintro e w6 ⟨rfl, h6⟩; clear y0_0 y0_1 y0_2 y0_3 y0_4 y1_0 y1_1 y1_2 y1_3 y1_4 y2_0 y2_1 y2_2 f2_0 f2_1 f2_2 y3_0 y3_1 y3_2 f3_0 f3_1 f3_2 hlow; have F := hid (show (fun W : World => C5 W (w.heap.size) a ∧ C5 W (w.heap.size + 1) b ∧ R3 W (w.heap.size + 1 + 1) 0 ∧ R3 W (v3.heap.size) ow ∧ Below w.heap.size w W) w6 from ⟨F.out.1.keep h6, F.out.2.1.keep h6, F.out.2.2.1.keep h6, F.out.2.2.2.1.keep h6, gt F.out.2.2.2.2 h6⟩); clear h6 UC; obtain ⟨y0_0, y0_1, y0_2, y0_3, y0_4⟩ := F.out.1; obtain ⟨y1_0, y1_1, y1_2, y1_3, y1_4⟩ := F.out.2.1; obtain ⟨y2_0, y2_1, y2_2⟩ := F.out.2.2.1.c; have f2_0 := F.out.2.2.1.fz 0; have f2_1 := F.out.2.2.1.fz 1; have f2_2 := F.out.2.2.1.fz 2; obtain ⟨y3_0, y3_1, y3_2⟩ := F.out.2.2.2.1.c; have f3_0 := F.out.2.2.2.1.fz 0; have f3_1 := F.out.2.2.2.1.fz 1; have f3_2 := F.out.2.2.2.1.fz 2; have hlow := F.out.2.2.2.2) | (go_at_call 22; refine (AU.out _).mono ?_; rintro e v21 ⟨rfl, h6⟩; clear y0_0 y0_1 y0_2 y0_3 y0_4 y1_0 y1_1 y1_2 y1_3 y1_4 y2_0 y2_1 y2_2 f2_0 f2_1 f2_2 y3_0 y3_1 y3_2 f3_0 f3_1 f3_2 hlow; have F := hid (show (fun W : World => C5 W (w.heap.size) a ∧ C5 W (w.heap.size + 1) b ∧ R3 W (w.heap.size + 1 + 1) 0 ∧ R3 W (v3.heap.size) ow ∧ R3 W (v21.heap.size) nu ∧ Below w.heap.size w W) (v21.alloc (.cells #[.int .u64 (W0 nu), .int .u64 (W1 nu), .int .u64 (W2 nu)] 27)) from ⟨(F.out.1.keep h6).keep (ext1 _), (F.out.2.1.keep h6).keep (ext1 _), (F.out.2.2.1.keep h6).keep (ext1 _), (F.out.2.2.2.1.keep h6).keep (ext1 _), heap_alloc_new _ _, gt (gt F.out.2.2.2.2 h6) (ext1 _)⟩); clear h6 AU; obtain ⟨y0_0, y0_1, y0_2, y0_3, y0_4⟩ := F.out.1; obtain ⟨y1_0, y1_1, y1_2, y1_3, y1_4⟩ := F.out.2.1; obtain ⟨y2_0, y2_1, y2_2⟩ := F.out.2.2.1.c; have f2_0 := F.out.2.2.1.fz 0; have f2_1 := F.out.2.2.1.fz 1; have f2_2 := F.out.2.2.1.fz 2; obtain ⟨y3_0, y3_1, y3_2⟩ := F.out.2.2.2.1.c; have f3_0 := F.out.2.2.2.1.fz 0; have f3_1 := F.out.2.2.2.1.fz 1; have f3_2 := F.out.2.2.2.1.fz 2; obtain ⟨y4_0, y4_1, y4_2⟩ := F.out.2.2.2.2.1.c; have f4_0 := F.out.2.2.2.2.1.fz 0; have f4_1 := F.out.2.2.2.2.1.fz 1; have f4_2 := F.out.2.2.2.2.1.fz 2; have hlow := F.out.2.2.2.2.2) | (go_at_call 40; refine (CC.out _).mono ?_; rintro e w6 ⟨rfl, h6⟩; clear y0_0 y0_1 y0_2 y0_3 y0_4 y1_0 y1_1 y1_2 y1_3 y1_4 y2_0 y2_1 y2_2 f2_0 f2_1 f2_2 y3_0 y3_1 y3_2 f3_0 f3_1 f3_2 y4_0 y4_1 y4_2 f4_0 f4_1 f4_2 hlow; have F := hid (show (fun W : World => C5 W (w.heap.size) a ∧ C5 W (w.heap.size + 1) b ∧ R3 W (w.heap.size + 1 + 1) 0 ∧ R3 W (v3.heap.size) ow ∧ R3 W (v21.heap.size) nu ∧ Below w.heap.size w W) w6 from ⟨F.out.1.keep h6, F.out.2.1.keep h6, F.out.2.2.1.keep h6, F.out.2.2.2.1.keep h6, F.out.2.2.2.2.1.keep h6, gt F.out.2.2.2.2.2 h6⟩); clear h6 CC; obtain ⟨y0_0, y0_1, y0_2, y0_3, y0_4⟩ := F.out.1; obtain ⟨y1_0, y1_1, y1_2, y1_3, y1_4⟩ := F.out.2.1; obtain ⟨y2_0, y2_1, y2_2⟩ := F.out.2.2.1.c; have f2_0 := F.out.2.2.1.fz 0; have f2_1 := F.out.2.2.1.fz 1; have f2_2 := F.out.2.2.1.fz 2; obtain ⟨y3_0, y3_1, y3_2⟩ := F.out.2.2.2.1.c; have f3_0 := F.out.2.2.2.1.fz 0; have f3_1 := F.out.2.2.2.1.fz 1; have f3_2 := F.out.2.2.2.1.fz 2; obtain ⟨y4_0, y4_1, y4_2⟩ := F.out.2.2.2.2.1.c; have f4_0 := F.out.2.2.2.2.1.fz 0; have f4_1 := F.out.2.2.2.2.1.fz 1; have f4_2 := F.out.2.2.2.2.1.fz 2; have hlow := F.out.2.2.2.2.2) | (go_at_call 41; refine (S1.out _).mono ?_; rintro e v38 ⟨rfl, h6⟩; clear y0_0 y0_1 y0_2 y0_3 y0_4 y1_0 y1_1 y1_2 y1_3 y1_4 y2_0 y2_1 y2_2 f2_0 f2_1 f2_2 y3_0 y3_1 y3_2 f3_0 f3_1 f3_2 y4_0 y4_1 y4_2 f4_0 f4_1 f4_2 hlow; have F := hid (show (fun W : World => C5 W (w.heap.size) a ∧ C5 W (w.heap.size + 1) b ∧ R3 W (w.heap.size + 1 + 1) 0 ∧ R3 W (v3.heap.size) ow ∧ R3 W (v21.heap.size) nu ∧ R3 W (v38.heap.size) gg ∧ Below w.heap.size w W) (v38.alloc (.cells #[.int .u64 (W0 gg), .int .u64 (W1 gg), .int .u64 (W2 gg)] 27)) from ⟨(F.out.1.keep h6).keep (ext1 _), (F.out.2.1.keep h6).keep (ext1 _), (F.out.2.2.1.keep h6).keep (ext1 _), (F.out.2.2.2.1.keep h6).keep (ext1 _), (F.out.2.2.2.2.1.keep h6).keep (ext1 _), heap_alloc_new _ _, gt (gt F.out.2.2.2.2.2 h6) (ext1 _)⟩); clear h6 S1; obtain ⟨y0_0, y0_1, y0_2, y0_3, y0_4⟩ := F.out.1; obtain ⟨y1_0, y1_1, y1_2, y1_3, y1_4⟩ := F.out.2.1; obtain ⟨y2_0, y2_1, y2_2⟩ := F.out.2.2.1.c; have f2_0 := F.out.2.2.1.fz 0; have f2_1 := F.out.2.2.1.fz 1; have f2_2 := F.out.2.2.1.fz 2; obtain ⟨y3_0, y3_1, y3_2⟩ := F.out.2.2.2.1.c; have f3_0 := F.out.2.2.2.1.fz 0; have f3_1 := F.out.2.2.2.1.fz 1; have f3_2 := F.out.2.2.2.1.fz 2; obtain ⟨y4_0, y4_1, y4_2⟩ := F.out.2.2.2.2.1.c; have f4_0 := F.out.2.2.2.2.1.fz 0; have f4_1 := F.out.2.2.2.2.1.fz 1; have f4_2 := F.out.2.2.2.2.1.fz 2; obtain ⟨y5_0, y5_1, y5_2⟩ := F.out.2.2.2.2.2.1.c; have f5_0 := F.out.2.2.2.2.2.1.fz 0; have f5_1 := F.out.2.2.2.2.2.1.fz 1; have f5_2 := F.out.2.2.2.2.2.1.fz 2; have hlow := F.out.2.2.2.2.2.2))
                obtain ⟨z0, z1, z2⟩ := (F.out.2.2.1.set (gg)).c
                exact bodyPost_ret (v := .tuple #[.agg #[.int .u64 (W0 (gg)), .int .u64 (W1 (gg)), .int .u64 (W2 (gg))], .bool false]) (by simp [results, Try.results9, go_sem, z0, z1, z2]) rfl ⟨rfl, (by repeat (first | with_reducible exact Below.refl _ _ | with_reducible assumption | with_reducible refine Below.drew ?_ | with_reducible refine below_drewN ?_ _ | with_reducible refine Below.alloc ?_ (by simp <;> omega) _ | with_reducible refine Below.setCell ?_ (by simp <;> omega) _))⟩
            refine AllReadyK.cons (at_op _ _ _ rfl) (fun K hK => ?_) ?_
            · as_aux_lemma =>
                have hlt := (hHeld.2.2.1).lt
                go_simp
                refine hK.out _ _ (by exact ⟨hHeld.1.keep (ext1 _), hHeld.2.1.keep (ext1 _), hHeld.2.2.1.keep (ext1 _), gt hHeld.2.2.2 (ext1 _)⟩) (fun hHeld => ?_)
                clear hK K
                (try simp only [Act.put, sA, sZ, sS])
                refine wpAnyK_more (S' := (fun W : World => R3 W (v2.heap.size) 0 ∧ C5 W (w.heap.size) a ∧ C5 W (w.heap.size + 1) b ∧ R3 W (w.heap.size + 1 + 1) 0 ∧ Below w.heap.size w W)) (fun W h => h.2) ?_
                replace hHeld : (fun W : World => R3 W (v2.heap.size) 0 ∧ C5 W (w.heap.size) a ∧ C5 W (w.heap.size + 1) b ∧ R3 W (w.heap.size + 1 + 1) 0 ∧ Below w.heap.size w W) _ := ⟨by exact R3.zero (by repeat (first | (refine at_new ?_; first | with_reducible rfl | (simp only [World.size_alloc]; done)) | refine at_old ?_)), hHeld⟩
                obtain ⟨va1, hva1⟩ : ∃ W : World, W = (v2).alloc (.cells #[.int .u64 0, .int .u64 0, .int .u64 0] 27) := ⟨_, rfl⟩
                rw [← hva1] at hHeld ⊢
                clear hva1
                refine gk1 4 (fun K hK => ?_)
                go_simp
                go_at_call 39; refine (DC.out _).mono ?_; rintro e v3 ⟨rfl, h3⟩; have hR : (fun W : World => R3 W (v2.heap.size) 0 ∧ C5 W (w.heap.size) a ∧ C5 W (w.heap.size + 1) b ∧ R3 W (w.heap.size + 1 + 1) 0 ∧ Below w.heap.size w W) v3 := ⟨hHeld.1.keep h3, hHeld.2.1.keep h3, hHeld.2.2.1.keep h3, hHeld.2.2.2.1.keep h3, gt hHeld.2.2.2.2 h3⟩; clear h3
                refine hK.out _ _ hR (fun hHeld => ?_)
                clear hK K
                (try simp only [Act.put, sA, sZ, sS])
                refine gkp 5 ?_
                refine gkp 6 ?_
                refine gkp 7 ?_
                refine gkl 9 (fun K hK => ?_)
                have Z := hHeld.1; obtain ⟨u0, u1, u2⟩ := Z.c; have g0 := Z.fz 0; have g1 := Z.fz 1; have g2 := Z.fz 2; have hc := hHeld.2.2.2.2
                go_simp
                refine hK.out _ _ ?_
                clear hK K
                (try simp only [Act.put, sA, sZ, sS])
                refine gkp 10 ?_
                refine wpAnyK_done (by kernel_rfl) ?_ _
                have Z1 := Z.set ow
                have Z0 := (hHeld.2.2.2.1).far3 (show w.heap.size + 1 + 1 ≠ v2.heap.size by omega) (.int .u64 (W0 ow)) (.int .u64 (W1 ow)) (.int .u64 (W2 ow))
                have hd := show Below w.heap.size w ((((v3).setCell ⟨v2.heap.size, 0, none⟩ (.int .u64 (W0 ow))).setCell ⟨v2.heap.size, 1, none⟩ (.int .u64 (W1 ow))).setCell ⟨v2.heap.size, 2, none⟩ (.int .u64 (W2 ow))) from (by repeat (first | with_reducible exact Below.refl _ _ | with_reducible assumption | with_reducible refine Below.drew ?_ | with_reducible refine below_drewN ?_ _ | with_reducible refine Below.alloc ?_ (by simp <;> omega) _ | with_reducible refine Below.setCell ?_ (by simp <;> omega) _))
                have ZA := C5.far3 (hHeld.2.1) (show w.heap.size ≠ v2.heap.size by omega) (.int .u64 (W0 ow)) (.int .u64 (W1 ow)) (.int .u64 (W2 ow))
                have ZB := C5.far3 (hHeld.2.2.1) (show w.heap.size + 1 ≠ v2.heap.size by omega) (.int .u64 (W0 ow)) (.int .u64 (W1 ow)) (.int .u64 (W2 ow))
                clear hHeld hc u0 u1 u2 g0 g1 g2 Z
                obtain ⟨w9, hw9⟩ : ∃ W : World, W = (((v3).setCell ⟨v2.heap.size, 0, none⟩ (.int .u64 (W0 ow))).setCell ⟨v2.heap.size, 1, none⟩ (.int .u64 (W1 ow))).setCell ⟨v2.heap.size, 2, none⟩ (.int .u64 (W2 ow)) := ⟨_, rfl⟩
                rw [← hw9] at Z1 Z0 ZA ZB hd ⊢
                clear hw9
                have F := hid (show (fun W : World => C5 W (w.heap.size) a ∧ C5 W (w.heap.size + 1) b ∧ R3 W (w.heap.size + 1 + 1) 0 ∧ R3 W (v2.heap.size) ow ∧ Below w.heap.size w W) w9 from ⟨ZA, ZB, Z0, Z1, hd⟩)
                clear Z1 Z0 ZA ZB hd hlt
                obtain ⟨y0_0, y0_1, y0_2, y0_3, y0_4⟩ := F.out.1
                obtain ⟨y1_0, y1_1, y1_2, y1_3, y1_4⟩ := F.out.2.1
                obtain ⟨y2_0, y2_1, y2_2⟩ := F.out.2.2.1.c
                have f2_0 := F.out.2.2.1.fz 0
                have f2_1 := F.out.2.2.1.fz 1
                have f2_2 := F.out.2.2.1.fz 2
                obtain ⟨y3_0, y3_1, y3_2⟩ := F.out.2.2.2.1.c
                have f3_0 := F.out.2.2.2.1.fz 0
                have f3_1 := F.out.2.2.2.1.fz 1
                have f3_2 := F.out.2.2.2.1.fz 2
                have hlow := F.out.2.2.2.2
                go_wp2_with (first | (go_at_call 13; refine (UC.out _).mono ?_; rintro e w6 ⟨rfl, h6⟩; clear y0_0 y0_1 y0_2 y0_3 y0_4 y1_0 y1_1 y1_2 y1_3 y1_4 y2_0 y2_1 y2_2 f2_0 f2_1 f2_2 y3_0 y3_1 y3_2 f3_0 f3_1 f3_2 hlow; have F := hid (show (fun W : World => C5 W (w.heap.size) a ∧ C5 W (w.heap.size + 1) b ∧ R3 W (w.heap.size + 1 + 1) 0 ∧ R3 W (v2.heap.size) ow ∧ Below w.heap.size w W) w6 from ⟨F.out.1.keep h6, F.out.2.1.keep h6, F.out.2.2.1.keep h6, F.out.2.2.2.1.keep h6, gt F.out.2.2.2.2 h6⟩); clear h6 UC; obtain ⟨y0_0, y0_1, y0_2, y0_3, y0_4⟩ := F.out.1; obtain ⟨y1_0, y1_1, y1_2, y1_3, y1_4⟩ := F.out.2.1; obtain ⟨y2_0, y2_1, y2_2⟩ := F.out.2.2.1.c; have f2_0 := F.out.2.2.1.fz 0; have f2_1 := F.out.2.2.1.fz 1; have f2_2 := F.out.2.2.1.fz 2; obtain ⟨y3_0, y3_1, y3_2⟩ := F.out.2.2.2.1.c; have f3_0 := F.out.2.2.2.1.fz 0; have f3_1 := F.out.2.2.2.1.fz 1; have f3_2 := F.out.2.2.2.1.fz 2; have hlow := F.out.2.2.2.2) | (go_at_call 22; refine (AU.out _).mono ?_; rintro e v21 ⟨rfl, h6⟩; clear y0_0 y0_1 y0_2 y0_3 y0_4 y1_0 y1_1 y1_2 y1_3 y1_4 y2_0 y2_1 y2_2 f2_0 f2_1 f2_2 y3_0 y3_1 y3_2 f3_0 f3_1 f3_2 hlow; have F := hid (show (fun W : World => C5 W (w.heap.size) a ∧ C5 W (w.heap.size + 1) b ∧ R3 W (w.heap.size + 1 + 1) 0 ∧ R3 W (v2.heap.size) ow ∧ R3 W (v21.heap.size) nu ∧ Below w.heap.size w W) (v21.alloc (.cells #[.int .u64 (W0 nu), .int .u64 (W1 nu), .int .u64 (W2 nu)] 27)) from ⟨(F.out.1.keep h6).keep (ext1 _), (F.out.2.1.keep h6).keep (ext1 _), (F.out.2.2.1.keep h6).keep (ext1 _), (F.out.2.2.2.1.keep h6).keep (ext1 _), heap_alloc_new _ _, gt (gt F.out.2.2.2.2 h6) (ext1 _)⟩); clear h6 AU; obtain ⟨y0_0, y0_1, y0_2, y0_3, y0_4⟩ := F.out.1; obtain ⟨y1_0, y1_1, y1_2, y1_3, y1_4⟩ := F.out.2.1; obtain ⟨y2_0, y2_1, y2_2⟩ := F.out.2.2.1.c; have f2_0 := F.out.2.2.1.fz 0; have f2_1 := F.out.2.2.1.fz 1; have f2_2 := F.out.2.2.1.fz 2; obtain ⟨y3_0, y3_1, y3_2⟩ := F.out.2.2.2.1.c; have f3_0 := F.out.2.2.2.1.fz 0; have f3_1 := F.out.2.2.2.1.fz 1; have f3_2 := F.out.2.2.2.1.fz 2; obtain ⟨y4_0, y4_1, y4_2⟩ := F.out.2.2.2.2.1.c; have f4_0 := F.out.2.2.2.2.1.fz 0; have f4_1 := F.out.2.2.2.2.1.fz 1; have f4_2 := F.out.2.2.2.2.1.fz 2; have hlow := F.out.2.2.2.2.2) | (go_at_call 40; refine (CC.out _).mono ?_; rintro e w6 ⟨rfl, h6⟩; clear y0_0 y0_1 y0_2 y0_3 y0_4 y1_0 y1_1 y1_2 y1_3 y1_4 y2_0 y2_1 y2_2 f2_0 f2_1 f2_2 y3_0 y3_1 y3_2 f3_0 f3_1 f3_2 y4_0 y4_1 y4_2 f4_0 f4_1 f4_2 hlow; have F := hid (show (fun W : World => C5 W (w.heap.size) a ∧ C5 W (w.heap.size + 1) b ∧ R3 W (w.heap.size + 1 + 1) 0 ∧ R3 W (v2.heap.size) ow ∧ R3 W (v21.heap.size) nu ∧ Below w.heap.size w W) w6 from ⟨F.out.1.keep h6, F.out.2.1.keep h6, F.out.2.2.1.keep h6, F.out.2.2.2.1.keep h6, F.out.2.2.2.2.1.keep h6, gt F.out.2.2.2.2.2 h6⟩); clear h6 CC; obtain ⟨y0_0, y0_1, y0_2, y0_3, y0_4⟩ := F.out.1; obtain ⟨y1_0, y1_1, y1_2, y1_3, y1_4⟩ := F.out.2.1; obtain ⟨y2_0, y2_1, y2_2⟩ := F.out.2.2.1.c; have f2_0 := F.out.2.2.1.fz 0; have f2_1 := F.out.2.2.1.fz 1; have f2_2 := F.out.2.2.1.fz 2; obtain ⟨y3_0, y3_1, y3_2⟩ := F.out.2.2.2.1.c; have f3_0 := F.out.2.2.2.1.fz 0; have f3_1 := F.out.2.2.2.1.fz 1; have f3_2 := F.out.2.2.2.1.fz 2; obtain ⟨y4_0, y4_1, y4_2⟩ := F.out.2.2.2.2.1.c; have f4_0 := F.out.2.2.2.2.1.fz 0; have f4_1 := F.out.2.2.2.2.1.fz 1; have f4_2 := F.out.2.2.2.2.1.fz 2; have hlow := F.out.2.2.2.2.2) | (go_at_call 41; refine (S1.out _).mono ?_; rintro e v38 ⟨rfl, h6⟩; clear y0_0 y0_1 y0_2 y0_3 y0_4 y1_0 y1_1 y1_2 y1_3 y1_4 y2_0 y2_1 y2_2 f2_0 f2_1 f2_2 y3_0 y3_1 y3_2 f3_0 f3_1 f3_2 y4_0 y4_1 y4_2 f4_0 f4_1 f4_2 hlow; have F := hid (show (fun W : World => C5 W (w.heap.size) a ∧ C5 W (w.heap.size + 1) b ∧ R3 W (w.heap.size + 1 + 1) 0 ∧ R3 W (v2.heap.size) ow ∧ R3 W (v21.heap.size) nu ∧ R3 W (v38.heap.size) gg ∧ Below w.heap.size w W) (v38.alloc (.cells #[.int .u64 (W0 gg), .int .u64 (W1 gg), .int .u64 (W2 gg)] 27)) from ⟨(F.out.1.keep h6).keep (ext1 _), (F.out.2.1.keep h6).keep (ext1 _), (F.out.2.2.1.keep h6).keep (ext1 _), (F.out.2.2.2.1.keep h6).keep (ext1 _), (F.out.2.2.2.2.1.keep h6).keep (ext1 _), heap_alloc_new _ _, gt (gt F.out.2.2.2.2.2 h6) (ext1 _)⟩); clear h6 S1; obtain ⟨y0_0, y0_1, y0_2, y0_3, y0_4⟩ := F.out.1; obtain ⟨y1_0, y1_1, y1_2, y1_3, y1_4⟩ := F.out.2.1; obtain ⟨y2_0, y2_1, y2_2⟩ := F.out.2.2.1.c; have f2_0 := F.out.2.2.1.fz 0; have f2_1 := F.out.2.2.1.fz 1; have f2_2 := F.out.2.2.1.fz 2; obtain ⟨y3_0, y3_1, y3_2⟩ := F.out.2.2.2.1.c; have f3_0 := F.out.2.2.2.1.fz 0; have f3_1 := F.out.2.2.2.1.fz 1; have f3_2 := F.out.2.2.2.1.fz 2; obtain ⟨y4_0, y4_1, y4_2⟩ := F.out.2.2.2.2.1.c; have f4_0 := F.out.2.2.2.2.1.fz 0; have f4_1 := F.out.2.2.2.2.1.fz 1; have f4_2 := F.out.2.2.2.2.1.fz 2; obtain ⟨y5_0, y5_1, y5_2⟩ := F.out.2.2.2.2.2.1.c; have f5_0 := F.out.2.2.2.2.2.1.fz 0; have f5_1 := F.out.2.2.2.2.2.1.fz 1; have f5_2 := F.out.2.2.2.2.2.1.fz 2; have hlow := F.out.2.2.2.2.2.2))
                obtain ⟨z0, z1, z2⟩ := (F.out.2.2.1.set (gg)).c
                exact bodyPost_ret (v := .tuple #[.agg #[.int .u64 (W0 (gg)), .int .u64 (W1 (gg)), .int .u64 (W2 (gg))], .bool false]) (by simp [results, Try.results9, go_sem, z0, z1, z2]) rfl ⟨rfl, (by repeat (first | with_reducible exact Below.refl _ _ | with_reducible assumption | with_reducible refine Below.drew ?_ | with_reducible refine below_drewN ?_ _ | with_reducible refine Below.alloc ?_ (by simp <;> omega) _ | with_reducible refine Below.setCell ?_ (by simp <;> omega) _))⟩
            exact AllReadyK.nil
        refine AllReadyK.cons (at_op _ _ _ rfl) (fun K hK => ?_) ?_
        · as_aux_lemma =>
            have hlt := (hHeld.2.2.1).lt
            go_simp
            refine hK.out _ _ (by exact ⟨hHeld.1.keep (ext1 _), hHeld.2.1.keep (ext1 _), hHeld.2.2.1.keep (ext1 _), gt hHeld.2.2.2 (ext1 _)⟩) (fun hHeld => ?_)
            clear hK K
            (try simp only [Act.put, sA, sZ, sS])
            refine wpAnyK_more (S' := (fun W : World => R3 W (v1.heap.size) 0 ∧ C5 W (w.heap.size) a ∧ C5 W (w.heap.size + 1) b ∧ R3 W (w.heap.size + 1 + 1) 0 ∧ Below w.heap.size w W)) (fun W h => h.2) ?_
            replace hHeld : (fun W : World => R3 W (v1.heap.size) 0 ∧ C5 W (w.heap.size) a ∧ C5 W (w.heap.size + 1) b ∧ R3 W (w.heap.size + 1 + 1) 0 ∧ Below w.heap.size w W) _ := ⟨by exact R3.zero (by repeat (first | (refine at_new ?_; first | with_reducible rfl | (simp only [World.size_alloc]; done)) | refine at_old ?_)), hHeld⟩
            obtain ⟨va1, hva1⟩ : ∃ W : World, W = (v1).alloc (.cells #[.int .u64 0, .int .u64 0, .int .u64 0] 27) := ⟨_, rfl⟩
            rw [← hva1] at hHeld ⊢
            clear hva1
            refine gk1 3 (fun K hK => ?_)
            go_simp
            go_at_call 22; refine (AB.out _).mono ?_; rintro e v2 ⟨rfl, h2⟩; have hR : (fun W : World => R3 W (v1.heap.size) 0 ∧ C5 W (w.heap.size) a ∧ C5 W (w.heap.size + 1) b ∧ R3 W (w.heap.size + 1 + 1) 0 ∧ Below w.heap.size w W) v2 := ⟨hHeld.1.keep h2, hHeld.2.1.keep h2, hHeld.2.2.1.keep h2, hHeld.2.2.2.1.keep h2, gt hHeld.2.2.2.2 h2⟩; clear h2
            refine hK.out _ _ hR (fun hHeld => ?_)
            clear hK K
            (try simp only [Act.put, sA, sZ, sS])
            refine gk1 4 (fun K hK => ?_)
            go_simp
            go_at_call 39; refine (DC.out _).mono ?_; rintro e v3 ⟨rfl, h3⟩; have hR : (fun W : World => R3 W (v1.heap.size) 0 ∧ C5 W (w.heap.size) a ∧ C5 W (w.heap.size + 1) b ∧ R3 W (w.heap.size + 1 + 1) 0 ∧ Below w.heap.size w W) v3 := ⟨hHeld.1.keep h3, hHeld.2.1.keep h3, hHeld.2.2.1.keep h3, hHeld.2.2.2.1.keep h3, gt hHeld.2.2.2.2 h3⟩; clear h3
            refine hK.out _ _ hR (fun hHeld => ?_)
            clear hK K
            (try simp only [Act.put, sA, sZ, sS])
            refine gkp 5 ?_
            refine gkp 6 ?_
            refine gkp 7 ?_
            refine gkl 9 (fun K hK => ?_)
            have Z := hHeld.1; obtain ⟨u0, u1, u2⟩ := Z.c; have g0 := Z.fz 0; have g1 := Z.fz 1; have g2 := Z.fz 2; have hc := hHeld.2.2.2.2
            go_simp
            refine hK.out _ _ ?_
            clear hK K
            (try simp only [Act.put, sA, sZ, sS])
            refine gkp 10 ?_
            refine wpAnyK_done (by kernel_rfl) ?_ _
            have Z1 := Z.set ow
            have Z0 := (hHeld.2.2.2.1).far3 (show w.heap.size + 1 + 1 ≠ v1.heap.size by omega) (.int .u64 (W0 ow)) (.int .u64 (W1 ow)) (.int .u64 (W2 ow))
            have hd := show Below w.heap.size w ((((v3).setCell ⟨v1.heap.size, 0, none⟩ (.int .u64 (W0 ow))).setCell ⟨v1.heap.size, 1, none⟩ (.int .u64 (W1 ow))).setCell ⟨v1.heap.size, 2, none⟩ (.int .u64 (W2 ow))) from (by repeat (first | with_reducible exact Below.refl _ _ | with_reducible assumption | with_reducible refine Below.drew ?_ | with_reducible refine below_drewN ?_ _ | with_reducible refine Below.alloc ?_ (by simp <;> omega) _ | with_reducible refine Below.setCell ?_ (by simp <;> omega) _))
            have ZA := C5.far3 (hHeld.2.1) (show w.heap.size ≠ v1.heap.size by omega) (.int .u64 (W0 ow)) (.int .u64 (W1 ow)) (.int .u64 (W2 ow))
            have ZB := C5.far3 (hHeld.2.2.1) (show w.heap.size + 1 ≠ v1.heap.size by omega) (.int .u64 (W0 ow)) (.int .u64 (W1 ow)) (.int .u64 (W2 ow))
            clear hHeld hc u0 u1 u2 g0 g1 g2 Z
            obtain ⟨w9, hw9⟩ : ∃ W : World, W = (((v3).setCell ⟨v1.heap.size, 0, none⟩ (.int .u64 (W0 ow))).setCell ⟨v1.heap.size, 1, none⟩ (.int .u64 (W1 ow))).setCell ⟨v1.heap.size, 2, none⟩ (.int .u64 (W2 ow)) := ⟨_, rfl⟩
            rw [← hw9] at Z1 Z0 ZA ZB hd ⊢
            clear hw9
            have F := hid (show (fun W : World => C5 W (w.heap.size) a ∧ C5 W (w.heap.size + 1) b ∧ R3 W (w.heap.size + 1 + 1) 0 ∧ R3 W (v1.heap.size) ow ∧ Below w.heap.size w W) w9 from ⟨ZA, ZB, Z0, Z1, hd⟩)
            clear Z1 Z0 ZA ZB hd hlt
            obtain ⟨y0_0, y0_1, y0_2, y0_3, y0_4⟩ := F.out.1
            obtain ⟨y1_0, y1_1, y1_2, y1_3, y1_4⟩ := F.out.2.1
            obtain ⟨y2_0, y2_1, y2_2⟩ := F.out.2.2.1.c
            have f2_0 := F.out.2.2.1.fz 0
            have f2_1 := F.out.2.2.1.fz 1
            have f2_2 := F.out.2.2.1.fz 2
            obtain ⟨y3_0, y3_1, y3_2⟩ := F.out.2.2.2.1.c
            have f3_0 := F.out.2.2.2.1.fz 0
            have f3_1 := F.out.2.2.2.1.fz 1
            have f3_2 := F.out.2.2.2.1.fz 2
            have hlow := F.out.2.2.2.2
            go_wp2_with (first | (go_at_call 13; refine (UC.out _).mono ?_; rintro e w6 ⟨rfl, h6⟩; clear y0_0 y0_1 y0_2 y0_3 y0_4 y1_0 y1_1 y1_2 y1_3 y1_4 y2_0 y2_1 y2_2 f2_0 f2_1 f2_2 y3_0 y3_1 y3_2 f3_0 f3_1 f3_2 hlow; have F := hid (show (fun W : World => C5 W (w.heap.size) a ∧ C5 W (w.heap.size + 1) b ∧ R3 W (w.heap.size + 1 + 1) 0 ∧ R3 W (v1.heap.size) ow ∧ Below w.heap.size w W) w6 from ⟨F.out.1.keep h6, F.out.2.1.keep h6, F.out.2.2.1.keep h6, F.out.2.2.2.1.keep h6, gt F.out.2.2.2.2 h6⟩); clear h6 UC; obtain ⟨y0_0, y0_1, y0_2, y0_3, y0_4⟩ := F.out.1; obtain ⟨y1_0, y1_1, y1_2, y1_3, y1_4⟩ := F.out.2.1; obtain ⟨y2_0, y2_1, y2_2⟩ := F.out.2.2.1.c; have f2_0 := F.out.2.2.1.fz 0; have f2_1 := F.out.2.2.1.fz 1; have f2_2 := F.out.2.2.1.fz 2; obtain ⟨y3_0, y3_1, y3_2⟩ := F.out.2.2.2.1.c; have f3_0 := F.out.2.2.2.1.fz 0; have f3_1 := F.out.2.2.2.1.fz 1; have f3_2 := F.out.2.2.2.1.fz 2; have hlow := F.out.2.2.2.2) | (go_at_call 22; refine (AU.out _).mono ?_; rintro e v21 ⟨rfl, h6⟩; clear y0_0 y0_1 y0_2 y0_3 y0_4 y1_0 y1_1 y1_2 y1_3 y1_4 y2_0 y2_1 y2_2 f2_0 f2_1 f2_2 y3_0 y3_1 y3_2 f3_0 f3_1 f3_2 hlow; have F := hid (show (fun W : World => C5 W (w.heap.size) a ∧ C5 W (w.heap.size + 1) b ∧ R3 W (w.heap.size + 1 + 1) 0 ∧ R3 W (v1.heap.size) ow ∧ R3 W (v21.heap.size) nu ∧ Below w.heap.size w W) (v21.alloc (.cells #[.int .u64 (W0 nu), .int .u64 (W1 nu), .int .u64 (W2 nu)] 27)) from ⟨(F.out.1.keep h6).keep (ext1 _), (F.out.2.1.keep h6).keep (ext1 _), (F.out.2.2.1.keep h6).keep (ext1 _), (F.out.2.2.2.1.keep h6).keep (ext1 _), heap_alloc_new _ _, gt (gt F.out.2.2.2.2 h6) (ext1 _)⟩); clear h6 AU; obtain ⟨y0_0, y0_1, y0_2, y0_3, y0_4⟩ := F.out.1; obtain ⟨y1_0, y1_1, y1_2, y1_3, y1_4⟩ := F.out.2.1; obtain ⟨y2_0, y2_1, y2_2⟩ := F.out.2.2.1.c; have f2_0 := F.out.2.2.1.fz 0; have f2_1 := F.out.2.2.1.fz 1; have f2_2 := F.out.2.2.1.fz 2; obtain ⟨y3_0, y3_1, y3_2⟩ := F.out.2.2.2.1.c; have f3_0 := F.out.2.2.2.1.fz 0; have f3_1 := F.out.2.2.2.1.fz 1; have f3_2 := F.out.2.2.2.1.fz 2; obtain ⟨y4_0, y4_1, y4_2⟩ := F.out.2.2.2.2.1.c; have f4_0 := F.out.2.2.2.2.1.fz 0; have f4_1 := F.out.2.2.2.2.1.fz 1; have f4_2 := F.out.2.2.2.2.1.fz 2; have hlow := F.out.2.2.2.2.2) | (go_at_call 40; refine (CC.out _).mono ?_; rintro e w6 ⟨rfl, h6⟩; clear y0_0 y0_1 y0_2 y0_3 y0_4 y1_0 y1_1 y1_2 y1_3 y1_4 y2_0 y2_1 y2_2 f2_0 f2_1 f2_2 y3_0 y3_1 y3_2 f3_0 f3_1 f3_2 y4_0 y4_1 y4_2 f4_0 f4_1 f4_2 hlow; have F := hid (show (fun W : World => C5 W (w.heap.size) a ∧ C5 W (w.heap.size + 1) b ∧ R3 W (w.heap.size + 1 + 1) 0 ∧ R3 W (v1.heap.size) ow ∧ R3 W (v21.heap.size) nu ∧ Below w.heap.size w W) w6 from ⟨F.out.1.keep h6, F.out.2.1.keep h6, F.out.2.2.1.keep h6, F.out.2.2.2.1.keep h6, F.out.2.2.2.2.1.keep h6, gt F.out.2.2.2.2.2 h6⟩); clear h6 CC; obtain ⟨y0_0, y0_1, y0_2, y0_3, y0_4⟩ := F.out.1; obtain ⟨y1_0, y1_1, y1_2, y1_3, y1_4⟩ := F.out.2.1; obtain ⟨y2_0, y2_1, y2_2⟩ := F.out.2.2.1.c; have f2_0 := F.out.2.2.1.fz 0; have f2_1 := F.out.2.2.1.fz 1; have f2_2 := F.out.2.2.1.fz 2; obtain ⟨y3_0, y3_1, y3_2⟩ := F.out.2.2.2.1.c; have f3_0 := F.out.2.2.2.1.fz 0; have f3_1 := F.out.2.2.2.1.fz 1; have f3_2 := F.out.2.2.2.1.fz 2; obtain ⟨y4_0, y4_1, y4_2⟩ := F.out.2.2.2.2.1.c; have f4_0 := F.out.2.2.2.2.1.fz 0; have f4_1 := F.out.2.2.2.2.1.fz 1; have f4_2 := F.out.2.2.2.2.1.fz 2; have hlow := F.out.2.2.2.2.2) | (go_at_call 41; refine (S1.out _).mono ?_; rintro e v38 ⟨rfl, h6⟩; clear y0_0 y0_1 y0_2 y0_3 y0_4 y1_0 y1_1 y1_2 y1_3 y1_4 y2_0 y2_1 y2_2 f2_0 f2_1 f2_2 y3_0 y3_1 y3_2 f3_0 f3_1 f3_2 y4_0 y4_1 y4_2 f4_0 f4_1 f4_2 hlow; have F := hid (show (fun W : World => C5 W (w.heap.size) a ∧ C5 W (w.heap.size + 1) b ∧ R3 W (w.heap.size + 1 + 1) 0 ∧ R3 W (v1.heap.size) ow ∧ R3 W (v21.heap.size) nu ∧ R3 W (v38.heap.size) gg ∧ Below w.heap.size w W) (v38.alloc (.cells #[.int .u64 (W0 gg), .int .u64 (W1 gg), .int .u64 (W2 gg)] 27)) from ⟨(F.out.1.keep h6).keep (ext1 _), (F.out.2.1.keep h6).keep (ext1 _), (F.out.2.2.1.keep h6).keep (ext1 _), (F.out.2.2.2.1.keep h6).keep (ext1 _), (F.out.2.2.2.2.1.keep h6).keep (ext1 _), heap_alloc_new _ _, gt (gt F.out.2.2.2.2.2 h6) (ext1 _)⟩); clear h6 S1; obtain ⟨y0_0, y0_1, y0_2, y0_3, y0_4⟩ := F.out.1; obtain ⟨y1_0, y1_1, y1_2, y1_3, y1_4⟩ := F.out.2.1; obtain ⟨y2_0, y2_1, y2_2⟩ := F.out.2.2.1.c; have f2_0 := F.out.2.2.1.fz 0; have f2_1 := F.out.2.2.1.fz 1; have f2_2 := F.out.2.2.1.fz 2; obtain ⟨y3_0, y3_1, y3_2⟩ := F.out.2.2.2.1.c; have f3_0 := F.out.2.2.2.1.fz 0; have f3_1 := F.out.2.2.2.1.fz 1; have f3_2 := F.out.2.2.2.1.fz 2; obtain ⟨y4_0, y4_1, y4_2⟩ := F.out.2.2.2.2.1.c; have f4_0 := F.out.2.2.2.2.1.fz 0; have f4_1 := F.out.2.2.2.2.1.fz 1; have f4_2 := F.out.2.2.2.2.1.fz 2; obtain ⟨y5_0, y5_1, y5_2⟩ := F.out.2.2.2.2.2.1.c; have f5_0 := F.out.2.2.2.2.2.1.fz 0; have f5_1 := F.out.2.2.2.2.2.1.fz 1; have f5_2 := F.out.2.2.2.2.2.1.fz 2; have hlow := F.out.2.2.2.2.2.2))
            obtain ⟨z0, z1, z2⟩ := (F.out.2.2.1.set (gg)).c
            exact bodyPost_ret (v := .tuple #[.agg #[.int .u64 (W0 (gg)), .int .u64 (W1 (gg)), .int .u64 (W2 (gg))], .bool false]) (by simp [results, Try.results9, go_sem, z0, z1, z2]) rfl ⟨rfl, (by repeat (first | with_reducible exact Below.refl _ _ | with_reducible assumption | with_reducible refine Below.drew ?_ | with_reducible refine below_drewN ?_ _ | with_reducible refine Below.alloc ?_ (by simp <;> omega) _ | with_reducible refine Below.setCell ?_ (by simp <;> omega) _))⟩
        exact AllReadyK.nil
    refine AllReadyK.cons (at_op _ _ _ rfl) (fun K hK => ?_) ?_
    · as_aux_lemma =>
        have hlt : w.heap.size + 1 + 1 < w.heap.size + 1 + 1 + 1 := by omega
        go_simp
        refine hK.out _ _ (by exact ⟨hHeld.1.keep (ext1 _), hHeld.2.1.keep (ext1 _), hHeld.2.2.1.keep (ext1 _), gt hHeld.2.2.2 (ext1 _)⟩) (fun hHeld => ?_)
        clear hK K
        (try simp only [Act.put, sA, sZ, sS])
        refine wpAnyK_more (S' := (fun W : World => R3 W (w.heap.size + 1 + 1 + 1) 0 ∧ C5 W (w.heap.size) a ∧ C5 W (w.heap.size + 1) b ∧ R3 W (w.heap.size + 1 + 1) 0 ∧ Below w.heap.size w W)) (fun W h => h.2) ?_
        replace hHeld : (fun W : World => R3 W (w.heap.size + 1 + 1 + 1) 0 ∧ C5 W (w.heap.size) a ∧ C5 W (w.heap.size + 1) b ∧ R3 W (w.heap.size + 1 + 1) 0 ∧ Below w.heap.size w W) _ := ⟨by exact R3.zero (by repeat (first | (refine at_new ?_; first | with_reducible rfl | (simp only [World.size_alloc]; done)) | refine at_old ?_)), hHeld⟩
        obtain ⟨va1, hva1⟩ : ∃ W : World, W = World.drew ((((w.alloc (.cells #[.bool (a).n, .int .i64 (a).lx, .int .i64 (a).ly, .int .i64 (a).hx, .int .i64 (a).hy] 25)).alloc (.cells #[.bool (b).n, .int .i64 (b).lx, .int .i64 (b).ly, .int .i64 (b).hx, .int .i64 (b).hy] 25)).alloc (.cells #[.int .u64 0, .int .u64 0, .int .u64 0] 27)).alloc (.cells #[.int .u64 0, .int .u64 0, .int .u64 0] 27)) := ⟨_, rfl⟩
        rw [← hva1] at hHeld ⊢
        clear hva1
        refine gk1 1 (fun K hK => ?_)
        go_simp
        go_at_call 22; refine (AA.out _).mono ?_; rintro e v1 ⟨rfl, h1⟩; have hR : (fun W : World => R3 W (w.heap.size + 1 + 1 + 1) 0 ∧ C5 W (w.heap.size) a ∧ C5 W (w.heap.size + 1) b ∧ R3 W (w.heap.size + 1 + 1) 0 ∧ Below w.heap.size w W) v1 := ⟨hHeld.1.keep h1, hHeld.2.1.keep h1, hHeld.2.2.1.keep h1, hHeld.2.2.2.1.keep h1, gt hHeld.2.2.2.2 h1⟩; clear h1
        refine hK.out _ _ hR (fun hHeld => ?_)
        clear hK K
        (try simp only [Act.put, sA, sZ, sS])
        refine gk1 3 (fun K hK => ?_)
        go_simp
        go_at_call 22; refine (AB.out _).mono ?_; rintro e v2 ⟨rfl, h2⟩; have hR : (fun W : World => R3 W (w.heap.size + 1 + 1 + 1) 0 ∧ C5 W (w.heap.size) a ∧ C5 W (w.heap.size + 1) b ∧ R3 W (w.heap.size + 1 + 1) 0 ∧ Below w.heap.size w W) v2 := ⟨hHeld.1.keep h2, hHeld.2.1.keep h2, hHeld.2.2.1.keep h2, hHeld.2.2.2.1.keep h2, gt hHeld.2.2.2.2 h2⟩; clear h2
        refine hK.out _ _ hR (fun hHeld => ?_)
        clear hK K
        (try simp only [Act.put, sA, sZ, sS])
        refine gk1 4 (fun K hK => ?_)
        go_simp
        go_at_call 39; refine (DC.out _).mono ?_; rintro e v3 ⟨rfl, h3⟩; have hR : (fun W : World => R3 W (w.heap.size + 1 + 1 + 1) 0 ∧ C5 W (w.heap.size) a ∧ C5 W (w.heap.size + 1) b ∧ R3 W (w.heap.size + 1 + 1) 0 ∧ Below w.heap.size w W) v3 := ⟨hHeld.1.keep h3, hHeld.2.1.keep h3, hHeld.2.2.1.keep h3, hHeld.2.2.2.1.keep h3, gt hHeld.2.2.2.2 h3⟩; clear h3
        refine hK.out _ _ hR (fun hHeld => ?_)
        clear hK K
        (try simp only [Act.put, sA, sZ, sS])
        refine gkp 5 ?_
        refine gkp 6 ?_
        refine gkp 7 ?_
        refine gkl 9 (fun K hK => ?_)
        have Z := hHeld.1; obtain ⟨u0, u1, u2⟩ := Z.c; have g0 := Z.fz 0; have g1 := Z.fz 1; have g2 := Z.fz 2; have hc := hHeld.2.2.2.2
        go_simp
        refine hK.out _ _ ?_
        clear hK K
        (try simp only [Act.put, sA, sZ, sS])
        refine gkp 10 ?_
        refine wpAnyK_done (by kernel_rfl) ?_ _
        have Z1 := Z.set ow
        have Z0 := (hHeld.2.2.2.1).far3 (show w.heap.size + 1 + 1 ≠ w.heap.size + 1 + 1 + 1 by omega) (.int .u64 (W0 ow)) (.int .u64 (W1 ow)) (.int .u64 (W2 ow))
        have hd := show Below w.heap.size w ((((v3).setCell ⟨w.heap.size + 1 + 1 + 1, 0, none⟩ (.int .u64 (W0 ow))).setCell ⟨w.heap.size + 1 + 1 + 1, 1, none⟩ (.int .u64 (W1 ow))).setCell ⟨w.heap.size + 1 + 1 + 1, 2, none⟩ (.int .u64 (W2 ow))) from (by repeat (first | with_reducible exact Below.refl _ _ | with_reducible assumption | with_reducible refine Below.drew ?_ | with_reducible refine below_drewN ?_ _ | with_reducible refine Below.alloc ?_ (by simp <;> omega) _ | with_reducible refine Below.setCell ?_ (by simp <;> omega) _))
        have ZA := C5.far3 (hHeld.2.1) (show w.heap.size ≠ w.heap.size + 1 + 1 + 1 by omega) (.int .u64 (W0 ow)) (.int .u64 (W1 ow)) (.int .u64 (W2 ow))
        have ZB := C5.far3 (hHeld.2.2.1) (show w.heap.size + 1 ≠ w.heap.size + 1 + 1 + 1 by omega) (.int .u64 (W0 ow)) (.int .u64 (W1 ow)) (.int .u64 (W2 ow))
        clear hHeld hc u0 u1 u2 g0 g1 g2 Z
        obtain ⟨w9, hw9⟩ : ∃ W : World, W = (((v3).setCell ⟨w.heap.size + 1 + 1 + 1, 0, none⟩ (.int .u64 (W0 ow))).setCell ⟨w.heap.size + 1 + 1 + 1, 1, none⟩ (.int .u64 (W1 ow))).setCell ⟨w.heap.size + 1 + 1 + 1, 2, none⟩ (.int .u64 (W2 ow)) := ⟨_, rfl⟩
        rw [← hw9] at Z1 Z0 ZA ZB hd ⊢
        clear hw9
        have F := hid (show (fun W : World => C5 W (w.heap.size) a ∧ C5 W (w.heap.size + 1) b ∧ R3 W (w.heap.size + 1 + 1) 0 ∧ R3 W (w.heap.size + 1 + 1 + 1) ow ∧ Below w.heap.size w W) w9 from ⟨ZA, ZB, Z0, Z1, hd⟩)
        clear Z1 Z0 ZA ZB hd hlt
        obtain ⟨y0_0, y0_1, y0_2, y0_3, y0_4⟩ := F.out.1
        obtain ⟨y1_0, y1_1, y1_2, y1_3, y1_4⟩ := F.out.2.1
        obtain ⟨y2_0, y2_1, y2_2⟩ := F.out.2.2.1.c
        have f2_0 := F.out.2.2.1.fz 0
        have f2_1 := F.out.2.2.1.fz 1
        have f2_2 := F.out.2.2.1.fz 2
        obtain ⟨y3_0, y3_1, y3_2⟩ := F.out.2.2.2.1.c
        have f3_0 := F.out.2.2.2.1.fz 0
        have f3_1 := F.out.2.2.2.1.fz 1
        have f3_2 := F.out.2.2.2.1.fz 2
        have hlow := F.out.2.2.2.2
        go_wp2_with (first | (go_at_call 13; refine (UC.out _).mono ?_; rintro e w6 ⟨rfl, h6⟩; clear y0_0 y0_1 y0_2 y0_3 y0_4 y1_0 y1_1 y1_2 y1_3 y1_4 y2_0 y2_1 y2_2 f2_0 f2_1 f2_2 y3_0 y3_1 y3_2 f3_0 f3_1 f3_2 hlow; have F := hid (show (fun W : World => C5 W (w.heap.size) a ∧ C5 W (w.heap.size + 1) b ∧ R3 W (w.heap.size + 1 + 1) 0 ∧ R3 W (w.heap.size + 1 + 1 + 1) ow ∧ Below w.heap.size w W) w6 from ⟨F.out.1.keep h6, F.out.2.1.keep h6, F.out.2.2.1.keep h6, F.out.2.2.2.1.keep h6, gt F.out.2.2.2.2 h6⟩); clear h6 UC; obtain ⟨y0_0, y0_1, y0_2, y0_3, y0_4⟩ := F.out.1; obtain ⟨y1_0, y1_1, y1_2, y1_3, y1_4⟩ := F.out.2.1; obtain ⟨y2_0, y2_1, y2_2⟩ := F.out.2.2.1.c; have f2_0 := F.out.2.2.1.fz 0; have f2_1 := F.out.2.2.1.fz 1; have f2_2 := F.out.2.2.1.fz 2; obtain ⟨y3_0, y3_1, y3_2⟩ := F.out.2.2.2.1.c; have f3_0 := F.out.2.2.2.1.fz 0; have f3_1 := F.out.2.2.2.1.fz 1; have f3_2 := F.out.2.2.2.1.fz 2; have hlow := F.out.2.2.2.2) | (go_at_call 22; refine (AU.out _).mono ?_; rintro e v21 ⟨rfl, h6⟩; clear y0_0 y0_1 y0_2 y0_3 y0_4 y1_0 y1_1 y1_2 y1_3 y1_4 y2_0 y2_1 y2_2 f2_0 f2_1 f2_2 y3_0 y3_1 y3_2 f3_0 f3_1 f3_2 hlow; have F := hid (show (fun W : World => C5 W (w.heap.size) a ∧ C5 W (w.heap.size + 1) b ∧ R3 W (w.heap.size + 1 + 1) 0 ∧ R3 W (w.heap.size + 1 + 1 + 1) ow ∧ R3 W (v21.heap.size) nu ∧ Below w.heap.size w W) (v21.alloc (.cells #[.int .u64 (W0 nu), .int .u64 (W1 nu), .int .u64 (W2 nu)] 27)) from ⟨(F.out.1.keep h6).keep (ext1 _), (F.out.2.1.keep h6).keep (ext1 _), (F.out.2.2.1.keep h6).keep (ext1 _), (F.out.2.2.2.1.keep h6).keep (ext1 _), heap_alloc_new _ _, gt (gt F.out.2.2.2.2 h6) (ext1 _)⟩); clear h6 AU; obtain ⟨y0_0, y0_1, y0_2, y0_3, y0_4⟩ := F.out.1; obtain ⟨y1_0, y1_1, y1_2, y1_3, y1_4⟩ := F.out.2.1; obtain ⟨y2_0, y2_1, y2_2⟩ := F.out.2.2.1.c; have f2_0 := F.out.2.2.1.fz 0; have f2_1 := F.out.2.2.1.fz 1; have f2_2 := F.out.2.2.1.fz 2; obtain ⟨y3_0, y3_1, y3_2⟩ := F.out.2.2.2.1.c; have f3_0 := F.out.2.2.2.1.fz 0; have f3_1 := F.out.2.2.2.1.fz 1; have f3_2 := F.out.2.2.2.1.fz 2; obtain ⟨y4_0, y4_1, y4_2⟩ := F.out.2.2.2.2.1.c; have f4_0 := F.out.2.2.2.2.1.fz 0; have f4_1 := F.out.2.2.2.2.1.fz 1; have f4_2 := F.out.2.2.2.2.1.fz 2; have hlow := F.out.2.2.2.2.2) | (go_at_call 40; refine (CC.out _).mono ?_; rintro e w6 ⟨rfl, h6⟩; clear y0_0 y0_1 y0_2 y0_3 y0_4 y1_0 y1_1 y1_2 y1_3 y1_4 y2_0 y2_1 y2_2 f2_0 f2_1 f2_2 y3_0 y3_1 y3_2 f3_0 f3_1 f3_2 y4_0 y4_1 y4_2 f4_0 f4_1 f4_2 hlow; have F := hid (show (fun W : World => C5 W (w.heap.size) a ∧ C5 W (w.heap.size + 1) b ∧ R3 W (w.heap.size + 1 + 1) 0 ∧ R3 W (w.heap.size + 1 + 1 + 1) ow ∧ R3 W (v21.heap.size) nu ∧ Below w.heap.size w W) w6 from ⟨F.out.1.keep h6, F.out.2.1.keep h6, F.out.2.2.1.keep h6, F.out.2.2.2.1.keep h6, F.out.2.2.2.2.1.keep h6, gt F.out.2.2.2.2.2 h6⟩); clear h6 CC; obtain ⟨y0_0, y0_1, y0_2, y0_3, y0_4⟩ := F.out.1; obtain ⟨y1_0, y1_1, y1_2, y1_3, y1_4⟩ := F.out.2.1; obtain ⟨y2_0, y2_1, y2_2⟩ := F.out.2.2.1.c; have f2_0 := F.out.2.2.1.fz 0; have f2_1 := F.out.2.2.1.fz 1; have f2_2 := F.out.2.2.1.fz 2; obtain ⟨y3_0, y3_1, y3_2⟩ := F.out.2.2.2.1.c; have f3_0 := F.out.2.2.2.1.fz 0; have f3_1 := F.out.2.2.2.1.fz 1; have f3_2 := F.out.2.2.2.1.fz 2; obtain ⟨y4_0, y4_1, y4_2⟩ := F.out.2.2.2.2.1.c; have f4_0 := F.out.2.2.2.2.1.fz 0; have f4_1 := F.out.2.2.2.2.1.fz 1; have f4_2 := F.out.2.2.2.2.1.fz 2; have hlow := F.out.2.2.2.2.2) | (go_at_call 41; refine (S1.out _).mono ?_; rintro e v38 ⟨rfl, h6⟩; clear y0_0 y0_1 y0_2 y0_3 y0_4 y1_0 y1_1 y1_2 y1_3 y1_4 y2_0 y2_1 y2_2 f2_0 f2_1 f2_2 y3_0 y3_1 y3_2 f3_0 f3_1 f3_2 y4_0 y4_1 y4_2 f4_0 f4_1 f4_2 hlow; have F := hid (show (fun W : World => C5 W (w.heap.size) a ∧ C5 W (w.heap.size + 1) b ∧ R3 W (w.heap.size + 1 + 1) 0 ∧ R3 W (w.heap.size + 1 + 1 + 1) ow ∧ R3 W (v21.heap.size) nu ∧ R3 W (v38.heap.size) gg ∧ Below w.heap.size w W) (v38.alloc (.cells #[.int .u64 (W0 gg), .int .u64 (W1 gg), .int .u64 (W2 gg)] 27)) from ⟨(F.out.1.keep h6).keep (ext1 _), (F.out.2.1.keep h6).keep (ext1 _), (F.out.2.2.1.keep h6).keep (ext1 _), (F.out.2.2.2.1.keep h6).keep (ext1 _), (F.out.2.2.2.2.1.keep h6).keep (ext1 _), heap_alloc_new _ _, gt (gt F.out.2.2.2.2.2 h6) (ext1 _)⟩); clear h6 S1; obtain ⟨y0_0, y0_1, y0_2, y0_3, y0_4⟩ := F.out.1; obtain ⟨y1_0, y1_1, y1_2, y1_3, y1_4⟩ := F.out.2.1; obtain ⟨y2_0, y2_1, y2_2⟩ := F.out.2.2.1.c; have f2_0 := F.out.2.2.1.fz 0; have f2_1 := F.out.2.2.1.fz 1; have f2_2 := F.out.2.2.1.fz 2; obtain ⟨y3_0, y3_1, y3_2⟩ := F.out.2.2.2.1.c; have f3_0 := F.out.2.2.2.1.fz 0; have f3_1 := F.out.2.2.2.1.fz 1; have f3_2 := F.out.2.2.2.1.fz 2; obtain ⟨y4_0, y4_1, y4_2⟩ := F.out.2.2.2.2.1.c; have f4_0 := F.out.2.2.2.2.1.fz 0; have f4_1 := F.out.2.2.2.2.1.fz 1; have f4_2 := F.out.2.2.2.2.1.fz 2; obtain ⟨y5_0, y5_1, y5_2⟩ := F.out.2.2.2.2.2.1.c; have f5_0 := F.out.2.2.2.2.2.1.fz 0; have f5_1 := F.out.2.2.2.2.2.1.fz 1; have f5_2 := F.out.2.2.2.2.2.1.fz 2; have hlow := F.out.2.2.2.2.2.2))
        obtain ⟨z0, z1, z2⟩ := (F.out.2.2.1.set (gg)).c
        exact bodyPost_ret (v := .tuple #[.agg #[.int .u64 (W0 (gg)), .int .u64 (W1 (gg)), .int .u64 (W2 (gg))], .bool false]) (by simp [results, Try.results9, go_sem, z0, z1, z2]) rfl ⟨rfl, (by repeat (first | with_reducible exact Below.refl _ _ | with_reducible assumption | with_reducible refine Below.drew ?_ | with_reducible refine below_drewN ?_ _ | with_reducible refine Below.alloc ?_ (by simp <;> omega) _ | with_reducible refine Below.setCell ?_ (by simp <;> omega) _))⟩
    exact AllReadyK.nil
  · rw [show wasteN a b = ownN a b - areaN (uniR a b) from if_neg hle, show wasteB a b = true from if_neg hle]
    have S1 := hid (fun W => rsub_le (ownN a b) (areaN (uniR a b)) h2 h1 W (by omega))
    have CC := hid (fun W => rcmp_any (areaN (uniR a b)) (ownN a b) h1 h2 W (cmpN (areaN (uniR a b)) (ownN a b)) (hid rfl))
    have hcmp : cmpN (areaN (uniR a b)) (ownN a b) < 0 := by unfold cmpN; rw [if_pos (by omega)]; decide
    clear h1 h2
    generalize cmpN (areaN (uniR a b)) (ownN a b) = cm at *
    generalize ownN a b - areaN (uniR a b) = gg at *
    generalize areaN (uniR a b) = nu at *
    generalize ownN a b = ow at *
    generalize areaN a = na at *
    generalize areaN b = nb at *
    generalize uniR a b = U at *
    clear hle ha hb
    go_enter Try.func9, Try.ntmps9
    go_wp2
    refine wp_region_K (S := (fun W : World => C5 W (w.heap.size) a ∧ C5 W (w.heap.size + 1) b ∧ R3 W (w.heap.size + 1 + 1) 0 ∧ Below w.heap.size w W)) (fun i => i == 9) (by kernel_rfl) (⟨by exact C5.of (by repeat (first | (refine at_new ?_; first | with_reducible rfl | (simp only [World.size_alloc]; done)) | refine at_old ?_)), by exact C5.of (by repeat (first | (refine at_new ?_; first | with_reducible rfl | (simp only [World.size_alloc]; done)) | refine at_old ?_)), by exact R3.zero (by repeat (first | (refine at_new ?_; first | with_reducible rfl | (simp only [World.size_alloc]; done)) | refine at_old ?_)), (by repeat (first | with_reducible exact Below.refl _ _ | with_reducible assumption | with_reducible refine Below.drew ?_ | with_reducible refine below_drewN ?_ _ | with_reducible refine Below.alloc ?_ (by simp <;> omega) _ | with_reducible refine Below.setCell ?_ (by simp <;> omega) _))⟩) (fun hHeld => ?_)
    refine gkt 0 ?_ (h := by intro W hSw; obtain ⟨⟨y0, y1, y2, y3, y4⟩, ⟨y5, y6, y7, y8, y9⟩, _, _⟩ := hSw; go_simp; first | done | with_reducible rfl)
    refine gkt 2 ?_ (h := by intro W hSw; obtain ⟨⟨y0, y1, y2, y3, y4⟩, ⟨y5, y6, y7, y8, y9⟩, _, _⟩ := hSw; go_simp; first | done | with_reducible rfl)
    refine wpAnyK_ready (rs := [1, 8]) (by kernel_rfl) (by simp) ?_
    refine AllReadyK.cons (at_op _ _ _ rfl) (fun K hK => ?_) ?_
    · as_aux_lemma =>
        go_simp
        go_at_call 22; refine (AA.out _).mono ?_; rintro e v1 ⟨rfl, h1⟩; have hR : (fun W : World => C5 W (w.heap.size) a ∧ C5 W (w.heap.size + 1) b ∧ R3 W (w.heap.size + 1 + 1) 0 ∧ Below w.heap.size w W) v1 := ⟨hHeld.1.keep h1, hHeld.2.1.keep h1, hHeld.2.2.1.keep h1, gt hHeld.2.2.2 h1⟩; clear h1
        refine hK.out _ _ hR (fun hHeld => ?_)
        clear hK K
        (try simp only [Act.put, sA, sZ, sS])
        refine wpAnyK_ready (rs := [3, 8]) (by kernel_rfl) (by simp) ?_
        refine AllReadyK.cons (at_op _ _ _ rfl) (fun K hK => ?_) ?_
        · as_aux_lemma =>
            go_simp
            go_at_call 22; refine (AB.out _).mono ?_; rintro e v2 ⟨rfl, h2⟩; have hR : (fun W : World => C5 W (w.heap.size) a ∧ C5 W (w.heap.size + 1) b ∧ R3 W (w.heap.size + 1 + 1) 0 ∧ Below w.heap.size w W) v2 := ⟨hHeld.1.keep h2, hHeld.2.1.keep h2, hHeld.2.2.1.keep h2, gt hHeld.2.2.2 h2⟩; clear h2
            refine hK.out _ _ hR (fun hHeld => ?_)
            clear hK K
            (try simp only [Act.put, sA, sZ, sS])
            refine wpAnyK_ready (rs := [4, 8]) (by kernel_rfl) (by simp) ?_
            refine AllReadyK.cons (at_op _ _ _ rfl) (fun K hK => ?_) ?_
            · as_aux_lemma =>
                go_simp
                go_at_call 39; refine (DC.out _).mono ?_; rintro e v3 ⟨rfl, h3⟩; have hR : (fun W : World => C5 W (w.heap.size) a ∧ C5 W (w.heap.size + 1) b ∧ R3 W (w.heap.size + 1 + 1) 0 ∧ Below w.heap.size w W) v3 := ⟨hHeld.1.keep h3, hHeld.2.1.keep h3, hHeld.2.2.1.keep h3, gt hHeld.2.2.2 h3⟩; clear h3
                refine hK.out _ _ hR (fun hHeld => ?_)
                clear hK K
                (try simp only [Act.put, sA, sZ, sS])
                refine gkp 5 ?_
                refine gkp 6 ?_
                refine gkp 7 ?_
                refine gk1 8 (fun K hK => ?_)
                have hlt := (hHeld.2.2.1).lt
                go_simp
                refine hK.out _ _ (by exact ⟨hHeld.1.keep (ext1 _), hHeld.2.1.keep (ext1 _), hHeld.2.2.1.keep (ext1 _), gt hHeld.2.2.2 (ext1 _)⟩) (fun hHeld => ?_)
                clear hK K
                (try simp only [Act.put, sA, sZ, sS])
                refine wpAnyK_more (S' := (fun W : World => R3 W (v3.heap.size) 0 ∧ C5 W (w.heap.size) a ∧ C5 W (w.heap.size + 1) b ∧ R3 W (w.heap.size + 1 + 1) 0 ∧ Below w.heap.size w W)) (fun W h => h.2) ?_
                replace hHeld : (fun W : World => R3 W (v3.heap.size) 0 ∧ C5 W (w.heap.size) a ∧ C5 W (w.heap.size + 1) b ∧ R3 W (w.heap.size + 1 + 1) 0 ∧ Below w.heap.size w W) _ := ⟨by exact R3.zero (by repeat (first | (refine at_new ?_; first | with_reducible rfl | (simp only [World.size_alloc]; done)) | refine at_old ?_)), hHeld⟩
                obtain ⟨va1, hva1⟩ : ∃ W : World, W = (v3).alloc (.cells #[.int .u64 0, .int .u64 0, .int .u64 0] 27) := ⟨_, rfl⟩
                rw [← hva1] at hHeld ⊢
                clear hva1
                refine gkl 9 (fun K hK => ?_)
                have Z := hHeld.1; obtain ⟨u0, u1, u2⟩ := Z.c; have g0 := Z.fz 0; have g1 := Z.fz 1; have g2 := Z.fz 2; have hc := hHeld.2.2.2.2
                go_simp
                refine hK.out _ _ ?_
                clear hK K
                (try simp only [Act.put, sA, sZ, sS])
                refine gkp 10 ?_
                refine wpAnyK_done (by kernel_rfl) ?_ _
                have Z1 := Z.set ow
                have Z0 := (hHeld.2.2.2.1).far3 (show w.heap.size + 1 + 1 ≠ v3.heap.size by omega) (.int .u64 (W0 ow)) (.int .u64 (W1 ow)) (.int .u64 (W2 ow))
                have hd := show Below w.heap.size w ((((va1).setCell ⟨v3.heap.size, 0, none⟩ (.int .u64 (W0 ow))).setCell ⟨v3.heap.size, 1, none⟩ (.int .u64 (W1 ow))).setCell ⟨v3.heap.size, 2, none⟩ (.int .u64 (W2 ow))) from (by repeat (first | with_reducible exact Below.refl _ _ | with_reducible assumption | with_reducible refine Below.drew ?_ | with_reducible refine below_drewN ?_ _ | with_reducible refine Below.alloc ?_ (by simp <;> omega) _ | with_reducible refine Below.setCell ?_ (by simp <;> omega) _))
                have ZA := C5.far3 (hHeld.2.1) (show w.heap.size ≠ v3.heap.size by omega) (.int .u64 (W0 ow)) (.int .u64 (W1 ow)) (.int .u64 (W2 ow))
                have ZB := C5.far3 (hHeld.2.2.1) (show w.heap.size + 1 ≠ v3.heap.size by omega) (.int .u64 (W0 ow)) (.int .u64 (W1 ow)) (.int .u64 (W2 ow))
                clear hHeld hc u0 u1 u2 g0 g1 g2 Z
                obtain ⟨w9, hw9⟩ : ∃ W : World, W = (((va1).setCell ⟨v3.heap.size, 0, none⟩ (.int .u64 (W0 ow))).setCell ⟨v3.heap.size, 1, none⟩ (.int .u64 (W1 ow))).setCell ⟨v3.heap.size, 2, none⟩ (.int .u64 (W2 ow)) := ⟨_, rfl⟩
                rw [← hw9] at Z1 Z0 ZA ZB hd ⊢
                clear hw9
                have F := hid (show (fun W : World => C5 W (w.heap.size) a ∧ C5 W (w.heap.size + 1) b ∧ R3 W (w.heap.size + 1 + 1) 0 ∧ R3 W (v3.heap.size) ow ∧ Below w.heap.size w W) w9 from ⟨ZA, ZB, Z0, Z1, hd⟩)
                clear Z1 Z0 ZA ZB hd hlt
                obtain ⟨y0_0, y0_1, y0_2, y0_3, y0_4⟩ := F.out.1
                obtain ⟨y1_0, y1_1, y1_2, y1_3, y1_4⟩ := F.out.2.1
                obtain ⟨y2_0, y2_1, y2_2⟩ := F.out.2.2.1.c
                have f2_0 := F.out.2.2.1.fz 0
                have f2_1 := F.out.2.2.1.fz 1
                have f2_2 := F.out.2.2.1.fz 2
                obtain ⟨y3_0, y3_1, y3_2⟩ := F.out.2.2.2.1.c
                have f3_0 := F.out.2.2.2.1.fz 0
                have f3_1 := F.out.2.2.2.1.fz 1
                have f3_2 := F.out.2.2.2.1.fz 2
                have hlow := F.out.2.2.2.2
                go_wp2_with (first | (go_at_call 13; refine (UC.out _).mono ?_; rintro e w6 ⟨rfl, h6⟩; clear y0_0 y0_1 y0_2 y0_3 y0_4 y1_0 y1_1 y1_2 y1_3 y1_4 y2_0 y2_1 y2_2 f2_0 f2_1 f2_2 y3_0 y3_1 y3_2 f3_0 f3_1 f3_2 hlow; have F := hid (show (fun W : World => C5 W (w.heap.size) a ∧ C5 W (w.heap.size + 1) b ∧ R3 W (w.heap.size + 1 + 1) 0 ∧ R3 W (v3.heap.size) ow ∧ Below w.heap.size w W) w6 from ⟨F.out.1.keep h6, F.out.2.1.keep h6, F.out.2.2.1.keep h6, F.out.2.2.2.1.keep h6, gt F.out.2.2.2.2 h6⟩); clear h6 UC; obtain ⟨y0_0, y0_1, y0_2, y0_3, y0_4⟩ := F.out.1; obtain ⟨y1_0, y1_1, y1_2, y1_3, y1_4⟩ := F.out.2.1; obtain ⟨y2_0, y2_1, y2_2⟩ := F.out.2.2.1.c; have f2_0 := F.out.2.2.1.fz 0; have f2_1 := F.out.2.2.1.fz 1; have f2_2 := F.out.2.2.1.fz 2; obtain ⟨y3_0, y3_1, y3_2⟩ := F.out.2.2.2.1.c; have f3_0 := F.out.2.2.2.1.fz 0; have f3_1 := F.out.2.2.2.1.fz 1; have f3_2 := F.out.2.2.2.1.fz 2; have hlow := F.out.2.2.2.2) | (go_at_call 22; refine (AU.out _).mono ?_; rintro e v21 ⟨rfl, h6⟩; clear y0_0 y0_1 y0_2 y0_3 y0_4 y1_0 y1_1 y1_2 y1_3 y1_4 y2_0 y2_1 y2_2 f2_0 f2_1 f2_2 y3_0 y3_1 y3_2 f3_0 f3_1 f3_2 hlow; have F := hid (show (fun W : World => C5 W (w.heap.size) a ∧ C5 W (w.heap.size + 1) b ∧ R3 W (w.heap.size + 1 + 1) 0 ∧ R3 W (v3.heap.size) ow ∧ R3 W (v21.heap.size) nu ∧ Below w.heap.size w W) (v21.alloc (.cells #[.int .u64 (W0 nu), .int .u64 (W1 nu), .int .u64 (W2 nu)] 27)) from ⟨(F.out.1.keep h6).keep (ext1 _), (F.out.2.1.keep h6).keep (ext1 _), (F.out.2.2.1.keep h6).keep (ext1 _), (F.out.2.2.2.1.keep h6).keep (ext1 _), heap_alloc_new _ _, gt (gt F.out.2.2.2.2 h6) (ext1 _)⟩); clear h6 AU; obtain ⟨y0_0, y0_1, y0_2, y0_3, y0_4⟩ := F.out.1; obtain ⟨y1_0, y1_1, y1_2, y1_3, y1_4⟩ := F.out.2.1; obtain ⟨y2_0, y2_1, y2_2⟩ := F.out.2.2.1.c; have f2_0 := F.out.2.2.1.fz 0; have f2_1 := F.out.2.2.1.fz 1; have f2_2 := F.out.2.2.1.fz 2; obtain ⟨y3_0, y3_1, y3_2⟩ := F.out.2.2.2.1.c; have f3_0 := F.out.2.2.2.1.fz 0; have f3_1 := F.out.2.2.2.1.fz 1; have f3_2 := F.out.2.2.2.1.fz 2; obtain ⟨y4_0, y4_1, y4_2⟩ := F.out.2.2.2.2.1.c; have f4_0 := F.out.2.2.2.2.1.fz 0; have f4_1 := F.out.2.2.2.2.1.fz 1; have f4_2 := F.out.2.2.2.2.1.fz 2; have hlow := F.out.2.2.2.2.2) | (go_at_call 40; refine (CC.out _).mono ?_; rintro e w6 ⟨rfl, h6⟩; clear y0_0 y0_1 y0_2 y0_3 y0_4 y1_0 y1_1 y1_2 y1_3 y1_4 y2_0 y2_1 y2_2 f2_0 f2_1 f2_2 y3_0 y3_1 y3_2 f3_0 f3_1 f3_2 y4_0 y4_1 y4_2 f4_0 f4_1 f4_2 hlow; have F := hid (show (fun W : World => C5 W (w.heap.size) a ∧ C5 W (w.heap.size + 1) b ∧ R3 W (w.heap.size + 1 + 1) 0 ∧ R3 W (v3.heap.size) ow ∧ R3 W (v21.heap.size) nu ∧ Below w.heap.size w W) w6 from ⟨F.out.1.keep h6, F.out.2.1.keep h6, F.out.2.2.1.keep h6, F.out.2.2.2.1.keep h6, F.out.2.2.2.2.1.keep h6, gt F.out.2.2.2.2.2 h6⟩); clear h6 CC; obtain ⟨y0_0, y0_1, y0_2, y0_3, y0_4⟩ := F.out.1; obtain ⟨y1_0, y1_1, y1_2, y1_3, y1_4⟩ := F.out.2.1; obtain ⟨y2_0, y2_1, y2_2⟩ := F.out.2.2.1.c; have f2_0 := F.out.2.2.1.fz 0; have f2_1 := F.out.2.2.1.fz 1; have f2_2 := F.out.2.2.1.fz 2; obtain ⟨y3_0, y3_1, y3_2⟩ := F.out.2.2.2.1.c; have f3_0 := F.out.2.2.2.1.fz 0; have f3_1 := F.out.2.2.2.1.fz 1; have f3_2 := F.out.2.2.2.1.fz 2; obtain ⟨y4_0, y4_1, y4_2⟩ := F.out.2.2.2.2.1.c; have f4_0 := F.out.2.2.2.2.1.fz 0; have f4_1 := F.out.2.2.2.2.1.fz 1; have f4_2 := F.out.2.2.2.2.1.fz 2; have hlow := F.out.2.2.2.2.2) | (go_at_call 41; refine (S1.out _).mono ?_; rintro e v38 ⟨rfl, h6⟩; clear y0_0 y0_1 y0_2 y0_3 y0_4 y1_0 y1_1 y1_2 y1_3 y1_4 y2_0 y2_1 y2_2 f2_0 f2_1 f2_2 y3_0 y3_1 y3_2 f3_0 f3_1 f3_2 y4_0 y4_1 y4_2 f4_0 f4_1 f4_2 hlow; have F := hid (show (fun W : World => C5 W (w.heap.size) a ∧ C5 W (w.heap.size + 1) b ∧ R3 W (w.heap.size + 1 + 1) 0 ∧ R3 W (v3.heap.size) ow ∧ R3 W (v21.heap.size) nu ∧ R3 W (v38.heap.size) gg ∧ Below w.heap.size w W) (v38.alloc (.cells #[.int .u64 (W0 gg), .int .u64 (W1 gg), .int .u64 (W2 gg)] 27)) from ⟨(F.out.1.keep h6).keep (ext1 _), (F.out.2.1.keep h6).keep (ext1 _), (F.out.2.2.1.keep h6).keep (ext1 _), (F.out.2.2.2.1.keep h6).keep (ext1 _), (F.out.2.2.2.2.1.keep h6).keep (ext1 _), heap_alloc_new _ _, gt (gt F.out.2.2.2.2.2 h6) (ext1 _)⟩); clear h6 S1; obtain ⟨y0_0, y0_1, y0_2, y0_3, y0_4⟩ := F.out.1; obtain ⟨y1_0, y1_1, y1_2, y1_3, y1_4⟩ := F.out.2.1; obtain ⟨y2_0, y2_1, y2_2⟩ := F.out.2.2.1.c; have f2_0 := F.out.2.2.1.fz 0; have f2_1 := F.out.2.2.1.fz 1; have f2_2 := F.out.2.2.1.fz 2; obtain ⟨y3_0, y3_1, y3_2⟩ := F.out.2.2.2.1.c; have f3_0 := F.out.2.2.2.1.fz 0; have f3_1 := F.out.2.2.2.1.fz 1; have f3_2 := F.out.2.2.2.1.fz 2; obtain ⟨y4_0, y4_1, y4_2⟩ := F.out.2.2.2.2.1.c; have f4_0 := F.out.2.2.2.2.1.fz 0; have f4_1 := F.out.2.2.2.2.1.fz 1; have f4_2 := F.out.2.2.2.2.1.fz 2; obtain ⟨y5_0, y5_1, y5_2⟩ := F.out.2.2.2.2.2.1.c; have f5_0 := F.out.2.2.2.2.2.1.fz 0; have f5_1 := F.out.2.2.2.2.2.1.fz 1; have f5_2 := F.out.2.2.2.2.2.1.fz 2; have hlow := F.out.2.2.2.2.2.2))
                obtain ⟨z0, z1, z2⟩ := (F.out.2.2.1.set (gg)).c
                exact bodyPost_ret (v := .tuple #[.agg #[.int .u64 (W0 (gg)), .int .u64 (W1 (gg)), .int .u64 (W2 (gg))], .bool true]) (by simp [results, Try.results9, go_sem, z0, z1, z2]) rfl ⟨rfl, (by repeat (first | with_reducible exact Below.refl _ _ | with_reducible assumption | with_reducible refine Below.drew ?_ | with_reducible refine below_drewN ?_ _ | with_reducible refine Below.alloc ?_ (by simp <;> omega) _ | with_reducible refine Below.setCell ?_ (by simp <;> omega) _))⟩
            refine AllReadyK.cons (at_op _ _ _ rfl) (fun K hK => ?_) ?_
            · as_aux_lemma =>
                have hlt := (hHeld.2.2.1).lt
                go_simp
                refine hK.out _ _ (by exact ⟨hHeld.1.keep (ext1 _), hHeld.2.1.keep (ext1 _), hHeld.2.2.1.keep (ext1 _), gt hHeld.2.2.2 (ext1 _)⟩) (fun hHeld => ?_)
                clear hK K
                (try simp only [Act.put, sA, sZ, sS])
                refine wpAnyK_more (S' := (fun W : World => R3 W (v2.heap.size) 0 ∧ C5 W (w.heap.size) a ∧ C5 W (w.heap.size + 1) b ∧ R3 W (w.heap.size + 1 + 1) 0 ∧ Below w.heap.size w W)) (fun W h => h.2) ?_
                replace hHeld : (fun W : World => R3 W (v2.heap.size) 0 ∧ C5 W (w.heap.size) a ∧ C5 W (w.heap.size + 1) b ∧ R3 W (w.heap.size + 1 + 1) 0 ∧ Below w.heap.size w W) _ := ⟨by exact R3.zero (by repeat (first | (refine at_new ?_; first | with_reducible rfl | (simp only [World.size_alloc]; done)) | refine at_old ?_)), hHeld⟩
                obtain ⟨va1, hva1⟩ : ∃ W : World, W = (v2).alloc (.cells #[.int .u64 0, .int .u64 0, .int .u64 0] 27) := ⟨_, rfl⟩
                rw [← hva1] at hHeld ⊢
                clear hva1
                refine gk1 4 (fun K hK => ?_)
                go_simp
                go_at_call 39; refine (DC.out _).mono ?_; rintro e v3 ⟨rfl, h3⟩; have hR : (fun W : World => R3 W (v2.heap.size) 0 ∧ C5 W (w.heap.size) a ∧ C5 W (w.heap.size + 1) b ∧ R3 W (w.heap.size + 1 + 1) 0 ∧ Below w.heap.size w W) v3 := ⟨hHeld.1.keep h3, hHeld.2.1.keep h3, hHeld.2.2.1.keep h3, hHeld.2.2.2.1.keep h3, gt hHeld.2.2.2.2 h3⟩; clear h3
                refine hK.out _ _ hR (fun hHeld => ?_)
                clear hK K
                (try simp only [Act.put, sA, sZ, sS])
                refine gkp 5 ?_
                refine gkp 6 ?_
                refine gkp 7 ?_
                refine gkl 9 (fun K hK => ?_)
                have Z := hHeld.1; obtain ⟨u0, u1, u2⟩ := Z.c; have g0 := Z.fz 0; have g1 := Z.fz 1; have g2 := Z.fz 2; have hc := hHeld.2.2.2.2
                go_simp
                refine hK.out _ _ ?_
                clear hK K
                (try simp only [Act.put, sA, sZ, sS])
                refine gkp 10 ?_
                refine wpAnyK_done (by kernel_rfl) ?_ _
                have Z1 := Z.set ow
                have Z0 := (hHeld.2.2.2.1).far3 (show w.heap.size + 1 + 1 ≠ v2.heap.size by omega) (.int .u64 (W0 ow)) (.int .u64 (W1 ow)) (.int .u64 (W2 ow))
                have hd := show Below w.heap.size w ((((v3).setCell ⟨v2.heap.size, 0, none⟩ (.int .u64 (W0 ow))).setCell ⟨v2.heap.size, 1, none⟩ (.int .u64 (W1 ow))).setCell ⟨v2.heap.size, 2, none⟩ (.int .u64 (W2 ow))) from (by repeat (first | with_reducible exact Below.refl _ _ | with_reducible assumption | with_reducible refine Below.drew ?_ | with_reducible refine below_drewN ?_ _ | with_reducible refine Below.alloc ?_ (by simp <;> omega) _ | with_reducible refine Below.setCell ?_ (by simp <;> omega) _))
                have ZA := C5.far3 (hHeld.2.1) (show w.heap.size ≠ v2.heap.size by omega) (.int .u64 (W0 ow)) (.int .u64 (W1 ow)) (.int .u64 (W2 ow))
                have ZB := C5.far3 (hHeld.2.2.1) (show w.heap.size + 1 ≠ v2.heap.size by omega) (.int .u64 (W0 ow)) (.int .u64 (W1 ow)) (.int .u64 (W2 ow))
                clear hHeld hc u0 u1 u2 g0 g1 g2 Z
                obtain ⟨w9, hw9⟩ : ∃ W : World, W = (((v3).setCell ⟨v2.heap.size, 0, none⟩ (.int .u64 (W0 ow))).setCell ⟨v2.heap.size, 1, none⟩ (.int .u64 (W1 ow))).setCell ⟨v2.heap.size, 2, none⟩ (.int .u64 (W2 ow)) := ⟨_, rfl⟩
                rw [← hw9] at Z1 Z0 ZA ZB hd ⊢
                clear hw9
                have F := hid (show (fun W : World => C5 W (w.heap.size) a ∧ C5 W (w.heap.size + 1) b ∧ R3 W (w.heap.size + 1 + 1) 0 ∧ R3 W (v2.heap.size) ow ∧ Below w.heap.size w W) w9 from ⟨ZA, ZB, Z0, Z1, hd⟩)
                clear Z1 Z0 ZA ZB hd hlt
                obtain ⟨y0_0, y0_1, y0_2, y0_3, y0_4⟩ := F.out.1
                obtain ⟨y1_0, y1_1, y1_2, y1_3, y1_4⟩ := F.out.2.1
                obtain ⟨y2_0, y2_1, y2_2⟩ := F.out.2.2.1.c
                have f2_0 := F.out.2.2.1.fz 0
                have f2_1 := F.out.2.2.1.fz 1
                have f2_2 := F.out.2.2.1.fz 2
                obtain ⟨y3_0, y3_1, y3_2⟩ := F.out.2.2.2.1.c
                have f3_0 := F.out.2.2.2.1.fz 0
                have f3_1 := F.out.2.2.2.1.fz 1
                have f3_2 := F.out.2.2.2.1.fz 2
                have hlow := F.out.2.2.2.2
                go_wp2_with (first | (go_at_call 13; refine (UC.out _).mono ?_; rintro e w6 ⟨rfl, h6⟩; clear y0_0 y0_1 y0_2 y0_3 y0_4 y1_0 y1_1 y1_2 y1_3 y1_4 y2_0 y2_1 y2_2 f2_0 f2_1 f2_2 y3_0 y3_1 y3_2 f3_0 f3_1 f3_2 hlow; have F := hid (show (fun W : World => C5 W (w.heap.size) a ∧ C5 W (w.heap.size + 1) b ∧ R3 W (w.heap.size + 1 + 1) 0 ∧ R3 W (v2.heap.size) ow ∧ Below w.heap.size w W) w6 from ⟨F.out.1.keep h6, F.out.2.1.keep h6, F.out.2.2.1.keep h6, F.out.2.2.2.1.keep h6, gt F.out.2.2.2.2 h6⟩); clear h6 UC; obtain ⟨y0_0, y0_1, y0_2, y0_3, y0_4⟩ := F.out.1; obtain ⟨y1_0, y1_1, y1_2, y1_3, y1_4⟩ := F.out.2.1; obtain ⟨y2_0, y2_1, y2_2⟩ := F.out.2.2.1.c; have f2_0 := F.out.2.2.1.fz 0; have f2_1 := F.out.2.2.1.fz 1; have f2_2 := F.out.2.2.1.fz 2; obtain ⟨y3_0, y3_1, y3_2⟩ := F.out.2.2.2.1.c; have f3_0 := F.out.2.2.2.1.fz 0; have f3_1 := F.out.2.2.2.1.fz 1; have f3_2 := F.out.2.2.2.1.fz 2; have hlow := F.out.2.2.2.2) | (go_at_call 22; refine (AU.out _).mono ?_; rintro e v21 ⟨rfl, h6⟩; clear y0_0 y0_1 y0_2 y0_3 y0_4 y1_0 y1_1 y1_2 y1_3 y1_4 y2_0 y2_1 y2_2 f2_0 f2_1 f2_2 y3_0 y3_1 y3_2 f3_0 f3_1 f3_2 hlow; have F := hid (show (fun W : World => C5 W (w.heap.size) a ∧ C5 W (w.heap.size + 1) b ∧ R3 W (w.heap.size + 1 + 1) 0 ∧ R3 W (v2.heap.size) ow ∧ R3 W (v21.heap.size) nu ∧ Below w.heap.size w W) (v21.alloc (.cells #[.int .u64 (W0 nu), .int .u64 (W1 nu), .int .u64 (W2 nu)] 27)) from ⟨(F.out.1.keep h6).keep (ext1 _), (F.out.2.1.keep h6).keep (ext1 _), (F.out.2.2.1.keep h6).keep (ext1 _), (F.out.2.2.2.1.keep h6).keep (ext1 _), heap_alloc_new _ _, gt (gt F.out.2.2.2.2 h6) (ext1 _)⟩); clear h6 AU; obtain ⟨y0_0, y0_1, y0_2, y0_3, y0_4⟩ := F.out.1; obtain ⟨y1_0, y1_1, y1_2, y1_3, y1_4⟩ := F.out.2.1; obtain ⟨y2_0, y2_1, y2_2⟩ := F.out.2.2.1.c; have f2_0 := F.out.2.2.1.fz 0; have f2_1 := F.out.2.2.1.fz 1; have f2_2 := F.out.2.2.1.fz 2; obtain ⟨y3_0, y3_1, y3_2⟩ := F.out.2.2.2.1.c; have f3_0 := F.out.2.2.2.1.fz 0; have f3_1 := F.out.2.2.2.1.fz 1; have f3_2 := F.out.2.2.2.1.fz 2; obtain ⟨y4_0, y4_1, y4_2⟩ := F.out.2.2.2.2.1.c; have f4_0 := F.out.2.2.2.2.1.fz 0; have f4_1 := F.out.2.2.2.2.1.fz 1; have f4_2 := F.out.2.2.2.2.1.fz 2; have hlow := F.out.2.2.2.2.2) | (go_at_call 40; refine (CC.out _).mono ?_; rintro e w6 ⟨rfl, h6⟩; clear y0_0 y0_1 y0_2 y0_3 y0_4 y1_0 y1_1 y1_2 y1_3 y1_4 y2_0 y2_1 y2_2 f2_0 f2_1 f2_2 y3_0 y3_1 y3_2 f3_0 f3_1 f3_2 y4_0 y4_1 y4_2 f4_0 f4_1 f4_2 hlow; have F := hid (show (fun W : World => C5 W (w.heap.size) a ∧ C5 W (w.heap.size + 1) b ∧ R3 W (w.heap.size + 1 + 1) 0 ∧ R3 W (v2.heap.size) ow ∧ R3 W (v21.heap.size) nu ∧ Below w.heap.size w W) w6 from ⟨F.out.1.keep h6, F.out.2.1.keep h6, F.out.2.2.1.keep h6, F.out.2.2.2.1.keep h6, F.out.2.2.2.2.1.keep h6, gt F.out.2.2.2.2.2 h6⟩); clear h6 CC; obtain ⟨y0_0, y0_1, y0_2, y0_3, y0_4⟩ := F.out.1; obtain ⟨y1_0, y1_1, y1_2, y1_3, y1_4⟩ := F.out.2.1; obtain ⟨y2_0, y2_1, y2_2⟩ := F.out.2.2.1.c; have f2_0 := F.out.2.2.1.fz 0; have f2_1 := F.out.2.2.1.fz 1; have f2_2 := F.out.2.2.1.fz 2; obtain ⟨y3_0, y3_1, y3_2⟩ := F.out.2.2.2.1.c; have f3_0 := F.out.2.2.2.1.fz 0; have f3_1 := F.out.2.2.2.1.fz 1; have f3_2 := F.out.2.2.2.1.fz 2; obtain ⟨y4_0, y4_1, y4_2⟩ := F.out.2.2.2.2.1.c; have f4_0 := F.out.2.2.2.2.1.fz 0; have f4_1 := F.out.2.2.2.2.1.fz 1; have f4_2 := F.out.2.2.2.2.1.fz 2; have hlow := F.out.2.2.2.2.2) | (go_at_call 41; refine (S1.out _).mono ?_; rintro e v38 ⟨rfl, h6⟩; clear y0_0 y0_1 y0_2 y0_3 y0_4 y1_0 y1_1 y1_2 y1_3 y1_4 y2_0 y2_1 y2_2 f2_0 f2_1 f2_2 y3_0 y3_1 y3_2 f3_0 f3_1 f3_2 y4_0 y4_1 y4_2 f4_0 f4_1 f4_2 hlow; have F := hid (show (fun W : World => C5 W (w.heap.size) a ∧ C5 W (w.heap.size + 1) b ∧ R3 W (w.heap.size + 1 + 1) 0 ∧ R3 W (v2.heap.size) ow ∧ R3 W (v21.heap.size) nu ∧ R3 W (v38.heap.size) gg ∧ Below w.heap.size w W) (v38.alloc (.cells #[.int .u64 (W0 gg), .int .u64 (W1 gg), .int .u64 (W2 gg)] 27)) from ⟨(F.out.1.keep h6).keep (ext1 _), (F.out.2.1.keep h6).keep (ext1 _), (F.out.2.2.1.keep h6).keep (ext1 _), (F.out.2.2.2.1.keep h6).keep (ext1 _), (F.out.2.2.2.2.1.keep h6).keep (ext1 _), heap_alloc_new _ _, gt (gt F.out.2.2.2.2.2 h6) (ext1 _)⟩); clear h6 S1; obtain ⟨y0_0, y0_1, y0_2, y0_3, y0_4⟩ := F.out.1; obtain ⟨y1_0, y1_1, y1_2, y1_3, y1_4⟩ := F.out.2.1; obtain ⟨y2_0, y2_1, y2_2⟩ := F.out.2.2.1.c; have f2_0 := F.out.2.2.1.fz 0; have f2_1 := F.out.2.2.1.fz 1; have f2_2 := F.out.2.2.1.fz 2; obtain ⟨y3_0, y3_1, y3_2⟩ := F.out.2.2.2.1.c; have f3_0 := F.out.2.2.2.1.fz 0; have f3_1 := F.out.2.2.2.1.fz 1; have f3_2 := F.out.2.2.2.1.fz 2; obtain ⟨y4_0, y4_1, y4_2⟩ := F.out.2.2.2.2.1.c; have f4_0 := F.out.2.2.2.2.1.fz 0; have f4_1 := F.out.2.2.2.2.1.fz 1; have f4_2 := F.out.2.2.2.2.1.fz 2; obtain ⟨y5_0, y5_1, y5_2⟩ := F.out.2.2.2.2.2.1.c; have f5_0 := F.out.2.2.2.2.2.1.fz 0; have f5_1 := F.out.2.2.2.2.2.1.fz 1; have f5_2 := F.out.2.2.2.2.2.1.fz 2; have hlow := F.out.2.2.2.2.2.2))
                obtain ⟨z0, z1, z2⟩ := (F.out.2.2.1.set (gg)).c
                exact bodyPost_ret (v := .tuple #[.agg #[.int .u64 (W0 (gg)), .int .u64 (W1 (gg)), .int .u64 (W2 (gg))], .bool true]) (by simp [results, Try.results9, go_sem, z0, z1, z2]) rfl ⟨rfl, (by repeat (first | with_reducible exact Below.refl _ _ | with_reducible assumption | with_reducible refine Below.drew ?_ | with_reducible refine below_drewN ?_ _ | with_reducible refine Below.alloc ?_ (by simp <;> omega) _ | with_reducible refine Below.setCell ?_ (by simp <;> omega) _))⟩
            exact AllReadyK.nil
        refine AllReadyK.cons (at_op _ _ _ rfl) (fun K hK => ?_) ?_
        · as_aux_lemma =>
            have hlt := (hHeld.2.2.1).lt
            go_simp
            refine hK.out _ _ (by exact ⟨hHeld.1.keep (ext1 _), hHeld.2.1.keep (ext1 _), hHeld.2.2.1.keep (ext1 _), gt hHeld.2.2.2 (ext1 _)⟩) (fun hHeld => ?_)
            clear hK K
            (try simp only [Act.put, sA, sZ, sS])
            refine wpAnyK_more (S' := (fun W : World => R3 W (v1.heap.size) 0 ∧ C5 W (w.heap.size) a ∧ C5 W (w.heap.size + 1) b ∧ R3 W (w.heap.size + 1 + 1) 0 ∧ Below w.heap.size w W)) (fun W h => h.2) ?_
            replace hHeld : (fun W : World => R3 W (v1.heap.size) 0 ∧ C5 W (w.heap.size) a ∧ C5 W (w.heap.size + 1) b ∧ R3 W (w.heap.size + 1 + 1) 0 ∧ Below w.heap.size w W) _ := ⟨by exact R3.zero (by repeat (first | (refine at_new ?_; first | with_reducible rfl | (simp only [World.size_alloc]; done)) | refine at_old ?_)), hHeld⟩
            obtain ⟨va1, hva1⟩ : ∃ W : World, W = (v1).alloc (.cells #[.int .u64 0, .int .u64 0, .int .u64 0] 27) := ⟨_, rfl⟩
            rw [← hva1] at hHeld ⊢
            clear hva1
            refine gk1 3 (fun K hK => ?_)
            go_simp
            go_at_call 22; refine (AB.out _).mono ?_; rintro e v2 ⟨rfl, h2⟩; have hR : (fun W : World => R3 W (v1.heap.size) 0 ∧ C5 W (w.heap.size) a ∧ C5 W (w.heap.size + 1) b ∧ R3 W (w.heap.size + 1 + 1) 0 ∧ Below w.heap.size w W) v2 := ⟨hHeld.1.keep h2, hHeld.2.1.keep h2, hHeld.2.2.1.keep h2, hHeld.2.2.2.1.keep h2, gt hHeld.2.2.2.2 h2⟩; clear h2
            refine hK.out _ _ hR (fun hHeld => ?_)
            clear hK K
            (try simp only [Act.put, sA, sZ, sS])
            refine gk1 4 (fun K hK => ?_)
            go_simp
            go_at_call 39; refine (DC.out _).mono ?_; rintro e v3 ⟨rfl, h3⟩; have hR : (fun W : World => R3 W (v1.heap.size) 0 ∧ C5 W (w.heap.size) a ∧ C5 W (w.heap.size + 1) b ∧ R3 W (w.heap.size + 1 + 1) 0 ∧ Below w.heap.size w W) v3 := ⟨hHeld.1.keep h3, hHeld.2.1.keep h3, hHeld.2.2.1.keep h3, hHeld.2.2.2.1.keep h3, gt hHeld.2.2.2.2 h3⟩; clear h3
            refine hK.out _ _ hR (fun hHeld => ?_)
            clear hK K
            (try simp only [Act.put, sA, sZ, sS])
            refine gkp 5 ?_
            refine gkp 6 ?_
            refine gkp 7 ?_
            refine gkl 9 (fun K hK => ?_)
            have Z := hHeld.1; obtain ⟨u0, u1, u2⟩ := Z.c; have g0 := Z.fz 0; have g1 := Z.fz 1; have g2 := Z.fz 2; have hc := hHeld.2.2.2.2
            go_simp
            refine hK.out _ _ ?_
            clear hK K
            (try simp only [Act.put, sA, sZ, sS])
            refine gkp 10 ?_
            refine wpAnyK_done (by kernel_rfl) ?_ _
            have Z1 := Z.set ow
            have Z0 := (hHeld.2.2.2.1).far3 (show w.heap.size + 1 + 1 ≠ v1.heap.size by omega) (.int .u64 (W0 ow)) (.int .u64 (W1 ow)) (.int .u64 (W2 ow))
            have hd := show Below w.heap.size w ((((v3).setCell ⟨v1.heap.size, 0, none⟩ (.int .u64 (W0 ow))).setCell ⟨v1.heap.size, 1, none⟩ (.int .u64 (W1 ow))).setCell ⟨v1.heap.size, 2, none⟩ (.int .u64 (W2 ow))) from (by repeat (first | with_reducible exact Below.refl _ _ | with_reducible assumption | with_reducible refine Below.drew ?_ | with_reducible refine below_drewN ?_ _ | with_reducible refine Below.alloc ?_ (by simp <;> omega) _ | with_reducible refine Below.setCell ?_ (by simp <;> omega) _))
            have ZA := C5.far3 (hHeld.2.1) (show w.heap.size ≠ v1.heap.size by omega) (.int .u64 (W0 ow)) (.int .u64 (W1 ow)) (.int .u64 (W2 ow))
            have ZB := C5.far3 (hHeld.2.2.1) (show w.heap.size + 1 ≠ v1.heap.size by omega) (.int .u64 (W0 ow)) (.int .u64 (W1 ow)) (.int .u64 (W2 ow))
            clear hHeld hc u0 u1 u2 g0 g1 g2 Z
            obtain ⟨w9, hw9⟩ : ∃ W : World, W = (((v3).setCell ⟨v1.heap.size, 0, none⟩ (.int .u64 (W0 ow))).setCell ⟨v1.heap.size, 1, none⟩ (.int .u64 (W1 ow))).setCell ⟨v1.heap.size, 2, none⟩ (.int .u64 (W2 ow)) := ⟨_, rfl⟩
            rw [← hw9] at Z1 Z0 ZA ZB hd ⊢
            clear hw9
            have F := hid (show (fun W : World => C5 W (w.heap.size) a ∧ C5 W (w.heap.size + 1) b ∧ R3 W (w.heap.size + 1 + 1) 0 ∧ R3 W (v1.heap.size) ow ∧ Below w.heap.size w W) w9 from ⟨ZA, ZB, Z0, Z1, hd⟩)
            clear Z1 Z0 ZA ZB hd hlt
            obtain ⟨y0_0, y0_1, y0_2, y0_3, y0_4⟩ := F.out.1
            obtain ⟨y1_0, y1_1, y1_2, y1_3, y1_4⟩ := F.out.2.1
            obtain ⟨y2_0, y2_1, y2_2⟩ := F.out.2.2.1.c
            have f2_0 := F.out.2.2.1.fz 0
            have f2_1 := F.out.2.2.1.fz 1
            have f2_2 := F.out.2.2.1.fz 2
            obtain ⟨y3_0, y3_1, y3_2⟩ := F.out.2.2.2.1.c
            have f3_0 := F.out.2.2.2.1.fz 0
            have f3_1 := F.out.2.2.2.1.fz 1
            have f3_2 := F.out.2.2.2.1.fz 2
            have hlow := F.out.2.2.2.2
            go_wp2_with (first | (go_at_call 13; refine (UC.out _).mono ?_; rintro e w6 ⟨rfl, h6⟩; clear y0_0 y0_1 y0_2 y0_3 y0_4 y1_0 y1_1 y1_2 y1_3 y1_4 y2_0 y2_1 y2_2 f2_0 f2_1 f2_2 y3_0 y3_1 y3_2 f3_0 f3_1 f3_2 hlow; have F := hid (show (fun W : World => C5 W (w.heap.size) a ∧ C5 W (w.heap.size + 1) b ∧ R3 W (w.heap.size + 1 + 1) 0 ∧ R3 W (v1.heap.size) ow ∧ Below w.heap.size w W) w6 from ⟨F.out.1.keep h6, F.out.2.1.keep h6, F.out.2.2.1.keep h6, F.out.2.2.2.1.keep h6, gt F.out.2.2.2.2 h6⟩); clear h6 UC; obtain ⟨y0_0, y0_1, y0_2, y0_3, y0_4⟩ := F.out.1; obtain ⟨y1_0, y1_1, y1_2, y1_3, y1_4⟩ := F.out.2.1; obtain ⟨y2_0, y2_1, y2_2⟩ := F.out.2.2.1.c; have f2_0 := F.out.2.2.1.fz 0; have f2_1 := F.out.2.2.1.fz 1; have f2_2 := F.out.2.2.1.fz 2; obtain ⟨y3_0, y3_1, y3_2⟩ := F.out.2.2.2.1.c; have f3_0 := F.out.2.2.2.1.fz 0; have f3_1 := F.out.2.2.2.1.fz 1; have f3_2 := F.out.2.2.2.1.fz 2; have hlow := F.out.2.2.2.2) | (go_at_call 22; refine (AU.out _).mono ?_; rintro e v21 ⟨rfl, h6⟩; clear y0_0 y0_1 y0_2 y0_3 y0_4 y1_0 y1_1 y1_2 y1_3 y1_4 y2_0 y2_1 y2_2 f2_0 f2_1 f2_2 y3_0 y3_1 y3_2 f3_0 f3_1 f3_2 hlow; have F := hid (show (fun W : World => C5 W (w.heap.size) a ∧ C5 W (w.heap.size + 1) b ∧ R3 W (w.heap.size + 1 + 1) 0 ∧ R3 W (v1.heap.size) ow ∧ R3 W (v21.heap.size) nu ∧ Below w.heap.size w W) (v21.alloc (.cells #[.int .u64 (W0 nu), .int .u64 (W1 nu), .int .u64 (W2 nu)] 27)) from ⟨(F.out.1.keep h6).keep (ext1 _), (F.out.2.1.keep h6).keep (ext1 _), (F.out.2.2.1.keep h6).keep (ext1 _), (F.out.2.2.2.1.keep h6).keep (ext1 _), heap_alloc_new _ _, gt (gt F.out.2.2.2.2 h6) (ext1 _)⟩); clear h6 AU; obtain ⟨y0_0, y0_1, y0_2, y0_3, y0_4⟩ := F.out.1; obtain ⟨y1_0, y1_1, y1_2, y1_3, y1_4⟩ := F.out.2.1; obtain ⟨y2_0, y2_1, y2_2⟩ := F.out.2.2.1.c; have f2_0 := F.out.2.2.1.fz 0; have f2_1 := F.out.2.2.1.fz 1; have f2_2 := F.out.2.2.1.fz 2; obtain ⟨y3_0, y3_1, y3_2⟩ := F.out.2.2.2.1.c; have f3_0 := F.out.2.2.2.1.fz 0; have f3_1 := F.out.2.2.2.1.fz 1; have f3_2 := F.out.2.2.2.1.fz 2; obtain ⟨y4_0, y4_1, y4_2⟩ := F.out.2.2.2.2.1.c; have f4_0 := F.out.2.2.2.2.1.fz 0; have f4_1 := F.out.2.2.2.2.1.fz 1; have f4_2 := F.out.2.2.2.2.1.fz 2; have hlow := F.out.2.2.2.2.2) | (go_at_call 40; refine (CC.out _).mono ?_; rintro e w6 ⟨rfl, h6⟩; clear y0_0 y0_1 y0_2 y0_3 y0_4 y1_0 y1_1 y1_2 y1_3 y1_4 y2_0 y2_1 y2_2 f2_0 f2_1 f2_2 y3_0 y3_1 y3_2 f3_0 f3_1 f3_2 y4_0 y4_1 y4_2 f4_0 f4_1 f4_2 hlow; have F := hid (show (fun W : World => C5 W (w.heap.size) a ∧ C5 W (w.heap.size + 1) b ∧ R3 W (w.heap.size + 1 + 1) 0 ∧ R3 W (v1.heap.size) ow ∧ R3 W (v21.heap.size) nu ∧ Below w.heap.size w W) w6 from ⟨F.out.1.keep h6, F.out.2.1.keep h6, F.out.2.2.1.keep h6, F.out.2.2.2.1.keep h6, F.out.2.2.2.2.1.keep h6, gt F.out.2.2.2.2.2 h6⟩); clear h6 CC; obtain ⟨y0_0, y0_1, y0_2, y0_3, y0_4⟩ := F.out.1; obtain ⟨y1_0, y1_1, y1_2, y1_3, y1_4⟩ := F.out.2.1; obtain ⟨y2_0, y2_1, y2_2⟩ := F.out.2.2.1.c; have f2_0 := F.out.2.2.1.fz 0; have f2_1 := F.out.2.2.1.fz 1; have f2_2 := F.out.2.2.1.fz 2; obtain ⟨y3_0, y3_1, y3_2⟩ := F.out.2.2.2.1.c; have f3_0 := F.out.2.2.2.1.fz 0; have f3_1 := F.out.2.2.2.1.fz 1; have f3_2 := F.out.2.2.2.1.fz 2; obtain ⟨y4_0, y4_1, y4_2⟩ := F.out.2.2.2.2.1.c; have f4_0 := F.out.2.2.2.2.1.fz 0; have f4_1 := F.out.2.2.2.2.1.fz 1; have f4_2 := F.out.2.2.2.2.1.fz 2; have hlow := F.out.2.2.2.2.2) | (go_at_call 41; refine (S1.out _).mono ?_; rintro e v38 ⟨rfl, h6⟩; clear y0_0 y0_1 y0_2 y0_3 y0_4 y1_0 y1_1 y1_2 y1_3 y1_4 y2_0 y2_1 y2_2 f2_0 f2_1 f2_2 y3_0 y3_1 y3_2 f3_0 f3_1 f3_2 y4_0 y4_1 y4_2 f4_0 f4_1 f4_2 hlow; have F := hid (show (fun W : World => C5 W (w.heap.size) a ∧ C5 W (w.heap.size + 1) b ∧ R3 W (w.heap.size + 1 + 1) 0 ∧ R3 W (v1.heap.size) ow ∧ R3 W (v21.heap.size) nu ∧ R3 W (v38.heap.size) gg ∧ Below w.heap.size w W) (v38.alloc (.cells #[.int .u64 (W0 gg), .int .u64 (W1 gg), .int .u64 (W2 gg)] 27)) from ⟨(F.out.1.keep h6).keep (ext1 _), (F.out.2.1.keep h6).keep (ext1 _), (F.out.2.2.1.keep h6).keep (ext1 _), (F.out.2.2.2.1.keep h6).keep (ext1 _), (F.out.2.2.2.2.1.keep h6).keep (ext1 _), heap_alloc_new _ _, gt (gt F.out.2.2.2.2.2 h6) (ext1 _)⟩); clear h6 S1; obtain ⟨y0_0, y0_1, y0_2, y0_3, y0_4⟩ := F.out.1; obtain ⟨y1_0, y1_1, y1_2, y1_3, y1_4⟩ := F.out.2.1; obtain ⟨y2_0, y2_1, y2_2⟩ := F.out.2.2.1.c; have f2_0 := F.out.2.2.1.fz 0; have f2_1 := F.out.2.2.1.fz 1; have f2_2 := F.out.2.2.1.fz 2; obtain ⟨y3_0, y3_1, y3_2⟩ := F.out.2.2.2.1.c; have f3_0 := F.out.2.2.2.1.fz 0; have f3_1 := F.out.2.2.2.1.fz 1; have f3_2 := F.out.2.2.2.1.fz 2; obtain ⟨y4_0, y4_1, y4_2⟩ := F.out.2.2.2.2.1.c; have f4_0 := F.out.2.2.2.2.1.fz 0; have f4_1 := F.out.2.2.2.2.1.fz 1; have f4_2 := F.out.2.2.2.2.1.fz 2; obtain ⟨y5_0, y5_1, y5_2⟩ := F.out.2.2.2.2.2.1.c; have f5_0 := F.out.2.2.2.2.2.1.fz 0; have f5_1 := F.out.2.2.2.2.2.1.fz 1; have f5_2 := F.out.2.2.2.2.2.1.fz 2; have hlow := F.out.2.2.2.2.2.2))
            obtain ⟨z0, z1, z2⟩ := (F.out.2.2.1.set (gg)).c
            exact bodyPost_ret (v := .tuple #[.agg #[.int .u64 (W0 (gg)), .int .u64 (W1 (gg)), .int .u64 (W2 (gg))], .bool true]) (by simp [results, Try.results9, go_sem, z0, z1, z2]) rfl ⟨rfl, (by repeat (first | with_reducible exact Below.refl _ _ | with_reducible assumption | with_reducible refine Below.drew ?_ | with_reducible refine below_drewN ?_ _ | with_reducible refine Below.alloc ?_ (by simp <;> omega) _ | with_reducible refine Below.setCell ?_ (by simp <;> omega) _))⟩
        exact AllReadyK.nil
    refine AllReadyK.cons (at_op _ _ _ rfl) (fun K hK => ?_) ?_
    · as_aux_lemma =>
        have hlt : w.heap.size + 1 + 1 < w.heap.size + 1 + 1 + 1 := by omega
        go_simp
        refine hK.out _ _ (by exact ⟨hHeld.1.keep (ext1 _), hHeld.2.1.keep (ext1 _), hHeld.2.2.1.keep (ext1 _), gt hHeld.2.2.2 (ext1 _)⟩) (fun hHeld => ?_)
        clear hK K
        (try simp only [Act.put, sA, sZ, sS])
        refine wpAnyK_more (S' := (fun W : World => R3 W (w.heap.size + 1 + 1 + 1) 0 ∧ C5 W (w.heap.size) a ∧ C5 W (w.heap.size + 1) b ∧ R3 W (w.heap.size + 1 + 1) 0 ∧ Below w.heap.size w W)) (fun W h => h.2) ?_
        replace hHeld : (fun W : World => R3 W (w.heap.size + 1 + 1 + 1) 0 ∧ C5 W (w.heap.size) a ∧ C5 W (w.heap.size + 1) b ∧ R3 W (w.heap.size + 1 + 1) 0 ∧ Below w.heap.size w W) _ := ⟨by exact R3.zero (by repeat (first | (refine at_new ?_; first | with_reducible rfl | (simp only [World.size_alloc]; done)) | refine at_old ?_)), hHeld⟩
        obtain ⟨va1, hva1⟩ : ∃ W : World, W = World.drew ((((w.alloc (.cells #[.bool (a).n, .int .i64 (a).lx, .int .i64 (a).ly, .int .i64 (a).hx, .int .i64 (a).hy] 25)).alloc (.cells #[.bool (b).n, .int .i64 (b).lx, .int .i64 (b).ly, .int .i64 (b).hx, .int .i64 (b).hy] 25)).alloc (.cells #[.int .u64 0, .int .u64 0, .int .u64 0] 27)).alloc (.cells #[.int .u64 0, .int .u64 0, .int .u64 0] 27)) := ⟨_, rfl⟩
        rw [← hva1] at hHeld ⊢
        clear hva1
        refine gk1 1 (fun K hK => ?_)
        go_simp
        go_at_call 22; refine (AA.out _).mono ?_; rintro e v1 ⟨rfl, h1⟩; have hR : (fun W : World => R3 W (w.heap.size + 1 + 1 + 1) 0 ∧ C5 W (w.heap.size) a ∧ C5 W (w.heap.size + 1) b ∧ R3 W (w.heap.size + 1 + 1) 0 ∧ Below w.heap.size w W) v1 := ⟨hHeld.1.keep h1, hHeld.2.1.keep h1, hHeld.2.2.1.keep h1, hHeld.2.2.2.1.keep h1, gt hHeld.2.2.2.2 h1⟩; clear h1
        refine hK.out _ _ hR (fun hHeld => ?_)
        clear hK K
        (try simp only [Act.put, sA, sZ, sS])
        refine gk1 3 (fun K hK => ?_)
        go_simp
        go_at_call 22; refine (AB.out _).mono ?_; rintro e v2 ⟨rfl, h2⟩; have hR : (fun W : World => R3 W (w.heap.size + 1 + 1 + 1) 0 ∧ C5 W (w.heap.size) a ∧ C5 W (w.heap.size + 1) b ∧ R3 W (w.heap.size + 1 + 1) 0 ∧ Below w.heap.size w W) v2 := ⟨hHeld.1.keep h2, hHeld.2.1.keep h2, hHeld.2.2.1.keep h2, hHeld.2.2.2.1.keep h2, gt hHeld.2.2.2.2 h2⟩; clear h2
        refine hK.out _ _ hR (fun hHeld => ?_)
        clear hK K
        (try simp only [Act.put, sA, sZ, sS])
        refine gk1 4 (fun K hK => ?_)
        go_simp
        go_at_call 39; refine (DC.out _).mono ?_; rintro e v3 ⟨rfl, h3⟩; have hR : (fun W : World => R3 W (w.heap.size + 1 + 1 + 1) 0 ∧ C5 W (w.heap.size) a ∧ C5 W (w.heap.size + 1) b ∧ R3 W (w.heap.size + 1 + 1) 0 ∧ Below w.heap.size w W) v3 := ⟨hHeld.1.keep h3, hHeld.2.1.keep h3, hHeld.2.2.1.keep h3, hHeld.2.2.2.1.keep h3, gt hHeld.2.2.2.2 h3⟩; clear h3
        refine hK.out _ _ hR (fun hHeld => ?_)
        clear hK K
        (try simp only [Act.put, sA, sZ, sS])
        refine gkp 5 ?_
        refine gkp 6 ?_
        refine gkp 7 ?_
        refine gkl 9 (fun K hK => ?_)
        have Z := hHeld.1; obtain ⟨u0, u1, u2⟩ := Z.c; have g0 := Z.fz 0; have g1 := Z.fz 1; have g2 := Z.fz 2; have hc := hHeld.2.2.2.2
        go_simp
        refine hK.out _ _ ?_
        clear hK K
        (try simp only [Act.put, sA, sZ, sS])
        refine gkp 10 ?_
        refine wpAnyK_done (by kernel_rfl) ?_ _
        have Z1 := Z.set ow
        have Z0 := (hHeld.2.2.2.1).far3 (show w.heap.size + 1 + 1 ≠ w.heap.size + 1 + 1 + 1 by omega) (.int .u64 (W0 ow)) (.int .u64 (W1 ow)) (.int .u64 (W2 ow))
        have hd := show Below w.heap.size w ((((v3).setCell ⟨w.heap.size + 1 + 1 + 1, 0, none⟩ (.int .u64 (W0 ow))).setCell ⟨w.heap.size + 1 + 1 + 1, 1, none⟩ (.int .u64 (W1 ow))).setCell ⟨w.heap.size + 1 + 1 + 1, 2, none⟩ (.int .u64 (W2 ow))) from (by repeat (first | with_reducible exact Below.refl _ _ | with_reducible assumption | with_reducible refine Below.drew ?_ | with_reducible refine below_drewN ?_ _ | with_reducible refine Below.alloc ?_ (by simp <;> omega) _ | with_reducible refine Below.setCell ?_ (by simp <;> omega) _))
        have ZA := C5.far3 (hHeld.2.1) (show w.heap.size ≠ w.heap.size + 1 + 1 + 1 by omega) (.int .u64 (W0 ow)) (.int .u64 (W1 ow)) (.int .u64 (W2 ow))
        have ZB := C5.far3 (hHeld.2.2.1) (show w.heap.size + 1 ≠ w.heap.size + 1 + 1 + 1 by omega) (.int .u64 (W0 ow)) (.int .u64 (W1 ow)) (.int .u64 (W2 ow))
        clear hHeld hc u0 u1 u2 g0 g1 g2 Z
        obtain ⟨w9, hw9⟩ : ∃ W : World, W = (((v3).setCell ⟨w.heap.size + 1 + 1 + 1, 0, none⟩ (.int .u64 (W0 ow))).setCell ⟨w.heap.size + 1 + 1 + 1, 1, none⟩ (.int .u64 (W1 ow))).setCell ⟨w.heap.size + 1 + 1 + 1, 2, none⟩ (.int .u64 (W2 ow)) := ⟨_, rfl⟩
        rw [← hw9] at Z1 Z0 ZA ZB hd ⊢
        clear hw9
        have F := hid (show (fun W : World => C5 W (w.heap.size) a ∧ C5 W (w.heap.size + 1) b ∧ R3 W (w.heap.size + 1 + 1) 0 ∧ R3 W (w.heap.size + 1 + 1 + 1) ow ∧ Below w.heap.size w W) w9 from ⟨ZA, ZB, Z0, Z1, hd⟩)
        clear Z1 Z0 ZA ZB hd hlt
        obtain ⟨y0_0, y0_1, y0_2, y0_3, y0_4⟩ := F.out.1
        obtain ⟨y1_0, y1_1, y1_2, y1_3, y1_4⟩ := F.out.2.1
        obtain ⟨y2_0, y2_1, y2_2⟩ := F.out.2.2.1.c
        have f2_0 := F.out.2.2.1.fz 0
        have f2_1 := F.out.2.2.1.fz 1
        have f2_2 := F.out.2.2.1.fz 2
        obtain ⟨y3_0, y3_1, y3_2⟩ := F.out.2.2.2.1.c
        have f3_0 := F.out.2.2.2.1.fz 0
        have f3_1 := F.out.2.2.2.1.fz 1
        have f3_2 := F.out.2.2.2.1.fz 2
        have hlow := F.out.2.2.2.2
        go_wp2_with (first | (go_at_call 13; refine (UC.out _).mono ?_; rintro e w6 ⟨rfl, h6⟩; clear y0_0 y0_1 y0_2 y0_3 y0_4 y1_0 y1_1 y1_2 y1_3 y1_4 y2_0 y2_1 y2_2 f2_0 f2_1 f2_2 y3_0 y3_1 y3_2 f3_0 f3_1 f3_2 hlow; have F := hid (show (fun W : World => C5 W (w.heap.size) a ∧ C5 W (w.heap.size + 1) b ∧ R3 W (w.heap.size + 1 + 1) 0 ∧ R3 W (w.heap.size + 1 + 1 + 1) ow ∧ Below w.heap.size w W) w6 from ⟨F.out.1.keep h6, F.out.2.1.keep h6, F.out.2.2.1.keep h6, F.out.2.2.2.1.keep h6, gt F.out.2.2.2.2 h6⟩); clear h6 UC; obtain ⟨y0_0, y0_1, y0_2, y0_3, y0_4⟩ := F.out.1; obtain ⟨y1_0, y1_1, y1_2, y1_3, y1_4⟩ := F.out.2.1; obtain ⟨y2_0, y2_1, y2_2⟩ := F.out.2.2.1.c; have f2_0 := F.out.2.2.1.fz 0; have f2_1 := F.out.2.2.1.fz 1; have f2_2 := F.out.2.2.1.fz 2; obtain ⟨y3_0, y3_1, y3_2⟩ := F.out.2.2.2.1.c; have f3_0 := F.out.2.2.2.1.fz 0; have f3_1 := F.out.2.2.2.1.fz 1; have f3_2 := F.out.2.2.2.1.fz 2; have hlow := F.out.2.2.2.2) | (go_at_call 22; refine (AU.out _).mono ?_; rintro e v21 ⟨rfl, h6⟩; clear y0_0 y0_1 y0_2 y0_3 y0_4 y1_0 y1_1 y1_2 y1_3 y1_4 y2_0 y2_1 y2_2 f2_0 f2_1 f2_2 y3_0 y3_1 y3_2 f3_0 f3_1 f3_2 hlow; have F := hid (show (fun W : World => C5 W (w.heap.size) a ∧ C5 W (w.heap.size + 1) b ∧ R3 W (w.heap.size + 1 + 1) 0 ∧ R3 W (w.heap.size + 1 + 1 + 1) ow ∧ R3 W (v21.heap.size) nu ∧ Below w.heap.size w W) (v21.alloc (.cells #[.int .u64 (W0 nu), .int .u64 (W1 nu), .int .u64 (W2 nu)] 27)) from ⟨(F.out.1.keep h6).keep (ext1 _), (F.out.2.1.keep h6).keep (ext1 _), (F.out.2.2.1.keep h6).keep (ext1 _), (F.out.2.2.2.1.keep h6).keep (ext1 _), heap_alloc_new _ _, gt (gt F.out.2.2.2.2 h6) (ext1 _)⟩); clear h6 AU; obtain ⟨y0_0, y0_1, y0_2, y0_3, y0_4⟩ := F.out.1; obtain ⟨y1_0, y1_1, y1_2, y1_3, y1_4⟩ := F.out.2.1; obtain ⟨y2_0, y2_1, y2_2⟩ := F.out.2.2.1.c; have f2_0 := F.out.2.2.1.fz 0; have f2_1 := F.out.2.2.1.fz 1; have f2_2 := F.out.2.2.1.fz 2; obtain ⟨y3_0, y3_1, y3_2⟩ := F.out.2.2.2.1.c; have f3_0 := F.out.2.2.2.1.fz 0; have f3_1 := F.out.2.2.2.1.fz 1; have f3_2 := F.out.2.2.2.1.fz 2; obtain ⟨y4_0, y4_1, y4_2⟩ := F.out.2.2.2.2.1.c; have f4_0 := F.out.2.2.2.2.1.fz 0; have f4_1 := F.out.2.2.2.2.1.fz 1; have f4_2 := F.out.2.2.2.2.1.fz 2; have hlow := F.out.2.2.2.2.2) | (go_at_call 40; refine (CC.out _).mono ?_; rintro e w6 ⟨rfl, h6⟩; clear y0_0 y0_1 y0_2 y0_3 y0_4 y1_0 y1_1 y1_2 y1_3 y1_4 y2_0 y2_1 y2_2 f2_0 f2_1 f2_2 y3_0 y3_1 y3_2 f3_0 f3_1 f3_2 y4_0 y4_1 y4_2 f4_0 f4_1 f4_2 hlow; have F := hid (show (fun W : World => C5 W (w.heap.size) a ∧ C5 W (w.heap.size + 1) b ∧ R3 W (w.heap.size + 1 + 1) 0 ∧ R3 W (w.heap.size + 1 + 1 + 1) ow ∧ R3 W (v21.heap.size) nu ∧ Below w.heap.size w W) w6 from ⟨F.out.1.keep h6, F.out.2.1.keep h6, F.out.2.2.1.keep h6, F.out.2.2.2.1.keep h6, F.out.2.2.2.2.1.keep h6, gt F.out.2.2.2.2.2 h6⟩); clear h6 CC; obtain ⟨y0_0, y0_1, y0_2, y0_3, y0_4⟩ := F.out.1; obtain ⟨y1_0, y1_1, y1_2, y1_3, y1_4⟩ := F.out.2.1; obtain ⟨y2_0, y2_1, y2_2⟩ := F.out.2.2.1.c; have f2_0 := F.out.2.2.1.fz 0; have f2_1 := F.out.2.2.1.fz 1; have f2_2 := F.out.2.2.1.fz 2; obtain ⟨y3_0, y3_1, y3_2⟩ := F.out.2.2.2.1.c; have f3_0 := F.out.2.2.2.1.fz 0; have f3_1 := F.out.2.2.2.1.fz 1; have f3_2 := F.out.2.2.2.1.fz 2; obtain ⟨y4_0, y4_1, y4_2⟩ := F.out.2.2.2.2.1.c; have f4_0 := F.out.2.2.2.2.1.fz 0; have f4_1 := F.out.2.2.2.2.1.fz 1; have f4_2 := F.out.2.2.2.2.1.fz 2; have hlow := F.out.2.2.2.2.2) | (go_at_call 41; refine (S1.out _).mono ?_; rintro e v38 ⟨rfl, h6⟩; clear y0_0 y0_1 y0_2 y0_3 y0_4 y1_0 y1_1 y1_2 y1_3 y1_4 y2_0 y2_1 y2_2 f2_0 f2_1 f2_2 y3_0 y3_1 y3_2 f3_0 f3_1 f3_2 y4_0 y4_1 y4_2 f4_0 f4_1 f4_2 hlow; have F := hid (show (fun W : World => C5 W (w.heap.size) a ∧ C5 W (w.heap.size + 1) b ∧ R3 W (w.heap.size + 1 + 1) 0 ∧ R3 W (w.heap.size + 1 + 1 + 1) ow ∧ R3 W (v21.heap.size) nu ∧ R3 W (v38.heap.size) gg ∧ Below w.heap.size w W) (v38.alloc (.cells #[.int .u64 (W0 gg), .int .u64 (W1 gg), .int .u64 (W2 gg)] 27)) from ⟨(F.out.1.keep h6).keep (ext1 _), (F.out.2.1.keep h6).keep (ext1 _), (F.out.2.2.1.keep h6).keep (ext1 _), (F.out.2.2.2.1.keep h6).keep (ext1 _), (F.out.2.2.2.2.1.keep h6).keep (ext1 _), heap_alloc_new _ _, gt (gt F.out.2.2.2.2.2 h6) (ext1 _)⟩); clear h6 S1; obtain ⟨y0_0, y0_1, y0_2, y0_3, y0_4⟩ := F.out.1; obtain ⟨y1_0, y1_1, y1_2, y1_3, y1_4⟩ := F.out.2.1; obtain ⟨y2_0, y2_1, y2_2⟩ := F.out.2.2.1.c; have f2_0 := F.out.2.2.1.fz 0; have f2_1 := F.out.2.2.1.fz 1; have f2_2 := F.out.2.2.1.fz 2; obtain ⟨y3_0, y3_1, y3_2⟩ := F.out.2.2.2.1.c; have f3_0 := F.out.2.2.2.1.fz 0; have f3_1 := F.out.2.2.2.1.fz 1; have f3_2 := F.out.2.2.2.1.fz 2; obtain ⟨y4_0, y4_1, y4_2⟩ := F.out.2.2.2.2.1.c; have f4_0 := F.out.2.2.2.2.1.fz 0; have f4_1 := F.out.2.2.2.2.1.fz 1; have f4_2 := F.out.2.2.2.2.1.fz 2; obtain ⟨y5_0, y5_1, y5_2⟩ := F.out.2.2.2.2.2.1.c; have f5_0 := F.out.2.2.2.2.2.1.fz 0; have f5_1 := F.out.2.2.2.2.2.1.fz 1; have f5_2 := F.out.2.2.2.2.2.1.fz 2; have hlow := F.out.2.2.2.2.2.2))
        obtain ⟨z0, z1, z2⟩ := (F.out.2.2.1.set (gg)).c
        exact bodyPost_ret (v := .tuple #[.agg #[.int .u64 (W0 (gg)), .int .u64 (W1 (gg)), .int .u64 (W2 (gg))], .bool true]) (by simp [results, Try.results9, go_sem, z0, z1, z2]) rfl ⟨rfl, (by repeat (first | with_reducible exact Below.refl _ _ | with_reducible assumption | with_reducible refine Below.drew ?_ | with_reducible refine below_drewN ?_ _ | with_reducible refine Below.alloc ?_ (by simp <;> omega) _ | with_reducible refine Below.setCell ?_ (by simp <;> omega) _))⟩
    exact AllReadyK.nil
end Go.Proofs.Ytjlahomjhadnkaa
