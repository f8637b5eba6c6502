/- What the reader's inLeaf does; no statement of the seat is proved here. -/
import Derived.Test.YtbpcekhfjkodcaaCb
import Derived.Deep.DeepCutAuto
namespace Go.Proofs.Ytbpcekhfjkodcaa
open Go.RowKit

def rl1 (o : Option (List Nat)) : Nat × Option (List Nat) := varO 18446744073709551615 o
def rl2 (o : Option (List Nat)) : Nat × Option (List Nat) := varO 20000 (rl1 o).2
def rl3 (o : Option (List Nat)) : List Nat × Option (List Nat) := bytesO (locN ((rl2 o).1 : Nat)) (rl2 o).2
def rlS (o : Option (List Nat)) : Bool := decide (((rl3 o).1.length : Int) < ((rl2 o).1 : Nat))
def rl4 (o : Option (List Nat)) : Nat × Option (List Nat) := if rlS o then numO 4 (rl3 o).2 else (0, (rl3 o).2)
/-- What a leaf reads as one cell. -/
def rdL (o : Option (List Nat)) : C × Option (List Nat) := (⟨zagN (rl1 o).1, 0, ((rl2 o).1 : Nat), none, 0, 0, ((rl4 o).1 : Nat), (rl3 o).1⟩, (rl4 o).2)

theorem locN_le (l : Int) : locN l ≤ 96 := by unfold locN; split; omega; split <;> omega

/-- What the second part of inLeaf asks of the memory. -/
abbrev SL (q p t : Nat) (l : Int) (W : World) : Prop := S3 q p W ∧ W.cell? ⟨t, 2, none⟩ = some (.int .i64 l)

set_option maxHeartbeats 4000000 in
set_option maxRecDepth 100000 in
theorem inleaf_src (p : Nat) (o : Option (List Nat)) (W : World) (h : Src W p o) :
    Calls Try.prog 56 #[.agg #[.func (.func 51) #[.pointer (some ⟨p, 0, none⟩)] #[], .func (.func 52) #[.pointer (some ⟨p, 0, none⟩)] #[], .func (.func 53) #[.pointer (some ⟨p, 0, none⟩)] #[]]] W fun e w' => ∃ ao n m, e = .returned (.agg #[.int .i64 (rdL o).1.k, .int .i64 0, .int .i64 (rdL o).1.l, .slice ao n m, .int .i64 (rdL o).1.x]) ∧ Rd w' ao n m (rdL o).1.b ∧ (∀ x ∈ (rdL o).1.b, x < 256) ∧ (0 < n → ∀ b o, ao = some ⟨b, o, none⟩ → T5 w' b) ∧ Src w' p (rdL o).2 ∧ W.grownBy w' (some p) := by
  obtain ⟨W2, hW2⟩ : ∃ W2, W2 = ((W.alloc (.cells #[.func (.func 51) #[.pointer (some ⟨p, 0, none⟩)] #[], .func (.func 52) #[.pointer (some ⟨p, 0, none⟩)] #[], .func (.func 53) #[.pointer (some ⟨p, 0, none⟩)] #[]] 83)).alloc (.cells #[.int .i64 0, .int .i64 0, .int .i64 0, .slice none 0 0, .int .i64 0] 57)).drew := ⟨_, rfl⟩
  have B2 : Below W.heap.size W W2 := by rw [hW2]; exact (gt (ext1 _) (ext1 _)).drew
  have hpl := h.lt
  have R2 : RX W2 W.heap.size p := by rw [hW2]; exact ((RX.new W p).keep (ext1 _)).keep (Below.refl _ _).drew
  have C2 : CB W2 (W.heap.size + 1) 0 0 0 none 0 0 0 := by
    have := CB.new (W.alloc (.cells #[.func (.func 51) #[.pointer (some ⟨p, 0, none⟩)] #[], .func (.func 52) #[.pointer (some ⟨p, 0, none⟩)] #[], .func (.func 53) #[.pointer (some ⟨p, 0, none⟩)] #[]] 83)) 0 0 0 none 0 0 0
    rw [show (W.alloc (.cells #[.func (.func 51) #[.pointer (some ⟨p, 0, none⟩)] #[], .func (.func 52) #[.pointer (some ⟨p, 0, none⟩)] #[], .func (.func 53) #[.pointer (some ⟨p, 0, none⟩)] #[]] 83)).heap.size = W.heap.size + 1 by simp] at this
    rw [hW2]; exact this.keep (Below.refl _ _).drew
  have hs2 : W2.heap.size = W.heap.size + 1 + 1 := by rw [hW2]; simp
  have c1 := hid (fun w1 (hs : Src w1 p o) => key_src p o w1 hs)
  have c2 := hid (fun w1 (hs : Src w1 p (rl1 o).2) => var_src p 20000 (rl1 o).2 w1 hs)
  have hl2 : (rl2 o).1 ≤ 20000 := by
    unfold rl2
    cases h2 : (rl1 o).2 with
    | none => simp [varO]
    | some ys =>
      simp only [varO]
      split
      · simp
      · simp only; omega
  have c3 := hid (local_any ((rl2 o).1 : Nat))
  have c4 := hid (fun w1 (hs : Src w1 p (rl2 o).2) => bytes_src p (locN ((rl2 o).1 : Nat)) (rl2 o).2 w1 hs (by have := locN_le ((rl2 o).1 : Nat); omega))
  have c5 := hid (fun w1 (hs : Src w1 p (rl3 o).2) => link_src p (rl3 o).2 w1 hs)
  change Hid (∀ w1, Src w1 p (rl1 o).2 → Calls Try.prog 52 #[.pointer (some ⟨p, 0, none⟩), .int .u64 ((20000 : Nat) : Int)] w1 fun e w' => e = .returned (.int .u64 ((rl2 o).1 : Nat)) ∧ Src w' p (rl2 o).2 ∧ w1.grownBy w' (some p)) at c2
  change Hid (∀ w1, Src w1 p o → Calls Try.prog 76 #[.agg #[.func (.func 51) #[.pointer (some ⟨p, 0, none⟩)] #[], .func (.func 52) #[.pointer (some ⟨p, 0, none⟩)] #[], .func (.func 53) #[.pointer (some ⟨p, 0, none⟩)] #[]]] w1 fun e w' => e = .returned (.int .i64 (zagN (rl1 o).1)) ∧ Src w' p (rl1 o).2 ∧ w1.grownBy w' (some p)) at c1
  change Hid (∀ w1, Src w1 p (rl2 o).2 → Calls Try.prog 53 #[.pointer (some ⟨p, 0, none⟩), .int .i64 ((locN ((rl2 o).1 : Nat) : Nat) : Int)] w1 fun e w' => ∃ ao n c, e = .returned (.slice ao n c) ∧ Rd w' ao n c (rl3 o).1 ∧ (∀ x ∈ (rl3 o).1, x < 256) ∧ (0 < n → ∀ b o, ao = some ⟨b, o, none⟩ → T5 w' b) ∧ Src w' p (rl3 o).2 ∧ w1.grownBy w' (some p)) at c4
  have hsp : rlS o = decide (((rl3 o).1.length : Int) < ((rl2 o).1 : Nat)) := rfl
  have h4 : rl4 o = if rlS o then numO 4 (rl3 o).2 else (0, (rl3 o).2) := rfl
  unfold rdL
  rw [h4]
  generalize rlS o = SP at *
  generalize rl3 o = R3 at *
  obtain ⟨b3, o3⟩ := R3
  generalize rl2 o = R22 at *
  obtain ⟨l2, o2⟩ := R22
  generalize rl1 o = R1 at *
  obtain ⟨u1, o1⟩ := R1
  simp only at *
  generalize zagN u1 = z at *
  generalize locN (l2 : Nat) = L2 at *
  have g1 := R2.cells
  have hne := hid (show W.heap.size ≠ p by omega)
  have hne2 := hid (show W.heap.size + 1 ≠ p by omega)
  have B2' := hid B2; have C2' := hid C2; have R2' := hid R2; have S2' := hid (h.keep B2); have hs2' := hid hs2
  replace hW2 := hid hW2.symm
  replace hpl := hid hpl
  clear h R2 B2 C2 h4 hs2
  go_enter Try.func56, Try.ntmps56
  go_upto_region 1 with fail
  go_cut [3] (fun s wE => ∃ t, s = .pointer (some ⟨t, 0, none⟩) ∧ Hid (W.heap.size + 1 < t ∧ t ≠ p ∧ Src wE p o2 ∧ W.grownBy wE (some p) ∧ RX wE W.heap.size p ∧ CB wE (W.heap.size + 1) 0 0 0 none 0 0 0 ∧ CB wE t z 0 (l2 : Int) none 0 0 0))
  case first =>
    refine wp_region_K (S := S3 W.heap.size p) (fun i => i == 8) (by kernel_rfl) (hW2.out ▸ g1) (fun hHeld => ?_)
    rw [hW2.out] at hHeld ⊢
    have SE := S2'
    have GE : Hid (W.grownBy W2 (some p)) := hid (grow_below B2'.out)
    have RE := R2'
    have DE := C2'
    refine gkt 0 ?_ (h := by intro W hSw; obtain ⟨y0, y1, y2⟩ := hSw; go_simp; first | done | with_reducible rfl)
    refine gkp 2 ?_
    refine gkt 3 ?_ (h := by intro W hSw; obtain ⟨y0, y1, y2⟩ := hSw; go_simp; first | done | with_reducible rfl)
    refine wpAnyK_ready (rs := [1, 7]) (by kernel_rfl) (by simp) ?_
    refine AllReadyK.cons (op_at _ 1 _ rfl) (fun K hK => ?_) ?_
    · as_aux_lemma =>
        go_simp
        go_at_call 76; refine (c1.out _ SE.out).mono ?_; rintro e w1 ⟨rfl, hs, hg⟩; have hR : S3 W.heap.size p w1 := S3.grown hHeld hg hne.out; replace GE := hid (grow_trans GE.out hg); replace RE := hid (RE.out.grown hg hne.out); replace DE := hid (DE.out.grown hg hne2.out); replace SE := hid hs; clear hs hg
        refine hK.out _ _ hR (fun hHeld => ?_)
        clear hK K
        (try simp only [Act.put, sA, sZ, sS])
        refine wpAnyK_ready (rs := [4, 7]) (by kernel_rfl) (by simp) ?_
        refine AllReadyK.cons (op_at _ 4 _ rfl) (fun K hK => ?_) ?_
        · as_aux_lemma =>
            go_simp
            go_at_call 52; refine (c2.out _ SE.out).mono ?_; rintro e w2 ⟨rfl, hs, hg⟩; have hR : S3 W.heap.size p w2 := S3.grown hHeld hg hne.out; replace GE := hid (grow_trans GE.out hg); replace RE := hid (RE.out.grown hg hne.out); replace DE := hid (DE.out.grown hg hne2.out); replace SE := hid hs; clear hs hg
            refine hK.out _ _ hR (fun hHeld => ?_)
            clear hK K
            (try simp only [Act.put, sA, sZ, sS])
            refine gkp 5 ?_ (v := .int .i64 (l2 : Int)) (h := by intro W hSw; go_simp <;> first | done | (rw [IntKind.wrap_i64]; omega))
            refine gkp 6 ?_
            refine gk1 7 (fun K hK => ?_)
            go_simp
            have eb : Below w2.heap.size w2 (w2.alloc (.cells #[.int .i64 0, .int .i64 0, .int .i64 0, .slice none 0 0, .int .i64 0] 57)) := ext1 _; have hR : S3 W.heap.size p (w2.alloc (.cells #[.int .i64 0, .int .i64 0, .int .i64 0, .slice none 0 0, .int .i64 0] 57)) := ⟨keep_old eb hHeld.1, keep_old eb hHeld.2.1, keep_old eb hHeld.2.2⟩; clear eb
            refine hK.out _ _ hR (fun hHeld => ?_)
            clear hK K
            (try simp only [Act.put, sA, sZ, sS])
            have TF := hid (show W.heap.size + 1 < w2.heap.size from DE.out.lt)
            have TP := hid (show w2.heap.size ≠ p from (by have := TF.out; have := hpl.out; omega))
            refine gkl 8 (fun K hK => ?_)
            go_simp
            refine hK.out _ _ ?_
            clear hK K
            (try simp only [Act.put, sA, sZ, sS])
            refine wpAnyK_done (by kernel_rfl) ?_ _
            go_wp2
            go_meet
            case rel => exact ⟨w2.heap.size, rfl, hid ⟨TF.out, TP.out, SE.out.keep (ext1 _), grow_trans GE.out (grow_below (ext1 _)), RE.out.keep (ext1 _), DE.out.keep (ext1 _), CB.new w2 z 0 (l2 : Int) none 0 0 0⟩⟩
        refine AllReadyK.cons (op_at _ 7 _ rfl) (fun K hK => ?_) ?_
        · as_aux_lemma =>
            go_simp
            have eb : Below w1.heap.size w1 (w1.alloc (.cells #[.int .i64 0, .int .i64 0, .int .i64 0, .slice none 0 0, .int .i64 0] 57)) := ext1 _; have hR : S3 W.heap.size p (w1.alloc (.cells #[.int .i64 0, .int .i64 0, .int .i64 0, .slice none 0 0, .int .i64 0] 57)) := ⟨keep_old eb hHeld.1, keep_old eb hHeld.2.1, keep_old eb hHeld.2.2⟩; have CE := hid (CB.new w1 0 0 0 none 0 0 0); have TF := hid (show W.heap.size + 1 < w1.heap.size from DE.out.lt); have TE := hid (show W.heap.size ≤ w1.heap.size from (by have := TF.out; omega)); have TP := hid (show w1.heap.size ≠ p from (by have := TF.out; have := hpl.out; omega)); replace GE := hid (grow_trans GE.out (grow_below eb)); replace RE := hid (RE.out.keep eb); replace DE := hid (DE.out.keep eb); replace SE := hid (SE.out.keep eb); clear eb
            refine hK.out _ _ hR (fun hHeld => ?_)
            clear hK K
            (try simp only [Act.put, sA, sZ, sS])
            refine gk1 4 (fun K hK => ?_)
            go_simp
            go_at_call 52; refine (c2.out _ SE.out).mono ?_; rintro e w2 ⟨rfl, hs, hg⟩; have hR : S3 W.heap.size p w2 := S3.grown hHeld hg hne.out; replace GE := hid (grow_trans GE.out hg); replace RE := hid (RE.out.grown hg hne.out); replace DE := hid (DE.out.grown hg hne2.out); replace CE := hid (CE.out.grown hg TP.out); replace SE := hid hs; clear hs hg
            refine hK.out _ _ hR (fun hHeld => ?_)
            clear hK K
            (try simp only [Act.put, sA, sZ, sS])
            refine gkp 5 ?_ (v := .int .i64 (l2 : Int)) (h := by intro W hSw; go_simp <;> first | done | (rw [IntKind.wrap_i64]; omega))
            refine gkp 6 ?_
            obtain ⟨y0, y1, y2, y3, y4⟩ := CE.out.cells
            have f0 := CE.out.fz 0
            have f1 := CE.out.fz 1
            have f2 := CE.out.fz 2
            have f3 := CE.out.fz 3
            have f4 := CE.out.fz 4
            refine gkl 8 (fun K hK => ?_)
            go_simp
            refine hK.out _ _ ?_
            clear hK K
            (try simp only [Act.put, sA, sZ, sS])
            refine wpAnyK_done (by kernel_rfl) ?_ _
            go_wp2
            go_meet
            case rel =>
              obtain ⟨e1, e2, e3, _⟩ := CE.out.all SE.out GE.out TE.out z 0 (l2 : Int) none 0 0 0
              refine ⟨w1.heap.size, rfl, hid ⟨TF.out, TP.out, e2, e3, ?_, ?_, e1⟩⟩
              · unfold RX; rw [heap_setCell_other _ _ _ _ (by have := TF.out; simp; omega), heap_setCell_other _ _ _ _ (by have := TF.out; simp; omega), heap_setCell_other _ _ _ _ (by have := TF.out; simp; omega), heap_setCell_other _ _ _ _ (by have := TF.out; simp; omega), heap_setCell_other _ _ _ _ (by have := TF.out; simp; omega)]; exact RE.out
              · unfold CB; rw [heap_setCell_other _ _ _ _ (by have := TF.out; simp; omega), heap_setCell_other _ _ _ _ (by have := TF.out; simp; omega), heap_setCell_other _ _ _ _ (by have := TF.out; simp; omega), heap_setCell_other _ _ _ _ (by have := TF.out; simp; omega), heap_setCell_other _ _ _ _ (by have := TF.out; simp; omega)]; exact DE.out
        exact AllReadyK.nil
    refine AllReadyK.cons (op_at _ 7 _ rfl) (fun K hK => ?_) ?_
    · as_aux_lemma =>
        go_simp
        have eb : Below W2.heap.size W2 (W2.alloc (.cells #[.int .i64 0, .int .i64 0, .int .i64 0, .slice none 0 0, .int .i64 0] 57)) := ext1 _; have hR : S3 W.heap.size p (W2.alloc (.cells #[.int .i64 0, .int .i64 0, .int .i64 0, .slice none 0 0, .int .i64 0] 57)) := ⟨keep_old eb hHeld.1, keep_old eb hHeld.2.1, keep_old eb hHeld.2.2⟩; have CE := hid (CB.new W2 0 0 0 none 0 0 0); have TF := hid (show W.heap.size + 1 < W2.heap.size from DE.out.lt); have TE := hid (show W.heap.size ≤ W2.heap.size from (by have := TF.out; omega)); have TP := hid (show W2.heap.size ≠ p from (by have := TF.out; have := hpl.out; omega)); replace GE := hid (grow_trans GE.out (grow_below eb)); replace RE := hid (RE.out.keep eb); replace DE := hid (DE.out.keep eb); replace SE := hid (SE.out.keep eb); clear eb
        refine hK.out _ _ hR (fun hHeld => ?_)
        clear hK K
        (try simp only [Act.put, sA, sZ, sS])
        refine gk1 1 (fun K hK => ?_)
        go_simp
        go_at_call 76; refine (c1.out _ SE.out).mono ?_; rintro e w1 ⟨rfl, hs, hg⟩; have hR : S3 W.heap.size p w1 := S3.grown hHeld hg hne.out; replace GE := hid (grow_trans GE.out hg); replace RE := hid (RE.out.grown hg hne.out); replace DE := hid (DE.out.grown hg hne2.out); replace CE := hid (CE.out.grown hg TP.out); replace SE := hid hs; clear hs hg
        refine hK.out _ _ hR (fun hHeld => ?_)
        clear hK K
        (try simp only [Act.put, sA, sZ, sS])
        refine gk1 4 (fun K hK => ?_)
        go_simp
        go_at_call 52; refine (c2.out _ SE.out).mono ?_; rintro e w2 ⟨rfl, hs, hg⟩; have hR : S3 W.heap.size p w2 := S3.grown hHeld hg hne.out; replace GE := hid (grow_trans GE.out hg); replace RE := hid (RE.out.grown hg hne.out); replace DE := hid (DE.out.grown hg hne2.out); replace CE := hid (CE.out.grown hg TP.out); replace SE := hid hs; clear hs hg
        refine hK.out _ _ hR (fun hHeld => ?_)
        clear hK K
        (try simp only [Act.put, sA, sZ, sS])
        refine gkp 5 ?_ (v := .int .i64 (l2 : Int)) (h := by intro W hSw; go_simp <;> first | done | (rw [IntKind.wrap_i64]; omega))
        refine gkp 6 ?_
        obtain ⟨y0, y1, y2, y3, y4⟩ := CE.out.cells
        have f0 := CE.out.fz 0
        have f1 := CE.out.fz 1
        have f2 := CE.out.fz 2
        have f3 := CE.out.fz 3
        have f4 := CE.out.fz 4
        refine gkl 8 (fun K hK => ?_)
        go_simp
        refine hK.out _ _ ?_
        clear hK K
        (try simp only [Act.put, sA, sZ, sS])
        refine wpAnyK_done (by kernel_rfl) ?_ _
        go_wp2
        go_meet
        case rel =>
          obtain ⟨e1, e2, e3, _⟩ := CE.out.all SE.out GE.out TE.out z 0 (l2 : Int) none 0 0 0
          refine ⟨W2.heap.size, rfl, hid ⟨TF.out, TP.out, e2, e3, ?_, ?_, e1⟩⟩
          · unfold RX; rw [heap_setCell_other _ _ _ _ (by have := TF.out; simp; omega), heap_setCell_other _ _ _ _ (by have := TF.out; simp; omega), heap_setCell_other _ _ _ _ (by have := TF.out; simp; omega), heap_setCell_other _ _ _ _ (by have := TF.out; simp; omega), heap_setCell_other _ _ _ _ (by have := TF.out; simp; omega)]; exact RE.out
          · unfold CB; rw [heap_setCell_other _ _ _ _ (by have := TF.out; simp; omega), heap_setCell_other _ _ _ _ (by have := TF.out; simp; omega), heap_setCell_other _ _ _ _ (by have := TF.out; simp; omega), heap_setCell_other _ _ _ _ (by have := TF.out; simp; omega), heap_setCell_other _ _ _ _ (by have := TF.out; simp; omega)]; exact DE.out
    exact AllReadyK.nil
  case rest =>
    obtain ⟨t, rfl, HE⟩ := hcut
    obtain ⟨ht, htp, hS, hG, hR, hC2, hC3⟩ := HE.out
    have g2 : SL W.heap.size p t (l2 : Int) wc.drew := ⟨hR.cells, hC3.cells.2.2.1⟩
    have dz : Below wc.heap.size wc wc.drew := (Below.refl _ _).drew
    have SE := hid (hS.keep dz)
    have GE := hid (grow_trans hG (grow_below dz))
    have RE := hid (hR.keep dz)
    have DE := hid (hC2.keep dz)
    have CE := hid (hC3.keep dz)
    have TF := hid ht
    have TP := hid htp
    clear ht htp hS hG hR hC2 hC3 dz HE
    go_upto_region 2 with fail
    refine wp_region_K (S := SL W.heap.size p t (l2 : Int)) (fun i => i == 7) (by kernel_rfl) (g2) (fun hHeld => ?_)
    refine gkp 0 ?_
    refine gkt 1 ?_ (h := by intro W hSw; obtain ⟨⟨y0, y1, y2⟩, y3⟩ := hSw; go_simp; first | done | with_reducible rfl)
    refine gkp 2 ?_
    refine gkt 3 ?_ (h := by intro W hSw; obtain ⟨⟨y0, y1, y2⟩, y3⟩ := hSw; go_simp; first | done | with_reducible rfl)
    refine gk1 4 (fun K hK => ?_)
    go_simp
    go_at_call 28; refine (c3.out _).mono ?_; rintro e w1 ⟨rfl, hw⟩; obtain rfl := hw.symm; have hR := hHeld
    refine hK.out _ _ hR (fun hHeld => ?_)
    clear hK K
    (try simp only [Act.put, sA, sZ, sS])
    refine gk1 5 (fun K hK => ?_)
    go_simp
    go_at_call 53; refine (c4.out _ SE.out).mono ?_; rintro e w5 ⟨ao, nn, mm, rfl, hrd, h8, h5, hs, hg⟩; have hR : SL W.heap.size p t (l2 : Int) w5 := ⟨S3.grown hHeld.1 hg hne.out, grow_cell hg hHeld.2 TP.out⟩; replace GE := hid (grow_trans GE.out hg); replace RE := hid (RE.out.grown hg hne.out); replace DE := hid (DE.out.grown hg hne2.out); replace CE := hid (CE.out.grown hg TP.out); replace SE := hid hs; have RD := hid hrd; have H8 := hid h8; have H5 := hid h5; clear hs hg hrd h8 h5
    refine hK.out _ _ hR (fun hHeld => ?_)
    clear hK K
    (try simp only [Act.put, sA, sZ, sS])
    refine gkp 6 ?_
    obtain ⟨y0, y1, y2, y3, y4⟩ := CE.out.cells
    have f0 := CE.out.fz 0
    have f1 := CE.out.fz 1
    have f2 := CE.out.fz 2
    have f3 := CE.out.fz 3
    have f4 := CE.out.fz 4
    refine gkl 7 (fun K hK => ?_)
    go_simp
    refine hK.out _ _ ?_
    clear hK K
    (try simp only [Act.put, sA, sZ, sS])
    refine wpAnyK_done (by kernel_rfl) ?_ _
    obtain ⟨w6, hw6⟩ : ∃ w6, w6 = w5.setCell ⟨t, 3, none⟩ (.slice ao nn mm) := ⟨_, rfl⟩
    rw [← hw6]
    have F6 : Five w5 w6 := by rw [hw6]; exact CE.out.five
    have S6 := hid (show Src w6 p o3 by rw [hw6]; exact CE.out.src SE.out)
    have G6 := hid (show W.grownBy w6 (some p) by rw [hw6]; exact grow1 GE.out (by have := TF.out; omega))
    have R6 := hid (show RX w6 W.heap.size p by rw [hw6]; unfold RX; rw [heap_setCell_other _ _ _ _ (by have := TF.out; simp; omega)]; exact RE.out)
    have D6 := hid (show CB w6 (W.heap.size + 1) 0 0 0 none 0 0 0 by rw [hw6]; unfold CB; rw [heap_setCell_other _ _ _ _ (by have := TF.out; simp; omega)]; exact DE.out)
    have E6 := hid (show CB w6 t z 0 (l2 : Int) ao nn mm 0 by rw [hw6]; exact CE.out.set3 ao nn mm)
    have X6 := hid (show Rd w6 ao nn mm b3 from RD.out.five H5.out F6)
    have Y6 := hid (show 0 < nn → ∀ b o, ao = some ⟨b, o, none⟩ → T5 w6 b from fun hn b o e => (H5.out hn b o e).five F6)
    have csp := hid (fun w => spills_any ⟨z, 0, (l2 : Int), ao, nn, mm, 0, b3⟩ w X6.out.1)
    unfold spillB at csp
    simp only at csp
    rw [← hsp] at csp
    clear hw6 F6 SE GE RE DE CE RD H5 y0 y1 y2 y3 y4 f0 f1 f2 f3 f4 hsp
    obtain ⟨y0, y1, y2, y3, y4⟩ := E6.out.cells
    cases SP with
    | false =>
      (try simp only [Bool.false_eq_true, if_false])
      go_wp2_with (first
        | (go_at_call 67; refine (csp.out _).mono ?_; rintro e w7 ⟨rfl, hb⟩; have S7 := hid (S6.out.keep hb); have G7 := hid (grow_trans G6.out (grow_below hb)); have D7 := hid (D6.out.keep hb); have X7 := hid (X6.out.keep hb); have Y7 := hid (show 0 < nn → ∀ b o, ao = some ⟨b, o, none⟩ → T5 w7 b from fun hn b o e => (Y6.out hn b o e).keep hb); clear y0 y1 y2 y3 y4; obtain ⟨y0, y1, y2, y3, y4⟩ := (E6.out.keep hb).cells; obtain ⟨v0, v1, v2, v3, v4⟩ := D7.out.cells; have f0 := D7.out.fz 0; have f1 := D7.out.fz 1; have f2 := D7.out.fz 2; have f3 := D7.out.fz 3; have f4 := D7.out.fz 4; clear hb))
      (try simp only [Exit.inBlock, Exit.then])
      obtain ⟨e1, e2, e3, e4⟩ := D7.out.all S7.out G7.out (by omega) z 0 (l2 : Int) ao nn mm 0
      refine bodyPost_ret (ret_cell (a := 2) (by kernel_rfl) rfl e1) rfl ?_
      exact ⟨ao, nn, mm, rfl, X7.out.five Y7.out e4, H8.out, fun hn b o e => (Y7.out hn b o e).five e4, e2, e3⟩
    | true =>
      (try simp only [if_true])
      go_wp2_with (first
        | (go_at_call 67; refine (csp.out _).mono ?_; rintro e w7 ⟨rfl, hb⟩; have S7 := hid (S6.out.keep hb); have G7 := hid (grow_trans G6.out (grow_below hb)); have D7 := hid (D6.out.keep hb); have E7 := hid (E6.out.keep hb); have X7 := hid (X6.out.keep hb); have Y7 := hid (show 0 < nn → ∀ b o, ao = some ⟨b, o, none⟩ → T5 w7 b from fun hn b o e => (Y6.out hn b o e).keep hb); clear y0 y1 y2 y3 y4; obtain ⟨y0, y1, y2⟩ := (R6.out.keep hb).cells; clear hb)
        | (go_at_call 57; refine (c5.out _ S7.out).mono ?_; rintro e w8 ⟨rfl, hs, hg⟩; have F8 := hid (S7.out.grown5 hg); have S8 := hid hs; have G8 := hid (grow_trans G7.out hg); have D8 := hid (D7.out.grown hg hne2.out); have E8 := hid (E7.out.grown hg TP.out); clear y0 y1 y2 hs hg; obtain ⟨y0, y1, y2, y3, y4⟩ := E8.out.cells; have k4 := E8.out.fz 4; obtain ⟨v0, v1, v2, v3, v4⟩ := D8.out.cells; have f0 := D8.out.fz 0; have f1 := D8.out.fz 1; have f2 := D8.out.fz 2; have f3 := D8.out.fz 3; have f4 := D8.out.fz 4; have hnt : ¬ W.heap.size + 1 = t := (by have := TF.out; omega); have hnt2 : ¬ t = W.heap.size + 1 := (by have := TF.out; omega)))
      (try simp only [Exit.inBlock, Exit.then])
      have hD9 : CB (w8.setCell ⟨t, 4, none⟩ (.int .i64 ((numO 4 o3).1 : Nat))) (W.heap.size + 1) 0 0 0 none 0 0 0 := by unfold CB; rw [heap_setCell_other _ _ _ _ (by simp; omega)]; exact D8.out
      obtain ⟨e1, e2, e3, e4⟩ := hD9.all (E8.out.src S8.out) (grow1 G8.out (by have := TF.out; omega)) (by omega) z 0 (l2 : Int) ao nn mm ((numO 4 o3).1 : Nat)
      have F9 : Five w7 _ := (F8.out.trans E8.out.five).trans e4
      refine bodyPost_ret (ret_cell (a := 2) (by kernel_rfl) rfl e1) rfl ?_
      exact ⟨ao, nn, mm, rfl, X7.out.five Y7.out F9, H8.out, fun hn b o e => (Y7.out hn b o e).five F9, e2, e3⟩

end Go.Proofs.Ytbpcekhfjkodcaa
