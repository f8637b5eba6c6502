/- What the document asks of a shape and all in it; no statement of the seat is proved here. -/
import Derived.Test.YtpmfedimjjifaaaGreatDoorJ07
namespace Go.Proofs.YtpmfedimjjifaaaGreatDoor
open Go.RowKit Go.Maps

set_option maxRecDepth 100000 in
theorem nodesL_all (f : Sh → Bool) (l : List Sh) : (nodesL l).all f = l.all fun p => p.nodes.all f := by
  induction l with
  | nil => rw [nodesL]; rfl
  | cons a r ih => rw [nodesL, List.all_append, ih]; rfl
/-- May a part of that kind be in a shape of that? -/
def ok2 (a b : Int) : Bool := if a = 7 then decide (1 ≤ b) else b == partK a
def own9 (q : Sh) : Bool := fitB q && q.ps.all fun p => ok2 q.k p.k
def rightB (s : Sh) : Bool := s.nodes.all own9
set_option maxRecDepth 100000 in
theorem all_both {α : Type} (f g : α → Bool) (l : List α) : (l.all f && l.all g) = l.all fun x => f x && g x := by
  induction l with
  | nil => rfl
  | cons a r ih =>
    simp only [List.all_cons]
    rw [← ih]
    cases f a <;> cases g a <;> simp
set_option maxRecDepth 100000 in
theorem rightB_eq (s : Sh) : rightB s = (fitB s && s.ps.all fun p => ok2 s.k p.k && rightB p) := by
  unfold rightB
  rw [nodes_eq, List.all_cons, nodesL_all, ← all_both]
  unfold own9
  rw [Bool.and_assoc]
set_option maxRecDepth 100000 in
theorem fitB_le {s : Sh} (h : fitB s = true) : s.k ≤ 7 := by
  unfold fitB at h
  split at h
  · omega
  · split at h
    · omega
    · split at h
      · omega
      · simp at h; omega
def RtI (s : Sh) (w : World) (c : Value) (W : World) : Prop := ∃ i : Nat, i ≤ s.pn ∧ c = .int .i64 (i : Int) ∧ Hid (rightB s = (s.ps.drop i).all fun p => ok2 s.k p.k && rightB p) ∧ Hid (Below w.heap.size w W) ∧ Hid (Bx W w.heap.size s)

set_option maxRecDepth 100000 in
set_option maxHeartbeats 8000000 in
theorem right_call : ∀ (N : Nat) (s : Sh), s.nodes.length ≤ N → ∀ (w : World), In (fun b => b < w.heap.size) w s →
    Calls Tryz.prog 43 #[.agg #[.int .i64 (s).k, .slice (s).xo (s).xn (s).xc, .slice (s).po (s).pn (s).pc]] w fun e w' => e = .returned (.bool (rightB s)) ∧ Below w.heap.size w w' := by
  intro N
  induction N with
  | zero => intro s h; rw [nodes_eq] at h; simp at h
  | succ N ih =>
    intro s hs w hI
    have IH := hid ih
    have HS := hid hs
    have HI := hid hI
    have B1 := hid (Bx.new w s)
    have b0 : Hid (Below w.heap.size w (w.alloc (.cells #[.int .i64 (s).k, .slice (s).xo (s).xn (s).xc, .slice (s).po (s).pn (s).pc] 39))) := hid (ext1 _)
    obtain ⟨x0, x1, x2⟩ := B1.out.cells
    have hxn := hI.here.lenI
    have CF := hid (fits_call _ s (w.alloc (.cells #[.int .i64 (s).k, .slice (s).xo (s).xn (s).xc, .slice (s).po (s).pn (s).pc] 39)) (hI.grow (ext1 _)).here)
    have HR := hid (rightB_eq s)
    have hmx : Tryz.prog.follows .mixedOrders = true := follows_mixed
    clear ih hs hI
    cases hf : fitB s with
    | false =>
      rw [hf] at CF HR
      rw [HR.out, Bool.false_and]
      clear HR hf
      go_enter Tryz.func43, Tryz.ntmps43
      go_wp2_with (go_at_call 70; refine CF.out.mono ?_; rintro e w1 ⟨rfl, hb1⟩; have H1 := hid hb1; clear hb1)
      go_ret
      exact ⟨rfl, gt b0.out H1.out⟩
    | true =>
      have hk7 := fitB_le hf
      rw [hf] at CF HR
      rw [Bool.true_and] at HR
      clear hf
      have HRB : Hid (∀ q : Sh, q.k ≤ 7 → True) := hid fun _ _ => trivial
      clear HRB
      go_enter Tryz.func43, Tryz.ntmps43
      go_wp2_with (go_at_call 70; refine CF.out.mono ?_; rintro e w1 ⟨rfl, hb1⟩; have H1 := hid hb1; clear hb1; have D1 := hid (B1.out.keep H1.out); obtain ⟨y0, y1, y2⟩ := D1.out.cells; have K1 := hid (gt b0.out H1.out))
      go_loopw [11] (RtI s w) (fun v _ => s.pn - (intOf v).toNat)
      case atStart => exact ⟨0, by omega, rfl, hid (by rw [List.drop_zero]; exact HR.out), K1, D1⟩
      case round =>
        clear x0 x1 x2 y0 y1 y2 D1 K1 H1 HR CF B1 b0
        obtain ⟨i, hi, rfl, hp0, hb, hB⟩ := hrel
        obtain ⟨y0, y1, y2⟩ := hB.out.cells
        by_cases hik : i < s.pn
        · obtain ⟨p, hp⟩ : ∃ p, s.ps[i]? = some p := ⟨_, List.getElem?_eq_getElem (by rw [HI.out.here.pl]; exact hik)⟩
          obtain ⟨b, off, hpo, hbl, hat⟩ := HI.out.here.pr.resolve_left (by intro e; rw [e] at hp; simp at hp)
          obtain ⟨z0, z1, z2⟩ := (hat i p hp).of (w' := wr) (hb.out.block b hbl)
          rw [hpo] at *
          have HP := hid (show rightB s = (ok2 s.k p.k && (rightB p && (s.ps.drop (i + 1)).all fun p => ok2 s.k p.k && rightB p)) by rw [hp0.out, drop_at hp, List.all_cons, Bool.and_assoc])
          have HPM := hid (List.mem_of_getElem? hp)
          have PK := hid (fun W => refPart_call s.k W)
          have IHP := hid (fun W (hw : Below w.heap.size w W) => IH.out p (by have := nodes_lt (s := s) (List.mem_of_getElem? hp); have := HS.out; omega) W ((HI.out.part (List.mem_of_getElem? hp)).grow hw))
          have BP0 := hid (Bx.new wr p)
          obtain ⟨q0, q1, q2⟩ := BP0.out.cells
          have y0' := keep_old (ext1 (.cells #[.int .i64 (p).k, .slice (p).xo (p).xn (p).xc, .slice (p).po (p).pn (p).pc] 39)) y0; have y1' := keep_old (ext1 (.cells #[.int .i64 (p).k, .slice (p).xo (p).xn (p).xc, .slice (p).po (p).pn (p).pc] 39)) y1; have y2' := keep_old (ext1 (.cells #[.int .i64 (p).k, .slice (p).xo (p).xn (p).xc, .slice (p).po (p).pn (p).pc] 39)) y2
          have F1 := hid (gt hb.out (ext1 (.cells #[.int .i64 (p).k, .slice (p).xo (p).xn (p).xc, .slice (p).po (p).pn (p).pc] 39)))
          have B2 := hid (hB.out.keep (ext1 (.cells #[.int .i64 (p).k, .slice (p).xo (p).xn (p).xc, .slice (p).po (p).pn (p).pc] 39)))
          clear hat hpo hp hp0
          by_cases h7 : s.k = 7
          · have n7 : (s.k == 7) = true := by simp [h7]
            have HO := hid (show ok2 s.k p.k = decide (1 ≤ p.k) by unfold ok2; rw [if_pos h7])
            have l7 : ¬ (s.k < 7) := by omega
            clear h7
            by_cases h1 : p.k < 1
            · have e1 := hid (show decide (1 ≤ p.k) = false by simp; omega)
              go_wp2
              refine wp_region_K (S := (fun W : World => (W.cell? ⟨wr.heap.size, 0, none⟩ = some (.int .i64 p.k) ∧ W.cell? ⟨wr.heap.size, 1, none⟩ = some (.slice p.xo p.xn p.xc) ∧ W.cell? ⟨wr.heap.size, 2, none⟩ = some (.slice p.po p.pn p.pc)) ∧ W.cell? ⟨w.heap.size, 0, none⟩ = some (.int .i64 s.k))) (fun _ => false) (by kernel_rfl) (by exact ⟨⟨q0, q1, q2⟩, y0'⟩) (fun hHeld => ?_)
              refine gkp 0 ?_
              refine gkt 1 ?_ (h := by intro W hSw; obtain ⟨⟨r0, r1, r2⟩, s0⟩ := hSw; go_simp; first | done | with_reducible rfl)
              refine gkp 2 ?_ (v := .bool true) (h := by intro W hSw; go_simp; first | done | with_reducible rfl)
              refine gkp 3 ?_ (v := .bool true) (h := by intro W hSw; go_simp; first | done | with_reducible rfl)
              refine gkp 4 ?_
              refine gkt 5 ?_ (h := by intro W hSw; obtain ⟨⟨r0, r1, r2⟩, s0⟩ := hSw; go_simp; first | done | with_reducible rfl)
              refine gkp 6 ?_ (v := .bool true) (h := by intro W hSw; go_simp; first | done | with_reducible rfl)
              refine gkp 7 ?_ (v := .bool true) (h := by intro W hSw; go_simp; first | done | with_reducible rfl)
              refine gkp 8 ?_ (v := .bool true) (h := by intro W hSw; go_simp; first | done | with_reducible rfl)
              refine gku 9 ?_
              refine gku 10 ?_
              refine gku 11 ?_
              refine gku 12 ?_
              refine gku 13 ?_
              refine gku 14 ?_
              refine gku 15 ?_
              refine gku 16 ?_
              refine gku 17 ?_
              refine gku 18 ?_
              refine gku 19 ?_
              refine gkp 20 ?_ (v := .bool true) (h := by intro W hSw; go_simp; first | done | with_reducible rfl)
              refine gkp 21 ?_ (v := .bool true) (h := by intro W hSw; go_simp; first | done | with_reducible rfl)
              refine gku 22 ?_
              refine gku 23 ?_
              refine gku 24 ?_
              refine gkp 25 ?_ (v := .bool true) (h := by intro W hSw; go_simp; first | done | with_reducible rfl)
              refine wpAnyK_done (by kernel_rfl) ?_ _
              go_wp2
              go_ret
              exact ⟨by rw [HP.out, HO.out, e1.out]; rfl, gt F1.out (undrew (Below.refl _ _))⟩
            · have e1 := hid (show decide (1 ≤ p.k) = true by simp; omega)
              have h1' : 1 ≤ p.k := by omega
              cases hr : rightB p with
              | false =>
                rw [hr] at IHP
                have HRR := hid hr
                clear hr
                go_wp2
                refine wp_region_K (S := (fun W : World => (W.cell? ⟨wr.heap.size, 0, none⟩ = some (.int .i64 p.k) ∧ W.cell? ⟨wr.heap.size, 1, none⟩ = some (.slice p.xo p.xn p.xc) ∧ W.cell? ⟨wr.heap.size, 2, none⟩ = some (.slice p.po p.pn p.pc)) ∧ W.cell? ⟨w.heap.size, 0, none⟩ = some (.int .i64 s.k))) (fun _ => false) (by kernel_rfl) (by exact ⟨⟨q0, q1, q2⟩, y0'⟩) (fun hHeld => ?_)
                refine gkp 0 ?_
                refine gkt 1 ?_ (h := by intro W hSw; obtain ⟨⟨r0, r1, r2⟩, s0⟩ := hSw; go_simp; first | done | with_reducible rfl)
                refine gkp 2 ?_ (v := .bool true) (h := by intro W hSw; go_simp; first | done | with_reducible rfl)
                refine gkp 3 ?_ (v := .bool true) (h := by intro W hSw; go_simp; first | done | with_reducible rfl)
                refine gkp 4 ?_
                refine gkt 5 ?_ (h := by intro W hSw; obtain ⟨⟨r0, r1, r2⟩, s0⟩ := hSw; go_simp; first | done | with_reducible rfl)
                refine gkp 6 ?_ (v := .bool false) (h := by intro W hSw; go_simp; first | done | with_reducible rfl)
                refine gkp 7 ?_ (v := .bool false) (h := by intro W hSw; go_simp; first | done | with_reducible rfl)
                refine gkp 8 ?_ (v := .bool false) (h := by intro W hSw; go_simp; first | done | with_reducible rfl)
                refine gkp 9 ?_
                refine gkt 10 ?_ (h := by intro W hSw; obtain ⟨⟨r0, r1, r2⟩, s0⟩ := hSw; go_simp; first | done | with_reducible rfl)
                refine gkp 11 ?_ (v := .bool false) (h := by intro W hSw; go_simp; first | done | with_reducible rfl)
                refine gkp 12 ?_ (v := .bool false) (h := by intro W hSw; go_simp; first | done | with_reducible rfl)
                refine gku 13 ?_
                refine gku 14 ?_
                refine gku 15 ?_
                refine gku 16 ?_
                refine gku 17 ?_
                refine gku 18 ?_
                refine gkp 19 ?_ (v := .bool false) (h := by intro W hSw; go_simp; first | done | with_reducible rfl)
                refine gkp 20 ?_ (v := .bool false) (h := by intro W hSw; go_simp; first | done | with_reducible rfl)
                refine gkp 21 ?_ (v := .bool false) (h := by intro W hSw; go_simp; first | done | with_reducible rfl)
                refine gkt 22 ?_ (h := by intro W hSw; obtain ⟨⟨r0, r1, r2⟩, s0⟩ := hSw; go_simp; first | done | with_reducible rfl)
                refine gk1 23 (fun K hK => ?_)
                go_simp
                go_at_call 43; refine (IHP.out _ ((gt F1.out (undrew (w := wr.alloc (.cells #[.int .i64 (p).k, .slice (p).xo (p).xn (p).xc, .slice (p).po (p).pn (p).pc] 39)) (Below.refl _ _))))).mono ?_; rintro e w8 ⟨rfl, hb8⟩; have H8 := hid hb8; clear hb8; have hR : (fun W : World => (W.cell? ⟨wr.heap.size, 0, none⟩ = some (.int .i64 p.k) ∧ W.cell? ⟨wr.heap.size, 1, none⟩ = some (.slice p.xo p.xn p.xc) ∧ W.cell? ⟨wr.heap.size, 2, none⟩ = some (.slice p.po p.pn p.pc)) ∧ W.cell? ⟨w.heap.size, 0, none⟩ = some (.int .i64 s.k)) w8 := ⟨⟨keep_old H8.out hHeld.1.1, keep_old H8.out hHeld.1.2.1, keep_old H8.out hHeld.1.2.2⟩, keep_old H8.out hHeld.2⟩
                refine hK.out _ _ hR (fun hHeld => ?_)
                clear hK K
                (try simp only [Act.put, sA, sZ, sS])
                refine gkp 24 ?_ (v := .bool true) (h := by intro W hSw; go_simp; first | done | with_reducible rfl)
                refine gkp 25 ?_ (v := .bool true) (h := by intro W hSw; go_simp; first | done | with_reducible rfl)
                refine wpAnyK_done (by kernel_rfl) ?_ _
                go_wp2
                go_ret
                exact ⟨by rw [HP.out, HO.out, e1.out, HRR.out]; rfl, gt F1.out (undrew H8.out)⟩
              | true =>
                rw [hr] at IHP
                have HRR := hid hr
                clear hr
                go_wp2
                refine wp_region_K (S := (fun W : World => (W.cell? ⟨wr.heap.size, 0, none⟩ = some (.int .i64 p.k) ∧ W.cell? ⟨wr.heap.size, 1, none⟩ = some (.slice p.xo p.xn p.xc) ∧ W.cell? ⟨wr.heap.size, 2, none⟩ = some (.slice p.po p.pn p.pc)) ∧ W.cell? ⟨w.heap.size, 0, none⟩ = some (.int .i64 s.k))) (fun _ => false) (by kernel_rfl) (by exact ⟨⟨q0, q1, q2⟩, y0'⟩) (fun hHeld => ?_)
                refine gkp 0 ?_
                refine gkt 1 ?_ (h := by intro W hSw; obtain ⟨⟨r0, r1, r2⟩, s0⟩ := hSw; go_simp; first | done | with_reducible rfl)
                refine gkp 2 ?_ (v := .bool true) (h := by intro W hSw; go_simp; first | done | with_reducible rfl)
                refine gkp 3 ?_ (v := .bool true) (h := by intro W hSw; go_simp; first | done | with_reducible rfl)
                refine gkp 4 ?_
                refine gkt 5 ?_ (h := by intro W hSw; obtain ⟨⟨r0, r1, r2⟩, s0⟩ := hSw; go_simp; first | done | with_reducible rfl)
                refine gkp 6 ?_ (v := .bool false) (h := by intro W hSw; go_simp; first | done | with_reducible rfl)
                refine gkp 7 ?_ (v := .bool false) (h := by intro W hSw; go_simp; first | done | with_reducible rfl)
                refine gkp 8 ?_ (v := .bool false) (h := by intro W hSw; go_simp; first | done | with_reducible rfl)
                refine gkp 9 ?_
                refine gkt 10 ?_ (h := by intro W hSw; obtain ⟨⟨r0, r1, r2⟩, s0⟩ := hSw; go_simp; first | done | with_reducible rfl)
                refine gkp 11 ?_ (v := .bool false) (h := by intro W hSw; go_simp; first | done | with_reducible rfl)
                refine gkp 12 ?_ (v := .bool false) (h := by intro W hSw; go_simp; first | done | with_reducible rfl)
                refine gku 13 ?_
                refine gku 14 ?_
                refine gku 15 ?_
                refine gku 16 ?_
                refine gku 17 ?_
                refine gku 18 ?_
                refine gkp 19 ?_ (v := .bool false) (h := by intro W hSw; go_simp; first | done | with_reducible rfl)
                refine gkp 20 ?_ (v := .bool false) (h := by intro W hSw; go_simp; first | done | with_reducible rfl)
                refine gkp 21 ?_ (v := .bool false) (h := by intro W hSw; go_simp; first | done | with_reducible rfl)
                refine gkt 22 ?_ (h := by intro W hSw; obtain ⟨⟨r0, r1, r2⟩, s0⟩ := hSw; go_simp; first | done | with_reducible rfl)
                refine gk1 23 (fun K hK => ?_)
                go_simp
                go_at_call 43; refine (IHP.out _ ((gt F1.out (undrew (w := wr.alloc (.cells #[.int .i64 (p).k, .slice (p).xo (p).xn (p).xc, .slice (p).po (p).pn (p).pc] 39)) (Below.refl _ _))))).mono ?_; rintro e w8 ⟨rfl, hb8⟩; have H8 := hid hb8; clear hb8; have hR : (fun W : World => (W.cell? ⟨wr.heap.size, 0, none⟩ = some (.int .i64 p.k) ∧ W.cell? ⟨wr.heap.size, 1, none⟩ = some (.slice p.xo p.xn p.xc) ∧ W.cell? ⟨wr.heap.size, 2, none⟩ = some (.slice p.po p.pn p.pc)) ∧ W.cell? ⟨w.heap.size, 0, none⟩ = some (.int .i64 s.k)) w8 := ⟨⟨keep_old H8.out hHeld.1.1, keep_old H8.out hHeld.1.2.1, keep_old H8.out hHeld.1.2.2⟩, keep_old H8.out hHeld.2⟩
                refine hK.out _ _ hR (fun hHeld => ?_)
                clear hK K
                (try simp only [Act.put, sA, sZ, sS])
                refine gkp 24 ?_ (v := .bool false) (h := by intro W hSw; go_simp; first | done | with_reducible rfl)
                refine gkp 25 ?_ (v := .bool false) (h := by intro W hSw; go_simp; first | done | with_reducible rfl)
                refine wpAnyK_done (by kernel_rfl) ?_ _
                go_wp2
                go_roundw
                case measure => simp [intOf]; omega
                case rel => exact ⟨i + 1, by omega, by go_num, hid (by rw [HP.out, HO.out, e1.out, HRR.out]; simp), hid (gt F1.out (undrew H8.out)), hid (Bx.keep (show Bx (wr.alloc (.cells #[.int .i64 (p).k, .slice (p).xo (p).xn (p).xc, .slice (p).po (p).pn (p).pc] 39)).drew w.heap.size s from B2.out) H8.out)⟩
          · have n7 : (s.k == 7) = false := by simp [h7]
            have HO := hid (show ok2 s.k p.k = (p.k == partK s.k) by unfold ok2; rw [if_neg h7])
            have l7 : s.k < 7 := by omega
            clear h7
            obtain ⟨pk, hpk⟩ : ∃ pk, pk = partK s.k := ⟨_, rfl⟩
            rw [← hpk] at HO PK
            clear hpk
            by_cases h1 : p.k = pk
            · have e1 := hid (show (p.k == pk) = true by simp [h1])
              have m1 : (p.k != pk) = false := by simp [h1]
              clear h1
              cases hr : rightB p with
              | false =>
                rw [hr] at IHP
                have HRR := hid hr
                clear hr
                go_wp2
                refine wp_region_K (S := (fun W : World => (W.cell? ⟨wr.heap.size, 0, none⟩ = some (.int .i64 p.k) ∧ W.cell? ⟨wr.heap.size, 1, none⟩ = some (.slice p.xo p.xn p.xc) ∧ W.cell? ⟨wr.heap.size, 2, none⟩ = some (.slice p.po p.pn p.pc)) ∧ W.cell? ⟨w.heap.size, 0, none⟩ = some (.int .i64 s.k))) (fun _ => false) (by kernel_rfl) (by exact ⟨⟨q0, q1, q2⟩, y0'⟩) (fun hHeld => ?_)
                refine gkp 0 ?_
                refine gkt 1 ?_ (h := by intro W hSw; obtain ⟨⟨r0, r1, r2⟩, s0⟩ := hSw; go_simp; first | done | with_reducible rfl)
                refine gkp 2 ?_ (v := .bool false) (h := by intro W hSw; go_simp; first | done | with_reducible rfl)
                refine gkp 3 ?_ (v := .bool false) (h := by intro W hSw; go_simp; first | done | with_reducible rfl)
                refine gku 4 ?_
                refine gku 5 ?_
                refine gku 6 ?_
                refine gkp 7 ?_ (v := .bool false) (h := by intro W hSw; go_simp; first | done | with_reducible rfl)
                refine gkp 8 ?_ (v := .bool false) (h := by intro W hSw; go_simp; first | done | with_reducible rfl)
                refine gkp 9 ?_
                refine gkt 10 ?_ (h := by intro W hSw; obtain ⟨⟨r0, r1, r2⟩, s0⟩ := hSw; go_simp; first | done | with_reducible rfl)
                refine gkp 11 ?_ (v := .bool true) (h := by intro W hSw; go_simp; first | done | with_reducible rfl)
                refine gkp 12 ?_ (v := .bool true) (h := by intro W hSw; go_simp; first | done | with_reducible rfl)
                refine gkp 13 ?_
                refine gkt 14 ?_ (h := by intro W hSw; obtain ⟨⟨r0, r1, r2⟩, s0⟩ := hSw; go_simp; first | done | with_reducible rfl)
                refine gkp 15 ?_
                refine gkt 16 ?_ (h := by intro W hSw; obtain ⟨⟨r0, r1, r2⟩, s0⟩ := hSw; go_simp; first | done | with_reducible rfl)
                refine gk1 17 (fun K hK => ?_)
                go_simp
                go_at_call 71; refine (PK.out _).mono ?_; rintro e w7 ⟨rfl, hb7⟩; have H7 := hid hb7; clear hb7; have hR : (fun W : World => (W.cell? ⟨wr.heap.size, 0, none⟩ = some (.int .i64 p.k) ∧ W.cell? ⟨wr.heap.size, 1, none⟩ = some (.slice p.xo p.xn p.xc) ∧ W.cell? ⟨wr.heap.size, 2, none⟩ = some (.slice p.po p.pn p.pc)) ∧ W.cell? ⟨w.heap.size, 0, none⟩ = some (.int .i64 s.k)) w7 := ⟨⟨keep_old H7.out hHeld.1.1, keep_old H7.out hHeld.1.2.1, keep_old H7.out hHeld.1.2.2⟩, keep_old H7.out hHeld.2⟩
                refine hK.out _ _ hR (fun hHeld => ?_)
                clear hK K
                (try simp only [Act.put, sA, sZ, sS])
                refine gkp 18 ?_ (v := .bool false) (h := by intro W hSw; go_simp; first | done | with_reducible rfl)
                refine gkp 19 ?_ (v := .bool false) (h := by intro W hSw; go_simp; first | done | with_reducible rfl)
                refine gkp 20 ?_ (v := .bool false) (h := by intro W hSw; go_simp; first | done | with_reducible rfl)
                refine gkp 21 ?_ (v := .bool false) (h := by intro W hSw; go_simp; first | done | with_reducible rfl)
                refine gkt 22 ?_ (h := by intro W hSw; obtain ⟨⟨r0, r1, r2⟩, s0⟩ := hSw; go_simp; first | done | with_reducible rfl)
                refine gk1 23 (fun K hK => ?_)
                go_simp
                go_at_call 43; refine (IHP.out _ (gt F1.out (undrew H7.out))).mono ?_; rintro e w8 ⟨rfl, hb8⟩; have H8 := hid hb8; clear hb8; have hR : (fun W : World => (W.cell? ⟨wr.heap.size, 0, none⟩ = some (.int .i64 p.k) ∧ W.cell? ⟨wr.heap.size, 1, none⟩ = some (.slice p.xo p.xn p.xc) ∧ W.cell? ⟨wr.heap.size, 2, none⟩ = some (.slice p.po p.pn p.pc)) ∧ W.cell? ⟨w.heap.size, 0, none⟩ = some (.int .i64 s.k)) w8 := ⟨⟨keep_old H8.out hHeld.1.1, keep_old H8.out hHeld.1.2.1, keep_old H8.out hHeld.1.2.2⟩, keep_old H8.out hHeld.2⟩
                refine hK.out _ _ hR (fun hHeld => ?_)
                clear hK K
                (try simp only [Act.put, sA, sZ, sS])
                refine gkp 24 ?_ (v := .bool true) (h := by intro W hSw; go_simp; first | done | with_reducible rfl)
                refine gkp 25 ?_ (v := .bool true) (h := by intro W hSw; go_simp; first | done | with_reducible rfl)
                refine wpAnyK_done (by kernel_rfl) ?_ _
                go_wp2
                go_ret
                exact ⟨by rw [HP.out, HO.out, e1.out, HRR.out]; rfl, gt F1.out (undrew (gt H7.out H8.out))⟩
              | true =>
                rw [hr] at IHP
                have HRR := hid hr
                clear hr
                go_wp2
                refine wp_region_K (S := (fun W : World => (W.cell? ⟨wr.heap.size, 0, none⟩ = some (.int .i64 p.k) ∧ W.cell? ⟨wr.heap.size, 1, none⟩ = some (.slice p.xo p.xn p.xc) ∧ W.cell? ⟨wr.heap.size, 2, none⟩ = some (.slice p.po p.pn p.pc)) ∧ W.cell? ⟨w.heap.size, 0, none⟩ = some (.int .i64 s.k))) (fun _ => false) (by kernel_rfl) (by exact ⟨⟨q0, q1, q2⟩, y0'⟩) (fun hHeld => ?_)
                refine gkp 0 ?_
                refine gkt 1 ?_ (h := by intro W hSw; obtain ⟨⟨r0, r1, r2⟩, s0⟩ := hSw; go_simp; first | done | with_reducible rfl)
                refine gkp 2 ?_ (v := .bool false) (h := by intro W hSw; go_simp; first | done | with_reducible rfl)
                refine gkp 3 ?_ (v := .bool false) (h := by intro W hSw; go_simp; first | done | with_reducible rfl)
                refine gku 4 ?_
                refine gku 5 ?_
                refine gku 6 ?_
                refine gkp 7 ?_ (v := .bool false) (h := by intro W hSw; go_simp; first | done | with_reducible rfl)
                refine gkp 8 ?_ (v := .bool false) (h := by intro W hSw; go_simp; first | done | with_reducible rfl)
                refine gkp 9 ?_
                refine gkt 10 ?_ (h := by intro W hSw; obtain ⟨⟨r0, r1, r2⟩, s0⟩ := hSw; go_simp; first | done | with_reducible rfl)
                refine gkp 11 ?_ (v := .bool true) (h := by intro W hSw; go_simp; first | done | with_reducible rfl)
                refine gkp 12 ?_ (v := .bool true) (h := by intro W hSw; go_simp; first | done | with_reducible rfl)
                refine gkp 13 ?_
                refine gkt 14 ?_ (h := by intro W hSw; obtain ⟨⟨r0, r1, r2⟩, s0⟩ := hSw; go_simp; first | done | with_reducible rfl)
                refine gkp 15 ?_
                refine gkt 16 ?_ (h := by intro W hSw; obtain ⟨⟨r0, r1, r2⟩, s0⟩ := hSw; go_simp; first | done | with_reducible rfl)
                refine gk1 17 (fun K hK => ?_)
                go_simp
                go_at_call 71; refine (PK.out _).mono ?_; rintro e w7 ⟨rfl, hb7⟩; have H7 := hid hb7; clear hb7; have hR : (fun W : World => (W.cell? ⟨wr.heap.size, 0, none⟩ = some (.int .i64 p.k) ∧ W.cell? ⟨wr.heap.size, 1, none⟩ = some (.slice p.xo p.xn p.xc) ∧ W.cell? ⟨wr.heap.size, 2, none⟩ = some (.slice p.po p.pn p.pc)) ∧ W.cell? ⟨w.heap.size, 0, none⟩ = some (.int .i64 s.k)) w7 := ⟨⟨keep_old H7.out hHeld.1.1, keep_old H7.out hHeld.1.2.1, keep_old H7.out hHeld.1.2.2⟩, keep_old H7.out hHeld.2⟩
                refine hK.out _ _ hR (fun hHeld => ?_)
                clear hK K
                (try simp only [Act.put, sA, sZ, sS])
                refine gkp 18 ?_ (v := .bool false) (h := by intro W hSw; go_simp; first | done | with_reducible rfl)
                refine gkp 19 ?_ (v := .bool false) (h := by intro W hSw; go_simp; first | done | with_reducible rfl)
                refine gkp 20 ?_ (v := .bool false) (h := by intro W hSw; go_simp; first | done | with_reducible rfl)
                refine gkp 21 ?_ (v := .bool false) (h := by intro W hSw; go_simp; first | done | with_reducible rfl)
                refine gkt 22 ?_ (h := by intro W hSw; obtain ⟨⟨r0, r1, r2⟩, s0⟩ := hSw; go_simp; first | done | with_reducible rfl)
                refine gk1 23 (fun K hK => ?_)
                go_simp
                go_at_call 43; refine (IHP.out _ (gt F1.out (undrew H7.out))).mono ?_; rintro e w8 ⟨rfl, hb8⟩; have H8 := hid hb8; clear hb8; have hR : (fun W : World => (W.cell? ⟨wr.heap.size, 0, none⟩ = some (.int .i64 p.k) ∧ W.cell? ⟨wr.heap.size, 1, none⟩ = some (.slice p.xo p.xn p.xc) ∧ W.cell? ⟨wr.heap.size, 2, none⟩ = some (.slice p.po p.pn p.pc)) ∧ W.cell? ⟨w.heap.size, 0, none⟩ = some (.int .i64 s.k)) w8 := ⟨⟨keep_old H8.out hHeld.1.1, keep_old H8.out hHeld.1.2.1, keep_old H8.out hHeld.1.2.2⟩, keep_old H8.out hHeld.2⟩
                refine hK.out _ _ hR (fun hHeld => ?_)
                clear hK K
                (try simp only [Act.put, sA, sZ, sS])
                refine gkp 24 ?_ (v := .bool false) (h := by intro W hSw; go_simp; first | done | with_reducible rfl)
                refine gkp 25 ?_ (v := .bool false) (h := by intro W hSw; go_simp; first | done | with_reducible rfl)
                refine wpAnyK_done (by kernel_rfl) ?_ _
                go_wp2
                go_roundw
                case measure => simp [intOf]; omega
                case rel => exact ⟨i + 1, by omega, by go_num, hid (by rw [HP.out, HO.out, e1.out, HRR.out]; simp), hid (gt F1.out (undrew (gt H7.out H8.out))), hid (Bx.keep (show Bx (wr.alloc (.cells #[.int .i64 (p).k, .slice (p).xo (p).xn (p).xc, .slice (p).po (p).pn (p).pc] 39)).drew w.heap.size s from B2.out) (gt H7.out H8.out))⟩
            · have e1 := hid (show (p.k == pk) = false by simp [h1])
              have m1 : (p.k != pk) = true := by simp [h1]
              go_wp2
              refine wp_region_K (S := (fun W : World => (W.cell? ⟨wr.heap.size, 0, none⟩ = some (.int .i64 p.k) ∧ W.cell? ⟨wr.heap.size, 1, none⟩ = some (.slice p.xo p.xn p.xc) ∧ W.cell? ⟨wr.heap.size, 2, none⟩ = some (.slice p.po p.pn p.pc)) ∧ W.cell? ⟨w.heap.size, 0, none⟩ = some (.int .i64 s.k))) (fun _ => false) (by kernel_rfl) (by exact ⟨⟨q0, q1, q2⟩, y0'⟩) (fun hHeld => ?_)
              refine gkp 0 ?_
              refine gkt 1 ?_ (h := by intro W hSw; obtain ⟨⟨r0, r1, r2⟩, s0⟩ := hSw; go_simp; first | done | with_reducible rfl)
              refine gkp 2 ?_ (v := .bool false) (h := by intro W hSw; go_simp; first | done | with_reducible rfl)
              refine gkp 3 ?_ (v := .bool false) (h := by intro W hSw; go_simp; first | done | with_reducible rfl)
              refine gku 4 ?_
              refine gku 5 ?_
              refine gku 6 ?_
              refine gkp 7 ?_ (v := .bool false) (h := by intro W hSw; go_simp; first | done | with_reducible rfl)
              refine gkp 8 ?_ (v := .bool false) (h := by intro W hSw; go_simp; first | done | with_reducible rfl)
              refine gkp 9 ?_
              refine gkt 10 ?_ (h := by intro W hSw; obtain ⟨⟨r0, r1, r2⟩, s0⟩ := hSw; go_simp; first | done | with_reducible rfl)
              refine gkp 11 ?_ (v := .bool true) (h := by intro W hSw; go_simp; first | done | with_reducible rfl)
              refine gkp 12 ?_ (v := .bool true) (h := by intro W hSw; go_simp; first | done | with_reducible rfl)
              refine gkp 13 ?_
              refine gkt 14 ?_ (h := by intro W hSw; obtain ⟨⟨r0, r1, r2⟩, s0⟩ := hSw; go_simp; first | done | with_reducible rfl)
              refine gkp 15 ?_
              refine gkt 16 ?_ (h := by intro W hSw; obtain ⟨⟨r0, r1, r2⟩, s0⟩ := hSw; go_simp; first | done | with_reducible rfl)
              refine gk1 17 (fun K hK => ?_)
              go_simp
              go_at_call 71; refine (PK.out _).mono ?_; rintro e w7 ⟨rfl, hb7⟩; have H7 := hid hb7; clear hb7; have hR : (fun W : World => (W.cell? ⟨wr.heap.size, 0, none⟩ = some (.int .i64 p.k) ∧ W.cell? ⟨wr.heap.size, 1, none⟩ = some (.slice p.xo p.xn p.xc) ∧ W.cell? ⟨wr.heap.size, 2, none⟩ = some (.slice p.po p.pn p.pc)) ∧ W.cell? ⟨w.heap.size, 0, none⟩ = some (.int .i64 s.k)) w7 := ⟨⟨keep_old H7.out hHeld.1.1, keep_old H7.out hHeld.1.2.1, keep_old H7.out hHeld.1.2.2⟩, keep_old H7.out hHeld.2⟩
              refine hK.out _ _ hR (fun hHeld => ?_)
              clear hK K
              (try simp only [Act.put, sA, sZ, sS])
              refine gkp 18 ?_ (v := .bool true) (h := by intro W hSw; go_simp; first | done | with_reducible rfl)
              refine gkp 19 ?_ (v := .bool true) (h := by intro W hSw; go_simp; first | done | with_reducible rfl)
              refine gkp 20 ?_ (v := .bool true) (h := by intro W hSw; go_simp; first | done | with_reducible rfl)
              refine gkp 21 ?_ (v := .bool true) (h := by intro W hSw; go_simp; first | done | with_reducible rfl)
              refine gku 22 ?_
              refine gku 23 ?_
              refine gku 24 ?_
              refine gkp 25 ?_ (v := .bool true) (h := by intro W hSw; go_simp; first | done | with_reducible rfl)
              refine wpAnyK_done (by kernel_rfl) ?_ _
              go_wp2
              go_ret
              exact ⟨by rw [HP.out, HO.out, e1.out]; rfl, gt F1.out (undrew H7.out)⟩
        · obtain rfl : i = s.pn := by omega
          have HP := hp0.out
          rw [List.drop_of_length_le (by rw [HI.out.here.pl]; omega)] at HP
          have HPP := hid HP
          clear HP
          go_wp2
          go_ret
          exact ⟨by rw [HPP.out]; rfl, hb.out⟩
end Go.Proofs.YtpmfedimjjifaaaGreatDoor
