/- What the document asks of a shape and all in it; no statement of the seat is proved here. -/
import Derived.Test.YtpmfedimjjifaaaDoorJ07
import Derived.Laws.AppendOwnNone
namespace Go.Proofs.YtpmfedimjjifaaaDoor
open Go.RowKit Go.Maps

set_option maxRecDepth 100000 in
theorem nodesL_all (f : Sh → Bool) (l : List Sh) : (nodesL l).all f = l.all fun p => p.nodes.all f := by
  induction l with
  | nil => rw [nodesL]; rfl
  | cons a r ih => rw [nodesL, List.all_append, ih]; rfl
/-- May a part of that kind be in a shape of that? -/
def ok2 (a b : Int) : Bool := if a = 7 then decide (1 ≤ b) else b == partK a
def own9 (q : Sh) : Bool := fitB q && q.ps.all fun p => ok2 q.k p.k
def rightB (s : Sh) : Bool := s.nodes.all own9
set_option maxRecDepth 100000 in
theorem all_both {α : Type} (f g : α → Bool) (l : List α) : (l.all f && l.all g) = l.all fun x => f x && g x := by
  induction l with
  | nil => rfl
  | cons a r ih =>
    simp only [List.all_cons]
    rw [← ih]
    cases f a <;> cases g a <;> simp
set_option maxRecDepth 100000 in
theorem rightB_eq (s : Sh) : rightB s = (fitB s && s.ps.all fun p => ok2 s.k p.k && rightB p) := by
  unfold rightB
  rw [nodes_eq, List.all_cons, nodesL_all, ← all_both]
  unfold own9
  rw [Bool.and_assoc]
set_option maxRecDepth 100000 in
theorem fitB_le {s : Sh} (h : fitB s = true) : s.k ≤ 7 := by
  unfold fitB at h
  split at h
  · omega
  · split at h
    · omega
    · split at h
      · omega
      · simp at h; omega
def RtI (s : Sh) (w : World) (c : Value) (W : World) : Prop := ∃ i : Nat, i ≤ s.pn ∧ c = .int .i64 (i : Int) ∧ Hid (rightB s = (s.ps.drop i).all fun p => ok2 s.k p.k && rightB p) ∧ Hid (Below w.heap.size w W) ∧ Hid (Bx W w.heap.size s)

set_option maxRecDepth 100000 in
set_option maxHeartbeats 8000000 in
theorem right_call : ∀ (N : Nat) (s : Sh), s.nodes.length ≤ N → ∀ (w : World), In (fun b => b < w.heap.size) w s →
    Calls Tryd.prog 48 #[.agg #[.int .i64 (s).k, .slice (s).xo (s).xn (s).xc, .slice (s).po (s).pn (s).pc]] w fun e w' => e = .returned (.bool (rightB s)) ∧ Below w.heap.size w w' := by
  intro N
  induction N with
  | zero => intro s h; rw [nodes_eq] at h; simp at h
  | succ N ih =>
    intro s hs w hI
    have IH := hid ih
    have HS := hid hs
    have HI := hid hI
    have B1 := hid (Bx.new w s)
    have b0 : Hid (Below w.heap.size w (w.alloc (.cells #[.int .i64 (s).k, .slice (s).xo (s).xn (s).xc, .slice (s).po (s).pn (s).pc] 25))) := hid (ext1 _)
    obtain ⟨x0, x1, x2⟩ := B1.out.cells
    have hxn := hI.here.lenI
    have CF := hid (fits_call _ s (w.alloc (.cells #[.int .i64 (s).k, .slice (s).xo (s).xn (s).xc, .slice (s).po (s).pn (s).pc] 25)) (hI.grow (ext1 _)).here)
    have HR := hid (rightB_eq s)
    have hmx : Tryd.prog.follows .mixedOrders = true := follows_mixed
    clear ih hs hI
    cases hf : fitB s with
    | false =>
      rw [hf] at CF HR
      rw [HR.out, Bool.false_and]
      clear HR hf
      go_enter Tryd.func48, Tryd.ntmps48
      go_wp2_with (go_at_call 72; refine CF.out.mono ?_; rintro e w1 ⟨rfl, hb1⟩; have H1 := hid hb1; clear hb1)
      go_ret
      exact ⟨rfl, gt b0.out H1.out⟩
    | true =>
      have hk7 := fitB_le hf
      rw [hf] at CF HR
      rw [Bool.true_and] at HR
      clear hf
      have HRB : Hid (∀ q : Sh, q.k ≤ 7 → True) := hid fun _ _ => trivial
      clear HRB
      go_enter Tryd.func48, Tryd.ntmps48
      go_wp2_with (go_at_call 72; refine CF.out.mono ?_; rintro e w1 ⟨rfl, hb1⟩; have H1 := hid hb1; clear hb1; have D1 := hid (B1.out.keep H1.out); obtain ⟨y0, y1, y2⟩ := D1.out.cells; have K1 := hid (gt b0.out H1.out))
      go_loopw [11] (RtI s w) (fun v _ => s.pn - (intOf v).toNat)
      case atStart => exact ⟨0, by omega, rfl, hid (by rw [List.drop_zero]; exact HR.out), K1, D1⟩
      case round =>
        clear x0 x1 x2 y0 y1 y2 D1 K1 H1 HR CF B1 b0
        obtain ⟨i, hi, rfl, hp0, hb, hB⟩ := hrel
        obtain ⟨y0, y1, y2⟩ := hB.out.cells
        by_cases hik : i < s.pn
        · obtain ⟨p, hp⟩ : ∃ p, s.ps[i]? = some p := ⟨_, List.getElem?_eq_getElem (by rw [HI.out.here.pl]; exact hik)⟩
          obtain ⟨b, off, hpo, hbl, hat⟩ := HI.out.here.pr.resolve_left (by intro e; rw [e] at hp; simp at hp)
          obtain ⟨z0, z1, z2⟩ := (hat i p hp).of (w' := wr) (hb.out.block b hbl)
          rw [hpo] at *
          have HP := hid (show rightB s = (ok2 s.k p.k && (rightB p && (s.ps.drop (i + 1)).all fun p => ok2 s.k p.k && rightB p)) by rw [hp0.out, drop_at hp, List.all_cons, Bool.and_assoc])
          have HPM := hid (List.mem_of_getElem? hp)
          have PK := hid (fun W => refPart_call s.k W)
          have IHP := hid (fun W (hw : Below w.heap.size w W) => IH.out p (by have := nodes_lt (s := s) (List.mem_of_getElem? hp); have := HS.out; omega) W ((HI.out.part (List.mem_of_getElem? hp)).grow hw))
          have BP0 := hid (Bx.new wr p)
          obtain ⟨q0, q1, q2⟩ := BP0.out.cells
          have y0' := keep_old (ext1 (.cells #[.int .i64 (p).k, .slice (p).xo (p).xn (p).xc, .slice (p).po (p).pn (p).pc] 25)) y0; have y1' := keep_old (ext1 (.cells #[.int .i64 (p).k, .slice (p).xo (p).xn (p).xc, .slice (p).po (p).pn (p).pc] 25)) y1; have y2' := keep_old (ext1 (.cells #[.int .i64 (p).k, .slice (p).xo (p).xn (p).xc, .slice (p).po (p).pn (p).pc] 25)) y2
          have F1 := hid (gt hb.out (ext1 (.cells #[.int .i64 (p).k, .slice (p).xo (p).xn (p).xc, .slice (p).po (p).pn (p).pc] 25)))
          have B2 := hid (hB.out.keep (ext1 (.cells #[.int .i64 (p).k, .slice (p).xo (p).xn (p).xc, .slice (p).po (p).pn (p).pc] 25)))
          clear hat hpo hp hp0
          by_cases h7 : s.k = 7
          · have n7 : (s.k == 7) = true := by simp [h7]
            have HO := hid (show ok2 s.k p.k = decide (1 ≤ p.k) by unfold ok2; rw [if_pos h7])
            have l7 : ¬ (s.k < 7) := by omega
            clear h7
            by_cases h1 : p.k < 1
            · have e1 := hid (show decide (1 ≤ p.k) = false by simp; omega)
              go_wp2
              refine wp_region_K (S := (fun W : World => (W.cell? ⟨wr.heap.size, 0, none⟩ = some (.int .i64 p.k) ∧ W.cell? ⟨wr.heap.size, 1, none⟩ = some (.slice p.xo p.xn p.xc) ∧ W.cell? ⟨wr.heap.size, 2, none⟩ = some (.slice p.po p.pn p.pc)) ∧ W.cell? ⟨w.heap.size, 0, none⟩ = some (.int .i64 s.k))) (fun _ => false) (by kernel_rfl) (by exact ⟨⟨q0, q1, q2⟩, y0'⟩) (fun hHeld => ?_)
              refine gkp 0 ?_
              refine gkt 1 ?_ (h := by intro W hSw; obtain ⟨⟨r0, r1, r2⟩, s0⟩ := hSw; go_simp; first | done | with_reducible rfl)
              refine gkp 2 ?_ (v := .bool true) (h := by intro W hSw; go_simp; first | done | with_reducible rfl)
              refine gkp 3 ?_ (v := .bool true) (h := by intro W hSw; go_simp; first | done | with_reducible rfl)
              refine gkp 4 ?_
              refine gkt 5 ?_ (h := by intro W hSw; obtain ⟨⟨r0, r1, r2⟩, s0⟩ := hSw; go_simp; first | done | with_reducible rfl)
              refine gkp 6 ?_ (v := .bool true) (h := by intro W hSw; go_simp; first | done | with_reducible rfl)
              refine gkp 7 ?_ (v := .bool true) (h := by intro W hSw; go_simp; first | done | with_reducible rfl)
              refine gkp 8 ?_ (v := .bool true) (h := by intro W hSw; go_simp; first | done | with_reducible rfl)
              refine gku 9 ?_
              refine gku 10 ?_
              refine gku 11 ?_
              refine gku 12 ?_
              refine gku 13 ?_
              refine gku 14 ?_
              refine gku 15 ?_
              refine gku 16 ?_
              refine gku 17 ?_
              refine gku 18 ?_
              refine gku 19 ?_
              refine gkp 20 ?_ (v := .bool true) (h := by intro W hSw; go_simp; first | done | with_reducible rfl)
              refine gkp 21 ?_ (v := .bool true) (h := by intro W hSw; go_simp; first | done | with_reducible rfl)
              refine gku 22 ?_
              refine gku 23 ?_
              refine gku 24 ?_
              refine gkp 25 ?_ (v := .bool true) (h := by intro W hSw; go_simp; first | done | with_reducible rfl)
              refine wpAnyK_done (by kernel_rfl) ?_ _
              go_wp2
              go_ret
              exact ⟨by rw [HP.out, HO.out, e1.out]; rfl, gt F1.out (undrew (Below.refl _ _))⟩
            · have e1 := hid (show decide (1 ≤ p.k) = true by simp; omega)
              have h1' : 1 ≤ p.k := by omega
              cases hr : rightB p with
              | false =>
                rw [hr] at IHP
                have HRR := hid hr
                clear hr
                go_wp2
                refine wp_region_K (S := (fun W : World => (W.cell? ⟨wr.heap.size, 0, none⟩ = some (.int .i64 p.k) ∧ W.cell? ⟨wr.heap.size, 1, none⟩ = some (.slice p.xo p.xn p.xc) ∧ W.cell? ⟨wr.heap.size, 2, none⟩ = some (.slice p.po p.pn p.pc)) ∧ W.cell? ⟨w.heap.size, 0, none⟩ = some (.int .i64 s.k))) (fun _ => false) (by kernel_rfl) (by exact ⟨⟨q0, q1, q2⟩, y0'⟩) (fun hHeld => ?_)
                refine gkp 0 ?_
                refine gkt 1 ?_ (h := by intro W hSw; obtain ⟨⟨r0, r1, r2⟩, s0⟩ := hSw; go_simp; first | done | with_reducible rfl)
                refine gkp 2 ?_ (v := .bool true) (h := by intro W hSw; go_simp; first | done | with_reducible rfl)
                refine gkp 3 ?_ (v := .bool true) (h := by intro W hSw; go_simp; first | done | with_reducible rfl)
                refine gkp 4 ?_
                refine gkt 5 ?_ (h := by intro W hSw; obtain ⟨⟨r0, r1, r2⟩, s0⟩ := hSw; go_simp; first | done | with_reducible rfl)
                refine gkp 6 ?_ (v := .bool false) (h := by intro W hSw; go_simp; first | done | with_reducible rfl)
                refine gkp 7 ?_ (v := .bool false) (h := by intro W hSw; go_simp; first | done | with_reducible rfl)
                refine gkp 8 ?_ (v := .bool false) (h := by intro W hSw; go_simp; first | done | with_reducible rfl)
                refine gkp 9 ?_
                refine gkt 10 ?_ (h := by intro W hSw; obtain ⟨⟨r0, r1, r2⟩, s0⟩ := hSw; go_simp; first | done | with_reducible rfl)
                refine gkp 11 ?_ (v := .bool false) (h := by intro W hSw; go_simp; first | done | with_reducible rfl)
                refine gkp 12 ?_ (v := .bool false) (h := by intro W hSw; go_simp; first | done | with_reducible rfl)
                refine gku 13 ?_
                refine gku 14 ?_
                refine gku 15 ?_
                refine gku 16 ?_
                refine gku 17 ?_
                refine gku 18 ?_
                refine gkp 19 ?_ (v := .bool false) (h := by intro W hSw; go_simp; first | done | with_reducible rfl)
                refine gkp 20 ?_ (v := .bool false) (h := by intro W hSw; go_simp; first | done | with_reducible rfl)
                refine gkp 21 ?_ (v := .bool false) (h := by intro W hSw; go_simp; first | done | with_reducible rfl)
                refine gkt 22 ?_ (h := by intro W hSw; obtain ⟨⟨r0, r1, r2⟩, s0⟩ := hSw; go_simp; first | done | with_reducible rfl)
                refine gk1 23 (fun K hK => ?_)
                go_simp
                go_at_call 48; refine (IHP.out _ ((gt F1.out (undrew (w := wr.alloc (.cells #[.int .i64 (p).k, .slice (p).xo (p).xn (p).xc, .slice (p).po (p).pn (p).pc] 25)) (Below.refl _ _))))).mono ?_; rintro e w8 ⟨rfl, hb8⟩; have H8 := hid hb8; clear hb8; have hR : (fun W : World => (W.cell? ⟨wr.heap.size, 0, none⟩ = some (.int .i64 p.k) ∧ W.cell? ⟨wr.heap.size, 1, none⟩ = some (.slice p.xo p.xn p.xc) ∧ W.cell? ⟨wr.heap.size, 2, none⟩ = some (.slice p.po p.pn p.pc)) ∧ W.cell? ⟨w.heap.size, 0, none⟩ = some (.int .i64 s.k)) w8 := ⟨⟨keep_old H8.out hHeld.1.1, keep_old H8.out hHeld.1.2.1, keep_old H8.out hHeld.1.2.2⟩, keep_old H8.out hHeld.2⟩
                refine hK.out _ _ hR (fun hHeld => ?_)
                clear hK K
                (try simp only [Act.put, sA, sZ, sS])
                refine gkp 24 ?_ (v := .bool true) (h := by intro W hSw; go_simp; first | done | with_reducible rfl)
                refine gkp 25 ?_ (v := .bool true) (h := by intro W hSw; go_simp; first | done | with_reducible rfl)
                refine wpAnyK_done (by kernel_rfl) ?_ _
                go_wp2
                go_ret
                exact ⟨by rw [HP.out, HO.out, e1.out, HRR.out]; rfl, gt F1.out (undrew H8.out)⟩
              | true =>
                rw [hr] at IHP
                have HRR := hid hr
                clear hr
                go_wp2
                refine wp_region_K (S := (fun W : World => (W.cell? ⟨wr.heap.size, 0, none⟩ = some (.int .i64 p.k) ∧ W.cell? ⟨wr.heap.size, 1, none⟩ = some (.slice p.xo p.xn p.xc) ∧ W.cell? ⟨wr.heap.size, 2, none⟩ = some (.slice p.po p.pn p.pc)) ∧ W.cell? ⟨w.heap.size, 0, none⟩ = some (.int .i64 s.k))) (fun _ => false) (by kernel_rfl) (by exact ⟨⟨q0, q1, q2⟩, y0'⟩) (fun hHeld => ?_)
                refine gkp 0 ?_
                refine gkt 1 ?_ (h := by intro W hSw; obtain ⟨⟨r0, r1, r2⟩, s0⟩ := hSw; go_simp; first | done | with_reducible rfl)
                refine gkp 2 ?_ (v := .bool true) (h := by intro W hSw; go_simp; first | done | with_reducible rfl)
                refine gkp 3 ?_ (v := .bool true) (h := by intro W hSw; go_simp; first | done | with_reducible rfl)
                refine gkp 4 ?_
                refine gkt 5 ?_ (h := by intro W hSw; obtain ⟨⟨r0, r1, r2⟩, s0⟩ := hSw; go_simp; first | done | with_reducible rfl)
                refine gkp 6 ?_ (v := .bool false) (h := by intro W hSw; go_simp; first | done | with_reducible rfl)
                refine gkp 7 ?_ (v := .bool false) (h := by intro W hSw; go_simp; first | done | with_reducible rfl)
                refine gkp 8 ?_ (v := .bool false) (h := by intro W hSw; go_simp; first | done | with_reducible rfl)
                refine gkp 9 ?_
                refine gkt 10 ?_ (h := by intro W hSw; obtain ⟨⟨r0, r1, r2⟩, s0⟩ := hSw; go_simp; first | done | with_reducible rfl)
                refine gkp 11 ?_ (v := .bool false) (h := by intro W hSw; go_simp; first | done | with_reducible rfl)
                refine gkp 12 ?_ (v := .bool false) (h := by intro W hSw; go_simp; first | done | with_reducible rfl)
                refine gku 13 ?_
                refine gku 14 ?_
                refine gku 15 ?_
                refine gku 16 ?_
                refine gku 17 ?_
                refine gku 18 ?_
                refine gkp 19 ?_ (v := .bool false) (h := by intro W hSw; go_simp; first | done | with_reducible rfl)
                refine gkp 20 ?_ (v := .bool false) (h := by intro W hSw; go_simp; first | done | with_reducible rfl)
                refine gkp 21 ?_ (v := .bool false) (h := by intro W hSw; go_simp; first | done | with_reducible rfl)
                refine gkt 22 ?_ (h := by intro W hSw; obtain ⟨⟨r0, r1, r2⟩, s0⟩ := hSw; go_simp; first | done | with_reducible rfl)
                refine gk1 23 (fun K hK => ?_)
                go_simp
                go_at_call 48; refine (IHP.out _ ((gt F1.out (undrew (w := wr.alloc (.cells #[.int .i64 (p).k, .slice (p).xo (p).xn (p).xc, .slice (p).po (p).pn (p).pc] 25)) (Below.refl _ _))))).mono ?_; rintro e w8 ⟨rfl, hb8⟩; have H8 := hid hb8; clear hb8; have hR : (fun W : World => (W.cell? ⟨wr.heap.size, 0, none⟩ = some (.int .i64 p.k) ∧ W.cell? ⟨wr.heap.size, 1, none⟩ = some (.slice p.xo p.xn p.xc) ∧ W.cell? ⟨wr.heap.size, 2, none⟩ = some (.slice p.po p.pn p.pc)) ∧ W.cell? ⟨w.heap.size, 0, none⟩ = some (.int .i64 s.k)) w8 := ⟨⟨keep_old H8.out hHeld.1.1, keep_old H8.out hHeld.1.2.1, keep_old H8.out hHeld.1.2.2⟩, keep_old H8.out hHeld.2⟩
                refine hK.out _ _ hR (fun hHeld => ?_)
                clear hK K
                (try simp only [Act.put, sA, sZ, sS])
                refine gkp 24 ?_ (v := .bool false) (h := by intro W hSw; go_simp; first | done | with_reducible rfl)
                refine gkp 25 ?_ (v := .bool false) (h := by intro W hSw; go_simp; first | done | with_reducible rfl)
                refine wpAnyK_done (by kernel_rfl) ?_ _
                go_wp2
                go_roundw
                case measure => simp [intOf]; omega
                case rel => exact ⟨i + 1, by omega, by go_num, hid (by rw [HP.out, HO.out, e1.out, HRR.out]; simp), hid (gt F1.out (undrew H8.out)), hid (Bx.keep (show Bx (wr.alloc (.cells #[.int .i64 (p).k, .slice (p).xo (p).xn (p).xc, .slice (p).po (p).pn (p).pc] 25)).drew w.heap.size s from B2.out) H8.out)⟩
          · have n7 : (s.k == 7) = false := by simp [h7]
            have HO := hid (show ok2 s.k p.k = (p.k == partK s.k) by unfold ok2; rw [if_neg h7])
            have l7 : s.k < 7 := by omega
            clear h7
            obtain ⟨pk, hpk⟩ : ∃ pk, pk = partK s.k := ⟨_, rfl⟩
            rw [← hpk] at HO PK
            clear hpk
            by_cases h1 : p.k = pk
            · have e1 := hid (show (p.k == pk) = true by simp [h1])
              have m1 : (p.k != pk) = false := by simp [h1]
              clear h1
              cases hr : rightB p with
              | false =>
                rw [hr] at IHP
                have HRR := hid hr
                clear hr
                go_wp2
                refine wp_region_K (S := (fun W : World => (W.cell? ⟨wr.heap.size, 0, none⟩ = some (.int .i64 p.k) ∧ W.cell? ⟨wr.heap.size, 1, none⟩ = some (.slice p.xo p.xn p.xc) ∧ W.cell? ⟨wr.heap.size, 2, none⟩ = some (.slice p.po p.pn p.pc)) ∧ W.cell? ⟨w.heap.size, 0, none⟩ = some (.int .i64 s.k))) (fun _ => false) (by kernel_rfl) (by exact ⟨⟨q0, q1, q2⟩, y0'⟩) (fun hHeld => ?_)
                refine gkp 0 ?_
                refine gkt 1 ?_ (h := by intro W hSw; obtain ⟨⟨r0, r1, r2⟩, s0⟩ := hSw; go_simp; first | done | with_reducible rfl)
                refine gkp 2 ?_ (v := .bool false) (h := by intro W hSw; go_simp; first | done | with_reducible rfl)
                refine gkp 3 ?_ (v := .bool false) (h := by intro W hSw; go_simp; first | done | with_reducible rfl)
                refine gku 4 ?_
                refine gku 5 ?_
                refine gku 6 ?_
                refine gkp 7 ?_ (v := .bool false) (h := by intro W hSw; go_simp; first | done | with_reducible rfl)
                refine gkp 8 ?_ (v := .bool false) (h := by intro W hSw; go_simp; first | done | with_reducible rfl)
                refine gkp 9 ?_
                refine gkt 10 ?_ (h := by intro W hSw; obtain ⟨⟨r0, r1, r2⟩, s0⟩ := hSw; go_simp; first | done | with_reducible rfl)
                refine gkp 11 ?_ (v := .bool true) (h := by intro W hSw; go_simp; first | done | with_reducible rfl)
                refine gkp 12 ?_ (v := .bool true) (h := by intro W hSw; go_simp; first | done | with_reducible rfl)
                refine gkp 13 ?_
                refine gkt 14 ?_ (h := by intro W hSw; obtain ⟨⟨r0, r1, r2⟩, s0⟩ := hSw; go_simp; first | done | with_reducible rfl)
                refine gkp 15 ?_
                refine gkt 16 ?_ (h := by intro W hSw; obtain ⟨⟨r0, r1, r2⟩, s0⟩ := hSw; go_simp; first | done | with_reducible rfl)
                refine gk1 17 (fun K hK => ?_)
                go_simp
                go_at_call 73; refine (PK.out _).mono ?_; rintro e w7 ⟨rfl, hb7⟩; have H7 := hid hb7; clear hb7; have hR : (fun W : World => (W.cell? ⟨wr.heap.size, 0, none⟩ = some (.int .i64 p.k) ∧ W.cell? ⟨wr.heap.size, 1, none⟩ = some (.slice p.xo p.xn p.xc) ∧ W.cell? ⟨wr.heap.size, 2, none⟩ = some (.slice p.po p.pn p.pc)) ∧ W.cell? ⟨w.heap.size, 0, none⟩ = some (.int .i64 s.k)) w7 := ⟨⟨keep_old H7.out hHeld.1.1, keep_old H7.out hHeld.1.2.1, keep_old H7.out hHeld.1.2.2⟩, keep_old H7.out hHeld.2⟩
                refine hK.out _ _ hR (fun hHeld => ?_)
                clear hK K
                (try simp only [Act.put, sA, sZ, sS])
                refine gkp 18 ?_ (v := .bool false) (h := by intro W hSw; go_simp; first | done | with_reducible rfl)
                refine gkp 19 ?_ (v := .bool false) (h := by intro W hSw; go_simp; first | done | with_reducible rfl)
                refine gkp 20 ?_ (v := .bool false) (h := by intro W hSw; go_simp; first | done | with_reducible rfl)
                refine gkp 21 ?_ (v := .bool false) (h := by intro W hSw; go_simp; first | done | with_reducible rfl)
                refine gkt 22 ?_ (h := by intro W hSw; obtain ⟨⟨r0, r1, r2⟩, s0⟩ := hSw; go_simp; first | done | with_reducible rfl)
                refine gk1 23 (fun K hK => ?_)
                go_simp
                go_at_call 48; refine (IHP.out _ (gt F1.out (undrew H7.out))).mono ?_; rintro e w8 ⟨rfl, hb8⟩; have H8 := hid hb8; clear hb8; have hR : (fun W : World => (W.cell? ⟨wr.heap.size, 0, none⟩ = some (.int .i64 p.k) ∧ W.cell? ⟨wr.heap.size, 1, none⟩ = some (.slice p.xo p.xn p.xc) ∧ W.cell? ⟨wr.heap.size, 2, none⟩ = some (.slice p.po p.pn p.pc)) ∧ W.cell? ⟨w.heap.size, 0, none⟩ = some (.int .i64 s.k)) w8 := ⟨⟨keep_old H8.out hHeld.1.1, keep_old H8.out hHeld.1.2.1, keep_old H8.out hHeld.1.2.2⟩, keep_old H8.out hHeld.2⟩
                refine hK.out _ _ hR (fun hHeld => ?_)
                clear hK K
                (try simp only [Act.put, sA, sZ, sS])
                refine gkp 24 ?_ (v := .bool true) (h := by intro W hSw; go_simp; first | done | with_reducible rfl)
                refine gkp 25 ?_ (v := .bool true) (h := by intro W hSw; go_simp; first | done | with_reducible rfl)
                refine wpAnyK_done (by kernel_rfl) ?_ _
                go_wp2
                go_ret
                exact ⟨by rw [HP.out, HO.out, e1.out, HRR.out]; rfl, gt F1.out (undrew (gt H7.out H8.out))⟩
              | true =>
                rw [hr] at IHP
                have HRR := hid hr
                clear hr
                go_wp2
                refine wp_region_K (S := (fun W : World => (W.cell? ⟨wr.heap.size, 0, none⟩ = some (.int .i64 p.k) ∧ W.cell? ⟨wr.heap.size, 1, none⟩ = some (.slice p.xo p.xn p.xc) ∧ W.cell? ⟨wr.heap.size, 2, none⟩ = some (.slice p.po p.pn p.pc)) ∧ W.cell? ⟨w.heap.size, 0, none⟩ = some (.int .i64 s.k))) (fun _ => false) (by kernel_rfl) (by exact ⟨⟨q0, q1, q2⟩, y0'⟩) (fun hHeld => ?_)
                refine gkp 0 ?_
                refine gkt 1 ?_ (h := by intro W hSw; obtain ⟨⟨r0, r1, r2⟩, s0⟩ := hSw; go_simp; first | done | with_reducible rfl)
                refine gkp 2 ?_ (v := .bool false) (h := by intro W hSw; go_simp; first | done | with_reducible rfl)
                refine gkp 3 ?_ (v := .bool false) (h := by intro W hSw; go_simp; first | done | with_reducible rfl)
                refine gku 4 ?_
                refine gku 5 ?_
                refine gku 6 ?_
                refine gkp 7 ?_ (v := .bool false) (h := by intro W hSw; go_simp; first | done | with_reducible rfl)
                refine gkp 8 ?_ (v := .bool false) (h := by intro W hSw; go_simp; first | done | with_reducible rfl)
                refine gkp 9 ?_
                refine gkt 10 ?_ (h := by intro W hSw; obtain ⟨⟨r0, r1, r2⟩, s0⟩ := hSw; go_simp; first | done | with_reducible rfl)
                refine gkp 11 ?_ (v := .bool true) (h := by intro W hSw; go_simp; first | done | with_reducible rfl)
                refine gkp 12 ?_ (v := .bool true) (h := by intro W hSw; go_simp; first | done | with_reducible rfl)
                refine gkp 13 ?_
                refine gkt 14 ?_ (h := by intro W hSw; obtain ⟨⟨r0, r1, r2⟩, s0⟩ := hSw; go_simp; first | done | with_reducible rfl)
                refine gkp 15 ?_
                refine gkt 16 ?_ (h := by intro W hSw; obtain ⟨⟨r0, r1, r2⟩, s0⟩ := hSw; go_simp; first | done | with_reducible rfl)
                refine gk1 17 (fun K hK => ?_)
                go_simp
                go_at_call 73; refine (PK.out _).mono ?_; rintro e w7 ⟨rfl, hb7⟩; have H7 := hid hb7; clear hb7; have hR : (fun W : World => (W.cell? ⟨wr.heap.size, 0, none⟩ = some (.int .i64 p.k) ∧ W.cell? ⟨wr.heap.size, 1, none⟩ = some (.slice p.xo p.xn p.xc) ∧ W.cell? ⟨wr.heap.size, 2, none⟩ = some (.slice p.po p.pn p.pc)) ∧ W.cell? ⟨w.heap.size, 0, none⟩ = some (.int .i64 s.k)) w7 := ⟨⟨keep_old H7.out hHeld.1.1, keep_old H7.out hHeld.1.2.1, keep_old H7.out hHeld.1.2.2⟩, keep_old H7.out hHeld.2⟩
                refine hK.out _ _ hR (fun hHeld => ?_)
                clear hK K
                (try simp only [Act.put, sA, sZ, sS])
                refine gkp 18 ?_ (v := .bool false) (h := by intro W hSw; go_simp; first | done | with_reducible rfl)
                refine gkp 19 ?_ (v := .bool false) (h := by intro W hSw; go_simp; first | done | with_reducible rfl)
                refine gkp 20 ?_ (v := .bool false) (h := by intro W hSw; go_simp; first | done | with_reducible rfl)
                refine gkp 21 ?_ (v := .bool false) (h := by intro W hSw; go_simp; first | done | with_reducible rfl)
                refine gkt 22 ?_ (h := by intro W hSw; obtain ⟨⟨r0, r1, r2⟩, s0⟩ := hSw; go_simp; first | done | with_reducible rfl)
                refine gk1 23 (fun K hK => ?_)
                go_simp
                go_at_call 48; refine (IHP.out _ (gt F1.out (undrew H7.out))).mono ?_; rintro e w8 ⟨rfl, hb8⟩; have H8 := hid hb8; clear hb8; have hR : (fun W : World => (W.cell? ⟨wr.heap.size, 0, none⟩ = some (.int .i64 p.k) ∧ W.cell? ⟨wr.heap.size, 1, none⟩ = some (.slice p.xo p.xn p.xc) ∧ W.cell? ⟨wr.heap.size, 2, none⟩ = some (.slice p.po p.pn p.pc)) ∧ W.cell? ⟨w.heap.size, 0, none⟩ = some (.int .i64 s.k)) w8 := ⟨⟨keep_old H8.out hHeld.1.1, keep_old H8.out hHeld.1.2.1, keep_old H8.out hHeld.1.2.2⟩, keep_old H8.out hHeld.2⟩
                refine hK.out _ _ hR (fun hHeld => ?_)
                clear hK K
                (try simp only [Act.put, sA, sZ, sS])
                refine gkp 24 ?_ (v := .bool false) (h := by intro W hSw; go_simp; first | done | with_reducible rfl)
                refine gkp 25 ?_ (v := .bool false) (h := by intro W hSw; go_simp; first | done | with_reducible rfl)
                refine wpAnyK_done (by kernel_rfl) ?_ _
                go_wp2
                go_roundw
                case measure => simp [intOf]; omega
                case rel => exact ⟨i + 1, by omega, by go_num, hid (by rw [HP.out, HO.out, e1.out, HRR.out]; simp), hid (gt F1.out (undrew (gt H7.out H8.out))), hid (Bx.keep (show Bx (wr.alloc (.cells #[.int .i64 (p).k, .slice (p).xo (p).xn (p).xc, .slice (p).po (p).pn (p).pc] 25)).drew w.heap.size s from B2.out) (gt H7.out H8.out))⟩
            · have e1 := hid (show (p.k == pk) = false by simp [h1])
              have m1 : (p.k != pk) = true := by simp [h1]
              go_wp2
              refine wp_region_K (S := (fun W : World => (W.cell? ⟨wr.heap.size, 0, none⟩ = some (.int .i64 p.k) ∧ W.cell? ⟨wr.heap.size, 1, none⟩ = some (.slice p.xo p.xn p.xc) ∧ W.cell? ⟨wr.heap.size, 2, none⟩ = some (.slice p.po p.pn p.pc)) ∧ W.cell? ⟨w.heap.size, 0, none⟩ = some (.int .i64 s.k))) (fun _ => false) (by kernel_rfl) (by exact ⟨⟨q0, q1, q2⟩, y0'⟩) (fun hHeld => ?_)
              refine gkp 0 ?_
              refine gkt 1 ?_ (h := by intro W hSw; obtain ⟨⟨r0, r1, r2⟩, s0⟩ := hSw; go_simp; first | done | with_reducible rfl)
              refine gkp 2 ?_ (v := .bool false) (h := by intro W hSw; go_simp; first | done | with_reducible rfl)
              refine gkp 3 ?_ (v := .bool false) (h := by intro W hSw; go_simp; first | done | with_reducible rfl)
              refine gku 4 ?_
              refine gku 5 ?_
              refine gku 6 ?_
              refine gkp 7 ?_ (v := .bool false) (h := by intro W hSw; go_simp; first | done | with_reducible rfl)
              refine gkp 8 ?_ (v := .bool false) (h := by intro W hSw; go_simp; first | done | with_reducible rfl)
              refine gkp 9 ?_
              refine gkt 10 ?_ (h := by intro W hSw; obtain ⟨⟨r0, r1, r2⟩, s0⟩ := hSw; go_simp; first | done | with_reducible rfl)
              refine gkp 11 ?_ (v := .bool true) (h := by intro W hSw; go_simp; first | done | with_reducible rfl)
              refine gkp 12 ?_ (v := .bool true) (h := by intro W hSw; go_simp; first | done | with_reducible rfl)
              refine gkp 13 ?_
              refine gkt 14 ?_ (h := by intro W hSw; obtain ⟨⟨r0, r1, r2⟩, s0⟩ := hSw; go_simp; first | done | with_reducible rfl)
              refine gkp 15 ?_
              refine gkt 16 ?_ (h := by intro W hSw; obtain ⟨⟨r0, r1, r2⟩, s0⟩ := hSw; go_simp; first | done | with_reducible rfl)
              refine gk1 17 (fun K hK => ?_)
              go_simp
              go_at_call 73; refine (PK.out _).mono ?_; rintro e w7 ⟨rfl, hb7⟩; have H7 := hid hb7; clear hb7; have hR : (fun W : World => (W.cell? ⟨wr.heap.size, 0, none⟩ = some (.int .i64 p.k) ∧ W.cell? ⟨wr.heap.size, 1, none⟩ = some (.slice p.xo p.xn p.xc) ∧ W.cell? ⟨wr.heap.size, 2, none⟩ = some (.slice p.po p.pn p.pc)) ∧ W.cell? ⟨w.heap.size, 0, none⟩ = some (.int .i64 s.k)) w7 := ⟨⟨keep_old H7.out hHeld.1.1, keep_old H7.out hHeld.1.2.1, keep_old H7.out hHeld.1.2.2⟩, keep_old H7.out hHeld.2⟩
              refine hK.out _ _ hR (fun hHeld => ?_)
              clear hK K
              (try simp only [Act.put, sA, sZ, sS])
              refine gkp 18 ?_ (v := .bool true) (h := by intro W hSw; go_simp; first | done | with_reducible rfl)
              refine gkp 19 ?_ (v := .bool true) (h := by intro W hSw; go_simp; first | done | with_reducible rfl)
              refine gkp 20 ?_ (v := .bool true) (h := by intro W hSw; go_simp; first | done | with_reducible rfl)
              refine gkp 21 ?_ (v := .bool true) (h := by intro W hSw; go_simp; first | done | with_reducible rfl)
              refine gku 22 ?_
              refine gku 23 ?_
              refine gku 24 ?_
              refine gkp 25 ?_ (v := .bool true) (h := by intro W hSw; go_simp; first | done | with_reducible rfl)
              refine wpAnyK_done (by kernel_rfl) ?_ _
              go_wp2
              go_ret
              exact ⟨by rw [HP.out, HO.out, e1.out]; rfl, gt F1.out (undrew H7.out)⟩
        · obtain rfl : i = s.pn := by omega
          have HP := hp0.out
          rw [List.drop_of_length_le (by rw [HI.out.here.pl]; omega)] at HP
          have HPP := hid HP
          clear HP
          go_wp2
          go_ret
          exact ⟨by rw [HPP.out]; rfl, hb.out⟩
end Go.Proofs.YtpmfedimjjifaaaDoor

/- Rows of points, and all points of a shape as the document has them; no statement of the seat is proved here. -/
namespace Go.Proofs.YtpmfedimjjifaaaDoor
open Go.RowKit Go.Maps

/-- Points as cells. -/
def pv (l : List (Int × Int)) : List Value := l.flatMap fun p => [.int .i64 p.1, .int .i64 p.2]
set_option maxRecDepth 100000 in
theorem pv_append (a b : List (Int × Int)) : pv (a ++ b) = pv a ++ pv b := by simp [pv]
set_option maxRecDepth 100000 in
theorem pv_len (l : List (Int × Int)) : (pv l).length = l.length * 2 := by
  induction l with
  | nil => rfl
  | cons a r ih => simp [pv] at ih ⊢; omega
set_option maxRecDepth 100000 in
theorem pv_one (l : List (Int × Int)) : ∀ u ∈ pv l, u.oneCell' = true := by
  intro u hu
  simp [pv] at hu
  obtain ⟨a, b, _, rfl | rfl⟩ := hu <;> rfl
set_option maxRecDepth 100000 in
theorem pv_at (l : List (Int × Int)) : ∀ i p, l[i]? = some p → (pv l)[i * 2]? = some (.int .i64 p.1) ∧ (pv l)[i * 2 + 1]? = some (.int .i64 p.2) := by
  induction l with
  | nil => intro i p h; simp at h
  | cons a r ih =>
    intro i p h
    have e : pv (a :: r) = [.int .i64 a.1, .int .i64 a.2] ++ pv r := rfl
    cases i with
    | zero => simp at h; subst h; simp [e]
    | succ i =>
      simp at h
      have h2 := ih i p h
      rw [e]
      have f : ∀ j, ([Value.int .i64 a.1, .int .i64 a.2] ++ pv r)[j + 2]? = (pv r)[j]? := fun j => by simp
      rw [show (i + 1) * 2 = i * 2 + 2 by omega, show i * 2 + 2 + 1 = (i * 2 + 1) + 2 by omega, f, f]
      exact h2
set_option maxRecDepth 100000 in
theorem pv_get (l : List (Int × Int)) (j : Nat) (u : Value) (h : (pv l)[j]? = some u) : ∃ i p, l[i]? = some p ∧ ((j = i * 2 ∧ u = .int .i64 p.1) ∨ (j = i * 2 + 1 ∧ u = .int .i64 p.2)) := by
  have hj : j < l.length * 2 := by have := (List.getElem?_eq_some_iff.1 h).1; rw [pv_len] at this; exact this
  have hi : j / 2 < l.length := by omega
  obtain ⟨h0, h1⟩ := pv_at l (j / 2) _ (List.getElem?_eq_getElem hi)
  refine ⟨j / 2, _, List.getElem?_eq_getElem hi, ?_⟩
  rcases Nat.mod_two_eq_zero_or_one j with hm | hm
  · have e : j = j / 2 * 2 := by omega
    rw [e, h0] at h
    exact .inl ⟨e, by simpa using h.symm⟩
  · have e : j = j / 2 * 2 + 1 := by omega
    rw [e, h1] at h
    exact .inr ⟨e, by simpa using h.symm⟩
set_option maxRecDepth 100000 in
theorem info41 : (Tryd.prog.info? 34).map (fun i => (i.zero, i.size, i.bytes)) = some (some (.agg #[.int .i64 0, .int .i64 0]), 2, 16) := by kernel_rfl
set_option maxRecDepth 100000 in
theorem xr_own {w : World} {B cap : Nat} {ao : Option Addr} {n : Nat} {l : List (Int × Int)} (h : w.ownsRow B 34 2 (.slice ao n cap) n (pv l)) (hl : l.length = n) : XR (fun b => B ≤ b ∧ b < w.heap.size) w ao l := by
  rcases h.2 with ⟨h1, h2⟩ | ⟨g, cap', cur, h1, hb, hg, hc, hm, hz, ht⟩
  · exact .inl (List.length_eq_zero_iff.1 (by omega))
  · refine .inr ⟨g, 0, by simp at h1; exact h1.1, ⟨hb, (Array.getElem?_eq_some_iff.1 hg).1⟩, fun i p hi => ?_⟩
    have hlt : i < l.length := (List.getElem?_eq_some_iff.1 hi).1
    have e : ∀ j, j < n * 2 → w.cell? ⟨g, j, none⟩ = (pv l)[j]? := fun j hj => by
      have h := h
      simp only [Value.slice.injEq] at h1
      rw [h1.1] at h
      exact h.cellAt j hj
    obtain ⟨c1, c2⟩ := pv_at l i p hi
    exact ⟨by rw [show 0 + i * 2 = i * 2 by omega, e _ (by omega)]; exact c1, by rw [show 0 + i * 2 + 1 = i * 2 + 1 by omega, e _ (by omega)]; exact c2⟩

set_option maxRecDepth 100000 in
theorem append_pts {w : World} {ops : Array Oper} {rest : List Oper} {o : Oper} {a : Act} {Q : Exit → Act → World → Prop} (hgd : o.guard = none) (s x : Operand)
    (ho : o.op = .call { callee := .builtin .append, args := #[s, x], argTypes := #[22, 22] }) (B : Nat) (v : Value) (n : Nat) (xs : List (Int × Int)) (hs : a.eval s = v) (hown : w.ownsRow B 34 2 v n (pv xs))
    (S : Nat → Prop) (ao : Option Addr) (m c : Nat) (ys : List (Int × Int)) (hx : a.eval x = .slice ao m c) (hr : XR S w ao ys) (hl : ys.length = m) (h0 : ao = none → m = 0 ∧ c = 0) (hb : n + m ≤ 1000000000) (hB : B ≤ w.heap.size)
    (h : ∀ v' w', w'.ownsRow B 34 2 v' (n + m) (pv (xs ++ ys)) → Below B w w' → w.grownBy w' v.ownBlock → wpList Tryd.prog ops Q rest (a.put o.dst v') w') : wpList Tryd.prog ops Q (o :: rest) a w := by
  obtain ⟨i5, hi5, hz0, hz1, hz2⟩ := info_parts info41
  cases ao with
  | none =>
    obtain ⟨rfl, rfl⟩ := h0 rfl
    obtain rfl : ys = [] := List.eq_nil_of_length_eq_zero hl
    refine wpList_append_own_none hgd s x 22 ho B 34 i5 2 Tryd.underlying22 hi5 v n (pv xs) hs hown hx ?_
    exact h v w (by simpa using hown) (Below.refl _ _) ⟨rfl, rfl, rfl, Nat.le_refl _, fun _ _ _ => rfl⟩
  | some ad =>
    refine wpList_append_own w hgd s x 22 ho B 34 i5 (.agg #[.int .i64 0, .int .i64 0]) 2 16 Tryd.underlying22 hi5 hz0 hz1 hz2 rfl (by decide) v n (pv xs) hs hown ad m c (pv ys) hx (by rw [pv_len, hl]) ?_ (pv_one ys) (by unfold maxLen; omega) (by omega) hB ?_
    · intro j u hu
      obtain ⟨i, p, hi, hj⟩ := pv_get ys j u hu
      rcases hr with rfl | ⟨b, off, e, _, hat⟩
      · simp at hi
      · simp only [Option.some.injEq] at e
        subst e
        obtain ⟨c0, c1⟩ := hat i p hi
        rw [Addr.add_lit]
        rcases hj with ⟨rfl, rfl⟩ | ⟨rfl, rfl⟩
        · exact c0
        · rw [← Nat.add_assoc]; exact c1
    · intro v' w' h1 h2 _
      exact h v' w' (by rw [pv_append]; exact h1) ((Below.refl B w).grown h2 hB fun k hk => (hown.lt k hk).1) h2

/-- All points of a shape. -/
def ptsOf (s : Sh) : List (Int × Int) := s.nodes.flatMap Sh.xy
set_option maxRecDepth 100000 in
theorem nodesL_map {β : Type} (f : Sh → List β) (l : List Sh) : (nodesL l).flatMap f = l.flatMap fun p => p.nodes.flatMap f := by
  induction l with
  | nil => rw [nodesL]; rfl
  | cons a r ih => rw [nodesL, List.flatMap_append, ih]; rfl
set_option maxRecDepth 100000 in
theorem ptsOf_eq (s : Sh) : ptsOf s = s.xy ++ s.ps.flatMap ptsOf := by
  unfold ptsOf
  rw [nodes_eq, List.flatMap_cons, nodesL_map]
/-- What was taken ahead of the i-th part. -/
def preP (s : Sh) (i : Nat) : List (Int × Int) := s.xy ++ (s.ps.take i).flatMap ptsOf
set_option maxRecDepth 100000 in
theorem preP_snoc {s p : Sh} {i : Nat} (h : s.ps[i]? = some p) : preP s (i + 1) = preP s i ++ ptsOf p := by
  unfold preP
  rw [List.take_add_one, h, List.flatMap_append, List.append_assoc]
  simp
set_option maxRecDepth 100000 in
theorem preP_all (s : Sh) : preP s s.ps.length = ptsOf s := by unfold preP; rw [List.take_length, ptsOf_eq]
set_option maxRecDepth 100000 in
theorem preP_le (s : Sh) (i : Nat) : (preP s i).length ≤ (ptsOf s).length := by
  unfold preP
  rw [ptsOf_eq, List.length_append, List.length_append]
  conv => rhs; rw [← List.take_append_drop i s.ps, List.flatMap_append, List.length_append]
  omega
set_option maxRecDepth 100000 in
theorem ptsOf_part {s p : Sh} {i : Nat} (h : s.ps[i]? = some p) : (preP s i).length + (ptsOf p).length ≤ (ptsOf s).length := by
  have := preP_le s (i + 1)
  rw [preP_snoc h, List.length_append] at this
  exact this

set_option maxRecDepth 100000 in
theorem own_none {w : World} {base cap : Nat} {e : TypeId} {size : Nat} {ao : Option Addr} {n : Nat} {xs : List Value} (h : w.ownsRow base e size (.slice ao n cap) n xs) (ha : ao = none) : n = 0 ∧ cap = 0 := by
  rcases h.2 with ⟨h1, h2⟩ | ⟨g, cap', cur, h1, _⟩
  · simp at h1; exact ⟨h2, h1.2.2⟩
  · rw [ha] at h1; simp at h1

def RaI (s : Sh) (w : World) (v c : Value) (W : World) : Prop := ∃ i : Nat, i ≤ s.pn ∧ c = .int .i64 (i : Int) ∧ Hid (W.ownsRow (w.heap.size + 1) 34 2 v (preP s i).length (pv (preP s i))) ∧ Hid (Below (w.heap.size + 1) (w.alloc (.cells #[.int .i64 (s).k, .slice (s).xo (s).xn (s).xc, .slice (s).po (s).pn (s).pc] 25)) W)
set_option maxRecDepth 100000 in
set_option maxHeartbeats 8000000 in
theorem refAll_call : ∀ (N : Nat) (s : Sh), s.nodes.length ≤ N → (ptsOf s).length ≤ 4000 → ∀ (w : World), In (fun b => b < w.heap.size) w s →
    Calls Tryd.prog 32 #[.agg #[.int .i64 (s).k, .slice (s).xo (s).xn (s).xc, .slice (s).po (s).pn (s).pc]] w fun e w' => (∃ ao c, e = .returned (.slice ao (ptsOf s).length c) ∧ (ao = none → (ptsOf s).length = 0 ∧ c = 0) ∧ XR (fun b => w.heap.size ≤ b ∧ b < w'.heap.size) w' ao (ptsOf s)) ∧ Below w.heap.size w w' := by
  intro N
  induction N with
  | zero => intro s h; rw [nodes_eq] at h; simp at h
  | succ N ih =>
    intro s hs h4 w hI
    have IH := hid ih
    have HS := hid hs
    have HI := hid hI
    have H4 := hid h4
    have B1 := hid (Bx.new w s)
    have b0 : Hid (Below w.heap.size w (w.alloc (.cells #[.int .i64 (s).k, .slice (s).xo (s).xn (s).xc, .slice (s).po (s).pn (s).pc] 25))) := hid (ext1 _)
    obtain ⟨x0, x1, x2⟩ := B1.out.cells
    have hxn := hI.here.lenI
    have HX4 := hid (show s.xn ≤ 4000 by have := preP_le s 0; have h2 := hI.here.xl; unfold preP at this; rw [List.take_zero, List.flatMap_nil, List.append_nil] at this; omega)
    have OW := hid (World.ownsRow_lit (base := w.heap.size + 1) (size := 2) (e := 34) (w.alloc (.cells #[.int .i64 (s).k, .slice (s).xo (s).xn (s).xc, .slice (s).po (s).pn (s).pc] 25)) #[] 0 (by simp) (by unfold maxLen; omega) rfl)
    rw [World.size_alloc] at OW
    have XH := hid (hI.here.xr.of (w' := (w.alloc (.cells #[.int .i64 (s).k, .slice (s).xo (s).xn (s).xc, .slice (s).po (s).pn (s).pc] 25)).alloc (.cells #[] 34)) (T := fun b => b < w.heap.size) fun b hb => ⟨(below2 (w := w)).block b hb, hb⟩)
    clear ih hs hI h4
    go_enter Tryd.func32, Tryd.ntmps32
    go_wp2_with ((with_reducible refine here_op 9 ?_); refine append_pts rfl (.tmp 6) (.tmp 8) rfl (w.heap.size + 1) _ 0 [] rfl OW.out (fun b => b < w.heap.size) s.xo s.xn s.xc s.xy rfl XH.out HI.out.here.xl HI.out.here.x0 (by have := HX4.out; omega) (by simp only [World.size_alloc]; omega) ?_; intro v1 w1 ho1 hb1 _; have O1 := hid ho1; have K1 : Hid (Below (w.heap.size + 1) (w.alloc (.cells #[.int .i64 (s).k, .slice (s).xo (s).xn (s).xc, .slice (s).po (s).pn (s).pc] 25)) w1) := hid ((Below.mono (ext1 (w := w.alloc (.cells #[.int .i64 (s).k, .slice (s).xo (s).xn (s).xc, .slice (s).po (s).pn (s).pc] 25)) (.cells #[] 34)) (by simp only [World.size_alloc]; omega)).trans hb1); clear ho1 hb1; have D1 := hid (show Bx w1 w.heap.size s from (K1.out.block w.heap.size (by omega)).trans B1.out); obtain ⟨y0, y1, y2⟩ := D1.out.cells)
    go_loopw [3, 13] (RaI s w) (fun _ c _ => s.pn - (intOf c).toNat)
    case atStart =>
      refine ⟨0, by omega, rfl, hid ?_, K1⟩
      have h := O1.out
      rw [List.nil_append, Nat.zero_add] at h
      unfold preP
      rw [List.take_zero, List.flatMap_nil, List.append_nil, HI.out.here.xl]
      exact h
    case round =>
      clear x0 x1 x2 y0 y1 y2 D1 K1 O1 OW XH
      obtain ⟨i, hi, rfl, hO, hb⟩ := hrel
      obtain ⟨va, vc, rfl⟩ := row_form hO.out
      have B2 := hid (show Bx wr w.heap.size s from (hb.out.block _ (by omega)).trans B1.out)
      obtain ⟨y0, y1, y2⟩ := B2.out.cells
      have hwr := hb.out.size
      rw [World.size_alloc] at hwr
      by_cases hik : i < s.pn
      · obtain ⟨p, hp⟩ : ∃ p, s.ps[i]? = some p := ⟨_, List.getElem?_eq_getElem (by rw [HI.out.here.pl]; exact hik)⟩
        obtain ⟨b, off, hpo, hbl, hat⟩ := HI.out.here.pr.resolve_left (by intro e; rw [e] at hp; simp at hp)
        obtain ⟨z0, z1, z2⟩ := (hat i p hp).of (w' := wr) ((hb.out.block b (by omega)).trans (b0.out.block b hbl))
        rw [hpo] at *
        have PS := hid (preP_snoc hp)
        have PP := hid (ptsOf_part hp)
        have hpm := List.mem_of_getElem? hp
        have BW : Below w.heap.size w wr := b0.out.trans (hb.out.mono (by omega))
        have CC := hid (IH.out p (by have := nodes_lt hpm; have := HS.out; omega) (by have := PP.out; have := H4.out; omega) (wr.alloc (.cells #[.int .i64 (p).k, .slice (p).xo (p).xn (p).xc, .slice (p).po (p).pn (p).pc] 25)) ((HI.out.part hpm).grow (gt BW (ext1 _))))
        have BP0 := hid (Bx.new wr p)
        obtain ⟨q0, q1, q2⟩ := BP0.out.cells
        have y0' := keep_old (ext1 (.cells #[.int .i64 (p).k, .slice (p).xo (p).xn (p).xc, .slice (p).po (p).pn (p).pc] 25)) y0; have y1' := keep_old (ext1 (.cells #[.int .i64 (p).k, .slice (p).xo (p).xn (p).xc, .slice (p).po (p).pn (p).pc] 25)) y1; have y2' := keep_old (ext1 (.cells #[.int .i64 (p).k, .slice (p).xo (p).xn (p).xc, .slice (p).po (p).pn (p).pc] 25)) y2
        have H44 := hid (show (preP s i).length + (ptsOf p).length ≤ 4000 by have := PP.out; have := H4.out; omega)
        clear hat hpo hp hpm BW
        generalize hl1 : (preP s i).length = n1 at *
        generalize hl2 : (ptsOf p).length = n2 at *
        have L1 := hid hl1; have L2 := hid hl2
        clear hl1 hl2
        go_wp2_with (first
          | (go_at_call 32; refine CC.out.mono ?_; rintro e w2 ⟨⟨ao, c, rfl, h0, hx⟩, hb2⟩; have H2 := hid hb2; have X2 := hid hx; have Z2 := hid h0; clear hb2 hx h0; have O2 := hid (own_below (own_below hO.out (ext1 (.cells #[.int .i64 (p).k, .slice (p).xo (p).xn (p).xc, .slice (p).po (p).pn (p).pc] 25))) H2.out); have hz2 := H2.out.size; simp only [World.size_alloc] at hz2)
          | ((with_reducible refine here_op 20 ?_); refine append_pts rfl (.tmp 17) (.tmp 19) rfl (w.heap.size + 1) _ n1 _ rfl O2.out _ ao n2 c (ptsOf p) rfl X2.out L2.out Z2.out (by have := H44.out; omega) (by omega) ?_; intro v3 w3 ho3 hb3 _; have O3 := hid ho3; have K3 := hid hb3; clear ho3 hb3))
        go_roundw
        case measure => simp [intOf]; omega
        case rel =>
          refine ⟨i + 1, by omega, by go_num, hid ?_, hid ?_⟩
          · rw [PS.out, List.length_append, L1.out, L2.out]; exact O3.out
          · exact ((hb.out.trans ((ext1 _).mono (by omega))).trans (H2.out.mono (by simp only [World.size_alloc]; omega))).trans K3.out
      · obtain rfl : i = s.pn := by omega
        have e : preP s s.pn = ptsOf s := by rw [← HI.out.here.pl]; exact preP_all s
        have E := hid e
        clear e
        go_wp2
        go_ret
        have O9 := hO.out
        rw [E.out] at O9 ⊢
        replace hO := hid O9
        exact ⟨⟨va, vc, rfl, own_none hO.out, (xr_own hO.out rfl).of fun b hb => ⟨rfl, by omega, hb.2⟩⟩, b0.out.trans (hb.out.mono (by omega))⟩
end Go.Proofs.YtpmfedimjjifaaaDoor
