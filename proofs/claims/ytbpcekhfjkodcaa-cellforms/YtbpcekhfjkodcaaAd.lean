/- What goodInLeaf, goodAbove and rises return; no statement of the seat is proved here. -/
import Derived.Test.YtbpcekhfjkodcaaAc
import Derived.Test.YtbpcekhfjkodcaaKk
namespace Go.Proofs.Ytbpcekhfjkodcaa
open Go.RowKit

def pagedB (p : Int) : Bool := decide (1 ≤ p) && decide (p ≤ 4000)
def payB (l : Int) : Bool := decide (0 ≤ l) && decide (l ≤ 20000)
/-- May a leaf have the cell? -/
def leafB (a : C) : Bool := a.c == 0 && (payB a.l && ((a.b.length : Int) == (locN a.l : Int) && (if spillB a then pagedB a.x else a.x == 0)))
/-- May another node have it? -/
def aboveB (a : C) : Bool := pagedB a.c && (a.l == 0 && ((a.b.length : Int) == 0 && a.x == 0))
def cellB (leaf : Bool) (a : C) : Bool := if leaf then leafB a else aboveB a

set_option maxHeartbeats 2000000 in
theorem above_any (a : C) (w : World) (hn : a.b.length = a.n) : Calls Try.prog 41 #[.agg #[.int .i64 (a).k, .int .i64 (a).c, .int .i64 (a).l, .slice (a).o (a).n (a).m, .int .i64 (a).x]] w fun e w' => e = .returned (.bool (aboveB a)) ∧ Below w.heap.size w w' := by
  have cp := hid (paged_any a.c)
  change Hid (∀ w, Calls Try.prog 40 #[.int .i64 a.c] w fun e w' => e = .returned (.bool (pagedB a.c)) ∧ w' = w) at cp
  unfold aboveB
  rw [hn]
  clear hn
  generalize pagedB a.c = P at *
  cases P <;> cases h1 : (a.l == 0) <;> cases h2 : ((a.n : Int) == 0) <;> cases h3 : (a.x == 0)
  all_goals
    go_enter Try.func41, Try.ntmps41
    go_wp2_with (go_at_call 40; refine (cp.out _).mono ?_; rintro e w1 ⟨rfl, hw⟩; obtain rfl := hw.symm)
    go_ret
    exact ⟨rfl, ext1 _⟩

set_option maxHeartbeats 2000000 in
theorem inleaf_any (a : C) (w : World) (hn : a.b.length = a.n) : Calls Try.prog 39 #[.agg #[.int .i64 (a).k, .int .i64 (a).c, .int .i64 (a).l, .slice (a).o (a).n (a).m, .int .i64 (a).x]] w fun e w' => e = .returned (.bool (leafB a)) ∧ Below w.heap.size w w' := by
  have cp := hid (paged_any a.x)
  change Hid (∀ w, Calls Try.prog 40 #[.int .i64 a.x] w fun e w' => e = .returned (.bool (pagedB a.x)) ∧ w' = w) at cp
  have cy := hid (payable_any a.l)
  change Hid (∀ w, Calls Try.prog 49 #[.int .i64 a.l] w fun e w' => e = .returned (.bool (payB a.l)) ∧ w' = w) at cy
  have cl := hid (local_any a.l)
  have cs := hid (fun w => spills_any a w hn)
  unfold leafB
  rw [hn]
  clear hn
  have g1 : S5 w.heap.size a (w.alloc (.cells #[.int .i64 a.k, .int .i64 a.c, .int .i64 a.l, .slice a.o a.n a.m, .int .i64 a.x] 57)).drew := (S5.new 57 w a).keep (Below.refl _ _).drew
  have B0 : Hid (Below w.heap.size w (w.alloc (.cells #[.int .i64 a.k, .int .i64 a.c, .int .i64 a.l, .slice a.o a.n a.m, .int .i64 a.x] 57)).drew) := hid (ext1 _).drew
  generalize pagedB a.x = P at *
  generalize payB a.l = Y at *
  generalize ((locN a.l : Nat) : Int) = L at *
  obtain ⟨V, hV⟩ : ∃ V, V = (a.c == 0 && (Y && ((a.n : Int) == L && (if spillB a then P else a.x == 0)))) := ⟨_, rfl⟩
  rw [← hV]
  cases h1 : (a.c == 0)
  · have h1x : Hid (¬ a.c = 0) := hid (by simpa using h1)
    obtain rfl : V = false := by rw [hV, h1]; rfl
    clear h1 hV
    go_enter Try.func39, Try.ntmps39
    go_upto_region 1 with fail
    refine wp_region_K (S := S5 w.heap.size a) (fun _ => false) (by kernel_rfl) (g1) (fun hHeld => ?_)
    refine gkp 0 ?_
    refine gkt 1 ?_ (h := by intro W hSw; obtain ⟨y0, y1, y2, y3, y4⟩ := hSw; go_simp; first | done | with_reducible rfl)
    refine gkp 2 ?_ (v := .bool true) (h := by intro W hSw; go_simp <;> simp [h1x.out])
    refine gkp 3 ?_
    refine gku 4 ?_
    refine gku 5 ?_
    refine gku 6 ?_
    refine gku 7 ?_
    refine gkp 8 ?_
    refine gkp 9 ?_
    refine gku 10 ?_
    refine gku 11 ?_
    refine gku 12 ?_
    refine gku 13 ?_
    refine gku 14 ?_
    refine gku 15 ?_
    refine gku 16 ?_
    refine gkp 17 ?_
    refine wpAnyK_done (by kernel_rfl) ?_ _
    go_wp2
    go_ret
    exact ⟨rfl, B0.out⟩
  · have h1x : Hid (a.c = 0) := hid (by simpa using h1)
    rw [h1] at hV
    clear h1
    cases Y
    · obtain rfl : V = false := hV
      go_enter Try.func39, Try.ntmps39
      go_upto_region 1 with fail
      refine wp_region_K (S := S5 w.heap.size a) (fun _ => false) (by kernel_rfl) (g1) (fun hHeld => ?_)
      refine gkp 0 ?_
      refine gkt 1 ?_ (h := by intro W hSw; obtain ⟨y0, y1, y2, y3, y4⟩ := hSw; go_simp; first | done | with_reducible rfl)
      refine gkp 2 ?_ (v := .bool false) (h := by intro W hSw; go_simp <;> simp [h1x.out])
      refine gkp 3 ?_
      refine gkp 4 ?_
      refine gkt 5 ?_ (h := by intro W hSw; obtain ⟨y0, y1, y2, y3, y4⟩ := hSw; go_simp; first | done | with_reducible rfl)
      refine gk1 6 (fun K hK => ?_)
      go_simp
      go_at_call 49; refine (cy.out _).mono ?_; rintro e w1 ⟨rfl, hw⟩; obtain rfl := hw.symm; have hR := hHeld
      refine hK.out _ _ hR (fun hHeld => ?_)
      clear hK K
      (try simp only [Act.put, sA, sZ, sS])
      refine gkp 7 ?_
      refine gkp 8 ?_
      refine gkp 9 ?_
      refine gku 10 ?_
      refine gku 11 ?_
      refine gku 12 ?_
      refine gku 13 ?_
      refine gku 14 ?_
      refine gku 15 ?_
      refine gku 16 ?_
      refine gkp 17 ?_
      refine wpAnyK_done (by kernel_rfl) ?_ _
      go_wp2
      go_ret
      exact ⟨rfl, B0.out⟩
    · cases h2 : ((a.n : Int) == L)
      · have h2x : Hid (¬ (a.n : Int) = L) := hid (by simpa using h2)
        obtain rfl : V = false := by rw [hV, h2]; rfl
        clear h2 hV
        go_enter Try.func39, Try.ntmps39
        go_upto_region 1 with fail
        refine wp_region_K (S := S5 w.heap.size a) (fun _ => false) (by kernel_rfl) (g1) (fun hHeld => ?_)
        refine gkp 0 ?_
        refine gkt 1 ?_ (h := by intro W hSw; obtain ⟨y0, y1, y2, y3, y4⟩ := hSw; go_simp; first | done | with_reducible rfl)
        refine gkp 2 ?_ (v := .bool false) (h := by intro W hSw; go_simp <;> simp [h1x.out])
        refine gkp 3 ?_
        refine gkp 4 ?_
        refine gkt 5 ?_ (h := by intro W hSw; obtain ⟨y0, y1, y2, y3, y4⟩ := hSw; go_simp; first | done | with_reducible rfl)
        refine gk1 6 (fun K hK => ?_)
        go_simp
        go_at_call 49; refine (cy.out _).mono ?_; rintro e w1 ⟨rfl, hw⟩; obtain rfl := hw.symm; have hR := hHeld
        refine hK.out _ _ hR (fun hHeld => ?_)
        clear hK K
        (try simp only [Act.put, sA, sZ, sS])
        refine gkp 7 ?_
        refine gkp 8 ?_
        refine gkp 9 ?_
        refine gkp 10 ?_
        refine gkt 11 ?_ (h := by intro W hSw; obtain ⟨y0, y1, y2, y3, y4⟩ := hSw; go_simp; first | done | with_reducible rfl)
        refine gkp 12 ?_
        refine gkp 13 ?_
        refine gkt 14 ?_ (h := by intro W hSw; obtain ⟨y0, y1, y2, y3, y4⟩ := hSw; go_simp; first | done | with_reducible rfl)
        refine gk1 15 (fun K hK => ?_)
        go_simp
        go_at_call 28; refine (cl.out _).mono ?_; rintro e w1 ⟨rfl, hw⟩; obtain rfl := hw.symm; have hR := hHeld
        refine hK.out _ _ hR (fun hHeld => ?_)
        clear hK K
        (try simp only [Act.put, sA, sZ, sS])
        refine gkp 16 ?_ (v := .bool true) (h := by intro W hSw; go_simp <;> simp [h2x.out])
        refine gkp 17 ?_
        refine wpAnyK_done (by kernel_rfl) ?_ _
        go_wp2
        go_ret
        exact ⟨rfl, B0.out⟩
      · have h2x : Hid ((a.n : Int) = L) := hid (by simpa using h2)
        rw [h2] at hV
        clear h2
        generalize spillB a = Sp at *
        replace hV := hid hV
        go_enter Try.func39, Try.ntmps39
        go_upto_region 1 with fail
        refine wp_region_K (S := S5 w.heap.size a) (fun _ => false) (by kernel_rfl) (g1) (fun hHeld => ?_)
        refine gkp 0 ?_
        refine gkt 1 ?_ (h := by intro W hSw; obtain ⟨y0, y1, y2, y3, y4⟩ := hSw; go_simp; first | done | with_reducible rfl)
        refine gkp 2 ?_ (v := .bool false) (h := by intro W hSw; go_simp <;> simp [h1x.out])
        refine gkp 3 ?_
        refine gkp 4 ?_
        refine gkt 5 ?_ (h := by intro W hSw; obtain ⟨y0, y1, y2, y3, y4⟩ := hSw; go_simp; first | done | with_reducible rfl)
        refine gk1 6 (fun K hK => ?_)
        go_simp
        go_at_call 49; refine (cy.out _).mono ?_; rintro e w1 ⟨rfl, hw⟩; obtain rfl := hw.symm; have hR := hHeld
        refine hK.out _ _ hR (fun hHeld => ?_)
        clear hK K
        (try simp only [Act.put, sA, sZ, sS])
        refine gkp 7 ?_
        refine gkp 8 ?_
        refine gkp 9 ?_
        refine gkp 10 ?_
        refine gkt 11 ?_ (h := by intro W hSw; obtain ⟨y0, y1, y2, y3, y4⟩ := hSw; go_simp; first | done | with_reducible rfl)
        refine gkp 12 ?_
        refine gkp 13 ?_
        refine gkt 14 ?_ (h := by intro W hSw; obtain ⟨y0, y1, y2, y3, y4⟩ := hSw; go_simp; first | done | with_reducible rfl)
        refine gk1 15 (fun K hK => ?_)
        go_simp
        go_at_call 28; refine (cl.out _).mono ?_; rintro e w1 ⟨rfl, hw⟩; obtain rfl := hw.symm; have hR := hHeld
        refine hK.out _ _ hR (fun hHeld => ?_)
        clear hK K
        (try simp only [Act.put, sA, sZ, sS])
        refine gkp 16 ?_ (v := .bool false) (h := by intro W hSw; go_simp <;> simp [h2x.out])
        refine gkp 17 ?_
        refine wpAnyK_done (by kernel_rfl) ?_ _
        cases Sp <;> cases h3 : (a.x == 0)
        all_goals
          rw [h3] at hV
          go_wp2_with (first | (go_at_call 67; refine (cs.out _).mono ?_; rintro e w1 ⟨rfl, hb⟩; have H1 := hid hb; have x4 := keep_old hb g1.2.2.2.2; clear hb) | (go_at_call 40; refine (cp.out _).mono ?_; rintro e w1 ⟨rfl, hw⟩; obtain rfl := hw.symm))
          go_ret
          exact ⟨by rw [hV.out]; rfl, gt B0.out H1.out⟩

end Go.Proofs.Ytbpcekhfjkodcaa
