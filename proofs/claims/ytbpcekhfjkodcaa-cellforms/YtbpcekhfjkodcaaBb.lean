/- What the document's own right returns; no statement of the seat is proved here. -/
import Derived.Test.YtbpcekhfjkodcaaBa
import Derived.Test.YtbpcekhfjkodcaaKk
namespace Go.Proofs.Ytbpcekhfjkodcaa
open Go.RowKit

set_option maxHeartbeats 2000000 in
theorem rabove_any (a : C) (w : World) (hn : a.b.length = a.n) : Calls Try.prog 43 #[.agg #[.int .i64 (a).k, .int .i64 (a).c, .int .i64 (a).l, .slice (a).o (a).n (a).m, .int .i64 (a).x], .bool false] w fun e w' => e = .returned (.bool (aboveB a)) ∧ Below w.heap.size w w' := by
  have cp := hid (rpage_any a.c)
  unfold aboveB
  rw [hn]
  clear hn
  generalize pagedB a.c = P at *
  cases P <;> cases h1 : (a.l == 0) <;> cases h2 : ((a.n : Int) == 0) <;> cases h3 : (a.x == 0)
  all_goals
    go_enter Try.func43, Try.ntmps43
    go_wp2_with (go_at_call 42; refine (cp.out _).mono ?_; rintro e w1 ⟨rfl, hw⟩; obtain rfl := hw.symm)
    go_ret
    exact ⟨rfl, ext1 _⟩

set_option maxHeartbeats 4000000 in
theorem rinleaf_any (a : C) (w : World) (hn : a.b.length = a.n) : Calls Try.prog 43 #[.agg #[.int .i64 (a).k, .int .i64 (a).c, .int .i64 (a).l, .slice (a).o (a).n (a).m, .int .i64 (a).x], .bool true] w fun e w' => e = .returned (.bool (leafB a)) ∧ Below w.heap.size w w' := by
  have cp := hid (rpage_any a.x)
  have cl := hid (rlocal_any a.l)
  obtain ⟨V, hV⟩ : ∃ V, V = leafB a := ⟨_, rfl⟩
  rw [← hV]
  unfold leafB spillB at hV
  rw [hn] at hV
  clear hn
  have g1 : S5 w.heap.size a (w.alloc (.cells #[.int .i64 a.k, .int .i64 a.c, .int .i64 a.l, .slice a.o a.n a.m, .int .i64 a.x] 69)).drew := (S5.new 69 w a).keep (Below.refl _ _).drew
  have B0 : Hid (Below w.heap.size w (w.alloc (.cells #[.int .i64 a.k, .int .i64 a.c, .int .i64 a.l, .slice a.o a.n a.m, .int .i64 a.x] 69)).drew) := hid (ext1 _).drew
  generalize pagedB a.x = P at *
  generalize ((locN a.l : Nat) : Int) = L at *
  unfold payB at hV
  have hcs : (¬ a.c = 0 ∧ V = false) ∨ (a.c = 0 ∧ a.l < 0 ∧ V = false) ∨ (a.c = 0 ∧ 0 ≤ a.l ∧ 20000 < a.l ∧ V = false) ∨ (a.c = 0 ∧ 0 ≤ a.l ∧ a.l ≤ 20000 ∧ ¬ (a.n : Int) = L ∧ V = false) ∨
      (a.c = 0 ∧ 0 ≤ a.l ∧ a.l ≤ 20000 ∧ (a.n : Int) = L ∧ V = if (a.n : Int) < a.l then P else a.x == 0) := by
    by_cases h1 : a.c = 0
    · right
      by_cases h2 : a.l < 0
      · left; refine ⟨h1, h2, ?_⟩; rw [hV]; simp [show ¬ 0 ≤ a.l by omega]
      · right
        by_cases h3 : 20000 < a.l
        · left; refine ⟨h1, by omega, h3, ?_⟩; rw [hV]; simp [show ¬ a.l ≤ 20000 by omega]
        · right
          by_cases h4 : (a.n : Int) = L
          · right; refine ⟨h1, by omega, by omega, h4, ?_⟩; rw [hV]; simp [h1, h4, show 0 ≤ a.l by omega, show a.l ≤ 20000 by omega]
          · left; refine ⟨h1, by omega, by omega, h4, ?_⟩; rw [hV]; simp [h4]
    · left; refine ⟨h1, ?_⟩; rw [hV]; simp [h1]
  clear hV
  rcases hcs with ⟨k1, rfl⟩ | ⟨k1, k2, rfl⟩ | ⟨k1, k2, k3, rfl⟩ | ⟨k1, k2, k3, k4, rfl⟩ | ⟨k1, k2, k3, k4, hV⟩
  · replace k1 := hid k1
    go_enter Try.func43, Try.ntmps43
    go_upto_region 3 with fail
    refine wp_region_K (S := S5 w.heap.size a) (fun _ => false) (by kernel_rfl) (g1) (fun hHeld => ?_)
    refine gkp 0 ?_
    refine gkt 1 ?_ (h := by intro W hSw; obtain ⟨y0, y1, y2, y3, y4⟩ := hSw; go_simp; first | done | with_reducible rfl)
    refine gkp 2 ?_ (v := .bool true) (h := by intro W hSw; go_simp <;> first | done | simp [k1.out] | (have hh := k1.out; omega))
    refine gkp 3 ?_
    refine gku 4 ?_
    refine gku 5 ?_
    refine gku 6 ?_
    refine gkp 7 ?_
    refine gkp 8 ?_
    refine gku 9 ?_
    refine gku 10 ?_
    refine gku 11 ?_
    refine gkp 12 ?_
    refine gkp 13 ?_
    refine gku 14 ?_
    refine gku 15 ?_
    refine gku 16 ?_
    refine gku 17 ?_
    refine gku 18 ?_
    refine gku 19 ?_
    refine gku 20 ?_
    refine gkp 21 ?_
    refine wpAnyK_done (by kernel_rfl) ?_ _
    go_wp2
    go_ret
    exact ⟨rfl, B0.out⟩
  · replace k1 := hid k1
    replace k2 := hid k2
    go_enter Try.func43, Try.ntmps43
    go_upto_region 3 with fail
    refine wp_region_K (S := S5 w.heap.size a) (fun _ => false) (by kernel_rfl) (g1) (fun hHeld => ?_)
    refine gkp 0 ?_
    refine gkt 1 ?_ (h := by intro W hSw; obtain ⟨y0, y1, y2, y3, y4⟩ := hSw; go_simp; first | done | with_reducible rfl)
    refine gkp 2 ?_ (v := .bool false) (h := by intro W hSw; go_simp <;> first | done | simp [k1.out] | (have hh := k1.out; omega))
    refine gkp 3 ?_
    refine gkp 4 ?_
    refine gkt 5 ?_ (h := by intro W hSw; obtain ⟨y0, y1, y2, y3, y4⟩ := hSw; go_simp; first | done | with_reducible rfl)
    refine gkp 6 ?_ (v := .bool true) (h := by intro W hSw; go_simp <;> first | done | simp [k2.out] | (have hh := k2.out; omega))
    refine gkp 7 ?_
    refine gkp 8 ?_
    refine gku 9 ?_
    refine gku 10 ?_
    refine gku 11 ?_
    refine gkp 12 ?_
    refine gkp 13 ?_
    refine gku 14 ?_
    refine gku 15 ?_
    refine gku 16 ?_
    refine gku 17 ?_
    refine gku 18 ?_
    refine gku 19 ?_
    refine gku 20 ?_
    refine gkp 21 ?_
    refine wpAnyK_done (by kernel_rfl) ?_ _
    go_wp2
    go_ret
    exact ⟨rfl, B0.out⟩
  · replace k1 := hid k1
    replace k2 := hid (show ¬ a.l < 0 by omega)
    replace k3 := hid k3
    go_enter Try.func43, Try.ntmps43
    go_upto_region 3 with fail
    refine wp_region_K (S := S5 w.heap.size a) (fun _ => false) (by kernel_rfl) (g1) (fun hHeld => ?_)
    refine gkp 0 ?_
    refine gkt 1 ?_ (h := by intro W hSw; obtain ⟨y0, y1, y2, y3, y4⟩ := hSw; go_simp; first | done | with_reducible rfl)
    refine gkp 2 ?_ (v := .bool false) (h := by intro W hSw; go_simp <;> first | done | simp [k1.out] | (have hh := k1.out; omega))
    refine gkp 3 ?_
    refine gkp 4 ?_
    refine gkt 5 ?_ (h := by intro W hSw; obtain ⟨y0, y1, y2, y3, y4⟩ := hSw; go_simp; first | done | with_reducible rfl)
    refine gkp 6 ?_ (v := .bool false) (h := by intro W hSw; go_simp <;> first | done | simp [k2.out] | (have hh := k2.out; omega))
    refine gkp 7 ?_
    refine gkp 8 ?_
    refine gkp 9 ?_
    refine gkt 10 ?_ (h := by intro W hSw; obtain ⟨y0, y1, y2, y3, y4⟩ := hSw; go_simp; first | done | with_reducible rfl)
    refine gkp 11 ?_ (v := .bool true) (h := by intro W hSw; go_simp <;> first | done | simp [k3.out] | (have hh := k3.out; omega))
    refine gkp 12 ?_
    refine gkp 13 ?_
    refine gku 14 ?_
    refine gku 15 ?_
    refine gku 16 ?_
    refine gku 17 ?_
    refine gku 18 ?_
    refine gku 19 ?_
    refine gku 20 ?_
    refine gkp 21 ?_
    refine wpAnyK_done (by kernel_rfl) ?_ _
    go_wp2
    go_ret
    exact ⟨rfl, B0.out⟩
  · replace k1 := hid k1
    replace k2 := hid (show ¬ a.l < 0 by omega)
    replace k3 := hid (show ¬ 20000 < a.l by omega)
    replace k4 := hid k4
    go_enter Try.func43, Try.ntmps43
    go_upto_region 3 with fail
    refine wp_region_K (S := S5 w.heap.size a) (fun _ => false) (by kernel_rfl) (g1) (fun hHeld => ?_)
    refine gkp 0 ?_
    refine gkt 1 ?_ (h := by intro W hSw; obtain ⟨y0, y1, y2, y3, y4⟩ := hSw; go_simp; first | done | with_reducible rfl)
    refine gkp 2 ?_ (v := .bool false) (h := by intro W hSw; go_simp <;> first | done | simp [k1.out] | (have hh := k1.out; omega))
    refine gkp 3 ?_
    refine gkp 4 ?_
    refine gkt 5 ?_ (h := by intro W hSw; obtain ⟨y0, y1, y2, y3, y4⟩ := hSw; go_simp; first | done | with_reducible rfl)
    refine gkp 6 ?_ (v := .bool false) (h := by intro W hSw; go_simp <;> first | done | simp [k2.out] | (have hh := k2.out; omega))
    refine gkp 7 ?_
    refine gkp 8 ?_
    refine gkp 9 ?_
    refine gkt 10 ?_ (h := by intro W hSw; obtain ⟨y0, y1, y2, y3, y4⟩ := hSw; go_simp; first | done | with_reducible rfl)
    refine gkp 11 ?_ (v := .bool false) (h := by intro W hSw; go_simp <;> first | done | simp [k3.out] | (have hh := k3.out; omega))
    refine gkp 12 ?_
    refine gkp 13 ?_
    refine gkp 14 ?_
    refine gkt 15 ?_ (h := by intro W hSw; obtain ⟨y0, y1, y2, y3, y4⟩ := hSw; go_simp; first | done | with_reducible rfl)
    refine gkp 16 ?_
    refine gkp 17 ?_
    refine gkt 18 ?_ (h := by intro W hSw; obtain ⟨y0, y1, y2, y3, y4⟩ := hSw; go_simp; first | done | with_reducible rfl)
    refine gk1 19 (fun K hK => ?_)
    go_simp
    go_at_call 29; refine (cl.out _).mono ?_; rintro e w1 ⟨rfl, hw⟩; obtain rfl := hw.symm; have hR := hHeld
    refine hK.out _ _ hR (fun hHeld => ?_)
    clear hK K
    (try simp only [Act.put, sA, sZ, sS])
    refine gkp 20 ?_ (v := .bool true) (h := by intro W hSw; go_simp <;> first | done | simp [k4.out] | (have hh := k4.out; omega))
    refine gkp 21 ?_
    refine wpAnyK_done (by kernel_rfl) ?_ _
    go_wp2
    go_ret
    exact ⟨rfl, B0.out⟩
  · replace k1 := hid k1
    replace k2 := hid (show ¬ a.l < 0 by omega)
    replace k3 := hid (show ¬ 20000 < a.l by omega)
    replace k4 := hid k4
    replace hV := hid hV
    go_enter Try.func43, Try.ntmps43
    go_upto_region 3 with fail
    refine wp_region_K (S := S5 w.heap.size a) (fun _ => false) (by kernel_rfl) (g1) (fun hHeld => ?_)
    refine gkp 0 ?_
    refine gkt 1 ?_ (h := by intro W hSw; obtain ⟨y0, y1, y2, y3, y4⟩ := hSw; go_simp; first | done | with_reducible rfl)
    refine gkp 2 ?_ (v := .bool false) (h := by intro W hSw; go_simp <;> first | done | simp [k1.out] | (have hh := k1.out; omega))
    refine gkp 3 ?_
    refine gkp 4 ?_
    refine gkt 5 ?_ (h := by intro W hSw; obtain ⟨y0, y1, y2, y3, y4⟩ := hSw; go_simp; first | done | with_reducible rfl)
    refine gkp 6 ?_ (v := .bool false) (h := by intro W hSw; go_simp <;> first | done | simp [k2.out] | (have hh := k2.out; omega))
    refine gkp 7 ?_
    refine gkp 8 ?_
    refine gkp 9 ?_
    refine gkt 10 ?_ (h := by intro W hSw; obtain ⟨y0, y1, y2, y3, y4⟩ := hSw; go_simp; first | done | with_reducible rfl)
    refine gkp 11 ?_ (v := .bool false) (h := by intro W hSw; go_simp <;> first | done | simp [k3.out] | (have hh := k3.out; omega))
    refine gkp 12 ?_
    refine gkp 13 ?_
    refine gkp 14 ?_
    refine gkt 15 ?_ (h := by intro W hSw; obtain ⟨y0, y1, y2, y3, y4⟩ := hSw; go_simp; first | done | with_reducible rfl)
    refine gkp 16 ?_
    refine gkp 17 ?_
    refine gkt 18 ?_ (h := by intro W hSw; obtain ⟨y0, y1, y2, y3, y4⟩ := hSw; go_simp; first | done | with_reducible rfl)
    refine gk1 19 (fun K hK => ?_)
    go_simp
    go_at_call 29; refine (cl.out _).mono ?_; rintro e w1 ⟨rfl, hw⟩; obtain rfl := hw.symm; have hR := hHeld
    refine hK.out _ _ hR (fun hHeld => ?_)
    clear hK K
    (try simp only [Act.put, sA, sZ, sS])
    refine gkp 20 ?_ (v := .bool false) (h := by intro W hSw; go_simp <;> first | done | simp [k4.out] | (have hh := k4.out; omega))
    refine gkp 21 ?_
    refine wpAnyK_done (by kernel_rfl) ?_ _
    obtain ⟨y0, y1, y2, y3, y4⟩ := g1
    by_cases hs : (a.n : Int) < a.l
    · obtain rfl : V = P := by have := hV.out; rwa [if_pos hs] at this
      clear hV
      go_wp2_with (go_at_call 42; refine (cp.out _).mono ?_; rintro e w1 ⟨rfl, hw⟩; obtain rfl := hw.symm)
      go_ret
      exact ⟨rfl, B0.out⟩
    · obtain rfl : V = (a.x == 0) := by have := hV.out; rwa [if_neg hs] at this
      clear hV
      go_wp2
      go_ret
      exact ⟨rfl, B0.out⟩

theorem right_any (leaf : Bool) (a : C) (w : World) (hn : a.b.length = a.n) : Calls Try.prog 43 #[.agg #[.int .i64 (a).k, .int .i64 (a).c, .int .i64 (a).l, .slice (a).o (a).n (a).m, .int .i64 (a).x], .bool leaf] w fun e w' => e = .returned (.bool (cellB leaf a)) ∧ Below w.heap.size w w' := by
  cases leaf
  · exact rabove_any a w hn
  · exact rinleaf_any a w hn

end Go.Proofs.Ytbpcekhfjkodcaa
