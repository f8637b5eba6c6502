/- Rows of points are compared; no statement of the seat is proved here. -/
import Derived.Test.YtcneadohpbeahaaDoorAr
namespace Go.Proofs.YtcneadohpbeahaaDoor
open Go.RowKit Go.Maps

theorem eq_len {α : Type} [BEq α] [LawfulBEq α] {a b : List α} (h : a.length ≠ b.length) : (a == b) = false := by
  rw [Bool.eq_false_iff]
  intro h2
  exact h (by rw [eq_of_beq h2])
def SmI (xs ys : List (Int × Int)) (n : Nat) (w : World) (c : Value) (W : World) : Prop := ∃ i : Nat, i ≤ n ∧ c = .int .i64 (i : Int) ∧ Hid ((xs == ys) = (xs.drop i == ys.drop i)) ∧ Hid (Below w.heap.size w W)
set_option maxRecDepth 100000 in
set_option maxHeartbeats 4000000 in
theorem same_call (S T : Nat → Prop) (xo yo : Option Addr) (n m c c' : Nat) (xs ys : List (Int × Int)) (w : World) (hx : XR S w xo xs) (hy : XR T w yo ys) (hxl : xs.length = n) (hyl : ys.length = m) (hn : n ≤ 9223372036854775806) (hm : m ≤ 9223372036854775806) (hS : ∀ b, S b → b < w.heap.size) (hT : ∀ b, T b → b < w.heap.size) :
    Calls Tryd.prog 30 #[.slice xo n c, .slice yo m c'] w fun e w' => e = .returned (.bool (xs == ys)) ∧ Below w.heap.size w w' := by
  have hmx : Tryd.prog.follows .mixedOrders = true := follows_mixed
  by_cases hnm : n = m
  · subst hnm
    have HX := hid hx; have HY := hid hy; have LX := hid hxl; have LY := hid hyl; have HS := hid hS; have HT := hid hT
    obtain ⟨r, hr⟩ : ∃ r, r = (xs == ys) := ⟨_, rfl⟩
    rw [← hr]
    have HR := hid hr
    clear hx hy hxl hyl hS hT hr
    go_enter Tryd.func30, Tryd.ntmps30
    go_wp2
    go_loopw [13] (SmI xs ys n w) (fun c _ => n - (intOf c).toNat)
    case atStart => exact ⟨0, by omega, rfl, hid rfl, hid (Below.refl _ _)⟩
    case round =>
      obtain ⟨i, hi, rfl, he, hb⟩ := hrel
      by_cases hik : i < n
      · obtain ⟨p, hp⟩ : ∃ p, xs[i]? = some p := ⟨_, List.getElem?_eq_getElem (by rw [LX.out]; exact hik)⟩
        obtain ⟨q, hq⟩ : ∃ q, ys[i]? = some q := ⟨_, List.getElem?_eq_getElem (by rw [LY.out]; exact hik)⟩
        obtain ⟨ab, ao, exo, hSb, hat⟩ := HX.out.resolve_left (by intro e; rw [e] at hp; simp at hp)
        obtain ⟨bb, bo, eyo, hTb, hbt⟩ := HY.out.resolve_left (by intro e; rw [e] at hq; simp at hq)
        obtain ⟨z0, z1⟩ := hat i p hp
        obtain ⟨y0, y1⟩ := hbt i q hq
        replace z0 := keep_old hb.out z0; replace z1 := keep_old hb.out z1; replace y0 := keep_old hb.out y0; replace y1 := keep_old hb.out y1
        have HE := hid (show (xs == ys) = ((p == q) && (xs.drop (i + 1) == ys.drop (i + 1))) by rw [he.out, drop_at hp, drop_at hq]; rfl)
        subst exo; subst eyo
        have PN := point_neq p.1 p.2 q.1 q.2
        have HD := hid (Below.drew hb.out)
        clear hat hbt hp hq he hb
        cases hpq : (p == q) with
        | true =>
          have hpq' : ((p.1, p.2) == (q.1, q.2)) = true := hpq
          rw [hpq] at HE
          rw [hpq'] at PN
          rw [Bool.true_and] at HE
          clear hpq hpq'
          go_wp2
          refine wp_region_K (S := (fun W : World => (W.cell? ⟨ab, ao + i * 2, none⟩ = some (.int .i64 p.1) ∧ W.cell? ⟨ab, ao + i * 2 + 1, none⟩ = some (.int .i64 p.2)) ∧ W.cell? ⟨bb, bo + i * 2, none⟩ = some (.int .i64 q.1) ∧ W.cell? ⟨bb, bo + i * 2 + 1, none⟩ = some (.int .i64 q.2))) (fun _ => false) (by kernel_rfl) (by exact ⟨⟨z0, z1⟩, y0, y1⟩) (fun hHeld => ?_)
          refine gkp 0 ?_
          refine gkp 1 ?_
          refine gkp 2 ?_
          refine gkt 3 ?_ (h := by intro W hSw; obtain ⟨⟨r0, r1⟩, s0, s1⟩ := hSw; go_simp; first | done | with_reducible rfl)
          refine gkp 4 ?_
          refine gkp 5 ?_
          refine gkp 6 ?_
          refine gkt 7 ?_ (h := by intro W hSw; obtain ⟨⟨r0, r1⟩, s0, s1⟩ := hSw; go_simp; first | done | with_reducible rfl)
          refine gkp 8 ?_ (v := .bool false) (h := by intro W hSw; go_simp; first | done | with_reducible rfl)
          refine wpAnyK_done (by kernel_rfl) ?_ _
          go_wp2
          go_roundw
          case measure => simp [intOf]; omega
          case rel => exact ⟨i + 1, by omega, by go_num, HE, HD⟩
        | false =>
          have hpq' : ((p.1, p.2) == (q.1, q.2)) = false := hpq
          rw [hpq] at HE
          rw [hpq'] at PN
          rw [Bool.false_and] at HE
          clear hpq hpq'
          go_wp2
          refine wp_region_K (S := (fun W : World => (W.cell? ⟨ab, ao + i * 2, none⟩ = some (.int .i64 p.1) ∧ W.cell? ⟨ab, ao + i * 2 + 1, none⟩ = some (.int .i64 p.2)) ∧ W.cell? ⟨bb, bo + i * 2, none⟩ = some (.int .i64 q.1) ∧ W.cell? ⟨bb, bo + i * 2 + 1, none⟩ = some (.int .i64 q.2))) (fun _ => false) (by kernel_rfl) (by exact ⟨⟨z0, z1⟩, y0, y1⟩) (fun hHeld => ?_)
          refine gkp 0 ?_
          refine gkp 1 ?_
          refine gkp 2 ?_
          refine gkt 3 ?_ (h := by intro W hSw; obtain ⟨⟨r0, r1⟩, s0, s1⟩ := hSw; go_simp; first | done | with_reducible rfl)
          refine gkp 4 ?_
          refine gkp 5 ?_
          refine gkp 6 ?_
          refine gkt 7 ?_ (h := by intro W hSw; obtain ⟨⟨r0, r1⟩, s0, s1⟩ := hSw; go_simp; first | done | with_reducible rfl)
          refine gkp 8 ?_ (v := .bool true) (h := by intro W hSw; go_simp; first | done | with_reducible rfl)
          refine wpAnyK_done (by kernel_rfl) ?_ _
          go_wp2
          go_ret
          exact ⟨by rw [HR.out, HE.out]; rfl, HD.out⟩
      · obtain rfl : i = n := by omega
        have HE := hid (show (xs == ys) = true by rw [he.out, List.drop_of_length_le (by rw [LX.out]; omega), List.drop_of_length_le (by rw [LY.out]; omega)]; rfl)
        go_wp2
        go_ret
        exact ⟨by rw [HR.out, HE.out]; rfl, hb.out⟩
  · rw [eq_len (show xs.length ≠ ys.length by rw [hxl, hyl]; exact hnm)]
    have hne : ¬ (n : Int) = (m : Int) := by omega
    have hne2 : ((n : Int) != (m : Int)) = true := by simp only [bne, Bool.not_eq_true', beq_eq_false_iff_ne]; exact hne
    clear hx hy hS hT hnm
    go_enter Tryd.func30, Tryd.ntmps30
    go_wp2
    go_ret
    exact ⟨rfl, Below.refl _ _⟩
set_option maxRecDepth 100000 in
set_option maxHeartbeats 4000000 in
theorem equalP_call (S T : Nat → Prop) (xo yo : Option Addr) (n m c c' : Nat) (xs ys : List (Int × Int)) (w : World) (hx : XR S w xo xs) (hy : XR T w yo ys) (hxl : xs.length = n) (hyl : ys.length = m) (hn : n ≤ 9223372036854775806) (hm : m ≤ 9223372036854775806) (hS : ∀ b, S b → b < w.heap.size) (hT : ∀ b, T b → b < w.heap.size) :
    Calls Tryd.prog 51 #[.slice xo n c, .slice yo m c'] w fun e w' => e = .returned (.bool (xs == ys)) ∧ Below w.heap.size w w' := by
  have hmx : Tryd.prog.follows .mixedOrders = true := follows_mixed
  by_cases hnm : n = m
  · subst hnm
    have HX := hid hx; have HY := hid hy; have LX := hid hxl; have LY := hid hyl; have HS := hid hS; have HT := hid hT
    obtain ⟨r, hr⟩ : ∃ r, r = (xs == ys) := ⟨_, rfl⟩
    rw [← hr]
    have HR := hid hr
    clear hx hy hxl hyl hS hT hr
    go_enter Tryd.func51, Tryd.ntmps51
    go_wp2
    go_loopw [13] (SmI xs ys n w) (fun c _ => n - (intOf c).toNat)
    case atStart => exact ⟨0, by omega, rfl, hid rfl, hid (Below.refl _ _)⟩
    case round =>
      obtain ⟨i, hi, rfl, he, hb⟩ := hrel
      by_cases hik : i < n
      · obtain ⟨p, hp⟩ : ∃ p, xs[i]? = some p := ⟨_, List.getElem?_eq_getElem (by rw [LX.out]; exact hik)⟩
        obtain ⟨q, hq⟩ : ∃ q, ys[i]? = some q := ⟨_, List.getElem?_eq_getElem (by rw [LY.out]; exact hik)⟩
        obtain ⟨ab, ao, exo, hSb, hat⟩ := HX.out.resolve_left (by intro e; rw [e] at hp; simp at hp)
        obtain ⟨bb, bo, eyo, hTb, hbt⟩ := HY.out.resolve_left (by intro e; rw [e] at hq; simp at hq)
        obtain ⟨z0, z1⟩ := hat i p hp
        obtain ⟨y0, y1⟩ := hbt i q hq
        replace z0 := keep_old hb.out z0; replace z1 := keep_old hb.out z1; replace y0 := keep_old hb.out y0; replace y1 := keep_old hb.out y1
        have HE := hid (show (xs == ys) = ((p == q) && (xs.drop (i + 1) == ys.drop (i + 1))) by rw [he.out, drop_at hp, drop_at hq]; rfl)
        subst exo; subst eyo
        have PN := point_neq p.1 p.2 q.1 q.2
        have HD := hid (Below.drew hb.out)
        clear hat hbt hp hq he hb
        cases hpq : (p == q) with
        | true =>
          have hpq' : ((p.1, p.2) == (q.1, q.2)) = true := hpq
          rw [hpq] at HE
          rw [hpq'] at PN
          rw [Bool.true_and] at HE
          clear hpq hpq'
          go_wp2
          refine wp_region_K (S := (fun W : World => (W.cell? ⟨ab, ao + i * 2, none⟩ = some (.int .i64 p.1) ∧ W.cell? ⟨ab, ao + i * 2 + 1, none⟩ = some (.int .i64 p.2)) ∧ W.cell? ⟨bb, bo + i * 2, none⟩ = some (.int .i64 q.1) ∧ W.cell? ⟨bb, bo + i * 2 + 1, none⟩ = some (.int .i64 q.2))) (fun _ => false) (by kernel_rfl) (by exact ⟨⟨z0, z1⟩, y0, y1⟩) (fun hHeld => ?_)
          refine gkp 0 ?_
          refine gkp 1 ?_
          refine gkp 2 ?_
          refine gkt 3 ?_ (h := by intro W hSw; obtain ⟨⟨r0, r1⟩, s0, s1⟩ := hSw; go_simp; first | done | with_reducible rfl)
          refine gkp 4 ?_
          refine gkp 5 ?_
          refine gkp 6 ?_
          refine gkt 7 ?_ (h := by intro W hSw; obtain ⟨⟨r0, r1⟩, s0, s1⟩ := hSw; go_simp; first | done | with_reducible rfl)
          refine gkp 8 ?_ (v := .bool false) (h := by intro W hSw; go_simp; first | done | with_reducible rfl)
          refine wpAnyK_done (by kernel_rfl) ?_ _
          go_wp2
          go_roundw
          case measure => simp [intOf]; omega
          case rel => exact ⟨i + 1, by omega, by go_num, HE, HD⟩
        | false =>
          have hpq' : ((p.1, p.2) == (q.1, q.2)) = false := hpq
          rw [hpq] at HE
          rw [hpq'] at PN
          rw [Bool.false_and] at HE
          clear hpq hpq'
          go_wp2
          refine wp_region_K (S := (fun W : World => (W.cell? ⟨ab, ao + i * 2, none⟩ = some (.int .i64 p.1) ∧ W.cell? ⟨ab, ao + i * 2 + 1, none⟩ = some (.int .i64 p.2)) ∧ W.cell? ⟨bb, bo + i * 2, none⟩ = some (.int .i64 q.1) ∧ W.cell? ⟨bb, bo + i * 2 + 1, none⟩ = some (.int .i64 q.2))) (fun _ => false) (by kernel_rfl) (by exact ⟨⟨z0, z1⟩, y0, y1⟩) (fun hHeld => ?_)
          refine gkp 0 ?_
          refine gkp 1 ?_
          refine gkp 2 ?_
          refine gkt 3 ?_ (h := by intro W hSw; obtain ⟨⟨r0, r1⟩, s0, s1⟩ := hSw; go_simp; first | done | with_reducible rfl)
          refine gkp 4 ?_
          refine gkp 5 ?_
          refine gkp 6 ?_
          refine gkt 7 ?_ (h := by intro W hSw; obtain ⟨⟨r0, r1⟩, s0, s1⟩ := hSw; go_simp; first | done | with_reducible rfl)
          refine gkp 8 ?_ (v := .bool true) (h := by intro W hSw; go_simp; first | done | with_reducible rfl)
          refine wpAnyK_done (by kernel_rfl) ?_ _
          go_wp2
          go_ret
          exact ⟨by rw [HR.out, HE.out]; rfl, HD.out⟩
      · obtain rfl : i = n := by omega
        have HE := hid (show (xs == ys) = true by rw [he.out, List.drop_of_length_le (by rw [LX.out]; omega), List.drop_of_length_le (by rw [LY.out]; omega)]; rfl)
        go_wp2
        go_ret
        exact ⟨by rw [HR.out, HE.out]; rfl, hb.out⟩
  · rw [eq_len (show xs.length ≠ ys.length by rw [hxl, hyl]; exact hnm)]
    have hne : ¬ (n : Int) = (m : Int) := by omega
    have hne2 : ((n : Int) != (m : Int)) = true := by simp only [bne, Bool.not_eq_true', beq_eq_false_iff_ne]; exact hne
    clear hx hy hS hT hnm
    go_enter Tryd.func51, Tryd.ntmps51
    go_wp2
    go_ret
    exact ⟨rfl, Below.refl _ _⟩
end Go.Proofs.YtcneadohpbeahaaDoor
