/- The law WideAdds returns true and turns nothing that was there, whatever two numbers it is called with; the walk alone. -/
import Derived.Test.YtfjepmhlkelinaaRg
import Derived.Deep.DeepCutAuto
namespace Go.Proofs.Ytfjepmhlkelinaa
open Go.RowKit

theorem Has.cells {W : World} {b n : Nat} (h : Has W b n) : Cells W b n := h.1

theorem fresh0 {W W' : World} {t : TypeId} (hb : Below (W.alloc (.cells #[.int .u64 0, .int .u64 0, .int .u64 0] t)).heap.size (W.alloc (.cells #[.int .u64 0, .int .u64 0, .int .u64 0] t)) W') : Has W' W.heap.size 0 :=
  (Has.new W 0 W.heap.size t rfl).grown hb
theorem fresh0d {W W' : World} {t : TypeId} (hb : Below (W.alloc (.cells #[.int .u64 0, .int .u64 0, .int .u64 0] t)).drew.heap.size (W.alloc (.cells #[.int .u64 0, .int .u64 0, .int .u64 0] t)).drew W') : Has W' W.heap.size 0 :=
  (Has.new W 0 W.heap.size t rfl).grown (undrew hb)

theorem unalloc {W W' : World} {o : Obj} (hb : Below (W.alloc o).heap.size (W.alloc o) W') : Below W.heap.size W W' := gt ((Below.refl _ _).alloc (Nat.le_refl _) _) hb
theorem unallocd {W W' : World} {o : Obj} (hb : Below (W.alloc o).drew.heap.size (W.alloc o).drew W') : Below W.heap.size W W' := unalloc (undrew hb)

theorem keep6 {W W' : World} {a m b n c s d t e u f x : Nat} (h : Cells W a m ∧ Cells W b n ∧ Cells W c s ∧ Cells W d t ∧ Cells W e u ∧ Cells W f x) (hb : Below W.heap.size W W') : Cells W' a m ∧ Cells W' b n ∧ Cells W' c s ∧ Cells W' d t ∧ Cells W' e u ∧ Cells W' f x :=
  ⟨h.1.keep hb, h.2.1.keep hb, h.2.2.1.keep hb, h.2.2.2.1.keep hb, h.2.2.2.2.1.keep hb, h.2.2.2.2.2.keep hb⟩

theorem adds_ex (m n : Nat) (hm : m < 6277101735386680763835789423207666416102355444464034512896) (hn : n < 6277101735386680763835789423207666416102355444464034512896) :
    ∃ (S : Nat) (p : Bool), (∀ w, Calls Try.prog 8 #[.agg #[.int .u64 (W0 (m)), .int .u64 (W1 (m)), .int .u64 (W2 (m))], .agg #[.int .u64 (W0 (n)), .int .u64 (W1 (n)), .int .u64 (W2 (n))]] w fun e w' => e = .returned (.tuple #[.agg #[.int .u64 (W0 (S)), .int .u64 (W1 (S)), .int .u64 (W2 (S))], .bool p]) ∧ Below w.heap.size w w') ∧
      (∀ w, Calls Try.prog 9 #[.agg #[.int .u64 (W0 (m)), .int .u64 (W1 (m)), .int .u64 (W2 (m))], .agg #[.int .u64 (W0 (n)), .int .u64 (W1 (n)), .int .u64 (W2 (n))]] w fun e w' => e = .returned (.tuple #[.agg #[.int .u64 (W0 (S)), .int .u64 (W1 (S)), .int .u64 (W2 (S))], .bool p]) ∧ Below w.heap.size w w') := by
  by_cases h : m + n < 6277101735386680763835789423207666416102355444464034512896
  · exact ⟨m + n, true, fun w => add_any m n hm hn w h, fun w => radd_any m n hm hn w h⟩
  · refine ⟨0, false, fun w => ?_, fun w => ?_⟩
    · rw [W0_zero, W1_zero, W2_zero]; exact add_over m n hm hn w h
    · rw [W0_zero, W1_zero, W2_zero]; exact radd_over m n hm hn w h

theorem subs_ex (m n : Nat) (hm : m < 6277101735386680763835789423207666416102355444464034512896) (hn : n < 6277101735386680763835789423207666416102355444464034512896) :
    ∃ (S : Nat) (p : Bool), (∀ w, Calls Try.prog 11 #[.agg #[.int .u64 (W0 (m)), .int .u64 (W1 (m)), .int .u64 (W2 (m))], .agg #[.int .u64 (W0 (n)), .int .u64 (W1 (n)), .int .u64 (W2 (n))]] w fun e w' => e = .returned (.tuple #[.agg #[.int .u64 (W0 (S)), .int .u64 (W1 (S)), .int .u64 (W2 (S))], .bool p]) ∧ Below w.heap.size w w') ∧
      (∀ w, Calls Try.prog 12 #[.agg #[.int .u64 (W0 (m)), .int .u64 (W1 (m)), .int .u64 (W2 (m))], .agg #[.int .u64 (W0 (n)), .int .u64 (W1 (n)), .int .u64 (W2 (n))]] w fun e w' => e = .returned (.tuple #[.agg #[.int .u64 (W0 (S)), .int .u64 (W1 (S)), .int .u64 (W2 (S))], .bool p]) ∧ Below w.heap.size w w') := by
  by_cases h : n ≤ m
  · exact ⟨m - n, true, fun w => sub_any m n hm hn w h, fun w => rsub_v m n hm hn w _ (fun _ => rfl) (fun k => absurd h k)⟩
  · refine ⟨0, false, fun w => ?_, fun w => rsub_v m n hm hn w _ (fun k => absurd k h) (fun _ => rfl)⟩
    rw [W0_zero, W1_zero, W2_zero]; exact sub_under m n hm hn w h

set_option maxHeartbeats 4000000 in
set_option maxRecDepth 100000 in
theorem adds_law (m n : Nat) (hm : m < 6277101735386680763835789423207666416102355444464034512896) (hn : n < 6277101735386680763835789423207666416102355444464034512896) (w : World) :
    Calls Try.prog 3 #[.agg #[.int .u64 (W0 (m)), .int .u64 (W1 (m)), .int .u64 (W2 (m))], .agg #[.int .u64 (W0 (n)), .int .u64 (W1 (n)), .int .u64 (W2 (n))]] w fun e w' => e = .returned (.bool true) ∧ Below w.heap.size w w' := by
  obtain ⟨S, p, s8, s9⟩ := adds_ex m n hm hn
  obtain ⟨D, q, s11, s12⟩ := subs_ex m n hm hn
  have C8 := hid s8; have C9 := hid s9; have C11 := hid s11; have C12 := hid s12
  have C13 := hid (fun w => cmp_any m n hm hn w)
  have C14 := hid (fun w => rcmp_any m n hm hn w _ rfl)
  have C15 := hid (fun w => bits_any m hm w)
  have C16 := hid (fun w => width_any m hm w _ rfl)
  have U := hid (fun k w => u_any (W0 k) (W1 k) (W2 k) w)
  generalize cmpN m n = R at *
  generalize ((blen m : Nat) : Int) = L at *
  clear s8 s9 s11 s12 hm hn
  go_enter Try.func3, Try.ntmps3
  go_wp2_with fail
  have ha := (Has.new w m _ 24 rfl).alloc (.cells #[.int .u64 (W0 n), .int .u64 (W1 n), .int .u64 (W2 n)] 24)
  have hb := Has.new (w.alloc (.cells #[.int .u64 (W0 m), .int .u64 (W1 m), .int .u64 (W2 m)] 24)) n (w.heap.size + 1) 24 (by simp)
  have hB : Below w.heap.size w ((w.alloc (.cells #[.int .u64 (W0 m), .int .u64 (W1 m), .int .u64 (W2 m)] 24)).alloc (.cells #[.int .u64 (W0 n), .int .u64 (W1 n), .int .u64 (W2 n)] 24)) := (by repeat (first | with_reducible exact Below.refl _ _ | with_reducible assumption | with_reducible refine Below.drew ?_ | with_reducible refine below_drewN ?_ _ | with_reducible refine Below.alloc ?_ (by simp <;> omega) _ | with_reducible refine Below.setCell ?_ (by simp <;> omega) _))
  generalize (w.alloc (.cells #[.int .u64 (W0 m), .int .u64 (W1 m), .int .u64 (W2 m)] 24)).alloc (.cells #[.int .u64 (W0 n), .int .u64 (W1 n), .int .u64 (W2 n)] 24) = X0 at *
  generalize hp1 : w.heap.size + 1 = p1 at *
  have d01 : ¬ w.heap.size = p1 := by omega
  have d10 : ¬ p1 = w.heap.size := by omega
  clear hp1
  refine (C8.out _).mono ?_; rintro e w1 ⟨rfl, hb1⟩
  have ha1 := ha.grown hb1; have hb1' := hb.grown hb1; have hB1 := gt hB hb1
  clear ha hb hB hb1
  go_wp2_with fail
  have ha2 := ha1.alloc (.cells #[.int .u64 (W0 S), .int .u64 (W1 S), .int .u64 (W2 S)] 24)
  have hb2 := hb1'.alloc (.cells #[.int .u64 (W0 S), .int .u64 (W1 S), .int .u64 (W2 S)] 24)
  have hs2 := Has.new w1 S _ 24 rfl
  have hB2 := hB1.alloc hB1.size (.cells #[.int .u64 (W0 S), .int .u64 (W1 S), .int .u64 (W2 S)] 24)
  generalize w1.alloc (.cells #[.int .u64 (W0 S), .int .u64 (W1 S), .int .u64 (W2 S)] 24) = X1 at *
  generalize w1.heap.size = p5 at *
  have HA := hid ha2; have HB := hid hb2; have HS := hid hs2; have GB := hid hB2
  have la := ha2.lt; have lb := hb2.lt; have ls := hs2.lt
  clear ha1 hb1' hB1 ha2 hb2 hs2 hB2 w1
  go_cut [7, 8] (fun s7 s8 W => ∃ pq : Nat, s7 = .pointer (some ⟨pq, 0, none⟩) ∧ s8 = .bool p ∧ Has W w.heap.size m ∧ Has W p1 n ∧ Has W p5 S ∧ Has W pq S ∧ Below w.heap.size w W)
  case first =>
    have i1 : Below X1.heap.size X1 X1.drew := (Below.refl _ _).drew
    have i2 : Below X1.heap.size X1 (X1.alloc (.cells #[.int .u64 0, .int .u64 0, .int .u64 0] 23)).drew := ((Below.refl _ _).alloc (Nat.le_refl _) _).drew
    go_region_held3 (fun W => Cells W w.heap.size m ∧ Cells W p1 n) (first | with_reducible exact keep2 ⟨HA.out.cells, HB.out.cells⟩ i1 | with_reducible exact keep2 ⟨HA.out.cells, HB.out.cells⟩ i2 | with_reducible exact keep2 (by assumption) hb3 | with_reducible exact keep2 (by assumption) hb2 | with_reducible exact keep2 (by assumption) hb1 | with_reducible exact keep2alloc (by assumption) | with_reducible exact keep2alloc (keep2 (keep2 (keep2 (keep2 ⟨HA.out.cells, HB.out.cells⟩ i1) hb1) hb2) hb3) | with_reducible exact keep2set (by assumption) (by omega) (by omega)) (first | (go_at_call_of 10 m; refine (U.out m _).mono ?_; rintro e w1 ⟨rfl, hb1⟩; have hz1 : X1.heap.size ≤ w1.heap.size := (by have := hb1.size; (try simp at this); omega); try (have f1 := hid (fresh0d hb1))) | (go_at_call_of 10 n; refine (U.out n _).mono ?_; rintro e w2 ⟨rfl, hb2⟩; have hz2 : X1.heap.size ≤ w2.heap.size := (by have := hb2.size; (try simp at this); omega); (first | (have f2 := hid (fresh0 hb2)) | (have f2 := hid (f1.out.grown hb2)) | skip)) | (go_at_call 9; refine (C9.out _).mono ?_; rintro e w3 ⟨rfl, hb3⟩; have hz3 : X1.heap.size ≤ w3.heap.size := (by have := hb3.size; (try simp at this); omega); (first | (have f3 := hid (fresh0 hb3); obtain ⟨⟨z0, z1, z2⟩, zf⟩ := f3.out) | (have f3 := hid (f2.out.grown hb3); obtain ⟨⟨z0, z1, z2⟩, zf⟩ := f3.out) | skip)))
    · go_wp2
      have G := gt (gt (undrew hb1) hb2) hb3
      go_meet
      case rel =>
        exact ⟨w3.heap.size, rfl, rfl, (HA.out.grown G).alloc _, (HB.out.grown G).alloc _, (HS.out.grown G).alloc _, Has.new w3 S _ _ rfl, gt GB.out (G.alloc G.size _)⟩
    · go_wp2
      have G := gt (gt (undrew hb1) hb2) (unalloc hb3)
      go_meet
      case rel =>
        exact ⟨w2.heap.size, rfl, rfl, (((HA.out.grown G).far _ _ _ (by omega)).far _ _ _ (by omega)).far _ _ _ (by omega), (((HB.out.grown G).far _ _ _ (by omega)).far _ _ _ (by omega)).far _ _ _ (by omega), (((HS.out.grown G).far _ _ _ (by omega)).far _ _ _ (by omega)).far _ _ _ (by omega), f3.out.set _, (((gt GB.out G).setCell (by show w.heap.size ≤ w2.heap.size; omega) _).setCell (by show w.heap.size ≤ w2.heap.size; omega) _).setCell (by show w.heap.size ≤ w2.heap.size; omega) _⟩
    · go_wp2
      have G := gt (gt (undrew hb1) (unalloc hb2)) hb3
      go_meet
      case rel =>
        exact ⟨w1.heap.size, rfl, rfl, (((HA.out.grown G).far _ _ _ (by omega)).far _ _ _ (by omega)).far _ _ _ (by omega), (((HB.out.grown G).far _ _ _ (by omega)).far _ _ _ (by omega)).far _ _ _ (by omega), (((HS.out.grown G).far _ _ _ (by omega)).far _ _ _ (by omega)).far _ _ _ (by omega), f3.out.set _, (((gt GB.out G).setCell (by show w.heap.size ≤ w1.heap.size; omega) _).setCell (by show w.heap.size ≤ w1.heap.size; omega) _).setCell (by show w.heap.size ≤ w1.heap.size; omega) _⟩
    · go_wp2
      have G := gt (gt (unallocd hb1) hb2) hb3
      go_meet
      case rel =>
        exact ⟨X1.heap.size, rfl, rfl, (((HA.out.grown G).far _ _ _ (by omega)).far _ _ _ (by omega)).far _ _ _ (by omega), (((HB.out.grown G).far _ _ _ (by omega)).far _ _ _ (by omega)).far _ _ _ (by omega), (((HS.out.grown G).far _ _ _ (by omega)).far _ _ _ (by omega)).far _ _ _ (by omega), f3.out.set _, (((gt GB.out G).setCell (by show w.heap.size ≤ X1.heap.size; omega) _).setCell (by show w.heap.size ≤ X1.heap.size; omega) _).setCell (by show w.heap.size ≤ X1.heap.size; omega) _⟩
  case rest =>
    obtain ⟨p7, rfl, rfl, ha, hb, hs, ht, hB⟩ := hcut
    clear HA HB HS GB la lb ls
    have HA := hid ha; have HB := hid hb; have HS := hid hs; have HT := hid ht; have GB := hid hB
    have la := ha.lt; have lb := hb.lt; have ls := hs.lt; have lt := ht.lt
    obtain ⟨⟨a0, a1, a2⟩, fa⟩ := ha
    obtain ⟨⟨b0, b1, b2⟩, fb⟩ := hb
    clear hs ht hB
    go_wp2_with fail
    refine (C11.out _).mono ?_; rintro e w1 ⟨rfl, hb1⟩
    clear a0 a1 a2 fa b0 b1 b2 fb
    go_wp2_with fail
    have ka := (HA.out.grown hb1).alloc (.cells #[.int .u64 (W0 D), .int .u64 (W1 D), .int .u64 (W2 D)] 24)
    have kb := (HB.out.grown hb1).alloc (.cells #[.int .u64 (W0 D), .int .u64 (W1 D), .int .u64 (W2 D)] 24)
    have ks := (HS.out.grown hb1).alloc (.cells #[.int .u64 (W0 D), .int .u64 (W1 D), .int .u64 (W2 D)] 24)
    have kt := (HT.out.grown hb1).alloc (.cells #[.int .u64 (W0 D), .int .u64 (W1 D), .int .u64 (W2 D)] 24)
    have kd := Has.new w1 D _ 24 rfl
    have kB := (gt GB.out hb1).alloc (gt GB.out hb1).size (.cells #[.int .u64 (W0 D), .int .u64 (W1 D), .int .u64 (W2 D)] 24)
    generalize w1.alloc (.cells #[.int .u64 (W0 D), .int .u64 (W1 D), .int .u64 (W2 D)] 24) = X2 at *
    generalize w1.heap.size = p9 at *
    clear HA HB HS HT GB la lb ls lt hb1
    have HA := hid ka; have HB := hid kb; have HS := hid ks; have HT := hid kt; have HD := hid kd; have GB := hid kB
    have la := ka.lt; have lb := kb.lt; have ls := ks.lt; have lt := kt.lt; have ld := kd.lt
    clear ka kb ks kt kd kB
    go_cut [11, 12] (fun s11 s12 W => ∃ pq : Nat, s11 = .pointer (some ⟨pq, 0, none⟩) ∧ s12 = .bool q ∧ Has W w.heap.size m ∧ Has W p1 n ∧ Has W p5 S ∧ Has W p7 S ∧ Has W p9 D ∧ Has W pq D ∧ Below w.heap.size w W)
    case first =>
      have i1 : Below X2.heap.size X2 X2.drew := (Below.refl _ _).drew
      have i2 : Below X2.heap.size X2 (X2.alloc (.cells #[.int .u64 0, .int .u64 0, .int .u64 0] 23)).drew := ((Below.refl _ _).alloc (Nat.le_refl _) _).drew
      go_region_held3 (fun W => Cells W w.heap.size m ∧ Cells W p1 n) (first | with_reducible exact keep2 ⟨HA.out.cells, HB.out.cells⟩ i1 | with_reducible exact keep2 ⟨HA.out.cells, HB.out.cells⟩ i2 | with_reducible exact keep2 (by assumption) hb3 | with_reducible exact keep2 (by assumption) hb2 | with_reducible exact keep2 (by assumption) hb1 | with_reducible exact keep2alloc (by assumption) | with_reducible exact keep2alloc (keep2 (keep2 (keep2 (keep2 ⟨HA.out.cells, HB.out.cells⟩ i1) hb1) hb2) hb3) | with_reducible exact keep2set (by assumption) (by omega) (by omega)) (first | (go_at_call_of 10 m; refine (U.out m _).mono ?_; rintro e w1 ⟨rfl, hb1⟩; have hz1 : X2.heap.size ≤ w1.heap.size := (by have := hb1.size; (try simp at this); omega); try (have f1 := hid (fresh0d hb1))) | (go_at_call_of 10 n; refine (U.out n _).mono ?_; rintro e w2 ⟨rfl, hb2⟩; have hz2 : X2.heap.size ≤ w2.heap.size := (by have := hb2.size; (try simp at this); omega); (first | (have f2 := hid (fresh0 hb2)) | (have f2 := hid (f1.out.grown hb2)) | skip)) | (go_at_call 12; refine (C12.out _).mono ?_; rintro e w3 ⟨rfl, hb3⟩; have hz3 : X2.heap.size ≤ w3.heap.size := (by have := hb3.size; (try simp at this); omega); (first | (have f3 := hid (fresh0 hb3); obtain ⟨⟨z0, z1, z2⟩, zf⟩ := f3.out) | (have f3 := hid (f2.out.grown hb3); obtain ⟨⟨z0, z1, z2⟩, zf⟩ := f3.out) | skip)))
      · go_wp2
        have G := gt (gt (undrew hb1) hb2) hb3
        go_meet
        case rel =>
          exact ⟨w3.heap.size, rfl, rfl, (HA.out.grown G).alloc _, (HB.out.grown G).alloc _, (HS.out.grown G).alloc _, (HT.out.grown G).alloc _, (HD.out.grown G).alloc _, Has.new w3 D _ _ rfl, gt GB.out (G.alloc G.size _)⟩
      · go_wp2
        have G := gt (gt (undrew hb1) hb2) (unalloc hb3)
        go_meet
        case rel =>
          exact ⟨w2.heap.size, rfl, rfl, (((HA.out.grown G).far _ _ _ (by omega)).far _ _ _ (by omega)).far _ _ _ (by omega), (((HB.out.grown G).far _ _ _ (by omega)).far _ _ _ (by omega)).far _ _ _ (by omega), (((HS.out.grown G).far _ _ _ (by omega)).far _ _ _ (by omega)).far _ _ _ (by omega), (((HT.out.grown G).far _ _ _ (by omega)).far _ _ _ (by omega)).far _ _ _ (by omega), (((HD.out.grown G).far _ _ _ (by omega)).far _ _ _ (by omega)).far _ _ _ (by omega), f3.out.set _, (((gt GB.out G).setCell (by show w.heap.size ≤ w2.heap.size; omega) _).setCell (by show w.heap.size ≤ w2.heap.size; omega) _).setCell (by show w.heap.size ≤ w2.heap.size; omega) _⟩
      · go_wp2
        have G := gt (gt (undrew hb1) (unalloc hb2)) hb3
        go_meet
        case rel =>
          exact ⟨w1.heap.size, rfl, rfl, (((HA.out.grown G).far _ _ _ (by omega)).far _ _ _ (by omega)).far _ _ _ (by omega), (((HB.out.grown G).far _ _ _ (by omega)).far _ _ _ (by omega)).far _ _ _ (by omega), (((HS.out.grown G).far _ _ _ (by omega)).far _ _ _ (by omega)).far _ _ _ (by omega), (((HT.out.grown G).far _ _ _ (by omega)).far _ _ _ (by omega)).far _ _ _ (by omega), (((HD.out.grown G).far _ _ _ (by omega)).far _ _ _ (by omega)).far _ _ _ (by omega), f3.out.set _, (((gt GB.out G).setCell (by show w.heap.size ≤ w1.heap.size; omega) _).setCell (by show w.heap.size ≤ w1.heap.size; omega) _).setCell (by show w.heap.size ≤ w1.heap.size; omega) _⟩
      · go_wp2
        have G := gt (gt (unallocd hb1) hb2) hb3
        go_meet
        case rel =>
          exact ⟨X2.heap.size, rfl, rfl, (((HA.out.grown G).far _ _ _ (by omega)).far _ _ _ (by omega)).far _ _ _ (by omega), (((HB.out.grown G).far _ _ _ (by omega)).far _ _ _ (by omega)).far _ _ _ (by omega), (((HS.out.grown G).far _ _ _ (by omega)).far _ _ _ (by omega)).far _ _ _ (by omega), (((HT.out.grown G).far _ _ _ (by omega)).far _ _ _ (by omega)).far _ _ _ (by omega), (((HD.out.grown G).far _ _ _ (by omega)).far _ _ _ (by omega)).far _ _ _ (by omega), f3.out.set _, (((gt GB.out G).setCell (by show w.heap.size ≤ X2.heap.size; omega) _).setCell (by show w.heap.size ≤ X2.heap.size; omega) _).setCell (by show w.heap.size ≤ X2.heap.size; omega) _⟩
    case rest =>
      obtain ⟨p11, rfl, rfl, ha, hb, hs, ht, hd, hf, hB⟩ := hcut
      clear HA HB HS HT HD GB la lb ls lt ld
      have C := hid (show Cells wc w.heap.size m ∧ Cells wc p1 n ∧ Cells wc p5 S ∧ Cells wc p7 S ∧ Cells wc p9 D ∧ Cells wc p11 D from ⟨ha.cells, hb.cells, hs.cells, ht.cells, hd.cells, hf.cells⟩)
      have GB := hid hB.drew
      have i1 : Below wc.heap.size wc wc.drew := (Below.refl _ _).drew
      clear ha hb hs ht hd hf hB
      have q1 := eqU 23 Try.underlying23 (W0 S) (W1 S) (W2 S) (W0 S) (W1 S) (W2 S)
      rw [show (W0 S == W0 S && W1 S == W1 S && W2 S == W2 S) = true by simp] at q1
      have q2 := eqU 23 Try.underlying23 (W0 D) (W1 D) (W2 D) (W0 D) (W1 D) (W2 D)
      rw [show (W0 D == W0 D && W1 D == W1 D && W2 D == W2 D) = true by simp] at q2
      go_wp2_with fail
      go_region_held3 (fun W => Cells W w.heap.size m ∧ Cells W p1 n ∧ Cells W p5 S ∧ Cells W p7 S ∧ Cells W p9 D ∧ Cells W p11 D) (first | with_reducible exact keep6 C.out i1 | with_reducible exact keep6 (by assumption) hb) (first | (go_at_call_of 10 S; refine (U.out S _).mono ?_; rintro e wn ⟨rfl, hb⟩; replace GB := hid (gt GB.out hb)) | (go_at_call_of 10 D; refine (U.out D _).mono ?_; rintro e wn ⟨rfl, hb⟩; replace GB := hid (gt GB.out hb)) | (go_at_call_of 10 m; refine (U.out m _).mono ?_; rintro e wn ⟨rfl, hb⟩; replace GB := hid (gt GB.out hb)) | (go_at_call_of 10 n; refine (U.out n _).mono ?_; rintro e wn ⟨rfl, hb⟩; replace GB := hid (gt GB.out hb)) | (go_at_call 13; refine (C13.out _).mono ?_; rintro e wn ⟨rfl, hb⟩; replace GB := hid (gt GB.out hb)) | (go_at_call 14; refine (C14.out _).mono ?_; rintro e wn ⟨rfl, hb⟩; replace GB := hid (gt GB.out hb)) | (go_at_call 15; refine (C15.out _).mono ?_; rintro e wn ⟨rfl, hb⟩; replace GB := hid (gt GB.out hb)) | (go_at_call 16; refine (C16.out _).mono ?_; rintro e wn ⟨rfl, hb⟩; replace GB := hid (gt GB.out hb)) | (go_at_call 17; refine (lives_any _).mono ?_; rintro e wn ⟨rfl, hb⟩; replace GB := hid (gt GB.out hb)))
      go_wp2
      go_ret
      exact ⟨rfl, GB.out⟩
end Go.Proofs.Ytfjepmhlkelinaa
