/- The law WkbDeep; no statement of the seat is proved here. -/
import Derived.Test.YtjieegnmofimkaaDoorHa
namespace Go.Proofs.YtjieegnmofimkaaDoor
open Go.RowKit Go.Maps

def DpI (w : World) (l : Bool) (k : Nat) (a c : Value) (W : World) : Prop :=
  ∃ (i : Nat) (ao : Option Addr) (cap : Nat), i ≤ k ∧ c = .int .i64 (i : Int) ∧ a = .slice ao (9 * i) cap ∧ Hid (W.ownsRow w.heap.size 5 1 (.slice ao (9 * i) cap) (9 * i) (bs (rep l i))) ∧ Hid (Below w.heap.size w W)
theorem row_some {w : World} {B n cap : Nat} {o : Option Addr} {xs : List Value} (h : w.ownsRow B 5 1 (.slice o n cap) n xs) (hn : 0 < n) : ∃ g, o = some ⟨g, 0, none⟩ := by
  rcases h.2 with ⟨h1, h2⟩ | ⟨g', cap', cur, h1, _⟩
  · simp at h1 h2; omega
  · simp only [Value.slice.injEq] at h1; exact ⟨g', h1.1⟩
set_option maxRecDepth 100000 in
set_option maxHeartbeats 4000000 in
theorem deep_true (n : Nat) (w : World) (hT : Tab w) : Calls Tryd.prog 7 #[.int .u8 (n : Int), .bool true] w fun e w' => e = .returned (.bool true) ∧ Below w.heap.size w w' := by
  obtain ⟨r, hr, hr39⟩ : ∃ r : Nat, (n : Int) % 40 = (r : Int) ∧ r ≤ 39 := ⟨n % 40, by omega, by omega⟩
  have HT := hid hT
  have LV := hid (fun W (hb : Below w.heap.size w W) => lives_call W (hT.keep hb))
  have RP := hid (rep_set true r)
  have RY := hid (rep_bytes true (r + 1))
  clear hT
  go_enter Tryd.func7, Tryd.ntmps7
  go_wp2
  try simp only [hr]
  go_loopw [6, 7] (DpI w true (r + 1)) (fun _ c _ => r + 1 - (intOf c).toNat)
  case atStart => exact ⟨0, none, 0, by omega, rfl, rfl, hid (World.ownsRow_nil _ _ _ _), hid (Below.refl _ _)⟩
  case round =>
    obtain ⟨i, ao, cap, hi, rfl, rfl, ho, hb⟩ := hrel
    by_cases hlt : i < r + 1
    · have hc : (i : Int) < 1 + (r : Int) := by omega
      have RB := hid (rd_box [1, 7, 0, 0, 0, 1, 0, 0, 0] (Bo.new wr (bs [1, 7, 0, 0, 0, 1, 0, 0, 0]).toArray 5))
      have zb := hb.out.size
      go_wp2_with (at_builtin; go_loud (refine wpList_append_rd rfl (.tmp 21) (.tmp 22) rfl w.heap.size _ (9 * i) (rep true i) rfl (ho.out.alloc _) _ 9 9 _ rfl RB.out (by omega) (by simp; omega) ?_); intro v6 w6 o6 b6; obtain ⟨a6, c6, rfl⟩ := row_form o6; have O6 := hid o6; have B6 := hid b6; clear o6 b6)
      go_roundw
      case measure => simp [intOf]; omega
      case rel => exact ⟨i + 1, a6, c6, by omega, by go_num, by rw [Nat.mul_succ], hid (by rw [rep_snoc, Nat.mul_succ]; exact O6.out), hid ((hb.out.alloc hb.out.size _).trans B6.out)⟩
    · obtain rfl : i = r + 1 := by omega
      have hr' : ((r + 1 : Nat) : Int) = 1 + (r : Int) := by omega
      obtain ⟨g, rfl⟩ := row_some ho.out (by omega)
      obtain ⟨hcell, hfz, hrd⟩ := row_set ho.out (9 * (r + 1) - 4) 0 (by omega)
      have hgl : w.heap.size ≤ g := by
        rcases ho.out.2 with ⟨h1, h2⟩ | ⟨g', cap', cur, h1, h2, _⟩
        · simp at h1
        · simp only [Value.slice.injEq, Option.some.injEq, Addr.mk.injEq, and_true] at h1; have := h1.1; omega
      have BS := hid (Below.setCell hb.out (p := ⟨g, 9 * (r + 1) - 4, none⟩) hgl (.int .u8 ((0 : Nat) : Int)))
      have RD := hid hrd
      rw [show (rep true (r + 1)).set (9 * (r + 1) - 4) 0 = bytesI true ((nest r).items true) from RP.out] at RD
      have HY := hid (show ∀ x ∈ bytesI true ((nest r).items true), x < 256 by
        rw [← RP.out]
        intro x hx
        rcases List.mem_or_eq_of_mem_set hx with hx | hx
        · exact RY.out x hx
        · omega)
      clear hrd
      rw [show 9 * (r + 1) - 4 = 9 * (1 + r) - 4 by omega] at hcell hfz BS RD
      obtain ⟨u, hcell⟩ := hcell
      have BA := hid (fun W (h : Below wr.heap.size wr W) => h)
      by_cases h16 : r ≤ 15
      · obtain ⟨t, s1, hd⟩ := r0_nest true r h16
        have RC := hid (read_ok _ _ _ _ _ (HT.out.keep BS.out) RD.out HY.out (by omega) t s1 hd)
        have hg : ¬ (16 : Int) < 1 + (r : Int) := by omega
        go_wp2_with (first
          | (go_at_call 15; refine RC.out.mono ?_; rintro e w2 ⟨⟨p, rfl, -, -⟩, -, b2⟩; have B2 := hid (BS.out.trans (b2.mono (by have := BS.out.size; omega))); clear b2)
          | (go_at_call 11; refine (LV.out _ (B2.out.alloc B2.out.size _)).mono ?_; rintro e w3 ⟨rfl, b3⟩; have B3 := hid b3; clear b3))
        go_ret
        exact ⟨rfl, (B2.out.alloc B2.out.size _).trans (B3.out.mono (by have := B2.out.size; simp; omega))⟩
      · have RC := hid (read_bad _ _ _ _ _ (HT.out.keep BS.out) RD.out HY.out (by omega) 10 (r0_deep true r (by omega)))
        have hg : (16 : Int) < 1 + (r : Int) := by omega
        go_wp2_with (first
          | (go_at_call 15; refine RC.out.mono ?_; rintro e w2 ⟨rfl, -, b2⟩; have B2 := hid (BS.out.trans (b2.mono (by have := BS.out.size; omega))); clear b2)
          | (go_at_call 11; refine (LV.out _ (B2.out.alloc B2.out.size _)).mono ?_; rintro e w3 ⟨rfl, b3⟩; have B3 := hid b3; clear b3))
        go_ret
        exact ⟨rfl, (B2.out.alloc B2.out.size _).trans (B3.out.mono (by have := B2.out.size; simp; omega))⟩
set_option maxRecDepth 100000 in
set_option maxHeartbeats 4000000 in
theorem deep_false (n : Nat) (w : World) (hT : Tab w) : Calls Tryd.prog 7 #[.int .u8 (n : Int), .bool false] w fun e w' => e = .returned (.bool true) ∧ Below w.heap.size w w' := by
  obtain ⟨r, hr, hr39⟩ : ∃ r : Nat, (n : Int) % 40 = (r : Int) ∧ r ≤ 39 := ⟨n % 40, by omega, by omega⟩
  have HT := hid hT
  have LV := hid (fun W (hb : Below w.heap.size w W) => lives_call W (hT.keep hb))
  have RP := hid (rep_set false r)
  have RY := hid (rep_bytes false (r + 1))
  clear hT
  go_enter Tryd.func7, Tryd.ntmps7
  go_wp2
  try simp only [hr]
  go_loopw [6, 7] (DpI w false (r + 1)) (fun _ c _ => r + 1 - (intOf c).toNat)
  case atStart => exact ⟨0, none, 0, by omega, rfl, rfl, hid (World.ownsRow_nil _ _ _ _), hid (Below.refl _ _)⟩
  case round =>
    obtain ⟨i, ao, cap, hi, rfl, rfl, ho, hb⟩ := hrel
    by_cases hlt : i < r + 1
    · have hc : (i : Int) < 1 + (r : Int) := by omega
      have RB := hid (rd_box [0, 0, 0, 0, 7, 0, 0, 0, 1] (Bo.new wr (bs [0, 0, 0, 0, 7, 0, 0, 0, 1]).toArray 5))
      have zb := hb.out.size
      go_wp2_with (at_builtin; go_loud (refine wpList_append_rd rfl (.tmp 24) (.tmp 25) rfl w.heap.size _ (9 * i) (rep false i) rfl (ho.out.alloc _) _ 9 9 _ rfl RB.out (by omega) (by simp; omega) ?_); intro v6 w6 o6 b6; obtain ⟨a6, c6, rfl⟩ := row_form o6; have O6 := hid o6; have B6 := hid b6; clear o6 b6)
      go_roundw
      case measure => simp [intOf]; omega
      case rel => exact ⟨i + 1, a6, c6, by omega, by go_num, by rw [Nat.mul_succ], hid (by rw [rep_snoc, Nat.mul_succ]; exact O6.out), hid ((hb.out.alloc hb.out.size _).trans B6.out)⟩
    · obtain rfl : i = r + 1 := by omega
      have hr' : ((r + 1 : Nat) : Int) = 1 + (r : Int) := by omega
      obtain ⟨g, rfl⟩ := row_some ho.out (by omega)
      obtain ⟨hcell, hfz, hrd⟩ := row_set ho.out (9 * (r + 1) - 1) 0 (by omega)
      have hgl : w.heap.size ≤ g := by
        rcases ho.out.2 with ⟨h1, h2⟩ | ⟨g', cap', cur, h1, h2, _⟩
        · simp at h1
        · simp only [Value.slice.injEq, Option.some.injEq, Addr.mk.injEq, and_true] at h1; have := h1.1; omega
      have BS := hid (Below.setCell hb.out (p := ⟨g, 9 * (r + 1) - 1, none⟩) hgl (.int .u8 ((0 : Nat) : Int)))
      have RD := hid hrd
      rw [show (rep false (r + 1)).set (9 * (r + 1) - 1) 0 = bytesI false ((nest r).items false) from RP.out] at RD
      have HY := hid (show ∀ x ∈ bytesI false ((nest r).items false), x < 256 by
        rw [← RP.out]
        intro x hx
        rcases List.mem_or_eq_of_mem_set hx with hx | hx
        · exact RY.out x hx
        · omega)
      clear hrd
      rw [show 9 * (r + 1) - 1 = 9 * (1 + r) - 1 by omega] at hcell hfz BS RD
      obtain ⟨u, hcell⟩ := hcell
      have BA := hid (fun W (h : Below wr.heap.size wr W) => h)
      by_cases h16 : r ≤ 15
      · obtain ⟨t, s1, hd⟩ := r0_nest false r h16
        have RC := hid (read_ok _ _ _ _ _ (HT.out.keep BS.out) RD.out HY.out (by omega) t s1 hd)
        have hg : ¬ (16 : Int) < 1 + (r : Int) := by omega
        go_wp2_with (first
          | (go_at_call 15; refine RC.out.mono ?_; rintro e w2 ⟨⟨p, rfl, -, -⟩, -, b2⟩; have B2 := hid (BS.out.trans (b2.mono (by have := BS.out.size; omega))); clear b2)
          | (go_at_call 11; refine (LV.out _ (B2.out.alloc B2.out.size _)).mono ?_; rintro e w3 ⟨rfl, b3⟩; have B3 := hid b3; clear b3))
        go_ret
        exact ⟨rfl, (B2.out.alloc B2.out.size _).trans (B3.out.mono (by have := B2.out.size; simp; omega))⟩
      · have RC := hid (read_bad _ _ _ _ _ (HT.out.keep BS.out) RD.out HY.out (by omega) 10 (r0_deep false r (by omega)))
        have hg : (16 : Int) < 1 + (r : Int) := by omega
        go_wp2_with (first
          | (go_at_call 15; refine RC.out.mono ?_; rintro e w2 ⟨rfl, -, b2⟩; have B2 := hid (BS.out.trans (b2.mono (by have := BS.out.size; omega))); clear b2)
          | (go_at_call 11; refine (LV.out _ (B2.out.alloc B2.out.size _)).mono ?_; rintro e w3 ⟨rfl, b3⟩; have B3 := hid b3; clear b3))
        go_ret
        exact ⟨rfl, (B2.out.alloc B2.out.size _).trans (B3.out.mono (by have := B2.out.size; simp; omega))⟩
theorem deep_law (n : Nat) (l : Bool) (w : World) (hT : Tab w) : Calls Tryd.prog 7 #[.int .u8 (n : Int), .bool l] w fun e w' => e = .returned (.bool true) ∧ Below w.heap.size w w' := by
  cases l
  · exact deep_false n w hT
  · exact deep_true n w hT
end Go.Proofs.YtjieegnmofimkaaDoor
