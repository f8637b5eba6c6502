/- The law CellFinds, walked; no statement of the seat is proved here. -/
import Derived.Test.YtbpcekhfjkodcaaBc
import Derived.Test.YtbpcekhfjkodcaaBd
import Derived.Test.YtbpcekhfjkodcaaBe
import Derived.Test.YtbpcekhfjkodcaaBf
namespace Go.Proofs.Ytbpcekhfjkodcaa
open Go.RowKit

set_option maxHeartbeats 4000000 in
theorem finds_law (leaf : Bool) (r : Int) (co : Option Addr) (cn cc : Nat) (cs : List C) (key : Int) (z : Nat) (w : World) (h : Cs w co cn cc cs) (hB : cn ≤ 9223372036854775807) (hk : I64 key) (hz : z < 18446744073709551616) :
    Calls Try.prog 4 #[.agg #[.bool leaf, .int .i64 r, .slice co cn cc], .int .i64 key, .int .u64 (z : Int)] w fun e w' => e = .returned (.bool true) ∧ Below w.heap.size w w' := by
  have h' := hid h
  have lv := hid lives_any
  have BC : Hid (Below w.heap.size w (w.alloc (.cells #[.bool leaf, .int .i64 r, .slice co cn cc] 24))) := hid (ext1 _)
  have NC := hid (NB.new 24 w leaf r co cn cc)
  obtain ⟨u0, u1, u2⟩ := NC.out.cells
  cases hl : lightN cs with
  | false =>
    clear h hk hz
    go_enter Try.func4, Try.ntmps4
    go_wp2_with (first
      | (go_at_call 7; refine (light_any leaf r co cn cc cs _ (h'.out.keep BC.out) hB).mono ?_; rw [hl]; rintro e w1 ⟨rfl, hb⟩; replace BC := hid (gt BC.out hb); clear hb u0 u1 u2)
      | (go_at_call 8; refine (lv.out _).mono ?_; rintro e w2 ⟨rfl, hb⟩; replace BC := hid (gt BC.out hb); clear hb))
    go_ret
    exact ⟨rfl, BC.out⟩
  | true =>
    have hcn : cn ≤ 100000 := by have := light_len cs hl; have := h.len; omega
    clear h
    cases hg : goodN leaf r cs with
    | false =>
      clear hk hz
      go_enter Try.func4, Try.ntmps4
      go_wp2_with (first
        | (go_at_call 7; refine (light_any leaf r co cn cc cs _ (h'.out.keep BC.out) hB).mono ?_; rw [hl]; rintro e w1 ⟨rfl, hb⟩; replace BC := hid (gt BC.out hb); replace NC := hid (NC.out.keep hb); clear hb u0 u1 u2; obtain ⟨u0, u1, u2⟩ := NC.out.cells)
        | (go_at_call 11; refine (plain_any leaf r co cn cc cs _ (h'.out.keep BC.out) hcn).mono ?_; rintro e w2 ⟨ao1, cap1, rfl, hp, hb⟩; have CP := hid hp; replace BC := hid (gt BC.out hb); clear hp hb u0 u1 u2)
        | (go_at_call 13; refine (rgood_any leaf r _ cn _ cs _ CP.out hcn).mono ?_; rw [hg]; rintro e w3 ⟨rfl, hb⟩; replace BC := hid (gt BC.out hb); clear hb)
        | (go_at_call 8; refine (lv.out _).mono ?_; rintro e w4 ⟨rfl, hb⟩; replace BC := hid (gt BC.out hb); clear hb))
      go_ret
      exact ⟨rfl, BC.out⟩
    | true =>
      have c24 := hid (zig_any key hk)
      have c25 := hid (rzig_any key hk)
      have c26 := hid (zag_any z hz)
      have c27 := hid (rzag_any z hz)
      have c28 := hid (local_any key)
      have c29 := hid (rlocal_any key)
      have cf := hid (fun W hc => find_any leaf r co cn cc cs key W hc hcn)
      have cr := hid (fun W ao cap hc => rfind_any leaf r ao cn cap cs key W hc hcn)
      have cc1 := hid (fun W hc => child_any leaf r co cn cc cs key W hc hcn)
      have cc2 := hid (fun W ao cap hc => rchild_any leaf r ao cn cap cs key W hc hcn)
      generalize fN key cs = F at *
      generalize fB key cs = FB at *
      generalize chN r key cs = CH at *
      generalize zigN key = z1 at *
      generalize zagN z = z2 at *
      generalize locN key = z3 at *
      clear hk hz
      go_enter Try.func4, Try.ntmps4
      go_wp2_with (first
        | (go_at_call 7; refine (light_any leaf r co cn cc cs _ (h'.out.keep BC.out) hB).mono ?_; rw [hl]; rintro e w1 ⟨rfl, hb⟩; replace BC := hid (gt BC.out hb); replace NC := hid (NC.out.keep hb); clear hb u0 u1 u2; obtain ⟨u0, u1, u2⟩ := NC.out.cells)
        | (go_at_call 11; refine (plain_any leaf r co cn cc cs _ (h'.out.keep BC.out) hcn).mono ?_; rintro e w2 ⟨ao1, cap1, rfl, hp, hb⟩; have CP := hid hp; replace BC := hid (gt BC.out hb); replace NC := hid (NC.out.keep hb); clear hp hb u0 u1 u2; obtain ⟨u0, u1, u2⟩ := NC.out.cells)
        | (go_at_call 13; refine (rgood_any leaf r _ cn _ cs _ CP.out hcn).mono ?_; rw [hg]; rintro e w3 ⟨rfl, hb⟩; replace BC := hid (gt BC.out hb); replace NC := hid (NC.out.keep hb); clear hb u0 u1 u2 CP; obtain ⟨u0, u1, u2⟩ := NC.out.cells)
        | (go_at_call 20; refine (cf.out _ (h'.out.keep BC.out)).mono ?_; rintro e w4 ⟨rfl, hb⟩; replace BC := hid (gt BC.out hb); replace NC := hid (NC.out.keep hb); clear hb u0 u1 u2; obtain ⟨u0, u1, u2⟩ := NC.out.cells)
        | (go_at_call 21; refine (cr.out _ _ _ CP.out).mono ?_; rintro e w5 ⟨rfl, hb⟩; replace BC := hid (gt BC.out hb); replace NC := hid (NC.out.keep hb); clear hb u0 u1 u2 CP; obtain ⟨u0, u1, u2⟩ := NC.out.cells)
        | (go_at_call 22; refine (cc1.out _ (h'.out.keep BC.out)).mono ?_; rintro e w6 ⟨rfl, hb⟩; replace BC := hid (gt BC.out hb); replace NC := hid (NC.out.keep hb); clear hb u0 u1 u2; obtain ⟨u0, u1, u2⟩ := NC.out.cells)
        | (go_at_call 23; refine (cc2.out _ _ _ CP.out).mono ?_; rintro e w7 ⟨rfl, hb⟩; replace BC := hid (gt BC.out hb); replace NC := hid (NC.out.keep hb); clear hb u0 u1 u2 CP; obtain ⟨u0, u1, u2⟩ := NC.out.cells)
        | (go_at_call 24; refine (c24.out _).mono ?_; rintro e w8 ⟨rfl, hw⟩; obtain rfl := hw.symm)
        | (go_at_call 25; refine (c25.out _).mono ?_; rintro e w8 ⟨rfl, hw⟩; obtain rfl := hw.symm)
        | (go_at_call 26; refine (c26.out _).mono ?_; rintro e w8 ⟨rfl, hw⟩; obtain rfl := hw.symm)
        | (go_at_call 27; refine (c27.out _).mono ?_; rintro e w8 ⟨rfl, hw⟩; obtain rfl := hw.symm)
        | (go_at_call 28; refine (c28.out _).mono ?_; rintro e w8 ⟨rfl, hw⟩; obtain rfl := hw.symm)
        | (go_at_call 29; refine (c29.out _).mono ?_; rintro e w8 ⟨rfl, hw⟩; obtain rfl := hw.symm)
        | (go_at_call 8; refine (lv.out _).mono ?_; rintro e w9 ⟨rfl, hb⟩; replace BC := hid (gt BC.out hb); clear hb))
      go_ret
      exact ⟨rfl, BC.out⟩

end Go.Proofs.Ytbpcekhfjkodcaa
