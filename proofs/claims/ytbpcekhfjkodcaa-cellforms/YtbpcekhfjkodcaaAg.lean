/- What Good returns; no statement of the seat is proved here. -/
import Derived.Test.YtbpcekhfjkodcaaAf
namespace Go.Proofs.Ytbpcekhfjkodcaa
open Go.RowKit

/-- May the node be? -/
def goodN (leaf : Bool) (r : Int) (cs : List C) : Bool := riseB cs && (if leaf then r == 0 && cs.all leafB else pagedB r && cs.all aboveB)

set_option maxHeartbeats 1000000 in
theorem good_any (leaf : Bool) (r : Int) (co : Option Addr) (cn cc : Nat) (cs : List C) (w : World) (h : Cs w co cn cc cs) (hcn : cn ≤ 100000) :
    Calls Try.prog 12 #[.agg #[.bool leaf, .int .i64 r, .slice co cn cc]] w fun e w' => e = .returned (.bool (goodN leaf r cs)) ∧ Below w.heap.size w w' := by
  have q0 := NB.new 24 w leaf r co cn cc
  have b0 : Hid (Below w.heap.size w (w.alloc (.cells #[.bool leaf, .int .i64 r, .slice co cn cc] 24))) := hid (ext1 _)
  have hlt := q0.lt
  generalize hw0 : w.alloc (.cells #[.bool leaf, .int .i64 r, .slice co cn cc] 24) = w0 at q0 b0 hlt
  have hr := hid (rises_any leaf r co cn cc cs w0 (h.keep b0.out) hcn)
  have h39 := hid (fun W (hb : Below w0.heap.size w0 W) => all_39 leaf r co cn cc cs W ((h.keep b0.out).keep hb) hcn)
  have h41 := hid (fun W (hb : Below w0.heap.size w0 W) => all_41 leaf r co cn cc cs W ((h.keep b0.out).keep hb) hcn)
  have hp := hid (paged_any r)
  change Hid (∀ w, Calls Try.prog 40 #[.int .i64 r] w fun e w' => e = .returned (.bool (pagedB r)) ∧ w' = w) at hp
  have q0' := hid q0
  obtain ⟨V, hV⟩ : ∃ V, V = goodN leaf r cs := ⟨_, rfl⟩
  rw [← hV]
  unfold goodN at hV
  generalize riseB cs = R at *
  generalize cs.all leafB = A1 at *
  generalize cs.all aboveB = A2 at *
  generalize pagedB r = P at *
  replace hV := hid hV
  replace hw0 := hid hw0
  clear h q0
  cases R with
  | false =>
    obtain rfl : V = false := hV.out
    clear hV
    go_enter Try.func12, Try.ntmps12
    go_wp2_with (go_at_call 37; rw [hw0.out]; refine hr.out.mono ?_; rintro e w1 ⟨rfl, hb1⟩; have H1 := hid hb1; clear hb1)
    go_ret
    exact ⟨rfl, gt b0.out H1.out⟩
  | true =>
    cases leaf with
    | true =>
      cases hr0 : (r == 0)
      all_goals
        go_enter Try.func12, Try.ntmps12
        go_wp2_with (first
          | (go_at_call 37; rw [hw0.out]; refine hr.out.mono ?_; rintro e w1 ⟨rfl, hb1⟩; have H1 := hid hb1; obtain ⟨u0, u1, u2⟩ := (q0'.out.keep hb1).cells; clear hb1)
          | (go_at_call 38; refine (h39.out _ H1.out).mono ?_; rintro e w2 ⟨rfl, hb2⟩; have H2 := hid hb2; clear hb2))
        go_ret
        have hV2 := hV.out
        simp [hr0] at hV2
        subst hV2
        first | exact ⟨rfl, gt b0.out H1.out⟩ | exact ⟨rfl, gt b0.out (gt H1.out H2.out)⟩
    | false =>
      cases P
      all_goals
        go_enter Try.func12, Try.ntmps12
        go_wp2_with (first
          | (go_at_call 37; rw [hw0.out]; refine hr.out.mono ?_; rintro e w1 ⟨rfl, hb1⟩; have H1 := hid hb1; obtain ⟨u0, u1, u2⟩ := (q0'.out.keep hb1).cells; clear hb1)
          | (go_at_call 40; refine (hp.out _).mono ?_; rintro e w2 ⟨rfl, hw⟩; obtain rfl := hw.symm)
          | (go_at_call 38; refine (h41.out _ H1.out).mono ?_; rintro e w2 ⟨rfl, hb2⟩; have H2 := hid hb2; clear hb2))
        go_ret
        have hV2 := hV.out
        simp at hV2
        subst hV2
        first | exact ⟨rfl, gt b0.out H1.out⟩ | exact ⟨rfl, gt b0.out (gt H1.out H2.out)⟩

end Go.Proofs.Ytbpcekhfjkodcaa
