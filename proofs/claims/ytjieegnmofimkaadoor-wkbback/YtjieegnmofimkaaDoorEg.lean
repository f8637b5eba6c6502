/- The document's own Encode, the document's example, and the law WkbEncodes; no statement of the seat is proved here. -/
import Derived.Test.YtjieegnmofimkaaDoorEf
import Derived.Test.YtjieegnmofimkaaDoorAt
namespace Go.Proofs.YtjieegnmofimkaaDoor
open Go.RowKit Go.Maps

theorem WfB.part {s p : Sh} (h : WfB s) (hp : p ∈ s.ps) : WfB p := fun q hq => h q (nodes_part hp q hq)
theorem u0 : U (one ([] : List (Int × Int))).1 = 9223372036854775808 := by decide +kernel
theorem u1 : U (one ([] : List (Int × Int))).2 = 9223372036854775808 := by decide +kernel
set_option maxRecDepth 100000 in
set_option maxHeartbeats 2000000 in
theorem refput_call (l : Bool) : ∀ (M : Nat) (s : Sh), s.nodes.length ≤ M → WfB s → s.k ≠ 0 → sizeI (s.t.items l) ≤ 200000 → ∀ w, In (fun b => b < w.heap.size) w s →
    Calls Tryd.prog 28 #[.agg #[.int .i64 (s).k, .slice (s).xo (s).xn (s).xc, .slice (s).po (s).pn (s).pc], .bool l] w fun e w' => ∃ r m, e = .returned r ∧ w'.ownsRow w.heap.size 5 1 r m (bs (bytesI l (s.t.items l))) ∧ Below w.heap.size w w' := by
  intro M
  induction M with
  | zero => intro s h; rw [nodes_eq] at h; simp at h
  | succ M ih =>
    intro s hM hW h0 hB w hI
    have e1 : ∀ k n, bytesI l ([(if l then 1 else 0, 1), (k, 4)] ++ n) = ([(if l then 1 else 0 : Nat)] ++ putN k 4 l) ++ bytesI l n := by
      intro k n
      simp only [bytesI_append, bytesI_cons, bytesI_nil, putN_one, List.append_nil]
      cases l <;> rfl
    by_cases h1 : s.k = 1
    · have e2 : ∀ p : Int × Int, bytesI l (ptI p) = putN (U p.1) 8 l ++ putN (U p.2) 8 l := by intro p; simp [bytesI, ptI]
      have EE : bytesI l (s.t.items l) = ([(if l then 1 else 0 : Nat)] ++ putN 1 4 l) ++ (putN (U (one s.xy).1) 8 l ++ putN (U (one s.xy).2) 8 l) := by
        rw [items_point l s.t (by rw [t_k, h1]), e1, t_xy, t_k, h1, show U 1 = 1 from rfl, e2]
      rw [EE]
      cases hx : s.xy with
      | nil =>
        rw [u0, u1]
        cases l
        · rw [if_neg (by decide)]; exact rput_point_false_nil s h1 w hI.here hx
        · rw [if_pos rfl]; exact rput_point_true_nil s h1 w hI.here hx
      | cons p r =>
        rw [show one (p :: r) = p from rfl]
        cases l
        · rw [if_neg (by decide)]; exact rput_point_false_cons s h1 w hI.here p r hx
        · rw [if_pos rfl]; exact rput_point_true_cons s h1 w hI.here p r hx
    · by_cases h2 : s.k = 2
      · have hl : s.xn ≤ 1000000 := by
          rw [items_line l s.t (by rw [t_k, h2]), sizeI_append, show sizeI [(if l then 1 else 0, 1), (U s.t.k, 4)] = 5 from rfl, sizeI_cons, sizeI_pts, t_xy] at hB
          have := hI.here.xl
          omega
        have EE : bytesI l (s.t.items l) = ([(if l then 1 else 0 : Nat)] ++ putN 2 4 l) ++ bytesI l ((s.xn, 4) :: s.xy.flatMap ptI) := by
          rw [items_line l s.t (by rw [t_k, h2]), e1, t_xy, t_k, h2, hI.here.xl, show U 2 = 2 from rfl]
        rw [EE]
        cases l
        · rw [if_neg (by decide)]; exact rput_line_false s h2 w hI.here hl
        · rw [if_pos rfl]; exact rput_line_true s h2 w hI.here hl
      · have hB2 : sizeI (s.ps.flatMap fun p => p.t.items l) ≤ 200000 := by
          rw [items_other l s.t (by rw [t_k]; exact ⟨h0, h1, h2⟩), sizeI_append, show sizeI [(if l then 1 else 0, 1), (U s.t.k, 4)] = 5 from rfl, sizeI_cons, t_ps, List.flatMap_map] at hB
          omega
        have EE : bytesI l (s.t.items l) = (([(if l then 1 else 0 : Nat)] ++ putN (U s.k) 4 l) ++ putN s.pn 4 l) ++ bytesI l (s.ps.flatMap fun p => p.t.items l) := by
          rw [items_other l s.t (by rw [t_k]; exact ⟨h0, h1, h2⟩), e1, t_k, t_ps, List.length_map, hI.here.pl, List.flatMap_map, bytesI_cons, ← List.append_assoc]
        rw [EE]
        by_cases h3 : s.k = 3
        · have hp : ∀ p ∈ s.ps, p.k = 0 ∧ Here (fun b => b < w.heap.size) w p := fun p hp => ⟨(hW s (nodes_self s) p hp).1 h3, (hI.part hp).here⟩
          rw [show U s.k = 3 by rw [h3]; rfl]
          cases l
          · rw [if_neg (by decide)]; exact rput_parts_false_3 s h3 w hI.here hp hB2
          · rw [if_pos rfl]; exact rput_parts_true_3 s h3 w hI.here hp hB2
        · have ihp : ∀ p ∈ s.ps, ∀ W : World, Below w.heap.size w W → Calls Tryd.prog 28 #[.agg #[.int .i64 (p).k, .slice (p).xo (p).xn (p).xc, .slice (p).po (p).pn (p).pc], .bool l] W fun e w' => ∃ r m, e = .returned r ∧ w'.ownsRow W.heap.size 5 1 r m (bs (bytesI l (p.t.items l))) ∧ Below W.heap.size W w' := by
            intro p hp W hb
            refine ih p (by have := nodes_lt hp; omega) (hW.part hp) ((hW s (nodes_self s) p hp).2 h3) ?_ W ((hI.part hp).grow hb)
            have : sizeI (p.t.items l) ≤ sizeI (s.ps.flatMap fun p => p.t.items l) := by
              obtain ⟨i, hi⟩ := List.mem_iff_getElem?.1 hp
              have := Enc.size_take (fun p : Sh => p.t.items l) s.ps i p hi
              exact Nat.le_trans (Nat.le_add_left _ _) this
            omega
          cases l
          · rw [if_neg (by decide)]; exact rput_parts_false_n s ⟨h1, h2, h3⟩ w hI.here ihp hB2
          · rw [if_pos rfl]; exact rput_parts_true_n s ⟨h1, h2, h3⟩ w hI.here ihp hB2
theorem right_of {s : Sh} (hc : checkN s = 0) : rightB s = true ∧ 1 ≤ s.k := by
  rw [check_eq] at hc
  split at hc
  · cases hc
  split at hc
  · cases hc
  split at hc
  · cases hc
  rename_i hk
  refine ⟨by cases h : rightB s with | true => rfl | false => exact absurd (Or.inr h) hk, ?_⟩
  have : ¬ s.k < 1 := fun e => hk (.inl e)
  omega

set_option maxRecDepth 100000 in
set_option maxHeartbeats 2000000 in
theorem refEncode_call (s : Sh) (l : Bool) (w : World) (h : In (fun b => b < w.heap.size) w s) : Calls Tryd.prog 12 #[.agg #[.int .i64 (s).k, .slice (s).xo (s).xn (s).xc, .slice (s).po (s).pn (s).pc], .bool l] w fun e w' => ∃ ao n cap, e = .returned (.slice ao n cap) ∧ w'.ownsRow w.heap.size 5 1 (.slice ao n cap) n (bs (encB s l)) ∧ Below w.heap.size w w' := by
  have hg : Below w.heap.size w (w.alloc (.cells #[.int .i64 (s).k, .slice (s).xo (s).xn (s).xc, .slice (s).po (s).pn (s).pc] 25)) := ext1 _
  have CK := hid (refCheck_call s _ (h.grow hg))
  have BX := hid (Bx.new w s)
  obtain ⟨x0, x1, x2⟩ := BX.out.cells
  by_cases hc : checkN s = 0
  · obtain ⟨hr, hk⟩ := right_of hc
    have RP := hid (fun W (hb : Below w.heap.size w W) => refput_call l s.nodes.length s (Nat.le_refl _) (wf_of hr) (by omega) (by have := size_small h hc l; omega) W (h.grow hb))
    rw [hc] at CK
    have EB := hid (show encB s l = bytesI l (s.t.items l) by unfold encB; rw [if_pos hc])
    have HG := hid hg
    clear h hg hc hr hk
    go_enter Tryd.func12, Tryd.ntmps12
    go_wp2_with (first
      | (go_at_call 19; refine CK.out.mono ?_; rintro e w3 ⟨rfl, b3⟩; have H3 := hid b3; have X3 := hid (BX.out.keep b3); obtain ⟨x0, x1, x2⟩ := X3.out.cells; clear b3)
      | (go_at_call 28; refine (RP.out _ (gt HG.out H3.out)).mono ?_; rintro e w4 ⟨v4, m4, rfl, o4, b4⟩; have l4 := o4.1; obtain ⟨a4, c4, rfl⟩ := row_form o4; have O4 := hid o4; have H4 := hid b4; clear o4 b4))
    go_ret
    have e3 := H3.out.size
    simp at e3
    exact ⟨_, _, _, rfl, by rw [EB.out]; exact own_base O4.out (by omega), gt HG.out (gt H3.out H4.out)⟩
  · have EB := hid (show encB s l = [] by unfold encB; rw [if_neg hc])
    have hc' : (checkN s == 0) = false := by simp [hc]
    have HG := hid hg
    generalize checkN s = cc at *
    clear h hg hc
    go_enter Tryd.func12, Tryd.ntmps12
    go_wp2_with (go_at_call 19; refine CK.out.mono ?_; rintro e w3 ⟨rfl, b3⟩; have H3 := hid b3; clear b3)
    go_ret
    exact ⟨none, 0, 0, rfl, by rw [EB.out]; exact World.ownsRow_nil _ _ _ _, gt HG.out H3.out⟩

/-- The document's example. -/
def exP (b : Nat) : Sh := .mk 1 (some ⟨b, 0, none⟩) 1 1 [(1, 2)] none 0 0 []
theorem exP_in {W : World} {b : Nat} {u : TypeId} (hb : W.heap[b]? = some (.cells #[.int .i64 1, .int .i64 2] u)) : In (fun b => b < W.heap.size) W (exP b) := by
  have lb : b < W.heap.size := (Array.getElem?_eq_some_iff.1 hb).1
  intro q hq
  have : q = exP b := by
    rw [nodes_eq] at hq
    simpa [exP, Sh.ps, nodesL] using hq
  subst this
  refine { kI := by simp [exP, Sh.k], xl := rfl, xm := Nat.le_refl _, xb := by simp [exP, Sh.xn], x0 := (fun h => by cases h), xr := .inr ⟨b, 0, rfl, lb, fun i p hi => ?_⟩, pl := rfl, pm := Nat.le_refl _, pb := by simp [exP, Sh.pn], p0 := fun _ => ⟨rfl, rfl⟩, pr := .inl rfl }
  cases i with
  | zero =>
    simp [exP, Sh.xy] at hi
    subst hi
    constructor <;> simp [World.cell?, hb]
  | succ i => simp [exP, Sh.xy] at hi
theorem exP_enc {W : World} {b : Nat} {u : TypeId} (hb : W.heap[b]? = some (.cells #[.int .i64 1, .int .i64 2] u)) : encB (exP b) false = [0, 0, 0, 0, 1, 0, 0, 0, 0, 0, 0, 0, 1, 0, 0, 0, 0, 0, 0, 0, 2] := by
  have e : (exP b).t = .mk 1 [(1, 2)] [] := by unfold exP; rw [Sh.t, tL]
  unfold encB
  rw [chk_eq (exP_in hb), e, if_pos (by decide +kernel)]
  decide +kernel
set_option maxRecDepth 100000 in
set_option maxHeartbeats 2000000 in
theorem lives_call (w : World) (hT : Tab w) : Calls Tryd.prog 11 #[] w fun e w' => e = .returned (.bool true) ∧ Below w.heap.size w w' := by
  have EC := hid (encode_call (exP (w.heap.size)) false _ (hT.keep (ext1 (.cells #[.int .i64 1, .int .i64 2] 56))) (exP_in (heap_alloc_new w _)))
  have EE := hid (exP_enc (heap_alloc_new w (.cells #[.int .i64 1, .int .i64 2] 56)))
  clear hT
  go_enter Tryd.func11, Tryd.ntmps11
  go_wp2_with (go_at_call 9; refine EC.out.mono ?_; rintro e w3 ⟨a3, n3, c3, rfl, o3, -, b3⟩; have H3 := hid b3; have CV := conv_rd (P := Tryd.prog) (rd_at o3) 27 9 5 Tryd.underlying27 Tryd.underlying5 Tryd.underlying9; rw [EE.out] at CV; clear o3 b3)
  go_ret
  exact ⟨congrArg (fun b => Ending.returned (.bool b)) (by decide +kernel), gt (ext1 _) H3.out⟩
end Go.Proofs.YtjieegnmofimkaaDoor
