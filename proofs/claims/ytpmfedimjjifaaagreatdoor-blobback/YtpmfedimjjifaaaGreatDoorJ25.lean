/- The document's own Encode, the document's example, and the law WkbEncodes; no statement of the seat is proved here. -/
import Derived.Test.YtpmfedimjjifaaaGreatDoorJ24
import Derived.Test.YtpmfedimjjifaaaGreatDoorJ15
import Derived.Test.YtpmfedimjjifaaaGreatDoorJ23
import Derived.Test.YtpmfedimjjifaaaGreatDoorJ16
import Derived.Test.YtpmfedimjjifaaaGreatDoorJ18
import Derived.Test.YtpmfedimjjifaaaGreatDoorJ19
import Derived.Test.YtpmfedimjjifaaaGreatDoorJ14
namespace Go.Proofs.YtpmfedimjjifaaaGreatDoor
open Go.RowKit Go.Maps

set_option maxRecDepth 100000 in
theorem WfB.part {s p : Sh} (h : WfB s) (hp : p ∈ s.ps) : WfB p := fun q hq => h q (nodes_part hp q hq)
set_option maxRecDepth 100000 in
theorem u0 : U (one ([] : List (Int × Int))).1 = 9223372036854775808 := by decide +kernel
set_option maxRecDepth 100000 in
theorem u1 : U (one ([] : List (Int × Int))).2 = 9223372036854775808 := by decide +kernel
set_option maxRecDepth 100000 in
set_option maxHeartbeats 2000000 in
theorem refput_call (l : Bool) : ∀ (M : Nat) (s : Sh), s.nodes.length ≤ M → WfB s → s.k ≠ 0 → sizeI (s.t.items l) ≤ 200000 → ∀ w, In (fun b => b < w.heap.size) w s →
    Calls Tryz.prog 92 #[.agg #[.int .i64 (s).k, .slice (s).xo (s).xn (s).xc, .slice (s).po (s).pn (s).pc], .bool l] w fun e w' => ∃ r m, e = .returned r ∧ w'.ownsRow w.heap.size 5 1 r m (bs (bytesI l (s.t.items l))) ∧ Below w.heap.size w w' := by
  intro M
  induction M with
  | zero => intro s h; rw [nodes_eq] at h; simp at h
  | succ M ih =>
    intro s hM hW h0 hB w hI
    have e1 : ∀ k n, bytesI l ([(if l then 1 else 0, 1), (k, 4)] ++ n) = ([(if l then 1 else 0 : Nat)] ++ putN k 4 l) ++ bytesI l n := by
      intro k n
      simp only [bytesI_append, bytesI_cons, bytesI_nil, putN_one, List.append_nil]
      cases l <;> rfl
    by_cases h1 : s.k = 1
    · have e2 : ∀ p : Int × Int, bytesI l (ptI p) = putN (U p.1) 8 l ++ putN (U p.2) 8 l := by intro p; simp [bytesI, ptI]
      have EE : bytesI l (s.t.items l) = ([(if l then 1 else 0 : Nat)] ++ putN 1 4 l) ++ (putN (U (one s.xy).1) 8 l ++ putN (U (one s.xy).2) 8 l) := by
        rw [items_point l s.t (by rw [t_k, h1]), e1, t_xy, t_k, h1, show U 1 = 1 from rfl, e2]
      rw [EE]
      cases hx : s.xy with
      | nil =>
        rw [u0, u1]
        cases l
        · rw [if_neg (by decide)]; exact rput_point_false_nil s h1 w hI.here hx
        · rw [if_pos rfl]; exact rput_point_true_nil s h1 w hI.here hx
      | cons p r =>
        rw [show one (p :: r) = p from rfl]
        cases l
        · rw [if_neg (by decide)]; exact rput_point_false_cons s h1 w hI.here p r hx
        · rw [if_pos rfl]; exact rput_point_true_cons s h1 w hI.here p r hx
    · by_cases h2 : s.k = 2
      · have hl : s.xn ≤ 1000000 := by
          rw [items_line l s.t (by rw [t_k, h2]), sizeI_append, show sizeI [(if l then 1 else 0, 1), (U s.t.k, 4)] = 5 from rfl, sizeI_cons, sizeI_pts, t_xy] at hB
          have := hI.here.xl
          omega
        have EE : bytesI l (s.t.items l) = ([(if l then 1 else 0 : Nat)] ++ putN 2 4 l) ++ bytesI l ((s.xn, 4) :: s.xy.flatMap ptI) := by
          rw [items_line l s.t (by rw [t_k, h2]), e1, t_xy, t_k, h2, hI.here.xl, show U 2 = 2 from rfl]
        rw [EE]
        cases l
        · rw [if_neg (by decide)]; exact rput_line_false s h2 w hI.here hl
        · rw [if_pos rfl]; exact rput_line_true s h2 w hI.here hl
      · have hB2 : sizeI (s.ps.flatMap fun p => p.t.items l) ≤ 200000 := by
          rw [items_other l s.t (by rw [t_k]; exact ⟨h0, h1, h2⟩), sizeI_append, show sizeI [(if l then 1 else 0, 1), (U s.t.k, 4)] = 5 from rfl, sizeI_cons, t_ps, List.flatMap_map] at hB
          omega
        have EE : bytesI l (s.t.items l) = (([(if l then 1 else 0 : Nat)] ++ putN (U s.k) 4 l) ++ putN s.pn 4 l) ++ bytesI l (s.ps.flatMap fun p => p.t.items l) := by
          rw [items_other l s.t (by rw [t_k]; exact ⟨h0, h1, h2⟩), e1, t_k, t_ps, List.length_map, hI.here.pl, List.flatMap_map, bytesI_cons, ← List.append_assoc]
        rw [EE]
        by_cases h3 : s.k = 3
        · have hp : ∀ p ∈ s.ps, p.k = 0 ∧ Here (fun b => b < w.heap.size) w p := fun p hp => ⟨(hW s (nodes_self s) p hp).1 h3, (hI.part hp).here⟩
          rw [show U s.k = 3 by rw [h3]; rfl]
          cases l
          · rw [if_neg (by decide)]; exact rput_parts_false_3 s h3 w hI.here hp hB2
          · rw [if_pos rfl]; exact rput_parts_true_3 s h3 w hI.here hp hB2
        · have ihp : ∀ p ∈ s.ps, ∀ W : World, Below w.heap.size w W → Calls Tryz.prog 92 #[.agg #[.int .i64 (p).k, .slice (p).xo (p).xn (p).xc, .slice (p).po (p).pn (p).pc], .bool l] W fun e w' => ∃ r m, e = .returned r ∧ w'.ownsRow W.heap.size 5 1 r m (bs (bytesI l (p.t.items l))) ∧ Below W.heap.size W w' := by
            intro p hp W hb
            refine ih p (by have := nodes_lt hp; omega) (hW.part hp) ((hW s (nodes_self s) p hp).2 h3) ?_ W ((hI.part hp).grow hb)
            have : sizeI (p.t.items l) ≤ sizeI (s.ps.flatMap fun p => p.t.items l) := by
              obtain ⟨i, hi⟩ := List.mem_iff_getElem?.1 hp
              have := Enc.size_take (fun p : Sh => p.t.items l) s.ps i p hi
              exact Nat.le_trans (Nat.le_add_left _ _) this
            omega
          cases l
          · rw [if_neg (by decide)]; exact rput_parts_false_n s ⟨h1, h2, h3⟩ w hI.here ihp hB2
          · rw [if_pos rfl]; exact rput_parts_true_n s ⟨h1, h2, h3⟩ w hI.here ihp hB2
set_option maxRecDepth 100000 in
theorem right_of {s : Sh} (hc : checkN s = 0) : rightB s = true ∧ 1 ≤ s.k := by
  rw [check_eq] at hc
  split at hc
  · cases hc
  split at hc
  · cases hc
  split at hc
  · cases hc
  rename_i hk
  refine ⟨by cases h : rightB s with | true => rfl | false => exact absurd (Or.inr h) hk, ?_⟩
  have : ¬ s.k < 1 := fun e => hk (.inl e)
  omega

set_option maxRecDepth 100000 in
set_option maxHeartbeats 2000000 in
theorem refEncode_call (s : Sh) (l : Bool) (w : World) (h : In (fun b => b < w.heap.size) w s) : Calls Tryz.prog 57 #[.agg #[.int .i64 (s).k, .slice (s).xo (s).xn (s).xc, .slice (s).po (s).pn (s).pc], .bool l] w fun e w' => ∃ ao n cap, e = .returned (.slice ao n cap) ∧ w'.ownsRow w.heap.size 5 1 (.slice ao n cap) n (bs (encB s l)) ∧ Below w.heap.size w w' := by
  have hg : Below w.heap.size w (w.alloc (.cells #[.int .i64 (s).k, .slice (s).xo (s).xn (s).xc, .slice (s).po (s).pn (s).pc] 39)) := ext1 _
  have CK := hid (refCheck_call s _ (h.grow hg))
  have BX := hid (Bx.new w s)
  obtain ⟨x0, x1, x2⟩ := BX.out.cells
  by_cases hc : checkN s = 0
  · obtain ⟨hr, hk⟩ := right_of hc
    have RP := hid (fun W (hb : Below w.heap.size w W) => refput_call l s.nodes.length s (Nat.le_refl _) (wf_of hr) (by omega) (by have := size_small h hc l; omega) W (h.grow hb))
    rw [hc] at CK
    have EB := hid (show encB s l = bytesI l (s.t.items l) by unfold encB; rw [if_pos hc])
    have HG := hid hg
    clear h hg hc hr hk
    go_enter Tryz.func57, Tryz.ntmps57
    go_wp2_with (first
      | (go_at_call 18; refine CK.out.mono ?_; rintro e w3 ⟨rfl, b3⟩; have H3 := hid b3; have X3 := hid (BX.out.keep b3); obtain ⟨x0, x1, x2⟩ := X3.out.cells; clear b3)
      | (go_at_call 92; refine (RP.out _ (gt HG.out H3.out)).mono ?_; rintro e w4 ⟨v4, m4, rfl, o4, b4⟩; have l4 := o4.1; obtain ⟨a4, c4, rfl⟩ := row_form o4; have O4 := hid o4; have H4 := hid b4; clear o4 b4))
    go_ret
    have e3 := H3.out.size
    simp at e3
    exact ⟨_, _, _, rfl, by rw [EB.out]; exact own_base O4.out (by omega), gt HG.out (gt H3.out H4.out)⟩
  · have EB := hid (show encB s l = [] by unfold encB; rw [if_neg hc])
    have hc' : (checkN s == 0) = false := by simp [hc]
    have HG := hid hg
    generalize checkN s = cc at *
    clear h hg hc
    go_enter Tryz.func57, Tryz.ntmps57
    go_wp2_with (go_at_call 18; refine CK.out.mono ?_; rintro e w3 ⟨rfl, b3⟩; have H3 := hid b3; clear b3)
    go_ret
    exact ⟨none, 0, 0, rfl, by rw [EB.out]; exact World.ownsRow_nil _ _ _ _, gt HG.out H3.out⟩

/-- The document's example. -/
def exP (b : Nat) : Sh := .mk 1 (some ⟨b, 0, none⟩) 1 1 [(1, 2)] none 0 0 []
set_option maxRecDepth 100000 in
theorem exP_in {W : World} {b : Nat} {u : TypeId} (hb : W.heap[b]? = some (.cells #[.int .i64 1, .int .i64 2] u)) : In (fun b => b < W.heap.size) W (exP b) := by
  have lb : b < W.heap.size := (Array.getElem?_eq_some_iff.1 hb).1
  intro q hq
  have : q = exP b := by
    rw [nodes_eq] at hq
    simpa [exP, Sh.ps, nodesL] using hq
  subst this
  refine { kI := by simp [exP, Sh.k], xl := rfl, xm := Nat.le_refl _, xb := by simp [exP, Sh.xn], x0 := (fun h => by cases h), xr := .inr ⟨b, 0, rfl, lb, fun i p hi => ?_⟩, pl := rfl, pm := Nat.le_refl _, pb := by simp [exP, Sh.pn], p0 := fun _ => ⟨rfl, rfl⟩, pr := .inl rfl }
  cases i with
  | zero =>
    simp [exP, Sh.xy] at hi
    subst hi
    constructor <;> simp [World.cell?, hb]
  | succ i => simp [exP, Sh.xy] at hi
set_option maxRecDepth 100000 in
theorem exP_enc {W : World} {b : Nat} {u : TypeId} (hb : W.heap[b]? = some (.cells #[.int .i64 1, .int .i64 2] u)) : encB (exP b) false = [0, 0, 0, 0, 1, 0, 0, 0, 0, 0, 0, 0, 1, 0, 0, 0, 0, 0, 0, 0, 2] := by
  have e : (exP b).t = .mk 1 [(1, 2)] [] := by unfold exP; rw [Sh.t, tL]
  unfold encB
  rw [chk_eq (exP_in hb), e, if_pos (by decide +kernel)]
  decide +kernel
end Go.Proofs.YtpmfedimjjifaaaGreatDoor

/- The law WkbEncodes; no statement of the seat is proved here. -/
namespace Go.Proofs.YtpmfedimjjifaaaGreatDoor
open Go.RowKit Go.Maps

set_option maxRecDepth 100000 in
theorem size_any (l l' : Bool) : ∀ (N : Nat) (s : Sh), s.nodes.length ≤ N → sizeI (s.t.items l) = sizeI (s.t.items l') := by
  intro N
  induction N with
  | zero => intro s h; rw [nodes_eq] at h; simp at h
  | succ N ih =>
    intro s h
    by_cases h0 : s.k = 0
    · rw [ring_items l s.t (by rw [t_k, h0]), ring_items l' s.t (by rw [t_k, h0])]
    · have e : ∀ l : Bool, ∀ k, sizeI [(if l then 1 else 0, 1), (k, 4)] = 5 := fun _ _ => rfl
      by_cases h1 : s.k = 1
      · rw [items_point l s.t (by rw [t_k, h1]), items_point l' s.t (by rw [t_k, h1]), sizeI_append, sizeI_append, e, e]
      · by_cases h2 : s.k = 2
        · rw [items_line l s.t (by rw [t_k, h2]), items_line l' s.t (by rw [t_k, h2]), sizeI_append, sizeI_append, e, e]
        · rw [items_other l s.t (by rw [t_k]; exact ⟨h0, h1, h2⟩), items_other l' s.t (by rw [t_k]; exact ⟨h0, h1, h2⟩), sizeI_append, sizeI_append, e, e, sizeI_cons, sizeI_cons, t_ps, List.flatMap_map, List.flatMap_map]
          congr 2
          have key : ∀ L : List Sh, (∀ p ∈ L, p.nodes.length ≤ N) → sizeI (L.flatMap fun p => p.t.items l) = sizeI (L.flatMap fun p => p.t.items l') := by
            intro L
            induction L with
            | nil => intro _; rfl
            | cons a r ihr =>
              intro hL
              rw [List.flatMap_cons, List.flatMap_cons, sizeI_append, sizeI_append, ih a (hL a (by simp)), ihr fun p hp => hL p (by simp [hp])]
          exact key s.ps fun p hp => by have := nodes_lt hp; omega
set_option maxRecDepth 100000 in
theorem dark_check {s : Sh} (h : lightB s = false) : checkN s ≠ 0 := by
  intro hc
  rw [check_eq] at hc
  split at hc
  · cases hc
  rename_i h16
  split at hc
  · cases hc
  rename_i hl
  have a1 : ptsN (s.flat 1) ≤ 4000 := by
    have : ¬ 4000 < ptsN (s.flat 1) := fun e => hl (.inl e)
    omega
  have a2 : partsN (s.flat 1) ≤ 1000 := by
    have : ¬ 1000 < partsN (s.flat 1) := fun e => hl (.inr e)
    omega
  have a3 : depthN (s.flat 1) ≤ 16 := by omega
  unfold lightB at h
  simp [a1, a2, a3] at h
/-- How many bytes the program says. -/
def encN (s : Sh) : Nat := sizeI (if checkN s = 0 then s.t.items false else [])
set_option maxRecDepth 100000 in
theorem encB_len (s : Sh) (l : Bool) : (encB s l).length = encN s := by
  unfold encB encN
  split
  · rw [bytesI_length]; exact size_any l false _ s (Nat.le_refl _)
  · rfl

end Go.Proofs.YtpmfedimjjifaaaGreatDoor

/- What Decode and Read say of bytes that were written, cut, or lengthened, and of collections in one another; no statement of the seat is proved here. -/
namespace Go.Proofs.YtpmfedimjjifaaaGreatDoor
open Go.RowKit Go.Maps

set_option maxRecDepth 100000 in
theorem d0_more {S : Nat → Prop} {w : World} {s : Sh} (h : In S w s) (hr : Rg s) (hc : checkN s = 0) (l : Bool) (more : List Nat) : ∃ P Q, D0 (bytesI l (s.t.items l) ++ more) = .ok s.t ⟨more, P, Q⟩ := by
  obtain ⟨g, h1, h2, -, -⟩ := good16 h hr hc
  have D := (dec_shape 16 s.t l (-1) g (.inl rfl) 4000 1000 h1 h2).1 more
  unfold D0
  rw [D, bind_ok, if_pos (by rw [← chk_eq h]; exact hc)]
  exact ⟨_, _, rfl⟩
set_option maxRecDepth 100000 in
theorem d0_cut {S : Nat → Prop} {w : World} {s : Sh} (h : In S w s) (hr : Rg s) (hc : checkN s = 0) (l : Bool) (j : Nat) (hj : j < (bytesI l (s.t.items l)).length) : D0 ((bytesI l (s.t.items l)).take j) = .bad 8 := by
  obtain ⟨g, h1, h2, -, -⟩ := good16 h hr hc
  have D := (dec_shape 16 s.t l (-1) g (.inl rfl) 4000 1000 h1 h2).2 ((bytesI l (s.t.items l)).take j) _ _ (by
    rw [← List.drop_eq_getElem_cons hj, List.take_append_drop])
  unfold D0
  rw [D]; rfl
set_option maxRecDepth 100000 in
theorem r0_more {S : Nat → Prop} {w : World} {s : Sh} (h : In S w s) (hr : Rg s) (hc : checkN s = 0) (l : Bool) (x : Nat) : R0 (bytesI l (s.t.items l) ++ [x]) = .bad 9 := by
  obtain ⟨P, Q, e⟩ := d0_more h hr hc l [x]
  unfold R0
  rw [e, bind_ok, if_neg (by simp)]
set_option maxRecDepth 100000 in
theorem r0_len {xs : List Nat} {t : T} {s1 : St} (h : R0 xs = .ok t s1) (l : Bool) : sizeI (t.items l) = xs.length ∧ chk t = 0 := by
  obtain ⟨t', s', h1, h⟩ := bind_inv h
  split at h
  · rename_i h0
    injection h with e1 e2
    subst e1 e2
    obtain ⟨t2, s2, h2, h1⟩ := bind_inv h1
    split at h1
    · rename_i hc
      injection h1 with e1 e2
      subst e1 e2
      have := shapeD_len l 16 (-1) _ _ _ h2
      simp only at this
      exact ⟨by omega, hc⟩
    · cases h1
  · cases h

/-- A collection's head with one part, and without. -/
def blk (l : Bool) : List Nat := if l then [1, 7, 0, 0, 0, 1, 0, 0, 0] else [0, 0, 0, 0, 7, 0, 0, 0, 1]
def lst (l : Bool) : List Nat := if l then [1, 7, 0, 0, 0, 0, 0, 0, 0] else [0, 0, 0, 0, 7, 0, 0, 0, 0]
def rep (l : Bool) (n : Nat) : List Nat := (List.replicate n (blk l)).flatten
set_option maxRecDepth 100000 in
theorem rep_len (l : Bool) (n : Nat) : (rep l n).length = 9 * n := by
  induction n with
  | zero => rfl
  | succ n ih =>
    unfold rep at *
    rw [List.replicate_succ, List.flatten_cons, List.length_append, ih]
    cases l <;> simp [blk] <;> omega
set_option maxRecDepth 100000 in
theorem rep_snoc (l : Bool) (n : Nat) : rep l (n + 1) = rep l n ++ blk l := by
  unfold rep
  rw [List.replicate_succ', List.flatten_append]; simp
set_option maxRecDepth 100000 in
theorem nest_bytes (l : Bool) (n : Nat) : bytesI l ((nest n).items l) = rep l n ++ lst l := by
  induction n with
  | zero => rw [nest_items]; cases l <;> decide
  | succ n ih =>
    rw [nest_items]
    simp only [Nat.add_sub_cancel, if_neg (Nat.succ_ne_zero n)]
    rw [bytesI_append, ih]
    have : rep l (n + 1) = blk l ++ rep l n := by unfold rep; rw [List.replicate_succ, List.flatten_cons]
    rw [this, List.append_assoc]
    congr 1
    cases l <;> decide
set_option maxRecDepth 100000 in
theorem rep_set (l : Bool) (n : Nat) : (rep l (n + 1)).set (9 * (n + 1) - (if l then 4 else 1)) 0 = bytesI l ((nest n).items l) := by
  rw [nest_bytes, rep_snoc, List.set_append_right _ _ (by rw [rep_len]; split <;> omega), rep_len]
  congr 1
  cases l
  · rw [if_neg (by decide), show 9 * (n + 1) - 1 - 9 * n = 8 by omega]; rfl
  · rw [if_pos rfl, show 9 * (n + 1) - 4 - 9 * n = 5 by omega]; rfl
set_option maxRecDepth 100000 in
theorem r0_nest (l : Bool) (n : Nat) (hn : n ≤ 15) : ∃ t s1, R0 (bytesI l ((nest n).items l)) = .ok t s1 := by
  have g := nest_good 15 n hn
  obtain ⟨h1, h2⟩ := nest_count n
  have D := (dec_shape 16 (nest n) l (-1) g (.inl rfl) 4000 1000 (by omega) (by omega)).1 []
  rw [List.append_nil] at D
  have hc : chk (nest n) = 0 := nest_chk ⟨n, by omega⟩
  unfold R0 D0
  rw [D, bind_ok, if_pos hc, bind_ok]
  exact ⟨_, _, if_pos rfl⟩
set_option maxRecDepth 100000 in
theorem r0_deep (l : Bool) (n : Nat) (hn : 16 ≤ n) : R0 (bytesI l ((nest n).items l)) = .bad 10 := by
  unfold R0 D0
  rw [deep_bad l 16 n 4000 1000 hn (by omega)]; rfl
set_option maxRecDepth 100000 in
theorem rep_bytes (l : Bool) (n : Nat) : ∀ x ∈ rep l n, x < 256 := by
  intro x hx
  unfold rep at hx
  obtain ⟨y, hy, hxy⟩ := List.mem_flatten.1 hx
  obtain ⟨_, rfl⟩ := List.mem_replicate.1 hy
  cases l <;> simp [blk] at hxy <;> omega

set_option maxRecDepth 100000 in
/-- A box of bytes can be read. -/
theorem rd_box {w : World} {b : Nat} (xs : List Nat) (h : Bo w b (bs xs).toArray 5) : Rd w (some ⟨b, 0, none⟩) xs.length xs.length xs := by
  refine ⟨rfl, Nat.le_refl _, (fun h => by cases h), fun _ => ⟨b, 0, rfl, fun t ht => ?_⟩⟩
  rw [Nat.zero_add]
  exact h.cell t _ (by rw [List.getElem?_toArray]; exact bs_get xs t ht)
set_option maxRecDepth 100000 in
theorem row_set {w : World} {B g n cap : Nat} {xs : List Nat} (h : w.ownsRow B 5 1 (.slice (some ⟨g, 0, none⟩) n cap) n (bs xs)) (j v : Nat) (hj : j < n) :
    (∃ u, w.cell? ⟨g, j, none⟩ = some u) ∧ w.frozen? ⟨g, j, none⟩ = false ∧ Rd (w.setCell ⟨g, j, none⟩ (.int .u8 (v : Int))) (some ⟨g, 0, none⟩) n cap (xs.set j v) := by
  have hr := rd_own h
  have hl : xs.length = n := hr.1
  obtain ⟨b, off, e, hc⟩ := hr.2.2.2 (by omega)
  simp only [Option.some.injEq, Addr.mk.injEq, and_true] at e
  obtain ⟨rfl, rfl⟩ := e
  simp only [Nat.zero_add] at hc
  rcases h.2 with ⟨h1, _⟩ | ⟨g', cap', cur, h1, hb, hg, hnc, hm, hz, ht⟩
  · cases h1
  · simp only [Value.slice.injEq, Option.some.injEq, Addr.mk.injEq, and_true, true_and] at h1
    obtain ⟨rfl, rfl⟩ := h1
    refine ⟨⟨_, hc j hj⟩, by simp [World.frozen?, hg], by simp [hl], hr.2.1, (fun h => by cases h), fun _ => ⟨g, 0, rfl, fun t ht => ?_⟩⟩
    have B : Bo w g cur 5 := hg
    rw [Nat.zero_add]
    by_cases htj : t = j
    · subst htj
      have hlt : t < cur.size := by
        have := hc t hj
        unfold Bo at B
        simp [World.cell?, B] at this
        exact (Array.getElem?_eq_some_iff.1 this).1
      refine (B.set t _).cell t _ ?_
      simp [List.getD, hlt, hl, hj]
    · have h2 := hc t ht
      unfold Bo at B
      have B2 := Bo.set (show Bo w g cur 5 from B) j (.int .u8 (v : Int))
      refine B2.cell t _ ?_
      rw [Array.getElem?_setIfInBounds_ne (Ne.symm htj)]
      simp [World.cell?, B] at h2
      rw [h2]
      simp [List.getD, List.getElem?_set_ne (Ne.symm htj)]
end Go.Proofs.YtpmfedimjjifaaaGreatDoor

/- Blobs as plain bytes: boxes of points, what a reader's points are, heads; no statement of the seat is proved here. -/
namespace Go.Proofs.YtpmfedimjjifaaaGreatDoor
open Go.RowKit
open Bxs (boxL Rect noR goodR orR uniR ptR Bd)

set_option maxRecDepth 100000 in
theorem uni_pt_n (r : Rect) (p : Int × Int) : (uniR r (ptR p)).n = false := by
  have g : goodR (ptR p) = true := by simp [goodR, ptR]
  unfold uniR
  rw [Bxs.or_of g]
  split
  · rfl
  · split
    · rename_i h; cases h
    · rfl
set_option maxRecDepth 100000 in
theorem fold_n (l : List (Int × Int)) : ∀ r : Rect, r.n = false → (l.foldl (fun r p => uniR r (ptR p)) r).n = false := by
  induction l with
  | nil => intro r h; exact h
  | cons p q ih => intro r _; exact ih _ (uni_pt_n r p)
set_option maxRecDepth 100000 in
theorem boxL_n (l : List (Int × Int)) : (boxL l).n = decide (l = []) := by
  cases l with
  | nil => rfl
  | cons p q => rw [show decide (p :: q = []) = false by simp]; exact fold_n q _ (uni_pt_n _ p)
set_option maxRecDepth 100000 in
theorem fold_good (l : List (Int × Int)) : ∀ r : Rect, goodR r = true → goodR (l.foldl (fun r p => uniR r (ptR p)) r) = true := by
  induction l with
  | nil => intro r h; exact h
  | cons p q ih => intro r _; exact ih _ (Bxs.good_uni r _)
set_option maxRecDepth 100000 in
theorem boxL_good (l : List (Int × Int)) : goodR (boxL l) = true := fold_good l _ Bxs.good_no
set_option maxRecDepth 100000 in
theorem fold_bd (l : List (Int × Int)) : ∀ r : Rect, Bd r → (∀ p ∈ l, InR p) → Bd (l.foldl (fun r p => uniR r (ptR p)) r) := by
  induction l with
  | nil => intro r h _; exact h
  | cons p q ih =>
    intro r h hl
    refine ih _ (Bxs.bd_uni h ?_) fun x hx => hl x (by simp [hx])
    have := hl p (by simp)
    unfold InR NW at this
    unfold Bd ptR
    simp only
    omega
set_option maxRecDepth 100000 in
theorem boxL_bd (l : List (Int × Int)) (h : ∀ p ∈ l, InR p) : Bd (boxL l) := fold_bd l _ Bxs.bd_no h
set_option maxRecDepth 100000 in
theorem boxL_no (l : List (Int × Int)) (h : (boxL l).n = true) : boxL l = noR := by
  rw [boxL_n, decide_eq_true_eq] at h
  subst h; rfl

mutual
/-- The points of a shape by itself. -/
def T.pt : T → List (Int × Int)
  | .mk _ xy ps => xy ++ ptL ps
def ptL : List T → List (Int × Int)
  | [] => []
  | p :: r => p.pt ++ ptL r
end
set_option maxRecDepth 100000 in
theorem ptL_map (l : List T) : ptL l = l.flatMap T.pt := by
  induction l with
  | nil => rw [ptL]; rfl
  | cons a r ih => rw [ptL, ih]; rfl
mutual
theorem pt_of : ∀ s : Sh, s.t.pt = ptsOf s
  | .mk k xo xn xc xy po pn pc ps => by rw [Sh.t, T.pt, ptL_of ps, ptsOf_eq]; rfl
theorem ptL_of : ∀ l : List Sh, ptL (tL l) = l.flatMap ptsOf
  | [] => by rw [tL, ptL]; rfl
  | p :: r => by rw [tL, ptL, pt_of p, ptL_of r]; rfl
end
set_option maxRecDepth 100000 in
theorem rg_of {s : Sh} (h : ∀ p ∈ s.t.pt, InR p) : Rg s := by
  rw [pt_of] at h
  intro q hq p hp
  exact h p (List.mem_flatMap.2 ⟨q, hq, hp⟩)
set_option maxRecDepth 100000 in
theorem rg_pts {s : Sh} (h : Rg s) : ∀ p ∈ ptsOf s, InR p := by
  intro p hp
  obtain ⟨q, hq, hp⟩ := List.mem_flatMap.1 hp
  exact h q hq p hp

/-- Whatever is read is so. -/
def All {α : Type} (m : St → Re α) (R : α → Prop) : Prop := ∀ s a s', m s = .ok a s' → R a
set_option maxRecDepth 100000 in
theorem I_rng (n : Nat) : NW ≤ I n ∧ I n ≤ 9223372036854775807 := by unfold I NW; rw [IntKind.wrap_i64]; omega
set_option maxRecDepth 100000 in
theorem All.point (l : Bool) : All (pointD l) InR := by
  intro s a s' h
  obtain ⟨x, s1, _, h⟩ := bind_inv h
  obtain ⟨y, s2, _, h⟩ := bind_inv h
  injection h with h1 h2
  subst h1
  exact ⟨I_rng x, I_rng y⟩
set_option maxRecDepth 100000 in
theorem All.times {α : Type} {m : St → Re α} {R : α → Prop} (hm : All m R) : ∀ n, All (timesD m n) (fun l => ∀ a ∈ l, R a) := by
  intro n
  induction n with
  | zero =>
    intro s a s' h
    injection h with h1 h2
    subst h1
    intro x hx; cases hx
  | succ n ih =>
    intro s a s' h
    obtain ⟨x, s1, hx, h⟩ := bind_inv h
    obtain ⟨r, s2, hr, h⟩ := bind_inv h
    injection h with h1 h2
    subst h1
    intro y hy
    rcases List.mem_cons.1 hy with rfl | hy
    · exact hm _ _ _ hx
    · exact ih _ _ _ hr y hy
set_option maxRecDepth 100000 in
theorem All.row (l : Bool) : All (rowD l) (fun xy => ∀ p ∈ xy, InR p) := by
  intro s a s' h
  obtain ⟨n, s1, _, h⟩ := bind_inv h
  exact All.times (All.point l) n _ _ _ h
set_option maxRecDepth 100000 in
theorem All.spot (l : Bool) : All (spotD l) (fun xy => ∀ p ∈ xy, InR p) := by
  intro s a s' h
  obtain ⟨p, s1, hp, h⟩ := bind_inv h
  split at h
  · injection h with h1 h2
    subst h1
    intro x hx; cases hx
  · obtain ⟨u, s2, _, h⟩ := bind_inv h
    injection h with h1 h2
    subst h1
    intro x hx
    rw [List.mem_singleton] at hx
    subst hx
    exact All.point l _ _ _ hp
def RgT (t : T) : Prop := ∀ p ∈ t.pt, InR p
set_option maxRecDepth 100000 in
theorem RgT.xy {k : Int} {xy : List (Int × Int)} (h : ∀ p ∈ xy, InR p) : RgT (.mk k xy []) := by
  intro p hp
  rw [T.pt, ptL, List.append_nil] at hp
  exact h p hp
set_option maxRecDepth 100000 in
theorem RgT.ps {k : Int} {ps : List T} (h : ∀ t ∈ ps, RgT t) : RgT (.mk k [] ps) := by
  intro p hp
  rw [T.pt, List.nil_append, ptL_map] at hp
  obtain ⟨t, ht, hp⟩ := List.mem_flatMap.1 hp
  exact h t ht p hp
set_option maxRecDepth 100000 in
theorem All.ring (l : Bool) : All (ringD l) RgT := by
  intro s a s' h
  obtain ⟨xy, s1, hx, h⟩ := bind_inv h
  injection h with h1 h2
  subst h1
  exact RgT.xy (All.row l _ _ _ hx)
set_option maxRecDepth 100000 in
theorem All.list (few : Nat) (l : Bool) {m : St → Re T} (hm : All m RgT) : All (listD few l m) (fun ps => ∀ t ∈ ps, RgT t) := by
  intro s a s' h
  obtain ⟨n, s1, _, h⟩ := bind_inv h
  exact All.times hm n _ _ _ h
set_option maxRecDepth 100000 in
theorem All.body (l : Bool) (next : Int → St → Re T) (hm : ∀ k, All (next k) RgT) (k : Int) : All (bodyD next k l) RgT := by
  intro s a s' h
  unfold bodyD at h
  split at h
  · obtain ⟨xy, s1, hx, h⟩ := bind_inv h
    injection h with h1 h2
    subst h1
    exact RgT.xy (All.spot l _ _ _ hx)
  · split at h
    · obtain ⟨xy, s1, hx, h⟩ := bind_inv h
      injection h with h1 h2
      subst h1
      exact RgT.xy (All.row l _ _ _ hx)
    · split at h
      · obtain ⟨ps, s1, hx, h⟩ := bind_inv h
        injection h with h1 h2
        subst h1
        exact RgT.ps (All.list 4 l (All.ring l) _ _ _ hx)
      · obtain ⟨ps, s1, hx, h⟩ := bind_inv h
        injection h with h1 h2
        subst h1
        exact RgT.ps (All.list 9 l (hm _) _ _ _ hx)
set_option maxRecDepth 100000 in
theorem All.shape : ∀ (f : Nat) (want : Int), All (shapeD f want) RgT := by
  intro f
  induction f with
  | zero =>
    intro want s t s' h
    obtain ⟨l, s1, h1, h⟩ := bind_inv h
    obtain ⟨k, s2, h2, h⟩ := bind_inv h
    exact All.body l _ (fun k s a s' h => by cases h) k _ _ _ h
  | succ f ih =>
    intro want s t s' h
    obtain ⟨l, s1, h1, h⟩ := bind_inv h
    obtain ⟨k, s2, h2, h⟩ := bind_inv h
    exact All.body l _ (fun k => ih k) k _ _ _ h
set_option maxRecDepth 100000 in
/-- What was read has points in range, and may be. -/
theorem r0_good {xs : List Nat} {t : T} {s1 : St} (h : R0 xs = .ok t s1) : RgT t ∧ chk t = 0 := by
  obtain ⟨t', s', h1, h⟩ := bind_inv h
  split at h
  · injection h with e1 e2
    subst e1 e2
    obtain ⟨t2, s2, h2, h1⟩ := bind_inv h1
    split at h1
    · rename_i hc
      injection h1 with e1 e2
      subst e1 e2
      exact ⟨All.shape _ _ _ _ _ h2, hc⟩
    · cases h1
  · cases h
end Go.Proofs.YtpmfedimjjifaaaGreatDoor

/- Blobs as plain bytes: a head's bytes, what Peek and Open say; no statement of the seat is proved here. -/
namespace Go.Proofs.YtpmfedimjjifaaaGreatDoor
open Go.RowKit
open Bxs (boxL Rect noR goodR orR uniR ptR Bd)

/-- The head of a blob of a shape with these points. -/
def headV (pts : List (Int × Int)) (srs : Int) (l b : Bool) : Hd := ⟨srs, l, b && !(boxL pts).n, (boxL pts).n, if b && !(boxL pts).n then boxL pts else noR⟩
def headBs (h : Hd) : List Nat := markN ++ ([fl h.l h.b h.e] ++ (putN (U h.srs) 4 h.l ++ (if h.b then ordsK h.x h.l 4 else [])))
set_option maxRecDepth 100000 in
theorem ords4 (x : Rect) (l : Bool) : ordsK x l 4 = putN (U x.lx) 8 l ++ (putN (U x.hx) 8 l ++ (putN (U x.ly) 8 l ++ putN (U x.hy) 8 l)) := by
  simp [ordsK, ords]
set_option maxRecDepth 100000 in
theorem ords_len (x : Rect) (l : Bool) : (ordsK x l 4).length = 32 := by rw [ords4]; simp [putN_length]
set_option maxRecDepth 100000 in
theorem headBs_len (h : Hd) : (headBs h).length = szH h.b := by
  unfold headBs szH
  split <;> simp [markN, putN_length, ords_len]
set_option maxRecDepth 100000 in
theorem make_head (s : Sh) (id : Int) (l b : Bool) (hc : checkN s = 0) (ho : okS id = true) : makeB s id l b = headBs (headV (ptsOf s) id l b) ++ encB s l := by
  unfold makeB
  rw [if_pos ⟨hc, ho⟩]
  congr 1
  unfold headBs headV headB
  generalize boxL (ptsOf s) = r
  obtain ⟨n, r0, r1, r2, r3⟩ := r
  cases n <;> cases l <;> cases b <;> simp [flagN, fl, markN]

/-- A number of four bytes, with its sign. -/
def S4 (v : Nat) : Int := IntKind.i32.wrap (v : Int)
def rdX (ys : List Nat) (l : Bool) : Rect := ⟨false, I (psum ys 8 l 8), I (psum (ys.drop 16) 8 l 8), I (psum (ys.drop 8) 8 l 8), I (psum (ys.drop 24) 8 l 8)⟩
/-- A head with what follows its flags. -/
def fillV (h : Hd) (ys : List Nat) : Hd := ⟨S4 (psum ys 4 h.l 4), h.l, h.b, h.e, if h.b then rdX (ys.drop 4) h.l else noR⟩
def flagH (f : Nat) : Hd := ⟨0, f % 2 == 1, f / 2 % 2 == 1, f / 16 % 2 == 1, ⟨false, 0, 0, 0, 0⟩⟩
def okF (f : Nat) : Bool := decide (fl (f % 2 == 1) (f / 2 % 2 == 1) (f / 16 % 2 == 1) = f) && !((f / 2 % 2 == 1) && (f / 16 % 2 == 1))
def begunV (xs : List Nat) : Hd × Bool := if markN.take (xs.take 3).length ≠ xs.take 3 then (noH, false) else if xs.length ≤ 3 then (noH, true) else (flagH (xs.getD 3 0), okF (xs.getD 3 0))
inductive Pk where
  | bad (e : Nat)
  | ok (h : Hd)
def peekV (xs : List Nat) : Pk :=
  if (begunV xs).2 = false then .bad 9
  else if xs.length < szH (begunV xs).1.b then .bad 8
  else if goodR (fillV (begunV xs).1 ((xs.drop 4).take (szH (begunV xs).1.b - 4))).x = false then .bad 9
  else .ok (fillV (begunV xs).1 ((xs.drop 4).take (szH (begunV xs).1.b - 4)))
inductive Ov where
  | bad (e : Nat)
  | ok (h : Hd) (t : T)
def openV (xs : List Nat) : Ov := match peekV xs with
  | .bad e => .bad e
  | .ok h => match R0 (xs.drop (szH h.b)) with
    | .bad e => .bad e
    | .ok t _ => if eqH h (headV t.pt h.srs (ordV (xs.drop (szH h.b))).1 h.b) then .ok h t else .bad 9

set_option maxRecDepth 100000 in
theorem fl_back (l b e : Bool) (h : (b && e) = false) : flagH (fl l b e) = ⟨0, l, b, e, ⟨false, 0, 0, 0, 0⟩⟩ ∧ okF (fl l b e) = true ∧ fl l b e < 256 := by
  cases l <;> cases b <;> cases e <;> first | (cases h; done) | exact ⟨rfl, by decide, by decide⟩
set_option maxRecDepth 100000 in
theorem okF_lt {f : Nat} (h : okF f = true) : (f = 0 ∨ f = 1 ∨ f = 2 ∨ f = 3 ∨ f = 16 ∨ f = 17) := by
  unfold okF at h
  simp only [Bool.and_eq_true, decide_eq_true_eq, Bool.not_eq_true', Bool.and_eq_false_iff] at h
  obtain ⟨h1, h2⟩ := h
  revert h1 h2
  generalize (f % 2 == 1) = a
  generalize (f / 2 % 2 == 1) = b
  generalize (f / 16 % 2 == 1) = c
  intro h1 h2
  subst h1
  cases a <;> cases b <;> cases c <;> simp [fl] at h2 ⊢
set_option maxRecDepth 100000 in
theorem S4_U (z : Int) (h : okS z = true) (l : Bool) (r : List Nat) : S4 (psum (putN (U z) 4 l ++ r) 4 l 4) = z := by
  have e : psum (putN (U z) 4 l ++ r) 4 l 4 = U z % 4294967296 := by cases l <;> simp [psum, putN, up, place] <;> omega
  rw [e]
  unfold okS at h
  simp only [Bool.and_eq_true, decide_eq_true_eq] at h
  unfold S4 U
  rw [IntKind.wrap_i32]
  omega
set_option maxRecDepth 100000 in
theorem I_U' {z : Int} (h : -9223372036854775808 ≤ z ∧ z ≤ 9223372036854775807) : I (U z) = z := I_U (by unfold NW; exact h)
set_option maxRecDepth 100000 in
theorem rdX_ords (x : Rect) (hx : Bd x) (hn : x.n = false) (l : Bool) (r : List Nat) : rdX (ordsK x l 4 ++ r) l = x := by
  obtain ⟨n, a, b, c, d⟩ := x
  obtain ⟨h1, h2, h3, h4⟩ := hx
  simp only at hn h1 h2 h3 h4
  subst hn
  have e0 : ordsK ⟨false, a, b, c, d⟩ l 4 ++ r = putN (U a) 8 l ++ (putN (U c) 8 l ++ (putN (U b) 8 l ++ (putN (U d) 8 l ++ r))) := by rw [ords4]; simp
  have e1 : (ordsK ⟨false, a, b, c, d⟩ l 4 ++ r).drop 8 = putN (U c) 8 l ++ (putN (U b) 8 l ++ (putN (U d) 8 l ++ r)) := by rw [e0, drop_put]
  have e2 : (ordsK ⟨false, a, b, c, d⟩ l 4 ++ r).drop 16 = putN (U b) 8 l ++ (putN (U d) 8 l ++ r) := by rw [show 16 = 8 + 8 from rfl, ← List.drop_drop, e1, drop_put]
  have e3 : (ordsK ⟨false, a, b, c, d⟩ l 4 ++ r).drop 24 = putN (U d) 8 l ++ r := by rw [show 24 = 16 + 8 from rfl, ← List.drop_drop, e2, drop_put]
  unfold rdX
  rw [e1, e2, e3, e0, psum_put8 _ (U_lt _), psum_put8 _ (U_lt _), psum_put8 _ (U_lt _), psum_put8 _ (U_lt _), I_U' h1, I_U' h2, I_U' h3, I_U' h4]

/-- A head that a blob may have. -/
structure OkH (h : Hd) : Prop where
  s : okS h.srs = true
  be : (h.b && h.e) = false
  g : goodR h.x = true
  d : Bd h.x
  n : h.b = true → h.x.n = false
  no : h.b = false → h.x = noR
set_option maxRecDepth 100000 in
theorem head_ok {pts : List (Int × Int)} (hp : ∀ p ∈ pts, InR p) {id : Int} (h : okS id = true) (l b : Bool) : OkH (headV pts id l b) := by
  unfold headV
  cases hn : (boxL pts).n with
  | true => exact ⟨h, by simp, by simp; rfl, by simp; exact Bxs.bd_no, by simp, by simp⟩
  | false =>
    cases b with
    | false => exact ⟨h, by simp, by simp; rfl, by simp; exact Bxs.bd_no, by simp, by simp⟩
    | true => exact ⟨h, by simp, by simp; exact boxL_good pts, by simp; exact boxL_bd pts hp, by simp; exact hn, by simp⟩
set_option maxRecDepth 100000 in
theorem fill_head {h : Hd} (k : OkH h) : fillV ⟨0, h.l, h.b, h.e, ⟨false, 0, 0, 0, 0⟩⟩ (putN (U h.srs) 4 h.l ++ (if h.b then ordsK h.x h.l 4 else [])) = h := by
  obtain ⟨s, l, b, e, x⟩ := h
  unfold fillV
  simp only
  rw [S4_U s k.s]
  cases b with
  | false => simp; exact (k.no rfl).symm
  | true =>
    simp only [if_true]
    rw [drop_put, ← List.append_nil (ordsK x l 4), rdX_ords x k.d (k.n rfl)]
set_option maxRecDepth 100000 in
theorem begun_head {h : Hd} (k : OkH h) (r : List Nat) : begunV (headBs h ++ r) = (⟨0, h.l, h.b, h.e, ⟨false, 0, 0, 0, 0⟩⟩, true) := by
  obtain ⟨h1, h2, -⟩ := fl_back h.l h.b h.e k.be
  have e : headBs h ++ r = 71 :: 80 :: 0 :: fl h.l h.b h.e :: (putN (U h.srs) 4 h.l ++ (if h.b then ordsK h.x h.l 4 else []) ++ r) := by simp [headBs, markN]
  rw [e]
  unfold begunV
  rw [if_neg (by simp [markN]), if_neg (by simp)]
  simp only [List.getD_cons_succ, List.getD_cons_zero]
  rw [h1, h2]
set_option maxRecDepth 100000 in
theorem peek_head {h : Hd} (k : OkH h) (r : List Nat) : peekV (headBs h ++ r) = .ok h := by
  have hb := begun_head k r
  have hl := headBs_len h
  have e : ((headBs h ++ r).drop 4).take (szH h.b - 4) = putN (U h.srs) 4 h.l ++ (if h.b then ordsK h.x h.l 4 else []) := by
    have e1 : headBs h = (markN ++ [fl h.l h.b h.e]) ++ (putN (U h.srs) 4 h.l ++ (if h.b then ordsK h.x h.l 4 else [])) := by simp [headBs]
    have e2 : (putN (U h.srs) 4 h.l ++ (if h.b then ordsK h.x h.l 4 else [])).length = szH h.b - 4 := by
      have := hl
      rw [e1, List.length_append] at this
      simp [markN] at this
      simp
      omega
    rw [e1, List.append_assoc, List.drop_left' (by simp [markN]), List.take_left' e2]
  unfold peekV
  rw [hb]
  simp only
  rw [if_neg (by decide), if_neg (by rw [List.length_append]; omega), e, fill_head k, if_neg (by rw [k.g]; decide)]
set_option maxRecDepth 100000 in
theorem peek_cut {h : Hd} (k : OkH h) (r : List Nat) (j : Nat) (hj : j < szH h.b) : ∃ e, peekV ((headBs h ++ r).take j) = .bad e := by
  have hl := headBs_len h
  have hsz : szH h.b ≤ 40 ∧ 8 ≤ szH h.b := by unfold szH; split <;> omega
  have e : headBs h ++ r = 71 :: 80 :: 0 :: fl h.l h.b h.e :: (putN (U h.srs) 4 h.l ++ (if h.b then ordsK h.x h.l 4 else []) ++ r) := by simp [headBs, markN]
  have hlen : ((headBs h ++ r).take j).length = j := by rw [List.length_take, List.length_append]; omega
  unfold peekV
  by_cases h3 : j ≤ 3
  · have hb : (begunV ((headBs h ++ r).take j)).1.b = false ∧ 8 ≤ szH false := by
      refine ⟨?_, by decide⟩
      unfold begunV
      split
      · rfl
      · rw [if_pos (by omega)]; rfl
    split
    · exact ⟨_, rfl⟩
    · rw [hb.1, if_pos (by have := hb.2; omega)]; exact ⟨_, rfl⟩
  · have hb : begunV ((headBs h ++ r).take j) = (⟨0, h.l, h.b, h.e, ⟨false, 0, 0, 0, 0⟩⟩, true) := by
      obtain ⟨h1, h2, -⟩ := fl_back h.l h.b h.e k.be
      obtain ⟨i, rfl⟩ : ∃ i, j = i + 4 := ⟨j - 4, by omega⟩
      rw [e, List.take_succ_cons, List.take_succ_cons, List.take_succ_cons, List.take_succ_cons]
      unfold begunV
      rw [if_neg (by simp [markN]), if_neg (by simp)]
      simp only [List.getD_cons_succ, List.getD_cons_zero]
      rw [h1, h2]
    rw [hb]
    simp only
    rw [if_neg (by decide), if_pos (by omega)]
    exact ⟨_, rfl⟩
end Go.Proofs.YtpmfedimjjifaaaGreatDoor

/- What the box of points is; no statement of the seat is proved here. -/
namespace Go.Proofs.YtpmfedimjjifaaaGreatDoor
namespace Bxs
open Go.RowKit Go.Maps

/-- What a box of points that went by is. -/
def BoxIs (r : Rect) (l : List (Int × Int)) : Prop := (l = [] ∧ r = noR) ∨ (r.n = false ∧ (∀ p ∈ l, r.lx ≤ p.1 ∧ p.1 ≤ r.hx ∧ r.ly ≤ p.2 ∧ p.2 ≤ r.hy) ∧ (∃ p ∈ l, p.1 = r.lx) ∧ (∃ p ∈ l, p.2 = r.ly) ∧ (∃ p ∈ l, p.1 = r.hx) ∧ ∃ p ∈ l, p.2 = r.hy)
set_option maxRecDepth 100000 in
theorem pt_good (p : Int × Int) : orR (ptR p) = ptR p := or_of (by simp [goodR, ptR])
set_option maxRecDepth 100000 in
theorem BoxIs.step {r : Rect} {l : List (Int × Int)} (h : BoxIs r l) (p : Int × Int) : BoxIs (uniR r (ptR p)) (l ++ [p]) := by
  rcases h with ⟨rfl, rfl⟩ | ⟨hn, ha, ⟨a, ma, ea⟩, ⟨b, mb, eb⟩, ⟨c, mc, ec⟩, d, md, ed⟩
  · refine .inr ?_
    rw [show uniR noR (ptR p) = ptR p by rw [uni_v, or_of good_no, pt_good]; rfl]
    exact ⟨rfl, fun q hq => by simp at hq; subst hq; simp [ptR], ⟨p, by simp, rfl⟩, ⟨p, by simp, rfl⟩, ⟨p, by simp, rfl⟩, p, by simp, rfl⟩
  · have hg : orR r = r := or_of (by
      have h1 := ha a ma
      have h2 := ha b mb
      unfold goodR
      rw [if_neg (by rw [hn]; decide)]
      simp
      omega)
    rw [show uniR r (ptR p) = ⟨false, min r.lx p.1, min r.ly p.2, max r.hx p.1, max r.hy p.2⟩ by
      rw [uni_has (by rw [hg]; exact hn) (by rw [pt_good]; rfl), hg, pt_good]; rfl]
    refine .inr ⟨rfl, fun q hq => ?_, ?_, ?_, ?_, ?_⟩
    · rcases List.mem_append.1 hq with hq | hq
      · have := ha q hq
        simp only
        omega
      · simp at hq
        subst hq
        simp only
        omega
    · by_cases hc : r.lx ≤ p.1
      · exact ⟨a, by simp [ma], by simp only; omega⟩
      · exact ⟨p, by simp, by simp only; omega⟩
    · by_cases hc : r.ly ≤ p.2
      · exact ⟨b, by simp [mb], by simp only; omega⟩
      · exact ⟨p, by simp, by simp only; omega⟩
    · by_cases hc : p.1 ≤ r.hx
      · exact ⟨c, by simp [mc], by simp only; omega⟩
      · exact ⟨p, by simp, by simp only; omega⟩
    · by_cases hc : p.2 ≤ r.hy
      · exact ⟨d, by simp [md], by simp only; omega⟩
      · exact ⟨p, by simp, by simp only; omega⟩
set_option maxRecDepth 100000 in
theorem boxIs_fold (l : List (Int × Int)) : ∀ (r : Rect) (s : List (Int × Int)), BoxIs r s → BoxIs (l.foldl (fun r p => uniR r (ptR p)) r) (s ++ l) := by
  induction l with
  | nil => intro r s h; simpa using h
  | cons p t ih =>
    intro r s h
    have := ih _ _ (h.step p)
    simpa using this
set_option maxRecDepth 100000 in
theorem boxL_is (l : List (Int × Int)) : BoxIs (boxL l) l := by
  have := boxIs_fold l noR [] (.inl ⟨rfl, rfl⟩)
  rw [List.nil_append] at this
  exact this
set_option maxRecDepth 100000 in
theorem boxL_has (l : List (Int × Int)) (h : l ≠ []) : (boxL l).n = false ∧ (∀ p ∈ l, (boxL l).lx ≤ p.1 ∧ p.1 ≤ (boxL l).hx ∧ (boxL l).ly ≤ p.2 ∧ p.2 ≤ (boxL l).hy) ∧ (∃ p ∈ l, p.1 = (boxL l).lx) ∧ (∃ p ∈ l, p.2 = (boxL l).ly) ∧ (∃ p ∈ l, p.1 = (boxL l).hx) ∧ ∃ p ∈ l, p.2 = (boxL l).hy := by
  rcases boxL_is l with h1 | h1
  · exact absurd h1.1 h
  · exact h1
set_option maxRecDepth 100000 in
theorem boxL_nil : boxL [] = noR := rfl
end Bxs
end Go.Proofs.YtpmfedimjjifaaaGreatDoor
