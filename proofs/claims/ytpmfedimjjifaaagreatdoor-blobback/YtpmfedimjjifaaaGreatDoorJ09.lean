/- Rows of points, and all points of a shape as the document has them; no statement of the seat is proved here. -/
import Derived.Test.YtpmfedimjjifaaaGreatDoorJ08
import Derived.Laws.AppendOwnNone
import Derived.Test.YtpmfedimjjifaaaGreatDoorJ03
namespace Go.Proofs.YtpmfedimjjifaaaGreatDoor
open Go.RowKit Go.Maps

/-- Points as cells. -/
def pv (l : List (Int × Int)) : List Value := l.flatMap fun p => [.int .i64 p.1, .int .i64 p.2]
set_option maxRecDepth 100000 in
theorem pv_append (a b : List (Int × Int)) : pv (a ++ b) = pv a ++ pv b := by simp [pv]
set_option maxRecDepth 100000 in
theorem pv_len (l : List (Int × Int)) : (pv l).length = l.length * 2 := by
  induction l with
  | nil => rfl
  | cons a r ih => simp [pv] at ih ⊢; omega
set_option maxRecDepth 100000 in
theorem pv_one (l : List (Int × Int)) : ∀ u ∈ pv l, u.oneCell' = true := by
  intro u hu
  simp [pv] at hu
  obtain ⟨a, b, _, rfl | rfl⟩ := hu <;> rfl
set_option maxRecDepth 100000 in
theorem pv_at (l : List (Int × Int)) : ∀ i p, l[i]? = some p → (pv l)[i * 2]? = some (.int .i64 p.1) ∧ (pv l)[i * 2 + 1]? = some (.int .i64 p.2) := by
  induction l with
  | nil => intro i p h; simp at h
  | cons a r ih =>
    intro i p h
    have e : pv (a :: r) = [.int .i64 a.1, .int .i64 a.2] ++ pv r := rfl
    cases i with
    | zero => simp at h; subst h; simp [e]
    | succ i =>
      simp at h
      have h2 := ih i p h
      rw [e]
      have f : ∀ j, ([Value.int .i64 a.1, .int .i64 a.2] ++ pv r)[j + 2]? = (pv r)[j]? := fun j => by simp
      rw [show (i + 1) * 2 = i * 2 + 2 by omega, show i * 2 + 2 + 1 = (i * 2 + 1) + 2 by omega, f, f]
      exact h2
set_option maxRecDepth 100000 in
theorem pv_get (l : List (Int × Int)) (j : Nat) (u : Value) (h : (pv l)[j]? = some u) : ∃ i p, l[i]? = some p ∧ ((j = i * 2 ∧ u = .int .i64 p.1) ∨ (j = i * 2 + 1 ∧ u = .int .i64 p.2)) := by
  have hj : j < l.length * 2 := by have := (List.getElem?_eq_some_iff.1 h).1; rw [pv_len] at this; exact this
  have hi : j / 2 < l.length := by omega
  obtain ⟨h0, h1⟩ := pv_at l (j / 2) _ (List.getElem?_eq_getElem hi)
  refine ⟨j / 2, _, List.getElem?_eq_getElem hi, ?_⟩
  rcases Nat.mod_two_eq_zero_or_one j with hm | hm
  · have e : j = j / 2 * 2 := by omega
    rw [e, h0] at h
    exact .inl ⟨e, by simpa using h.symm⟩
  · have e : j = j / 2 * 2 + 1 := by omega
    rw [e, h1] at h
    exact .inr ⟨e, by simpa using h.symm⟩
set_option maxRecDepth 100000 in
theorem info41 : (Tryz.prog.info? 25).map (fun i => (i.zero, i.size, i.bytes)) = some (some (.agg #[.int .i64 0, .int .i64 0]), 2, 16) := by kernel_rfl
set_option maxRecDepth 100000 in
theorem xr_own {w : World} {B cap : Nat} {ao : Option Addr} {n : Nat} {l : List (Int × Int)} (h : w.ownsRow B 25 2 (.slice ao n cap) n (pv l)) (hl : l.length = n) : XR (fun b => B ≤ b ∧ b < w.heap.size) w ao l := by
  rcases h.2 with ⟨h1, h2⟩ | ⟨g, cap', cur, h1, hb, hg, hc, hm, hz, ht⟩
  · exact .inl (List.length_eq_zero_iff.1 (by omega))
  · refine .inr ⟨g, 0, by simp at h1; exact h1.1, ⟨hb, (Array.getElem?_eq_some_iff.1 hg).1⟩, fun i p hi => ?_⟩
    have hlt : i < l.length := (List.getElem?_eq_some_iff.1 hi).1
    have e : ∀ j, j < n * 2 → w.cell? ⟨g, j, none⟩ = (pv l)[j]? := fun j hj => by
      have h := h
      simp only [Value.slice.injEq] at h1
      rw [h1.1] at h
      exact h.cellAt j hj
    obtain ⟨c1, c2⟩ := pv_at l i p hi
    exact ⟨by rw [show 0 + i * 2 = i * 2 by omega, e _ (by omega)]; exact c1, by rw [show 0 + i * 2 + 1 = i * 2 + 1 by omega, e _ (by omega)]; exact c2⟩

set_option maxRecDepth 100000 in
theorem append_pts {w : World} {ops : Array Oper} {rest : List Oper} {o : Oper} {a : Act} {Q : Exit → Act → World → Prop} (hgd : o.guard = none) (s x : Operand)
    (ho : o.op = .call { callee := .builtin .append, args := #[s, x], argTypes := #[36, 36] }) (B : Nat) (v : Value) (n : Nat) (xs : List (Int × Int)) (hs : a.eval s = v) (hown : w.ownsRow B 25 2 v n (pv xs))
    (S : Nat → Prop) (ao : Option Addr) (m c : Nat) (ys : List (Int × Int)) (hx : a.eval x = .slice ao m c) (hr : XR S w ao ys) (hl : ys.length = m) (h0 : ao = none → m = 0 ∧ c = 0) (hb : n + m ≤ 1000000000) (hB : B ≤ w.heap.size)
    (h : ∀ v' w', w'.ownsRow B 25 2 v' (n + m) (pv (xs ++ ys)) → Below B w w' → w.grownBy w' v.ownBlock → wpList Tryz.prog ops Q rest (a.put o.dst v') w') : wpList Tryz.prog ops Q (o :: rest) a w := by
  obtain ⟨i5, hi5, hz0, hz1, hz2⟩ := info_parts info41
  cases ao with
  | none =>
    obtain ⟨rfl, rfl⟩ := h0 rfl
    obtain rfl : ys = [] := List.eq_nil_of_length_eq_zero hl
    refine wpList_append_own_none hgd s x 36 ho B 25 i5 2 Tryz.underlying36 hi5 v n (pv xs) hs hown hx ?_
    exact h v w (by simpa using hown) (Below.refl _ _) ⟨rfl, rfl, rfl, Nat.le_refl _, fun _ _ _ => rfl⟩
  | some ad =>
    refine wpList_append_own w hgd s x 36 ho B 25 i5 (.agg #[.int .i64 0, .int .i64 0]) 2 16 Tryz.underlying36 hi5 hz0 hz1 hz2 rfl (by decide) v n (pv xs) hs hown ad m c (pv ys) hx (by rw [pv_len, hl]) ?_ (pv_one ys) (by unfold maxLen; omega) (by omega) hB ?_
    · intro j u hu
      obtain ⟨i, p, hi, hj⟩ := pv_get ys j u hu
      rcases hr with rfl | ⟨b, off, e, _, hat⟩
      · simp at hi
      · simp only [Option.some.injEq] at e
        subst e
        obtain ⟨c0, c1⟩ := hat i p hi
        rw [Addr.add_lit]
        rcases hj with ⟨rfl, rfl⟩ | ⟨rfl, rfl⟩
        · exact c0
        · rw [← Nat.add_assoc]; exact c1
    · intro v' w' h1 h2 _
      exact h v' w' (by rw [pv_append]; exact h1) ((Below.refl B w).grown h2 hB fun k hk => (hown.lt k hk).1) h2

/-- All points of a shape. -/
def ptsOf (s : Sh) : List (Int × Int) := s.nodes.flatMap Sh.xy
set_option maxRecDepth 100000 in
theorem nodesL_map {β : Type} (f : Sh → List β) (l : List Sh) : (nodesL l).flatMap f = l.flatMap fun p => p.nodes.flatMap f := by
  induction l with
  | nil => rw [nodesL]; rfl
  | cons a r ih => rw [nodesL, List.flatMap_append, ih]; rfl
set_option maxRecDepth 100000 in
theorem ptsOf_eq (s : Sh) : ptsOf s = s.xy ++ s.ps.flatMap ptsOf := by
  unfold ptsOf
  rw [nodes_eq, List.flatMap_cons, nodesL_map]
/-- What was taken ahead of the i-th part. -/
def preP (s : Sh) (i : Nat) : List (Int × Int) := s.xy ++ (s.ps.take i).flatMap ptsOf
set_option maxRecDepth 100000 in
theorem preP_snoc {s p : Sh} {i : Nat} (h : s.ps[i]? = some p) : preP s (i + 1) = preP s i ++ ptsOf p := by
  unfold preP
  rw [List.take_add_one, h, List.flatMap_append, List.append_assoc]
  simp
set_option maxRecDepth 100000 in
theorem preP_all (s : Sh) : preP s s.ps.length = ptsOf s := by unfold preP; rw [List.take_length, ptsOf_eq]
set_option maxRecDepth 100000 in
theorem preP_le (s : Sh) (i : Nat) : (preP s i).length ≤ (ptsOf s).length := by
  unfold preP
  rw [ptsOf_eq, List.length_append, List.length_append]
  conv => rhs; rw [← List.take_append_drop i s.ps, List.flatMap_append, List.length_append]
  omega
set_option maxRecDepth 100000 in
theorem ptsOf_part {s p : Sh} {i : Nat} (h : s.ps[i]? = some p) : (preP s i).length + (ptsOf p).length ≤ (ptsOf s).length := by
  have := preP_le s (i + 1)
  rw [preP_snoc h, List.length_append] at this
  exact this

set_option maxRecDepth 100000 in
theorem own_none {w : World} {base cap : Nat} {e : TypeId} {size : Nat} {ao : Option Addr} {n : Nat} {xs : List Value} (h : w.ownsRow base e size (.slice ao n cap) n xs) (ha : ao = none) : n = 0 ∧ cap = 0 := by
  rcases h.2 with ⟨h1, h2⟩ | ⟨g, cap', cur, h1, _⟩
  · simp at h1; exact ⟨h2, h1.2.2⟩
  · rw [ha] at h1; simp at h1

def RaI (s : Sh) (w : World) (v c : Value) (W : World) : Prop := ∃ i : Nat, i ≤ s.pn ∧ c = .int .i64 (i : Int) ∧ Hid (W.ownsRow (w.heap.size + 1) 25 2 v (preP s i).length (pv (preP s i))) ∧ Hid (Below (w.heap.size + 1) (w.alloc (.cells #[.int .i64 (s).k, .slice (s).xo (s).xn (s).xc, .slice (s).po (s).pn (s).pc] 39)) W)
set_option maxRecDepth 100000 in
set_option maxHeartbeats 8000000 in
theorem refAll_call : ∀ (N : Nat) (s : Sh), s.nodes.length ≤ N → (ptsOf s).length ≤ 4000 → ∀ (w : World), In (fun b => b < w.heap.size) w s →
    Calls Tryz.prog 44 #[.agg #[.int .i64 (s).k, .slice (s).xo (s).xn (s).xc, .slice (s).po (s).pn (s).pc]] w fun e w' => (∃ ao c, e = .returned (.slice ao (ptsOf s).length c) ∧ (ao = none → (ptsOf s).length = 0 ∧ c = 0) ∧ XR (fun b => w.heap.size ≤ b ∧ b < w'.heap.size) w' ao (ptsOf s)) ∧ Below w.heap.size w w' := by
  intro N
  induction N with
  | zero => intro s h; rw [nodes_eq] at h; simp at h
  | succ N ih =>
    intro s hs h4 w hI
    have IH := hid ih
    have HS := hid hs
    have HI := hid hI
    have H4 := hid h4
    have B1 := hid (Bx.new w s)
    have b0 : Hid (Below w.heap.size w (w.alloc (.cells #[.int .i64 (s).k, .slice (s).xo (s).xn (s).xc, .slice (s).po (s).pn (s).pc] 39))) := hid (ext1 _)
    obtain ⟨x0, x1, x2⟩ := B1.out.cells
    have hxn := hI.here.lenI
    have HX4 := hid (show s.xn ≤ 4000 by have := preP_le s 0; have h2 := hI.here.xl; unfold preP at this; rw [List.take_zero, List.flatMap_nil, List.append_nil] at this; omega)
    have OW := hid (World.ownsRow_lit (base := w.heap.size + 1) (size := 2) (e := 25) (w.alloc (.cells #[.int .i64 (s).k, .slice (s).xo (s).xn (s).xc, .slice (s).po (s).pn (s).pc] 39)) #[] 0 (by simp) (by unfold maxLen; omega) rfl)
    rw [World.size_alloc] at OW
    have XH := hid (hI.here.xr.of (w' := (w.alloc (.cells #[.int .i64 (s).k, .slice (s).xo (s).xn (s).xc, .slice (s).po (s).pn (s).pc] 39)).alloc (.cells #[] 25)) (T := fun b => b < w.heap.size) fun b hb => ⟨(below2 (w := w)).block b hb, hb⟩)
    clear ih hs hI h4
    go_enter Tryz.func44, Tryz.ntmps44
    go_wp2_with ((with_reducible refine here_op 9 ?_); refine append_pts rfl (.tmp 6) (.tmp 8) rfl (w.heap.size + 1) _ 0 [] rfl OW.out (fun b => b < w.heap.size) s.xo s.xn s.xc s.xy rfl XH.out HI.out.here.xl HI.out.here.x0 (by have := HX4.out; omega) (by simp only [World.size_alloc]; omega) ?_; intro v1 w1 ho1 hb1 _; have O1 := hid ho1; have K1 : Hid (Below (w.heap.size + 1) (w.alloc (.cells #[.int .i64 (s).k, .slice (s).xo (s).xn (s).xc, .slice (s).po (s).pn (s).pc] 39)) w1) := hid ((Below.mono (ext1 (w := w.alloc (.cells #[.int .i64 (s).k, .slice (s).xo (s).xn (s).xc, .slice (s).po (s).pn (s).pc] 39)) (.cells #[] 25)) (by simp only [World.size_alloc]; omega)).trans hb1); clear ho1 hb1; have D1 := hid (show Bx w1 w.heap.size s from (K1.out.block w.heap.size (by omega)).trans B1.out); obtain ⟨y0, y1, y2⟩ := D1.out.cells)
    go_loopw [3, 13] (RaI s w) (fun _ c _ => s.pn - (intOf c).toNat)
    case atStart =>
      refine ⟨0, by omega, rfl, hid ?_, K1⟩
      have h := O1.out
      rw [List.nil_append, Nat.zero_add] at h
      unfold preP
      rw [List.take_zero, List.flatMap_nil, List.append_nil, HI.out.here.xl]
      exact h
    case round =>
      clear x0 x1 x2 y0 y1 y2 D1 K1 O1 OW XH
      obtain ⟨i, hi, rfl, hO, hb⟩ := hrel
      obtain ⟨va, vc, rfl⟩ := row_form hO.out
      have B2 := hid (show Bx wr w.heap.size s from (hb.out.block _ (by omega)).trans B1.out)
      obtain ⟨y0, y1, y2⟩ := B2.out.cells
      have hwr := hb.out.size
      rw [World.size_alloc] at hwr
      by_cases hik : i < s.pn
      · obtain ⟨p, hp⟩ : ∃ p, s.ps[i]? = some p := ⟨_, List.getElem?_eq_getElem (by rw [HI.out.here.pl]; exact hik)⟩
        obtain ⟨b, off, hpo, hbl, hat⟩ := HI.out.here.pr.resolve_left (by intro e; rw [e] at hp; simp at hp)
        obtain ⟨z0, z1, z2⟩ := (hat i p hp).of (w' := wr) ((hb.out.block b (by omega)).trans (b0.out.block b hbl))
        rw [hpo] at *
        have PS := hid (preP_snoc hp)
        have PP := hid (ptsOf_part hp)
        have hpm := List.mem_of_getElem? hp
        have BW : Below w.heap.size w wr := b0.out.trans (hb.out.mono (by omega))
        have CC := hid (IH.out p (by have := nodes_lt hpm; have := HS.out; omega) (by have := PP.out; have := H4.out; omega) (wr.alloc (.cells #[.int .i64 (p).k, .slice (p).xo (p).xn (p).xc, .slice (p).po (p).pn (p).pc] 39)) ((HI.out.part hpm).grow (gt BW (ext1 _))))
        have BP0 := hid (Bx.new wr p)
        obtain ⟨q0, q1, q2⟩ := BP0.out.cells
        have y0' := keep_old (ext1 (.cells #[.int .i64 (p).k, .slice (p).xo (p).xn (p).xc, .slice (p).po (p).pn (p).pc] 39)) y0; have y1' := keep_old (ext1 (.cells #[.int .i64 (p).k, .slice (p).xo (p).xn (p).xc, .slice (p).po (p).pn (p).pc] 39)) y1; have y2' := keep_old (ext1 (.cells #[.int .i64 (p).k, .slice (p).xo (p).xn (p).xc, .slice (p).po (p).pn (p).pc] 39)) y2
        have H44 := hid (show (preP s i).length + (ptsOf p).length ≤ 4000 by have := PP.out; have := H4.out; omega)
        clear hat hpo hp hpm BW
        generalize hl1 : (preP s i).length = n1 at *
        generalize hl2 : (ptsOf p).length = n2 at *
        have L1 := hid hl1; have L2 := hid hl2
        clear hl1 hl2
        go_wp2_with (first
          | (go_at_call 44; refine CC.out.mono ?_; rintro e w2 ⟨⟨ao, c, rfl, h0, hx⟩, hb2⟩; have H2 := hid hb2; have X2 := hid hx; have Z2 := hid h0; clear hb2 hx h0; have O2 := hid (own_below (own_below hO.out (ext1 (.cells #[.int .i64 (p).k, .slice (p).xo (p).xn (p).xc, .slice (p).po (p).pn (p).pc] 39))) H2.out); have hz2 := H2.out.size; simp only [World.size_alloc] at hz2)
          | ((with_reducible refine here_op 20 ?_); refine append_pts rfl (.tmp 17) (.tmp 19) rfl (w.heap.size + 1) _ n1 _ rfl O2.out _ ao n2 c (ptsOf p) rfl X2.out L2.out Z2.out (by have := H44.out; omega) (by omega) ?_; intro v3 w3 ho3 hb3 _; have O3 := hid ho3; have K3 := hid hb3; clear ho3 hb3))
        go_roundw
        case measure => simp [intOf]; omega
        case rel =>
          refine ⟨i + 1, by omega, by go_num, hid ?_, hid ?_⟩
          · rw [PS.out, List.length_append, L1.out, L2.out]; exact O3.out
          · exact ((hb.out.trans ((ext1 _).mono (by omega))).trans (H2.out.mono (by simp only [World.size_alloc]; omega))).trans K3.out
      · obtain rfl : i = s.pn := by omega
        have e : preP s s.pn = ptsOf s := by rw [← HI.out.here.pl]; exact preP_all s
        have E := hid e
        clear e
        go_wp2
        go_ret
        have O9 := hO.out
        rw [E.out] at O9 ⊢
        replace hO := hid O9
        exact ⟨⟨va, vc, rfl, own_none hO.out, (xr_own hO.out rfl).of fun b hb => ⟨rfl, by omega, hb.2⟩⟩, b0.out.trans (hb.out.mono (by omega))⟩
end Go.Proofs.YtpmfedimjjifaaaGreatDoor

/- What the program asks of a shape is what the document asks; no statement of the seat is proved here. -/
namespace Go.Proofs.YtpmfedimjjifaaaGreatDoor
open Go.RowKit Go.Maps

set_option maxRecDepth 100000 in
theorem flat_nodes : ∀ (N : Nat) (s : Sh) (d : Nat), s.nodes.length ≤ N → (∀ x ∈ s.flat d, x.1 ≤ 16) → (s.flat d).map (·.2) = s.nodes := by
  intro N
  induction N with
  | zero => intro s d h; rw [nodes_eq] at h; simp at h
  | succ N ih =>
    intro s d h hx
    have hd : d ≤ 16 := hx (d, s) (by rw [flat_eq]; simp)
    have e : seenL d s = s.ps := seenL_all s (by omega)
    rw [flat_eq, e] at hx ⊢
    rw [nodes_eq, List.map_cons]
    have key : ∀ l : List Sh, (∀ p ∈ l, p ∈ s.ps) → (l.flatMap fun p => p.flat (din s.k p.k d)).map (·.2) = nodesL l := by
      intro l
      induction l with
      | nil => intro _; rw [nodesL]; rfl
      | cons a r ihl =>
        intro hl
        rw [List.flatMap_cons, List.map_append, nodesL, ihl fun p hp => hl p (by simp [hp])]
        rw [ih a _ (by have := nodes_lt (hl a (by simp)); omega) fun x hx' => hx x (List.mem_cons_of_mem _ (List.mem_flatMap.2 ⟨a, hl a (by simp), hx'⟩))]
    rw [key s.ps fun _ h => h]
set_option maxRecDepth 100000 in
theorem le_foldl (l : List (Nat × Sh)) : ∀ a, ∀ x ∈ l, x.1 ≤ l.foldl (fun a x => max a x.1) a := by
  induction l with
  | nil => intro a x h; cases h
  | cons b r ih =>
    intro a x h
    rcases List.mem_cons.1 h with rfl | h
    · exact Nat.le_trans (Nat.le_max_right a x.1) (depthN_mono r _)
    · exact ih _ x h
set_option maxRecDepth 100000 in
theorem depth_nodes {s : Sh} (h : depthN (s.flat 1) ≤ 16) : (s.flat 1).map (·.2) = s.nodes := flat_nodes _ s 1 (Nat.le_refl _) fun x hx => Nat.le_trans (le_foldl _ 0 x hx) h
set_option maxRecDepth 100000 in
theorem allB_nodes {s : Sh} (h : depthN (s.flat 1) ≤ 16) (f : Sh → Bool) : allB f (s.flat 1) = s.nodes.all f := by
  rw [← depth_nodes h, List.all_map]; rfl
set_option maxRecDepth 100000 in
theorem sum_pts {S : Nat → Prop} {w : World} {s : Sh} (hI : In S w s) (h : depthN (s.flat 1) ≤ 16) : sumX (s.flat 1) = (ptsOf s).length := by
  have e : sumX (s.flat 1) = (((s.flat 1).map (·.2)).map Sh.xn).sum := by unfold sumX; rw [List.map_map]; rfl
  rw [e, depth_nodes h]
  unfold ptsOf
  rw [List.length_flatMap]
  congr 1
  exact List.map_congr_left fun q hq => (hI q hq).xl.symm
set_option maxRecDepth 100000 in
theorem pts_le {S : Nat → Prop} {w : World} {s : Sh} (hI : In S w s) (h : depthN (s.flat 1) ≤ 16) (h4 : ptsN (s.flat 1) ≤ 4000) : (ptsOf s).length ≤ 4000 := by
  rw [← sum_pts hI h]; unfold ptsN at h4; omega
set_option maxRecDepth 100000 in
theorem placed_pts (s : Sh) : placedB (ptsOf s) = s.nodes.all fun q => placedB q.xy := by
  unfold ptsOf placedB
  rw [List.all_flatMap]

set_option maxRecDepth 100000 in
theorem all_none (l : List Sh) (a b : Int) (h : b < a) : (l.all fun p => decide (a ≤ p.k) && decide (p.k ≤ b)) = (l.length == 0) := by
  cases l with
  | nil => rfl
  | cons p r =>
    have : (decide (a ≤ p.k) && decide (p.k ≤ b)) = false := by simp; omega
    simp [this]
set_option maxRecDepth 100000 in
theorem all_one (l : List Sh) (a : Int) : (l.all fun p => decide (a ≤ p.k) && decide (p.k ≤ a)) = l.all fun p => p.k == a := by
  congr 1
  funext p
  rw [Bool.eq_iff_iff]; simp; omega
set_option maxRecDepth 100000 in
theorem len_all (l : List Sh) (f : Sh → Bool) : ((l.length == 0) && l.all f) = (l.length == 0) := by cases l <;> simp
set_option maxRecDepth 100000 in
theorem good_own {q : Sh} (h7 : q.k ≠ 7) : goodB q = own9 q := by
  unfold goodB own9 fitB gpB
  by_cases hk : 0 ≤ q.k ∧ q.k ≤ 7
  · have e : isK q.k = true := by unfold isK; simp; omega
    rw [e, Bool.true_and]
    rcases le7 hk.1 hk.2 with h | h | h | h | h | h | h | h
    · rw [h, show rlo 0 = 1 from rfl, show rhi 0 = 0 from rfl, all_none _ 1 0 (by omega), if_pos rfl, if_pos rfl, Bool.and_assoc, len_all]
    · rw [h, show rlo 1 = 1 from rfl, show rhi 1 = 0 from rfl, all_none _ 1 0 (by omega)]
      simp only [Int.reduceEq, if_false, if_true]
      rw [Bool.and_assoc, len_all]
    · rw [h, show rlo 2 = 1 from rfl, show rhi 2 = 0 from rfl, all_none _ 1 0 (by omega)]
      simp only [Int.reduceEq, if_false, if_true]
      rw [Bool.and_assoc, len_all]
    · rw [h, show rlo 3 = 0 from rfl, show rhi 3 = 0 from rfl, all_one]
      simp only [ok2, Int.reduceEq, if_false, Int.reduceLE, decide_true, Bool.true_and, show partK 3 = 0 from rfl]
    · rw [h, show rlo 4 = 1 from rfl, show rhi 4 = 1 from rfl, all_one]
      simp only [ok2, Int.reduceEq, if_false, Int.reduceLE, decide_true, Bool.true_and, show partK 4 = 1 from rfl]
    · rw [h, show rlo 5 = 2 from rfl, show rhi 5 = 2 from rfl, all_one]
      simp only [ok2, Int.reduceEq, if_false, Int.reduceLE, decide_true, Bool.true_and, show partK 5 = 2 from rfl]
    · rw [h, show rlo 6 = 3 from rfl, show rhi 6 = 3 from rfl, all_one]
      simp only [ok2, Int.reduceEq, if_false, Int.reduceLE, decide_true, Bool.true_and, show partK 6 = 3 from rfl]
    · exact absurd h h7
  · have e : isK q.k = false := by unfold isK; simp; omega
    rw [e, Bool.false_and, Bool.false_and, if_neg (by omega), if_neg (by omega), if_neg (by omega)]
    have : (decide (3 ≤ q.k) && decide (q.k ≤ 7)) = false := by simp; omega
    rw [this]; rfl
set_option maxRecDepth 100000 in
theorem good7 {q : Sh} (h : q.k = 7) : goodB q = ((q.xy.length == 0) && q.ps.all fun p => decide (1 ≤ p.k) && decide (p.k ≤ 7)) := by
  unfold goodB gpB
  rw [h, show rlo 7 = 1 from rfl, show rhi 7 = 7 from rfl, show isK 7 = true from rfl]
  simp
set_option maxRecDepth 100000 in
theorem own7 {q : Sh} (h : q.k = 7) : own9 q = ((q.xy.length == 0) && q.ps.all fun p => decide (1 ≤ p.k)) := by
  unfold own9 fitB ok2
  rw [h]
  simp
set_option maxRecDepth 100000 in
theorem nodes_trans {s q p : Sh} (hq : q ∈ s.nodes) (hp : p ∈ q.ps) : p ∈ s.nodes := by
  have key : ∀ (N : Nat) (s : Sh), s.nodes.length ≤ N → ∀ q ∈ s.nodes, ∀ p ∈ q.ps, p ∈ s.nodes := by
    intro N
    induction N with
    | zero => intro s h; rw [nodes_eq] at h; simp at h
    | succ N ih =>
      intro s h q hq p hp
      rw [nodes_eq] at hq
      rcases List.mem_cons.1 hq with rfl | hq
      · exact nodes_part hp p (nodes_self p)
      · have : ∃ a ∈ s.ps, q ∈ a.nodes := by
          generalize s.ps = l at hq
          induction l with
          | nil => rw [nodesL] at hq; cases hq
          | cons a r ihl =>
            rw [nodesL, List.mem_append] at hq
            rcases hq with hq | hq
            · exact ⟨a, by simp, hq⟩
            · obtain ⟨b, hb, hq⟩ := ihl hq
              exact ⟨b, by simp [hb], hq⟩
        obtain ⟨a, ha, hqa⟩ := this
        exact nodes_part ha p (ih a (by have := nodes_lt ha; omega) q hqa p hp)
  exact key _ s (Nat.le_refl _) q hq p hp
set_option maxRecDepth 100000 in
theorem good_right (s : Sh) : s.nodes.all goodB = rightB s := by
  unfold rightB
  rw [Bool.eq_iff_iff, List.all_eq_true, List.all_eq_true]
  constructor
  · intro h q hq
    by_cases h7 : q.k = 7
    · have := h q hq
      rw [good7 h7, Bool.and_eq_true, List.all_eq_true] at this
      rw [own7 h7, Bool.and_eq_true, List.all_eq_true]
      exact ⟨this.1, fun p hp => by have := this.2 p hp; rw [Bool.and_eq_true] at this; exact this.1⟩
    · rw [← good_own h7]; exact h q hq
  · intro h q hq
    by_cases h7 : q.k = 7
    · have := h q hq
      rw [own7 h7, Bool.and_eq_true, List.all_eq_true] at this
      rw [good7 h7, Bool.and_eq_true, List.all_eq_true]
      refine ⟨this.1, fun p hp => ?_⟩
      have h2 := h p (nodes_trans hq hp)
      unfold own9 at h2
      rw [Bool.and_eq_true] at h2
      have h3 := fitB_le h2.1
      rw [Bool.and_eq_true]
      exact ⟨this.2 p hp, by simp; omega⟩
    · rw [good_own h7]; exact h q hq

set_option maxRecDepth 100000 in
/-- What the document's Check answers. -/
theorem check_eq (s : Sh) : checkN s = if 16 < depthN (s.flat 1) then 10 else if 4000 < ptsN (s.flat 1) ∨ 1000 < partsN (s.flat 1) then 12 else if s.k < 1 ∨ rightB s = false then 9 else if placedB (ptsOf s) = false then 11 else 0 := by
  unfold checkN checkV
  by_cases h1 : 16 < depthN (s.flat 1)
  · rw [if_pos h1, if_pos h1]
  · have h16 : depthN (s.flat 1) ≤ 16 := by omega
    rw [if_neg h1, if_neg h1, allB_nodes h16, allB_nodes h16, good_right, placed_pts]
    by_cases h2 : 1000 < partsN (s.flat 1) ∨ 4000 < ptsN (s.flat 1)
    · rw [if_pos h2, if_pos (show 4000 < ptsN (s.flat 1) ∨ 1000 < partsN (s.flat 1) from h2.symm)]
    · rw [if_neg h2, if_neg (show ¬ (4000 < ptsN (s.flat 1) ∨ 1000 < partsN (s.flat 1)) from fun h => h2 h.symm)]
      by_cases hr : rightB s = false
      · rw [if_pos (show s.k = 0 ∨ rightB s = false from .inr hr), if_pos (show s.k < 1 ∨ rightB s = false from .inr hr)]
      · by_cases h0 : s.k = 0
        · rw [if_pos (show s.k = 0 ∨ rightB s = false from .inl h0), if_pos (show s.k < 1 ∨ rightB s = false from .inl (by omega))]
        · have hg : goodB s = true := by
            have : s.nodes.all goodB = true := by rw [good_right]; simpa using hr
            exact List.all_eq_true.1 this s (nodes_self s)
          have hk : isK s.k = true := by unfold goodB at hg; simp only [Bool.and_eq_true] at hg; exact hg.1.1
          have : 0 ≤ s.k := by unfold isK at hk; simp at hk; omega
          rw [if_neg (show ¬ (s.k = 0 ∨ rightB s = false) by simp [h0, hr]), if_neg (show ¬ (s.k < 1 ∨ rightB s = false) from fun h => h.elim (fun h => by omega) hr)]
end Go.Proofs.YtpmfedimjjifaaaGreatDoor

/- Shapes by themselves, without where they lie; their numbers, and their bytes; no statement of the seat is proved here. -/
namespace Go.Proofs.YtpmfedimjjifaaaGreatDoor
open Go.RowKit

/-- A shape by itself. -/
inductive T where
  | mk (k : Int) (xy : List (Int × Int)) (ps : List T)
namespace T
def k : T → Int | mk k _ _ => k
def xy : T → List (Int × Int) | mk _ x _ => x
def ps : T → List T | mk _ _ x => x
instance : Inhabited T := ⟨mk 0 [] []⟩
end T
mutual
def Sh.t : Sh → T
  | .mk k _ _ _ xy _ _ _ ps => .mk k xy (tL ps)
def tL : List Sh → List T
  | [] => []
  | p :: r => p.t :: tL r
end
set_option maxRecDepth 100000 in
theorem tL_map (l : List Sh) : tL l = l.map Sh.t := by
  induction l with
  | nil => rw [tL]; rfl
  | cons a r ih => rw [tL, ih]; rfl
set_option maxRecDepth 100000 in
theorem t_eq (s : Sh) : s.t = .mk s.k s.xy (s.ps.map Sh.t) := by cases s; rw [Sh.t, tL_map]; rfl

/-- A whole number as 64 bits, and back. -/
def U (z : Int) : Nat := (z % 18446744073709551616).toNat
def I (n : Nat) : Int := IntKind.i64.wrap (n : Int)
def NW : Int := -9223372036854775808
def InR (p : Int × Int) : Prop := (NW ≤ p.1 ∧ p.1 ≤ 9223372036854775807) ∧ (NW ≤ p.2 ∧ p.2 ≤ 9223372036854775807)
set_option maxRecDepth 100000 in
theorem U_lt (z : Int) : U z < 18446744073709551616 := by unfold U; omega
set_option maxRecDepth 100000 in
theorem I_U {z : Int} (h : NW ≤ z ∧ z ≤ 9223372036854775807) : I (U z) = z := by
  unfold NW at h
  unfold I U
  rw [IntKind.wrap_i64]
  omega

/-- The point that stands for a list of one. -/
def one (l : List (Int × Int)) : Int × Int := l.headD (NW, NW)
def ptI (p : Int × Int) : List (Nat × Nat) := [(U p.1, 8), (U p.2, 8)]
mutual
/-- The numbers of a shape, each with how many bytes it has. -/
def T.items (l : Bool) : T → List (Nat × Nat)
  | .mk k xy ps => (if k = 0 then [] else [(if l then 1 else 0, 1), (U k, 4)]) ++ (if k = 1 then ptI (one xy) else if k = 0 ∨ k = 2 then (xy.length, 4) :: xy.flatMap ptI else (ps.length, 4) :: itemsL l ps)
def itemsL (l : Bool) : List T → List (Nat × Nat)
  | [] => []
  | p :: r => p.items l ++ itemsL l r
end
set_option maxRecDepth 100000 in
theorem itemsL_map (l : Bool) (ps : List T) : itemsL l ps = ps.flatMap (T.items l) := by
  induction ps with
  | nil => rw [itemsL]; rfl
  | cons a r ih => rw [itemsL, ih]; rfl
set_option maxRecDepth 100000 in
theorem items_eq (l : Bool) (t : T) : t.items l = (if t.k = 0 then [] else [(if l then 1 else 0, 1), (U t.k, 4)]) ++ (if t.k = 1 then ptI (one t.xy) else if t.k = 0 ∨ t.k = 2 then (t.xy.length, 4) :: t.xy.flatMap ptI else (t.ps.length, 4) :: t.ps.flatMap (T.items l)) := by
  cases t; rw [T.items, itemsL_map]; rfl
/-- The bytes of numbers. -/
def bytesI (l : Bool) (L : List (Nat × Nat)) : List Nat := L.flatMap fun x => putN x.1 x.2 l
set_option maxRecDepth 100000 in
theorem bytesI_append (l : Bool) (a b : List (Nat × Nat)) : bytesI l (a ++ b) = bytesI l a ++ bytesI l b := by simp [bytesI]
set_option maxRecDepth 100000 in
theorem bytesI_cons (l : Bool) (x : Nat × Nat) (b : List (Nat × Nat)) : bytesI l (x :: b) = putN x.1 x.2 l ++ bytesI l b := by simp [bytesI]
set_option maxRecDepth 100000 in
theorem bytesI_nil (l : Bool) : bytesI l [] = [] := rfl
set_option maxRecDepth 100000 in
theorem putN_length (v s : Nat) (l : Bool) : (putN v s l).length = s := up_length _ _ _
/-- How many bytes. -/
def sizeI (L : List (Nat × Nat)) : Nat := (L.map (·.2)).sum
set_option maxRecDepth 100000 in
theorem sizeI_append (a b : List (Nat × Nat)) : sizeI (a ++ b) = sizeI a + sizeI b := by simp [sizeI]
set_option maxRecDepth 100000 in
theorem sizeI_cons (x : Nat × Nat) (b : List (Nat × Nat)) : sizeI (x :: b) = x.2 + sizeI b := by simp [sizeI]
set_option maxRecDepth 100000 in
theorem bytesI_length (l : Bool) (L : List (Nat × Nat)) : (bytesI l L).length = sizeI L := by
  induction L with
  | nil => rfl
  | cons x r ih => rw [bytesI_cons, sizeI_cons, List.length_append, putN_length, ih]
set_option maxRecDepth 100000 in
theorem up_bytes (F : Nat → Nat) (hF : ∀ i, F i < 256) (i k : Nat) : ∀ x ∈ up F i k, x < 256 := by
  induction k generalizing i with
  | zero => intro x h; simp [up] at h
  | succ k ih =>
    intro x h
    simp only [up, List.mem_cons] at h
    rcases h with rfl | h
    · exact hF i
    · exact ih _ x h
set_option maxRecDepth 100000 in
theorem putN_bytes (v s : Nat) (l : Bool) : ∀ x ∈ putN v s l, x < 256 := up_bytes _ (fun i => Nat.mod_lt _ (by omega)) _ _
set_option maxRecDepth 100000 in
theorem bytesI_bytes (l : Bool) (L : List (Nat × Nat)) : ∀ x ∈ bytesI l L, x < 256 := by
  intro x hx
  obtain ⟨y, _, h⟩ := List.mem_flatMap.1 hx
  exact putN_bytes _ _ _ x h
set_option maxRecDepth 100000 in
theorem psum_put8 (v : Nat) (hv : v < 18446744073709551616) (l : Bool) (r : List Nat) : psum (putN v 8 l ++ r) 8 l 8 = v := by
  cases l <;> simp [psum, putN, up, place] <;> omega
set_option maxRecDepth 100000 in
theorem psum_put4 (v : Nat) (hv : v < 4294967296) (l : Bool) (r : List Nat) : psum (putN v 4 l ++ r) 4 l 4 = v := by
  cases l <;> simp [psum, putN, up, place] <;> omega
set_option maxRecDepth 100000 in
theorem drop_put (v s : Nat) (l : Bool) (r : List Nat) : (putN v s l ++ r).drop s = r := by
  have := putN_length v s l
  rw [List.drop_append_of_le_length (by omega), List.drop_of_length_le (by omega)]; rfl

/-- What a reader has: bytes, how many points may come yet, how many parts. -/
structure St where
  xs : List Nat
  P : Nat
  Q : Nat
/-- What comes of reading. -/
inductive Re (α : Type) where
  | ok (a : α) (s : St)
  | bad (e : Nat)
def Re.bind {α β : Type} (r : Re α) (f : α → St → Re β) : Re β := match r with
  | .ok a s => f a s
  | .bad e => .bad e
set_option maxRecDepth 100000 in
theorem bind_ok {α β : Type} (a : α) (s : St) (f : α → St → Re β) : (Re.ok a s).bind f = f a s := rfl
set_option maxRecDepth 100000 in
theorem bind_bad {α β : Type} (e : Nat) (f : α → St → Re β) : (Re.bad e).bind f = .bad e := rfl

def numD (l : Bool) (n : Nat) (s : St) : Re Nat := if n ≤ s.xs.length then .ok (psum s.xs n l n) ⟨s.xs.drop n, s.P, s.Q⟩ else .bad 8
def pointD (l : Bool) (s : St) : Re (Int × Int) := (numD l 8 s).bind fun x s => (numD l 8 s).bind fun y s => .ok (I x, I y) s
/-- A number of things is told to the tally of points, or of parts. -/
def tallyD (parts : Bool) (n : Nat) (s : St) : Re Unit := if n ≤ (if parts then s.Q else s.P) then .ok () (if parts then ⟨s.xs, s.P, s.Q - n⟩ else ⟨s.xs, s.P - n, s.Q⟩) else .bad 12
def countD (parts : Bool) (few : Nat) (l : Bool) (s : St) : Re Nat := (numD l 4 s).bind fun n s => (tallyD parts n s).bind fun _ s => if s.xs.length / few < n then .bad 8 else .ok n s
def timesD {α : Type} (m : St → Re α) : Nat → St → Re (List α)
  | 0, s => .ok [] s
  | n + 1, s => (m s).bind fun a s => (timesD m n s).bind fun r s => .ok (a :: r) s
def rowD (l : Bool) (s : St) : Re (List (Int × Int)) := (countD false 16 l s).bind fun n s => timesD (pointD l) n s
def spotD (l : Bool) (s : St) : Re (List (Int × Int)) := (pointD l s).bind fun p s => if p = (NW, NW) then .ok [] s else (tallyD false 1 s).bind fun _ s => .ok [p] s
def ringD (l : Bool) (s : St) : Re T := (rowD l s).bind fun xy s => .ok (.mk 0 xy []) s
def listD (few : Nat) (l : Bool) (m : St → Re T) (s : St) : Re (List T) := (countD true few l s).bind fun n s => timesD m n s
def orderD (deep : Bool) (s : St) : Re Bool := match s.xs with
  | [] => .bad 8
  | b :: r => if 1 < b then .bad 9 else if deep then .bad 10 else .ok (b == 1) ⟨r, s.P, s.Q⟩
def kindD (want : Int) (l : Bool) (s : St) : Re Int := (numD l 4 s).bind fun n s => if n < 1 ∨ 7 < n then .bad 9 else if want ≠ -1 ∧ (n : Int) ≠ want then .bad 9 else .ok (n : Int) s
def bodyD (next : Int → St → Re T) (k : Int) (l : Bool) (s : St) : Re T :=
  if k = 1 then (spotD l s).bind fun xy s => .ok (.mk k xy []) s
  else if k = 2 then (rowD l s).bind fun xy s => .ok (.mk k xy []) s
  else if k = 3 then (listD 4 l (ringD l) s).bind fun ps s => .ok (.mk k [] ps) s
  else (listD 9 l (next (partK k)) s).bind fun ps s => .ok (.mk k [] ps) s
/-- A shape that is wanted to be of a kind, with room for so many depths. -/
def shapeD : Nat → Int → St → Re T
  | 0, want, s => (orderD true s).bind fun l s => (kindD want l s).bind fun k s => bodyD (fun _ _ => .bad 10) k l s
  | f + 1, want, s => (orderD false s).bind fun l s => (kindD want l s).bind fun k s => bodyD (shapeD f) k l s

/-- A reader reads just these bytes as a, and what is cut is too short. -/
def Dec {α : Type} (m : St → Re α) (e : List Nat) (a : α) (dP dQ : Nat) : Prop :=
  ∀ P Q, dP ≤ P → dQ ≤ Q → (∀ more, m ⟨e ++ more, P, Q⟩ = .ok a ⟨more, P - dP, Q - dQ⟩) ∧ (∀ ys z zs, e = ys ++ z :: zs → m ⟨ys, P, Q⟩ = .bad 8)
set_option maxRecDepth 100000 in
theorem cut_cases {e e' ys zs : List Nat} {z : Nat} (h : e ++ e' = ys ++ z :: zs) : (∃ z' zs', e = ys ++ z' :: zs') ∨ (∃ ys', ys = e ++ ys' ∧ e' = ys' ++ z :: zs) := by
  rcases List.append_eq_append_iff.1 h with ⟨a, h1, h2⟩ | ⟨a, h1, h2⟩
  · exact .inr ⟨a, h1, h2⟩
  · cases a with
    | nil => exact .inr ⟨[], by simpa using h1.symm, by simpa using h2.symm⟩
    | cons c r => exact .inl ⟨c, r, h1⟩
set_option maxRecDepth 100000 in
theorem Dec.bind {α β : Type} {m : St → Re α} {g : α → St → Re β} {e e' : List Nat} {a : α} {b : β} {p q p' q' : Nat} (h : Dec m e a p q) (k : Dec (g a) e' b p' q') : Dec (fun s => (m s).bind g) (e ++ e') b (p + p') (q + q') := by
  intro P Q hP hQ
  obtain ⟨h1, h2⟩ := h P Q (by omega) (by omega)
  obtain ⟨k1, k2⟩ := k (P - p) (Q - q) (by omega) (by omega)
  refine ⟨fun more => ?_, fun ys z zs he => ?_⟩
  · show (m _).bind g = _
    rw [List.append_assoc, h1, bind_ok, k1, Nat.sub_sub, Nat.sub_sub]
  · rcases cut_cases he with ⟨z', zs', h3⟩ | ⟨ys', rfl, h3⟩
    · show (m _).bind g = _
      rw [h2 _ _ _ h3]; rfl
    · show (m _).bind g = _
      rw [h1, bind_ok]
      exact k2 _ _ _ h3
set_option maxRecDepth 100000 in
theorem Dec.ret {α : Type} (a : α) : Dec (fun s => .ok a s) [] a 0 0 := by
  intro P Q _ _
  exact ⟨fun more => by simp, fun ys z zs h => by simp at h⟩
set_option maxRecDepth 100000 in
theorem Dec.map {α β : Type} {m : St → Re α} {f : α → β} {e : List Nat} {a : α} {p q : Nat} (h : Dec m e a p q) : Dec (fun s => (m s).bind fun a s => .ok (f a) s) e (f a) p q := by
  have := h.bind (g := fun a s => .ok (f a) s) (Dec.ret (f a))
  simpa using this
set_option maxRecDepth 100000 in
theorem Dec.num4 (l : Bool) (v : Nat) (hv : v < 4294967296) : Dec (numD l 4) (putN v 4 l) v 0 0 := by
  intro P Q _ _
  refine ⟨fun more => ?_, fun ys z zs h => ?_⟩
  · unfold numD
    rw [if_pos (by simp [putN_length]), psum_put4 v hv, drop_put]; rfl
  · have := congrArg List.length h
    rw [putN_length] at this
    unfold numD
    rw [if_neg (by simp at this ⊢; omega)]
set_option maxRecDepth 100000 in
theorem Dec.num8 (l : Bool) (v : Nat) (hv : v < 18446744073709551616) : Dec (numD l 8) (putN v 8 l) v 0 0 := by
  intro P Q _ _
  refine ⟨fun more => ?_, fun ys z zs h => ?_⟩
  · unfold numD
    rw [if_pos (by simp [putN_length]), psum_put8 v hv, drop_put]; rfl
  · have := congrArg List.length h
    rw [putN_length] at this
    unfold numD
    rw [if_neg (by simp at this ⊢; omega)]
set_option maxRecDepth 100000 in
theorem Dec.point (l : Bool) (p : Int × Int) (h : InR p) : Dec (pointD l) (bytesI l (ptI p)) p 0 0 := by
  have h1 := Dec.num8 l (U p.1) (U_lt _)
  have h2 := (Dec.num8 l (U p.2) (U_lt _)).map (f := fun y => (I (U p.1), I y))
  have h3 := h1.bind (g := fun x s => (numD l 8 s).bind fun y s => .ok (I x, I y) s) h2
  rw [I_U h.1, I_U h.2] at h3
  have e : bytesI l (ptI p) = putN (U p.1) 8 l ++ putN (U p.2) 8 l := by simp [bytesI, ptI]
  rw [e]; exact h3
set_option maxRecDepth 100000 in
theorem Dec.count {β : Type} {g : Nat → St → Re β} {e : List Nat} {b : β} {p q : Nat} (parts : Bool) (few : Nat) (l : Bool) (n : Nat) (hn : n < 4294967296) (hf : n * few ≤ e.length) (h0 : 0 < few) (k : Dec (g n) e b p q) :
    Dec (fun s => (countD parts few l s).bind g) (putN n 4 l ++ e) b (p + if parts then 0 else n) (q + if parts then n else 0) := by
  intro P Q hP hQ
  have n4 := Dec.num4 l n hn P Q (Nat.zero_le _) (Nat.zero_le _)
  have key : ∀ xs, tallyD parts n ⟨xs, P, Q⟩ = .ok () ⟨xs, P - (if parts then 0 else n), Q - (if parts then n else 0)⟩ := by
    intro xs
    unfold tallyD
    cases parts
    · simp at hP ⊢; omega
    · simp at hQ ⊢; omega
  obtain ⟨k1, k2⟩ := k (P - (if parts then 0 else n)) (Q - (if parts then n else 0)) (by cases parts <;> simp at hP ⊢ <;> omega) (by cases parts <;> simp at hQ ⊢ <;> omega)
  refine ⟨fun more => ?_, fun ys z zs he => ?_⟩
  · show ((numD l 4 ⟨_, P, Q⟩).bind _).bind g = _
    rw [List.append_assoc, n4.1, bind_ok]
    show ((tallyD parts n ⟨_, P, Q⟩).bind _).bind g = _
    rw [key, bind_ok]
    simp only
    rw [if_neg (by rw [Nat.not_lt, Nat.le_div_iff_mul_le h0]; simp; omega), bind_ok, k1]
    congr 2 <;> (cases parts <;> simp <;> omega)
  · rcases cut_cases he with ⟨z', zs', h3⟩ | ⟨ys', rfl, h3⟩
    · show ((numD l 4 ⟨_, P, Q⟩).bind _).bind g = _
      rw [n4.2 _ _ _ h3]; rfl
    · show ((numD l 4 ⟨_, P, Q⟩).bind _).bind g = _
      rw [n4.1, bind_ok]
      show ((tallyD parts n ⟨_, P, Q⟩).bind _).bind g = _
      rw [key, bind_ok]
      simp only
      split
      · rfl
      · rw [bind_ok]; exact k2 _ _ _ h3
set_option maxRecDepth 100000 in
theorem Dec.times {α : Type} {m : St → Re α} (enc : α → List Nat) (p q : α → Nat) (l : List α) (h : ∀ a ∈ l, Dec m (enc a) a (p a) (q a)) : Dec (timesD m l.length) (l.flatMap enc) l (l.map p).sum (l.map q).sum := by
  induction l with
  | nil => exact Dec.ret []
  | cons a r ih =>
    have h1 := h a (by simp)
    have h2 := ih fun b hb => h b (by simp [hb])
    have h3 := h1.bind (g := fun a s => (timesD m r.length s).bind fun r s => .ok (a :: r) s) (h2.map (f := fun r => a :: r))
    simpa [timesD] using h3
end Go.Proofs.YtpmfedimjjifaaaGreatDoor
