/- The document's count of a shape and all in it; no statement of the seat is proved here. -/
import Derived.Test.YtpmfedimjjifaaaGreatDoorJ05
namespace Go.Proofs.YtpmfedimjjifaaaGreatDoor
open Go.RowKit Go.Maps

/-- One that is counted. -/
def cs1 (t : Nat × Int × Nat) (x : Nat × Sh) : Nat × Int × Nat := (min (t.1 + min x.2.xn 4001) 4001, min (t.2.1 + 1) 1001, max t.2.2 x.1)
def csL (t : Nat × Int × Nat) (l : List (Nat × Sh)) : Nat × Int × Nat := l.foldl cs1 t
set_option maxRecDepth 100000 in
theorem csL_append (t : Nat × Int × Nat) (a b : List (Nat × Sh)) : csL t (a ++ b) = csL (csL t a) b := List.foldl_append
/-- Bounds of what is counted. -/
def OkC (t : Nat × Int × Nat) : Prop := t.1 ≤ 4001 ∧ -1 ≤ t.2.1 ∧ t.2.1 ≤ 1001 ∧ t.2.2 ≤ 17
set_option maxRecDepth 100000 in
theorem OkC.step {t : Nat × Int × Nat} (h : OkC t) {x : Nat × Sh} (hx : x.1 ≤ 17) : OkC (cs1 t x) := by
  obtain ⟨h1, h2, h3, h4⟩ := h
  unfold OkC cs1
  simp only
  omega
set_option maxRecDepth 100000 in
theorem OkC.all {t : Nat × Int × Nat} (h : OkC t) : ∀ (l : List (Nat × Sh)), (∀ x ∈ l, x.1 ≤ 17) → OkC (csL t l) := by
  intro l
  induction l generalizing t with
  | nil => exact fun _ => h
  | cons a r ih => exact fun hx => ih (h.step (hx a (by simp))) (fun x hx' => hx x (by simp [hx']))
set_option maxRecDepth 100000 in
/-- What is full stays so. -/
theorem full_step {x : Nat × Sh} (hx : x.1 ≤ 17) : cs1 (4001, 1001, 17) x = (4001, 1001, 17) := by
  unfold cs1
  simp only [Prod.mk.injEq]
  omega
set_option maxRecDepth 100000 in
theorem full_all : ∀ (l : List (Nat × Sh)), (∀ x ∈ l, x.1 ≤ 17) → csL (4001, 1001, 17) l = (4001, 1001, 17) := by
  intro l
  induction l with
  | nil => exact fun _ => rfl
  | cons a r ih =>
    intro hx
    show csL (cs1 (4001, 1001, 17) a) r = _
    rw [full_step (hx a (by simp))]
    exact ih fun x hx' => hx x (by simp [hx'])
set_option maxRecDepth 100000 in
theorem OkC.full {t : Nat × Int × Nat} (h : OkC t) (h1 : 4000 < t.1) (h2 : 1000 < t.2.1) (h3 : 16 < t.2.2) : t = (4001, 1001, 17) := by
  obtain ⟨a, b, c, d⟩ := h
  obtain ⟨X, P, D⟩ := t
  simp only [Prod.mk.injEq]
  simp only at *
  omega
/-- What was counted ahead of the i-th part. -/
def preC (d : Nat) (s : Sh) (i : Nat) : List (Nat × Sh) := (d, s) :: flatL s.k d (s.ps.take i)
set_option maxRecDepth 100000 in
theorem flatL_append (k : Int) (d : Nat) (a b : List Sh) : flatL k d (a ++ b) = flatL k d a ++ flatL k d b := by
  rw [flatL_eq, flatL_eq, flatL_eq, List.filter_append, List.flatMap_append]
set_option maxRecDepth 100000 in
theorem flatL_one (k : Int) (d : Nat) (p : Sh) : flatL k d [p] = if din k p.k d ≤ 17 then p.flat (din k p.k d) else [] := by
  rw [flatL, flatL, List.append_nil]
set_option maxRecDepth 100000 in
theorem preC_snoc {d : Nat} {s p : Sh} {i : Nat} (h : s.ps[i]? = some p) : preC d s (i + 1) = preC d s i ++ (if din s.k p.k d ≤ 17 then p.flat (din s.k p.k d) else []) := by
  unfold preC
  rw [List.take_add_one, h, flatL_append, show (some p).toList = [p] from rfl, flatL_one]
  rfl
set_option maxRecDepth 100000 in
theorem preC_all (d : Nat) (s : Sh) : preC d s s.ps.length = s.flat d := by
  unfold preC
  rw [List.take_length, flatL_eq, flat_eq]; rfl
set_option maxRecDepth 100000 in
theorem preC_zero (d : Nat) (s : Sh) : preC d s 0 = [(d, s)] := rfl
set_option maxRecDepth 100000 in
theorem preC_mem {d : Nat} {s : Sh} (hd : d ≤ 17) (i : Nat) : ∀ x ∈ preC d s i, x.1 ≤ 17 := by
  intro x hx
  have : x ∈ s.flat d := by
    rw [← preC_all]
    unfold preC at hx ⊢
    rcases List.mem_cons.1 hx with rfl | h
    · simp
    · refine List.mem_cons_of_mem _ ?_
      rw [List.take_length, ← List.take_append_drop i s.ps, flatL_append]
      exact List.mem_append_left _ h
  exact (flat_mem _ s d (Nat.le_refl _) hd x this).2.2

/-- The counter's box. -/
def CB (w : World) (c : Nat) (t : Nat × Int × Nat) : Prop := w.heap[c]? = some (.cells #[.int .i64 (t.1 : Int), .int .i64 t.2.1, .int .i64 (t.2.2 : Int)] 90)
set_option maxRecDepth 100000 in
theorem CB.lt {w : World} {c : Nat} {t : Nat × Int × Nat} (h : CB w c t) : c < w.heap.size := (Array.getElem?_eq_some_iff.1 h).1
set_option maxRecDepth 100000 in
theorem CB.cells {w : World} {c : Nat} {t : Nat × Int × Nat} (h : CB w c t) : w.cell? ⟨c, 0, none⟩ = some (.int .i64 (t.1 : Int)) ∧ w.cell? ⟨c, 1, none⟩ = some (.int .i64 t.2.1) ∧ w.cell? ⟨c, 2, none⟩ = some (.int .i64 (t.2.2 : Int)) := by unfold CB at h; simp [World.cell?, h]
set_option maxRecDepth 100000 in
theorem CB.fz {w : World} {c : Nat} {t : Nat × Int × Nat} (h : CB w c t) (i : Nat) : w.frozen? ⟨c, i, none⟩ = false := by unfold CB at h; simp [World.frozen?, h]
set_option maxRecDepth 100000 in
theorem CB.keep {w w' : World} {c : Nat} {t : Nat × Int × Nat} (h : CB w c t) (hb : Below w.heap.size w w') : CB w' c t := (hb.block c h.lt).trans h
set_option maxRecDepth 100000 in
theorem CB.set0 {w : World} {c : Nat} {t : Nat × Int × Nat} (h : CB w c t) (v : Nat) : CB (w.setCell ⟨c, 0, none⟩ (.int .i64 (v : Int))) c (v, t.2) := heap_setCell_same w c 0 _ _ _ h
set_option maxRecDepth 100000 in
theorem CB.set1 {w : World} {c : Nat} {t : Nat × Int × Nat} (h : CB w c t) (v : Int) : CB (w.setCell ⟨c, 1, none⟩ (.int .i64 v)) c (t.1, v, t.2.2) := heap_setCell_same w c 1 _ _ _ h
set_option maxRecDepth 100000 in
theorem CB.set2 {w : World} {c : Nat} {t : Nat × Int × Nat} (h : CB w c t) (v : Nat) : CB (w.setCell ⟨c, 2, none⟩ (.int .i64 (v : Int))) c (t.1, t.2.1, v) := heap_setCell_same w c 2 _ _ _ h
set_option maxRecDepth 100000 in
theorem Bx.fr {w w' : World} {b c : Nat} {s : Sh} (h : Bx w b s) (hb : Fr (fun i => i = c) w w') (hc : b ≠ c) : Bx w' b s := (hb.blk b h.lt hc).trans h
set_option maxRecDepth 100000 in
theorem Fr.b {S : Nat → Prop} {w w' : World} (h : Below w.heap.size w w') : Fr S w w' := .of_below h
set_option maxRecDepth 100000 in
/-- A shape that lies elsewhere stays. -/
theorem In.fr {w w' : World} {c : Nat} {s : Sh} (h : In (fun b => b < w.heap.size ∧ b ≠ c) w s) (hb : Fr (fun i => i = c) w w') : In (fun b => b < w'.heap.size ∧ b ≠ c) w' s := h.of fun b hb' => ⟨hb.blk b hb'.1 hb'.2, Nat.lt_of_lt_of_le hb'.1 hb.size, hb'.2⟩

def CtI (s : Sh) (d c : Nat) (t : Nat × Int × Nat) (w : World) (v : Value) (W : World) : Prop := ∃ i : Nat, i ≤ s.pn ∧ v = .int .i64 (i : Int) ∧ Hid (CB W c (csL t (preC d s i))) ∧ Hid (Fr (fun i => i = c) w W) ∧ Hid (Bx W w.heap.size s)
set_option maxRecDepth 100000 in
theorem fr_cell {w w' : World} {c b j : Nat} {v : Value} (hb : Fr (fun i => i = c) w w') (h : b ≠ c) (hv : w.cell? ⟨b, j, none⟩ = some v) : w'.cell? ⟨b, j, none⟩ = some v := by
  rw [World.cell?_of_block (a := ⟨b, j, none⟩) (hb.blk b (lt_cell hv) h)]; exact hv
set_option maxRecDepth 100000 in
theorem results_none' {fn : Func} (h : fn.results = #[]) (tmps : Array Value) (P : Program) (w : World) : ∃ v, (results fn tmps).run P w = .ok v w := ⟨_, results_none h tmps P w⟩

set_option maxRecDepth 100000 in
set_option maxHeartbeats 8000000 in
theorem count_call : ∀ (N : Nat) (s : Sh) (d : Nat), s.nodes.length ≤ N → d ≤ 17 → ∀ (c : Nat) (t : Nat × Int × Nat) (w : World), OkC t → CB w c t → In (fun b => b < w.heap.size ∧ b ≠ c) w s →
    Calls Tryz.prog 69 #[.pointer (some ⟨c, 0, none⟩), .agg #[.int .i64 (s).k, .slice (s).xo (s).xn (s).xc, .slice (s).po (s).pn (s).pc], .int .i64 (d : Int)] w fun e w' => (∃ v, e = .returned v) ∧ CB w' c (csL t (s.flat d)) ∧ Fr (fun i => i = c) w w' := by
  intro N
  induction N with
  | zero => intro s d h; rw [nodes_eq] at h; simp at h
  | succ N ih =>
    intro s d hs hd c t w hO hC hI
    have hcl := hC.lt
    have IH := hid ih
    have HS := hid hs
    have HI := hid hI
    have B1 := hid (Bx.new w s)
    have F1 : Hid (Fr (fun i => i = c) w (w.alloc (.cells #[.int .i64 (s).k, .slice (s).xo (s).xn (s).xc, .slice (s).po (s).pn (s).pc] 39))) := hid (.b (ext1 _))
    have C1 := hid (hC.keep (ext1 (.cells #[.int .i64 (s).k, .slice (s).xo (s).xn (s).xc, .slice (s).po (s).pn (s).pc] 39)))
    have C0 := hid hC
    obtain ⟨x0, x1, x2⟩ := B1.out.cells
    obtain ⟨c0, c1, c2⟩ := C1.out.cells
    have f1 := C1.out.fz
    have hne : w.heap.size ≠ c := by omega
    have hH := hI.here
    have hxn := hH.lenI
    have hbnd := hO
    obtain ⟨o1, o2, o3, o4⟩ := hbnd
    have HO := hid hO
    have LL := hid least_call
    clear ih hs hI hC hO hH
    obtain ⟨X, hX⟩ : ∃ X, X = t.1 := ⟨_, rfl⟩
    obtain ⟨P, hP⟩ : ∃ P, P = t.2.1 := ⟨_, rfl⟩
    obtain ⟨D, hD⟩ : ∃ D, D = t.2.2 := ⟨_, rfl⟩
    rw [← hX] at o1 c0
    rw [← hP] at o2 o3 c1
    rw [← hD] at o4 c2
    have HT := hid (show t = (X, P, D) by rw [hX, hP, hD])
    clear hX hP hD
    obtain ⟨P2, hP2⟩ : ∃ P2, P2 = min (P + 1) 1001 := ⟨_, rfl⟩
    obtain ⟨M, hM⟩ : ∃ M, M = min s.xn 4001 := ⟨_, rfl⟩
    obtain ⟨X2, hX2⟩ : ∃ X2, X2 = min (X + M) 4001 := ⟨_, rfl⟩
    have L0 := hid (fun W => (LL.out (P + 1) 1001 W))
    rw [← hP2] at L0
    have L1 := hid (fun W => (LL.out (s.xn : Int) 4001 W))
    rw [show min (s.xn : Int) 4001 = (M : Int) by omega] at L1
    have L2 := hid (fun W => (LL.out ((X : Int) + (M : Int)) 4001 W))
    rw [show min ((X : Int) + (M : Int)) 4001 = (X2 : Int) by omega] at L2
    have hM4 : M ≤ 4001 := by omega
    have hXM : IntKind.i64.wrap ((X : Int) + (M : Int)) = (X : Int) + (M : Int) := IntWalk.i64_in _ (by omega)
    have HC1 := hid (show cs1 t (d, s) = (X2, P2, max D d) by rw [HT.out, hX2, hP2, hM]; rfl)
    clear hP2 hM hX2 LL
    by_cases hdD : D < d
    · have hlt : (D : Int) < (d : Int) := by omega
      have CA := hid (show CB ((w.setCell ⟨c, 2, none⟩ (.int .i64 (d : Int))).alloc (.cells #[.int .i64 (s).k, .slice (s).xo (s).xn (s).xc, .slice (s).po (s).pn (s).pc] 39)) c (X, P, max D d) from (by have h := (C0.out.set2 d).keep (ext1 (.cells #[.int .i64 (s).k, .slice (s).xo (s).xn (s).xc, .slice (s).po (s).pn (s).pc] 39)); rw [HT.out] at h; rw [show max D d = d by omega]; exact h))
      have FA : Hid (Fr (fun i => i = c) w ((w.setCell ⟨c, 2, none⟩ (.int .i64 (d : Int))).alloc (.cells #[.int .i64 (s).k, .slice (s).xo (s).xn (s).xc, .slice (s).po (s).pn (s).pc] 39))) := hid ((Fr.set w c 2 _).trans (Fr.alloc _ _ _))
      have BA := hid (show Bx ((w.setCell ⟨c, 2, none⟩ (.int .i64 (d : Int))).alloc (.cells #[.int .i64 (s).k, .slice (s).xo (s).xn (s).xc, .slice (s).po (s).pn (s).pc] 39)) w.heap.size s from (by have h := Bx.new (w.setCell ⟨c, 2, none⟩ (.int .i64 (d : Int))) s; simpa using h))
      obtain ⟨e0, e1, e2⟩ := CA.out.cells
      obtain ⟨z0, z1, z2⟩ := BA.out.cells
      have f2 := CA.out.fz
      go_enter Tryz.func69, Tryz.ntmps69
      go_wp2_with (first
        | (go_at_call 103; refine (L0.out _).mono ?_; rintro e w3 ⟨rfl, hb3⟩; have H3 := hid hb3; clear hb3; have C3 := hid (CA.out.keep H3.out); have B3 := hid (BA.out.keep H3.out); have F3 := hid (FA.out.trans (Fr.b (S := fun i => i = c) H3.out)); clear CA BA FA L0 C0 C1 B1 F1; obtain ⟨g0, g1, g2⟩ := C3.out.cells; have f3 := C3.out.fz))
      have C4 := hid (C3.out.set1 P2)
      have F3b := hid (Fr.set w3 c 1 (.int .i64 P2))
      have B4 := hid (B3.out.fr F3b.out hne)
      have F4 := hid (F3.out.trans F3b.out)
      clear C3 B3 F3 F3b g0 g1 g2 f3 H3 x0 x1 x2 c0 c1 c2 f1 e0 e1 e2 z0 z1 z2 f2
      generalize w3.setCell ⟨c, 1, none⟩ (.int .i64 P2) = V at *
      obtain ⟨q0, q1, q2⟩ := C4.out.cells
      obtain ⟨y0, y1, y2⟩ := B4.out.cells
      refine wp_region_K (S := (fun W : World => W.cell? ⟨c, 0, none⟩ = some (.int .i64 (X : Int)) ∧ W.cell? ⟨w.heap.size, 1, none⟩ = some (.slice s.xo s.xn s.xc))) (fun i => i == 13) (by kernel_rfl) (by exact ⟨q0, y1⟩) (fun hHeld => ?_)
      refine gkp 0 ?_
      refine gkp 1 ?_
      refine gkp 2 ?_
      refine gkp 3 ?_
      refine gkt 4 ?_ (h := by intro W hSw; obtain ⟨r0, r1⟩ := hSw; go_simp; first | done | with_reducible rfl)
      refine gkp 5 ?_
      refine gkt 6 ?_ (h := by intro W hSw; obtain ⟨r0, r1⟩ := hSw; go_simp; first | done | with_reducible rfl)
      refine gkp 7 ?_
      refine gk1 8 (fun K hK => ?_)
      go_simp
      go_at_call 103; refine (L1.out _).mono ?_; rintro e w5 ⟨rfl, hb5⟩; have H5 := hid hb5; clear hb5; have hR : (fun W : World => W.cell? ⟨c, 0, none⟩ = some (.int .i64 (X : Int)) ∧ W.cell? ⟨w.heap.size, 1, none⟩ = some (.slice s.xo s.xn s.xc)) w5 := ⟨keep_old H5.out hHeld.1, keep_old H5.out hHeld.2⟩
      refine hK.out _ _ hR (fun hHeld => ?_)
      clear hK K
      (try simp only [Act.put, sA, sZ, sS])
      refine gkp 9 ?_ (v := .int .i64 ((X : Int) + (M : Int))) (h := by intro W hSw; rw [← hXM]; go_simp; first | done | with_reducible rfl)
      refine gk1 10 (fun K hK => ?_)
      go_simp
      go_at_call 103; refine (L2.out _).mono ?_; rintro e w6 ⟨rfl, hb6⟩; have H6 := hid hb6; clear hb6; have C6 := hid (CB.keep (show CB V.drew c (X, P2, max D d) from C4.out) (gt H5.out H6.out)); have f6 := C6.out.fz; have hR : (fun W : World => W.cell? ⟨c, 0, none⟩ = some (.int .i64 (X : Int)) ∧ W.cell? ⟨w.heap.size, 1, none⟩ = some (.slice s.xo s.xn s.xc)) w6 := ⟨keep_old H6.out hHeld.1, keep_old H6.out hHeld.2⟩
      refine hK.out _ _ hR (fun hHeld => ?_)
      clear hK K
      (try simp only [Act.put, sA, sZ, sS])
      refine gkp 11 ?_
      refine gkp 12 ?_
      refine gkl 13 (fun K hK => ?_)
      go_simp
      refine hK.out _ _ ?_
      clear hK K
      (try simp only [Act.put, sA, sZ, sS])
      refine wpAnyK_done (by kernel_rfl) ?_ _
      have F6 := hid (F4.out.trans (Fr.b (S := fun i => i = c) (undrew (gt H5.out H6.out))))
      have B6 := hid (Bx.keep (show Bx V.drew w.heap.size s from B4.out) (gt H5.out H6.out))
      have C7 := hid (C6.out.set0 X2)
      have F6b := hid (Fr.set w6 c 0 (.int .i64 (X2 : Int)))
      have B7 := hid (B6.out.fr F6b.out hne)
      have F7 := hid (F6.out.trans F6b.out)
      clear C6 F6 B6 F6b C4 B4 F4 H5 H6 hHeld f6 q0 q1 q2 y0 y1 y2 L1 L2
      generalize w6.setCell ⟨c, 0, none⟩ (.int .i64 (X2 : Int)) = V1 at *
      obtain ⟨y0, y1, y2⟩ := B7.out.cells
      go_wp2
      go_loopw [43] (CtI s d c t w) (fun v _ => s.pn - (intOf v).toNat)
      case atStart => exact ⟨0, by omega, rfl, hid (by rw [preC_zero]; show CB _ c (cs1 t (d, s)); rw [HC1.out]; exact C7.out), F7, B7⟩
      case round =>
        clear y0 y1 y2 B7 F7 C7 HC1 HT o1 o2 o3 o4 hM4 hXM hlt hdD
        obtain ⟨i, hi, rfl, hCW, hFW, hBW⟩ := hrel
        obtain ⟨y0, y1, y2⟩ := hBW.out.cells
        by_cases hik : i < s.pn
        · obtain ⟨p, hp⟩ : ∃ p, s.ps[i]? = some p := ⟨_, List.getElem?_eq_getElem (by rw [HI.out.here.pl]; exact hik)⟩
          obtain ⟨b, off, hpo, hbl, hat⟩ := HI.out.here.pr.resolve_left (by intro e; rw [e] at hp; simp at hp)
          obtain ⟨z0, z1, z2⟩ := (hat i p hp).of (w' := wr) (hFW.out.blk b hbl.1 hbl.2)
          rw [hpo] at *
          have hsn := preC_snoc (d := d) hp
          have HPM := hid (List.mem_of_getElem? hp)
          have hOu : OkC (csL t (preC d s i)) := HO.out.all _ (preC_mem hd i)
          obtain ⟨u, hu⟩ : ∃ u, u = csL t (preC d s i) := ⟨_, rfl⟩
          have HSN := hid (show csL t (preC d s (i + 1)) = csL u (if din s.k p.k d ≤ 17 then p.flat (din s.k p.k d) else []) by rw [hsn, csL_append, ← hu])
          rw [← hu] at hCW hOu
          obtain ⟨UX, UP, UD⟩ := u
          have CW := hCW; have FW := hFW; have BW := hBW
          obtain ⟨a1, a2, a3, a4⟩ := id hOu
          simp only at a1 a2 a3 a4
          have HU := hid hOu
          have DC := hid (fun W => deeper_call s p d W (by omega))
          obtain ⟨dd, hdd⟩ : ∃ dd, dd = din s.k p.k d := ⟨_, rfl⟩
          rw [← hdd] at DC HSN
          have BP0 := hid (Bx.new wr p)
          obtain ⟨q0, q1, q2⟩ := BP0.out.cells
          have y0' := keep_old (ext1 (.cells #[.int .i64 (p).k, .slice (p).xo (p).xn (p).xc, .slice (p).po (p).pn (p).pc] 39)) y0; have y1' := keep_old (ext1 (.cells #[.int .i64 (p).k, .slice (p).xo (p).xn (p).xc, .slice (p).po (p).pn (p).pc] 39)) y1; have y2' := keep_old (ext1 (.cells #[.int .i64 (p).k, .slice (p).xo (p).xn (p).xc, .slice (p).po (p).pn (p).pc] 39)) y2
          clear hat hpo hsn hp hu hOu hCW hFW hBW hdd
          by_cases h17 : dd ≤ 17
          · have h17' : (dd : Int) ≤ 17 := by omega
            rw [if_pos h17] at HSN
            have HDD := hid h17
            clear h17
            by_cases hP : UP ≤ 1000
            · go_wp2_with (go_at_call 104; refine (DC.out _).mono ?_; rintro e w1 ⟨rfl, hb1⟩; have H1 := hid hb1; clear hb1; have C1 := hid ((CW.out.keep (ext1 (.cells #[.int .i64 (p).k, .slice (p).xo (p).xn (p).xc, .slice (p).po (p).pn (p).pc] 39))).keep H1.out); obtain ⟨k0, k1, k2⟩ := C1.out.cells; have BP1 := hid ((Bx.new wr p).keep H1.out); obtain ⟨j0, j1, j2⟩ := BP1.out.cells; have BS1 := hid ((BW.out.keep (ext1 (.cells #[.int .i64 (p).k, .slice (p).xo (p).xn (p).xc, .slice (p).po (p).pn (p).pc] 39))).keep H1.out); obtain ⟨m0, m1, m2⟩ := BS1.out.cells; have F1 := hid ((FW.out.trans (Fr.alloc _ wr (.cells #[.int .i64 (p).k, .slice (p).xo (p).xn (p).xc, .slice (p).po (p).pn (p).pc] 39))).trans (Fr.b (S := fun i => i = c) H1.out)); have hz1 := H1.out.size; simp only [World.size_alloc] at hz1)
              have IHP := hid (fun w7 (hb : Below w1.heap.size w1 w7) => IH.out p dd (by have := nodes_lt HPM.out; have := HS.out; omega) HDD.out c (UX, UP, UD) w7 HU.out (C1.out.keep hb) ((HI.out.part HPM.out).fr (F1.out.trans (Fr.b hb))))
              have hpc : wr.heap.size ≠ c := by have := FW.out.size; omega
              refine wp_region_K (S := (fun W : World => (W.cell? ⟨wr.heap.size, 0, none⟩ = some (.int .i64 p.k) ∧ W.cell? ⟨wr.heap.size, 1, none⟩ = some (.slice p.xo p.xn p.xc) ∧ W.cell? ⟨wr.heap.size, 2, none⟩ = some (.slice p.po p.pn p.pc)) ∧ (W.cell? ⟨w.heap.size, 0, none⟩ = some (.int .i64 s.k) ∧ W.cell? ⟨w.heap.size, 1, none⟩ = some (.slice s.xo s.xn s.xc) ∧ W.cell? ⟨w.heap.size, 2, none⟩ = some (.slice s.po s.pn s.pc)))) (fun _ => false) (by kernel_rfl) (by exact ⟨⟨j0, j1, j2⟩, m0, m1, m2⟩) (fun hHeld => ?_)
              refine gkp 0 ?_
              refine gkt 1 ?_ (h := by intro W hSw; obtain ⟨⟨r0, r1, r2⟩, s0, s1, s2⟩ := hSw; go_simp; first | done | with_reducible rfl)
              refine gkt 2 ?_ (h := by intro W hSw; obtain ⟨⟨r0, r1, r2⟩, s0, s1, s2⟩ := hSw; go_simp; first | done | with_reducible rfl)
              refine gkt 3 ?_ (h := by intro W hSw; obtain ⟨⟨r0, r1, r2⟩, s0, s1, s2⟩ := hSw; go_simp; first | done | with_reducible rfl)
              refine gkp 4 ?_
              refine gk1 5 (fun K hK => ?_)
              go_simp
              go_at_call 104; refine (DC.out _).mono ?_; rintro e w7 ⟨rfl, hb7⟩; have H7 := hid hb7; clear hb7; have hR : (fun W : World => (W.cell? ⟨wr.heap.size, 0, none⟩ = some (.int .i64 p.k) ∧ W.cell? ⟨wr.heap.size, 1, none⟩ = some (.slice p.xo p.xn p.xc) ∧ W.cell? ⟨wr.heap.size, 2, none⟩ = some (.slice p.po p.pn p.pc)) ∧ (W.cell? ⟨w.heap.size, 0, none⟩ = some (.int .i64 s.k) ∧ W.cell? ⟨w.heap.size, 1, none⟩ = some (.slice s.xo s.xn s.xc) ∧ W.cell? ⟨w.heap.size, 2, none⟩ = some (.slice s.po s.pn s.pc))) w7 := ⟨⟨keep_old H7.out hHeld.1.1, keep_old H7.out hHeld.1.2.1, keep_old H7.out hHeld.1.2.2⟩, ⟨keep_old H7.out hHeld.2.1, keep_old H7.out hHeld.2.2.1, keep_old H7.out hHeld.2.2.2⟩⟩
              refine hK.out _ _ hR (fun hHeld => ?_)
              clear hK K
              (try simp only [Act.put, sA, sZ, sS])
              refine gk1 6 (fun K hK => ?_)
              go_simp
              go_at_call 69; refine (IHP.out w7 (undrew H7.out)).mono ?_; rintro e w8 ⟨⟨v9, rfl⟩, hc8, hf8⟩; have F8 := hid hf8; have C8 := hid hc8; clear hf8 hc8; have hR : (fun W : World => (W.cell? ⟨wr.heap.size, 0, none⟩ = some (.int .i64 p.k) ∧ W.cell? ⟨wr.heap.size, 1, none⟩ = some (.slice p.xo p.xn p.xc) ∧ W.cell? ⟨wr.heap.size, 2, none⟩ = some (.slice p.po p.pn p.pc)) ∧ (W.cell? ⟨w.heap.size, 0, none⟩ = some (.int .i64 s.k) ∧ W.cell? ⟨w.heap.size, 1, none⟩ = some (.slice s.xo s.xn s.xc) ∧ W.cell? ⟨w.heap.size, 2, none⟩ = some (.slice s.po s.pn s.pc))) w8 := ⟨⟨fr_cell F8.out hpc hHeld.1.1, fr_cell F8.out hpc hHeld.1.2.1, fr_cell F8.out hpc hHeld.1.2.2⟩, ⟨fr_cell F8.out hne hHeld.2.1, fr_cell F8.out hne hHeld.2.2.1, fr_cell F8.out hne hHeld.2.2.2⟩⟩
              refine hK.out _ _ hR (fun hHeld => ?_)
              clear hK K
              (try simp only [Act.put, sA, sZ, sS])
              refine wpAnyK_done (by kernel_rfl) ?_ _
              have F9 := hid ((F1.out.trans (Fr.b (S := fun i => i = c) (undrew H7.out))).trans F8.out)
              have B9 := hid (Bx.fr (Bx.keep (show Bx w1.drew w.heap.size s from BS1.out) H7.out) F8.out hne)
              go_wp2
              go_roundw
              case measure => simp [intOf]; omega
              case rel => exact ⟨i + 1, by omega, by go_num, hid (by rw [HSN.out]; exact C8.out), F9, B9⟩
            · have hP' : 1000 < UP := by omega
              by_cases hX : UX ≤ 4000
              · have hX' : (UX : Int) ≤ 4000 := by omega
                go_wp2_with (go_at_call 104; refine (DC.out _).mono ?_; rintro e w1 ⟨rfl, hb1⟩; have H1 := hid hb1; clear hb1; have C1 := hid ((CW.out.keep (ext1 (.cells #[.int .i64 (p).k, .slice (p).xo (p).xn (p).xc, .slice (p).po (p).pn (p).pc] 39))).keep H1.out); obtain ⟨k0, k1, k2⟩ := C1.out.cells; have BP1 := hid ((Bx.new wr p).keep H1.out); obtain ⟨j0, j1, j2⟩ := BP1.out.cells; have BS1 := hid ((BW.out.keep (ext1 (.cells #[.int .i64 (p).k, .slice (p).xo (p).xn (p).xc, .slice (p).po (p).pn (p).pc] 39))).keep H1.out); obtain ⟨m0, m1, m2⟩ := BS1.out.cells; have F1 := hid ((FW.out.trans (Fr.alloc _ wr (.cells #[.int .i64 (p).k, .slice (p).xo (p).xn (p).xc, .slice (p).po (p).pn (p).pc] 39))).trans (Fr.b (S := fun i => i = c) H1.out)); have hz1 := H1.out.size; simp only [World.size_alloc] at hz1)
                have IHP := hid (fun w7 (hb : Below w1.heap.size w1 w7) => IH.out p dd (by have := nodes_lt HPM.out; have := HS.out; omega) HDD.out c (UX, UP, UD) w7 HU.out (C1.out.keep hb) ((HI.out.part HPM.out).fr (F1.out.trans (Fr.b hb))))
                have hpc : wr.heap.size ≠ c := by have := FW.out.size; omega
                refine wp_region_K (S := (fun W : World => (W.cell? ⟨wr.heap.size, 0, none⟩ = some (.int .i64 p.k) ∧ W.cell? ⟨wr.heap.size, 1, none⟩ = some (.slice p.xo p.xn p.xc) ∧ W.cell? ⟨wr.heap.size, 2, none⟩ = some (.slice p.po p.pn p.pc)) ∧ (W.cell? ⟨w.heap.size, 0, none⟩ = some (.int .i64 s.k) ∧ W.cell? ⟨w.heap.size, 1, none⟩ = some (.slice s.xo s.xn s.xc) ∧ W.cell? ⟨w.heap.size, 2, none⟩ = some (.slice s.po s.pn s.pc)))) (fun _ => false) (by kernel_rfl) (by exact ⟨⟨j0, j1, j2⟩, m0, m1, m2⟩) (fun hHeld => ?_)
                refine gkp 0 ?_
                refine gkt 1 ?_ (h := by intro W hSw; obtain ⟨⟨r0, r1, r2⟩, s0, s1, s2⟩ := hSw; go_simp; first | done | with_reducible rfl)
                refine gkt 2 ?_ (h := by intro W hSw; obtain ⟨⟨r0, r1, r2⟩, s0, s1, s2⟩ := hSw; go_simp; first | done | with_reducible rfl)
                refine gkt 3 ?_ (h := by intro W hSw; obtain ⟨⟨r0, r1, r2⟩, s0, s1, s2⟩ := hSw; go_simp; first | done | with_reducible rfl)
                refine gkp 4 ?_
                refine gk1 5 (fun K hK => ?_)
                go_simp
                go_at_call 104; refine (DC.out _).mono ?_; rintro e w7 ⟨rfl, hb7⟩; have H7 := hid hb7; clear hb7; have hR : (fun W : World => (W.cell? ⟨wr.heap.size, 0, none⟩ = some (.int .i64 p.k) ∧ W.cell? ⟨wr.heap.size, 1, none⟩ = some (.slice p.xo p.xn p.xc) ∧ W.cell? ⟨wr.heap.size, 2, none⟩ = some (.slice p.po p.pn p.pc)) ∧ (W.cell? ⟨w.heap.size, 0, none⟩ = some (.int .i64 s.k) ∧ W.cell? ⟨w.heap.size, 1, none⟩ = some (.slice s.xo s.xn s.xc) ∧ W.cell? ⟨w.heap.size, 2, none⟩ = some (.slice s.po s.pn s.pc))) w7 := ⟨⟨keep_old H7.out hHeld.1.1, keep_old H7.out hHeld.1.2.1, keep_old H7.out hHeld.1.2.2⟩, ⟨keep_old H7.out hHeld.2.1, keep_old H7.out hHeld.2.2.1, keep_old H7.out hHeld.2.2.2⟩⟩
                refine hK.out _ _ hR (fun hHeld => ?_)
                clear hK K
                (try simp only [Act.put, sA, sZ, sS])
                refine gk1 6 (fun K hK => ?_)
                go_simp
                go_at_call 69; refine (IHP.out w7 (undrew H7.out)).mono ?_; rintro e w8 ⟨⟨v9, rfl⟩, hc8, hf8⟩; have F8 := hid hf8; have C8 := hid hc8; clear hf8 hc8; have hR : (fun W : World => (W.cell? ⟨wr.heap.size, 0, none⟩ = some (.int .i64 p.k) ∧ W.cell? ⟨wr.heap.size, 1, none⟩ = some (.slice p.xo p.xn p.xc) ∧ W.cell? ⟨wr.heap.size, 2, none⟩ = some (.slice p.po p.pn p.pc)) ∧ (W.cell? ⟨w.heap.size, 0, none⟩ = some (.int .i64 s.k) ∧ W.cell? ⟨w.heap.size, 1, none⟩ = some (.slice s.xo s.xn s.xc) ∧ W.cell? ⟨w.heap.size, 2, none⟩ = some (.slice s.po s.pn s.pc))) w8 := ⟨⟨fr_cell F8.out hpc hHeld.1.1, fr_cell F8.out hpc hHeld.1.2.1, fr_cell F8.out hpc hHeld.1.2.2⟩, ⟨fr_cell F8.out hne hHeld.2.1, fr_cell F8.out hne hHeld.2.2.1, fr_cell F8.out hne hHeld.2.2.2⟩⟩
                refine hK.out _ _ hR (fun hHeld => ?_)
                clear hK K
                (try simp only [Act.put, sA, sZ, sS])
                refine wpAnyK_done (by kernel_rfl) ?_ _
                have F9 := hid ((F1.out.trans (Fr.b (S := fun i => i = c) (undrew H7.out))).trans F8.out)
                have B9 := hid (Bx.fr (Bx.keep (show Bx w1.drew w.heap.size s from BS1.out) H7.out) F8.out hne)
                go_wp2
                go_roundw
                case measure => simp [intOf]; omega
                case rel => exact ⟨i + 1, by omega, by go_num, hid (by rw [HSN.out]; exact C8.out), F9, B9⟩
              · have hX' : (4000 : Int) < (UX : Int) := by omega
                by_cases hD : UD ≤ 16
                · have hD' : (UD : Int) ≤ 16 := by omega
                  go_wp2_with (go_at_call 104; refine (DC.out _).mono ?_; rintro e w1 ⟨rfl, hb1⟩; have H1 := hid hb1; clear hb1; have C1 := hid ((CW.out.keep (ext1 (.cells #[.int .i64 (p).k, .slice (p).xo (p).xn (p).xc, .slice (p).po (p).pn (p).pc] 39))).keep H1.out); obtain ⟨k0, k1, k2⟩ := C1.out.cells; have BP1 := hid ((Bx.new wr p).keep H1.out); obtain ⟨j0, j1, j2⟩ := BP1.out.cells; have BS1 := hid ((BW.out.keep (ext1 (.cells #[.int .i64 (p).k, .slice (p).xo (p).xn (p).xc, .slice (p).po (p).pn (p).pc] 39))).keep H1.out); obtain ⟨m0, m1, m2⟩ := BS1.out.cells; have F1 := hid ((FW.out.trans (Fr.alloc _ wr (.cells #[.int .i64 (p).k, .slice (p).xo (p).xn (p).xc, .slice (p).po (p).pn (p).pc] 39))).trans (Fr.b (S := fun i => i = c) H1.out)); have hz1 := H1.out.size; simp only [World.size_alloc] at hz1)
                  have IHP := hid (fun w7 (hb : Below w1.heap.size w1 w7) => IH.out p dd (by have := nodes_lt HPM.out; have := HS.out; omega) HDD.out c (UX, UP, UD) w7 HU.out (C1.out.keep hb) ((HI.out.part HPM.out).fr (F1.out.trans (Fr.b hb))))
                  have hpc : wr.heap.size ≠ c := by have := FW.out.size; omega
                  refine wp_region_K (S := (fun W : World => (W.cell? ⟨wr.heap.size, 0, none⟩ = some (.int .i64 p.k) ∧ W.cell? ⟨wr.heap.size, 1, none⟩ = some (.slice p.xo p.xn p.xc) ∧ W.cell? ⟨wr.heap.size, 2, none⟩ = some (.slice p.po p.pn p.pc)) ∧ (W.cell? ⟨w.heap.size, 0, none⟩ = some (.int .i64 s.k) ∧ W.cell? ⟨w.heap.size, 1, none⟩ = some (.slice s.xo s.xn s.xc) ∧ W.cell? ⟨w.heap.size, 2, none⟩ = some (.slice s.po s.pn s.pc)))) (fun _ => false) (by kernel_rfl) (by exact ⟨⟨j0, j1, j2⟩, m0, m1, m2⟩) (fun hHeld => ?_)
                  refine gkp 0 ?_
                  refine gkt 1 ?_ (h := by intro W hSw; obtain ⟨⟨r0, r1, r2⟩, s0, s1, s2⟩ := hSw; go_simp; first | done | with_reducible rfl)
                  refine gkt 2 ?_ (h := by intro W hSw; obtain ⟨⟨r0, r1, r2⟩, s0, s1, s2⟩ := hSw; go_simp; first | done | with_reducible rfl)
                  refine gkt 3 ?_ (h := by intro W hSw; obtain ⟨⟨r0, r1, r2⟩, s0, s1, s2⟩ := hSw; go_simp; first | done | with_reducible rfl)
                  refine gkp 4 ?_
                  refine gk1 5 (fun K hK => ?_)
                  go_simp
                  go_at_call 104; refine (DC.out _).mono ?_; rintro e w7 ⟨rfl, hb7⟩; have H7 := hid hb7; clear hb7; have hR : (fun W : World => (W.cell? ⟨wr.heap.size, 0, none⟩ = some (.int .i64 p.k) ∧ W.cell? ⟨wr.heap.size, 1, none⟩ = some (.slice p.xo p.xn p.xc) ∧ W.cell? ⟨wr.heap.size, 2, none⟩ = some (.slice p.po p.pn p.pc)) ∧ (W.cell? ⟨w.heap.size, 0, none⟩ = some (.int .i64 s.k) ∧ W.cell? ⟨w.heap.size, 1, none⟩ = some (.slice s.xo s.xn s.xc) ∧ W.cell? ⟨w.heap.size, 2, none⟩ = some (.slice s.po s.pn s.pc))) w7 := ⟨⟨keep_old H7.out hHeld.1.1, keep_old H7.out hHeld.1.2.1, keep_old H7.out hHeld.1.2.2⟩, ⟨keep_old H7.out hHeld.2.1, keep_old H7.out hHeld.2.2.1, keep_old H7.out hHeld.2.2.2⟩⟩
                  refine hK.out _ _ hR (fun hHeld => ?_)
                  clear hK K
                  (try simp only [Act.put, sA, sZ, sS])
                  refine gk1 6 (fun K hK => ?_)
                  go_simp
                  go_at_call 69; refine (IHP.out w7 (undrew H7.out)).mono ?_; rintro e w8 ⟨⟨v9, rfl⟩, hc8, hf8⟩; have F8 := hid hf8; have C8 := hid hc8; clear hf8 hc8; have hR : (fun W : World => (W.cell? ⟨wr.heap.size, 0, none⟩ = some (.int .i64 p.k) ∧ W.cell? ⟨wr.heap.size, 1, none⟩ = some (.slice p.xo p.xn p.xc) ∧ W.cell? ⟨wr.heap.size, 2, none⟩ = some (.slice p.po p.pn p.pc)) ∧ (W.cell? ⟨w.heap.size, 0, none⟩ = some (.int .i64 s.k) ∧ W.cell? ⟨w.heap.size, 1, none⟩ = some (.slice s.xo s.xn s.xc) ∧ W.cell? ⟨w.heap.size, 2, none⟩ = some (.slice s.po s.pn s.pc))) w8 := ⟨⟨fr_cell F8.out hpc hHeld.1.1, fr_cell F8.out hpc hHeld.1.2.1, fr_cell F8.out hpc hHeld.1.2.2⟩, ⟨fr_cell F8.out hne hHeld.2.1, fr_cell F8.out hne hHeld.2.2.1, fr_cell F8.out hne hHeld.2.2.2⟩⟩
                  refine hK.out _ _ hR (fun hHeld => ?_)
                  clear hK K
                  (try simp only [Act.put, sA, sZ, sS])
                  refine wpAnyK_done (by kernel_rfl) ?_ _
                  have F9 := hid ((F1.out.trans (Fr.b (S := fun i => i = c) (undrew H7.out))).trans F8.out)
                  have B9 := hid (Bx.fr (Bx.keep (show Bx w1.drew w.heap.size s from BS1.out) H7.out) F8.out hne)
                  go_wp2
                  go_roundw
                  case measure => simp [intOf]; omega
                  case rel => exact ⟨i + 1, by omega, by go_num, hid (by rw [HSN.out]; exact C8.out), F9, B9⟩
                · have hD' : (16 : Int) < (UD : Int) := by omega
                  have hful := HU.out.full (by simp only; omega) (by simp only; omega) (by simp only; omega)
                  have HF := hid (show csL (UX, UP, UD) (p.flat dd) = (UX, UP, UD) from (by rw [hful]; exact full_all _ fun x hx => (flat_mem _ p dd (Nat.le_refl _) HDD.out x hx).2.2))
                  clear hful
                  go_wp2_with (go_at_call 104; refine (DC.out _).mono ?_; rintro e w1 ⟨rfl, hb1⟩; have H1 := hid hb1; clear hb1; have C1 := hid ((CW.out.keep (ext1 (.cells #[.int .i64 (p).k, .slice (p).xo (p).xn (p).xc, .slice (p).po (p).pn (p).pc] 39))).keep H1.out); obtain ⟨k0, k1, k2⟩ := C1.out.cells; have BP1 := hid ((Bx.new wr p).keep H1.out); obtain ⟨j0, j1, j2⟩ := BP1.out.cells; have BS1 := hid ((BW.out.keep (ext1 (.cells #[.int .i64 (p).k, .slice (p).xo (p).xn (p).xc, .slice (p).po (p).pn (p).pc] 39))).keep H1.out); obtain ⟨m0, m1, m2⟩ := BS1.out.cells; have F1 := hid ((FW.out.trans (Fr.alloc _ wr (.cells #[.int .i64 (p).k, .slice (p).xo (p).xn (p).xc, .slice (p).po (p).pn (p).pc] 39))).trans (Fr.b (S := fun i => i = c) H1.out)); have hz1 := H1.out.size; simp only [World.size_alloc] at hz1)
                  go_roundw
                  case measure => simp [intOf]; omega
                  case rel => exact ⟨i + 1, by omega, by go_num, hid (by rw [HSN.out, HF.out]; exact C1.out), F1, BS1⟩
          · have h17' : (17 : Int) < (dd : Int) := by omega
            rw [if_neg h17] at HSN
            clear h17
            go_wp2_with (go_at_call 104; refine (DC.out _).mono ?_; rintro e w1 ⟨rfl, hb1⟩; have H1 := hid hb1; clear hb1; have C1 := hid ((CW.out.keep (ext1 (.cells #[.int .i64 (p).k, .slice (p).xo (p).xn (p).xc, .slice (p).po (p).pn (p).pc] 39))).keep H1.out); obtain ⟨k0, k1, k2⟩ := C1.out.cells; have BP1 := hid ((Bx.new wr p).keep H1.out); obtain ⟨j0, j1, j2⟩ := BP1.out.cells; have BS1 := hid ((BW.out.keep (ext1 (.cells #[.int .i64 (p).k, .slice (p).xo (p).xn (p).xc, .slice (p).po (p).pn (p).pc] 39))).keep H1.out); obtain ⟨m0, m1, m2⟩ := BS1.out.cells; have F1 := hid ((FW.out.trans (Fr.alloc _ wr (.cells #[.int .i64 (p).k, .slice (p).xo (p).xn (p).xc, .slice (p).po (p).pn (p).pc] 39))).trans (Fr.b (S := fun i => i = c) H1.out)); have hz1 := H1.out.size; simp only [World.size_alloc] at hz1)
            go_roundw
            case measure => simp [intOf]; omega
            case rel => exact ⟨i + 1, by omega, by go_num, hid (by rw [HSN.out]; exact C1.out), F1, BS1⟩
        · obtain rfl : i = s.pn := by omega
          go_wp2
          go_end0
          exact ⟨⟨_, rfl⟩, (by have h := hCW.out; rw [← HI.out.here.pl, preC_all] at h; exact h), hFW.out⟩
    · have hlt : (d : Int) ≤ (D : Int) := by omega
      have CA := hid (show CB (w.alloc (.cells #[.int .i64 (s).k, .slice (s).xo (s).xn (s).xc, .slice (s).po (s).pn (s).pc] 39)) c (X, P, max D d) from (by have h := C0.out.keep (ext1 (.cells #[.int .i64 (s).k, .slice (s).xo (s).xn (s).xc, .slice (s).po (s).pn (s).pc] 39)); rw [HT.out] at h; rw [show max D d = D by omega]; exact h))
      have FA : Hid (Fr (fun i => i = c) w (w.alloc (.cells #[.int .i64 (s).k, .slice (s).xo (s).xn (s).xc, .slice (s).po (s).pn (s).pc] 39))) := hid (Fr.alloc _ _ _)
      have BA := hid (show Bx (w.alloc (.cells #[.int .i64 (s).k, .slice (s).xo (s).xn (s).xc, .slice (s).po (s).pn (s).pc] 39)) w.heap.size s from (by have h := Bx.new w s; simpa using h))
      go_enter Tryz.func69, Tryz.ntmps69
      go_wp2_with (first
        | (go_at_call 103; refine (L0.out _).mono ?_; rintro e w3 ⟨rfl, hb3⟩; have H3 := hid hb3; clear hb3; have C3 := hid (CA.out.keep H3.out); have B3 := hid (BA.out.keep H3.out); have F3 := hid (FA.out.trans (Fr.b (S := fun i => i = c) H3.out)); clear CA BA FA L0 C0 C1 B1 F1; obtain ⟨g0, g1, g2⟩ := C3.out.cells; have f3 := C3.out.fz))
      have C4 := hid (C3.out.set1 P2)
      have F3b := hid (Fr.set w3 c 1 (.int .i64 P2))
      have B4 := hid (B3.out.fr F3b.out hne)
      have F4 := hid (F3.out.trans F3b.out)
      clear C3 B3 F3 F3b g0 g1 g2 f3 H3 x0 x1 x2 c0 c1 c2 f1
      generalize w3.setCell ⟨c, 1, none⟩ (.int .i64 P2) = V at *
      obtain ⟨q0, q1, q2⟩ := C4.out.cells
      obtain ⟨y0, y1, y2⟩ := B4.out.cells
      refine wp_region_K (S := (fun W : World => W.cell? ⟨c, 0, none⟩ = some (.int .i64 (X : Int)) ∧ W.cell? ⟨w.heap.size, 1, none⟩ = some (.slice s.xo s.xn s.xc))) (fun i => i == 13) (by kernel_rfl) (by exact ⟨q0, y1⟩) (fun hHeld => ?_)
      refine gkp 0 ?_
      refine gkp 1 ?_
      refine gkp 2 ?_
      refine gkp 3 ?_
      refine gkt 4 ?_ (h := by intro W hSw; obtain ⟨r0, r1⟩ := hSw; go_simp; first | done | with_reducible rfl)
      refine gkp 5 ?_
      refine gkt 6 ?_ (h := by intro W hSw; obtain ⟨r0, r1⟩ := hSw; go_simp; first | done | with_reducible rfl)
      refine gkp 7 ?_
      refine gk1 8 (fun K hK => ?_)
      go_simp
      go_at_call 103; refine (L1.out _).mono ?_; rintro e w5 ⟨rfl, hb5⟩; have H5 := hid hb5; clear hb5; have hR : (fun W : World => W.cell? ⟨c, 0, none⟩ = some (.int .i64 (X : Int)) ∧ W.cell? ⟨w.heap.size, 1, none⟩ = some (.slice s.xo s.xn s.xc)) w5 := ⟨keep_old H5.out hHeld.1, keep_old H5.out hHeld.2⟩
      refine hK.out _ _ hR (fun hHeld => ?_)
      clear hK K
      (try simp only [Act.put, sA, sZ, sS])
      refine gkp 9 ?_ (v := .int .i64 ((X : Int) + (M : Int))) (h := by intro W hSw; rw [← hXM]; go_simp; first | done | with_reducible rfl)
      refine gk1 10 (fun K hK => ?_)
      go_simp
      go_at_call 103; refine (L2.out _).mono ?_; rintro e w6 ⟨rfl, hb6⟩; have H6 := hid hb6; clear hb6; have C6 := hid (CB.keep (show CB V.drew c (X, P2, max D d) from C4.out) (gt H5.out H6.out)); have f6 := C6.out.fz; have hR : (fun W : World => W.cell? ⟨c, 0, none⟩ = some (.int .i64 (X : Int)) ∧ W.cell? ⟨w.heap.size, 1, none⟩ = some (.slice s.xo s.xn s.xc)) w6 := ⟨keep_old H6.out hHeld.1, keep_old H6.out hHeld.2⟩
      refine hK.out _ _ hR (fun hHeld => ?_)
      clear hK K
      (try simp only [Act.put, sA, sZ, sS])
      refine gkp 11 ?_
      refine gkp 12 ?_
      refine gkl 13 (fun K hK => ?_)
      go_simp
      refine hK.out _ _ ?_
      clear hK K
      (try simp only [Act.put, sA, sZ, sS])
      refine wpAnyK_done (by kernel_rfl) ?_ _
      have F6 := hid (F4.out.trans (Fr.b (S := fun i => i = c) (undrew (gt H5.out H6.out))))
      have B6 := hid (Bx.keep (show Bx V.drew w.heap.size s from B4.out) (gt H5.out H6.out))
      have C7 := hid (C6.out.set0 X2)
      have F6b := hid (Fr.set w6 c 0 (.int .i64 (X2 : Int)))
      have B7 := hid (B6.out.fr F6b.out hne)
      have F7 := hid (F6.out.trans F6b.out)
      clear C6 F6 B6 F6b C4 B4 F4 H5 H6 hHeld f6 q0 q1 q2 y0 y1 y2 L1 L2
      generalize w6.setCell ⟨c, 0, none⟩ (.int .i64 (X2 : Int)) = V1 at *
      obtain ⟨y0, y1, y2⟩ := B7.out.cells
      go_wp2
      go_loopw [43] (CtI s d c t w) (fun v _ => s.pn - (intOf v).toNat)
      case atStart => exact ⟨0, by omega, rfl, hid (by rw [preC_zero]; show CB _ c (cs1 t (d, s)); rw [HC1.out]; exact C7.out), F7, B7⟩
      case round =>
        clear y0 y1 y2 B7 F7 C7 HC1 HT o1 o2 o3 o4 hM4 hXM hlt hdD
        obtain ⟨i, hi, rfl, hCW, hFW, hBW⟩ := hrel
        obtain ⟨y0, y1, y2⟩ := hBW.out.cells
        by_cases hik : i < s.pn
        · obtain ⟨p, hp⟩ : ∃ p, s.ps[i]? = some p := ⟨_, List.getElem?_eq_getElem (by rw [HI.out.here.pl]; exact hik)⟩
          obtain ⟨b, off, hpo, hbl, hat⟩ := HI.out.here.pr.resolve_left (by intro e; rw [e] at hp; simp at hp)
          obtain ⟨z0, z1, z2⟩ := (hat i p hp).of (w' := wr) (hFW.out.blk b hbl.1 hbl.2)
          rw [hpo] at *
          have hsn := preC_snoc (d := d) hp
          have HPM := hid (List.mem_of_getElem? hp)
          have hOu : OkC (csL t (preC d s i)) := HO.out.all _ (preC_mem hd i)
          obtain ⟨u, hu⟩ : ∃ u, u = csL t (preC d s i) := ⟨_, rfl⟩
          have HSN := hid (show csL t (preC d s (i + 1)) = csL u (if din s.k p.k d ≤ 17 then p.flat (din s.k p.k d) else []) by rw [hsn, csL_append, ← hu])
          rw [← hu] at hCW hOu
          obtain ⟨UX, UP, UD⟩ := u
          have CW := hCW; have FW := hFW; have BW := hBW
          obtain ⟨a1, a2, a3, a4⟩ := id hOu
          simp only at a1 a2 a3 a4
          have HU := hid hOu
          have DC := hid (fun W => deeper_call s p d W (by omega))
          obtain ⟨dd, hdd⟩ : ∃ dd, dd = din s.k p.k d := ⟨_, rfl⟩
          rw [← hdd] at DC HSN
          have BP0 := hid (Bx.new wr p)
          obtain ⟨q0, q1, q2⟩ := BP0.out.cells
          have y0' := keep_old (ext1 (.cells #[.int .i64 (p).k, .slice (p).xo (p).xn (p).xc, .slice (p).po (p).pn (p).pc] 39)) y0; have y1' := keep_old (ext1 (.cells #[.int .i64 (p).k, .slice (p).xo (p).xn (p).xc, .slice (p).po (p).pn (p).pc] 39)) y1; have y2' := keep_old (ext1 (.cells #[.int .i64 (p).k, .slice (p).xo (p).xn (p).xc, .slice (p).po (p).pn (p).pc] 39)) y2
          clear hat hpo hsn hp hu hOu hCW hFW hBW hdd
          by_cases h17 : dd ≤ 17
          · have h17' : (dd : Int) ≤ 17 := by omega
            rw [if_pos h17] at HSN
            have HDD := hid h17
            clear h17
            by_cases hP : UP ≤ 1000
            · go_wp2_with (go_at_call 104; refine (DC.out _).mono ?_; rintro e w1 ⟨rfl, hb1⟩; have H1 := hid hb1; clear hb1; have C1 := hid ((CW.out.keep (ext1 (.cells #[.int .i64 (p).k, .slice (p).xo (p).xn (p).xc, .slice (p).po (p).pn (p).pc] 39))).keep H1.out); obtain ⟨k0, k1, k2⟩ := C1.out.cells; have BP1 := hid ((Bx.new wr p).keep H1.out); obtain ⟨j0, j1, j2⟩ := BP1.out.cells; have BS1 := hid ((BW.out.keep (ext1 (.cells #[.int .i64 (p).k, .slice (p).xo (p).xn (p).xc, .slice (p).po (p).pn (p).pc] 39))).keep H1.out); obtain ⟨m0, m1, m2⟩ := BS1.out.cells; have F1 := hid ((FW.out.trans (Fr.alloc _ wr (.cells #[.int .i64 (p).k, .slice (p).xo (p).xn (p).xc, .slice (p).po (p).pn (p).pc] 39))).trans (Fr.b (S := fun i => i = c) H1.out)); have hz1 := H1.out.size; simp only [World.size_alloc] at hz1)
              have IHP := hid (fun w7 (hb : Below w1.heap.size w1 w7) => IH.out p dd (by have := nodes_lt HPM.out; have := HS.out; omega) HDD.out c (UX, UP, UD) w7 HU.out (C1.out.keep hb) ((HI.out.part HPM.out).fr (F1.out.trans (Fr.b hb))))
              have hpc : wr.heap.size ≠ c := by have := FW.out.size; omega
              refine wp_region_K (S := (fun W : World => (W.cell? ⟨wr.heap.size, 0, none⟩ = some (.int .i64 p.k) ∧ W.cell? ⟨wr.heap.size, 1, none⟩ = some (.slice p.xo p.xn p.xc) ∧ W.cell? ⟨wr.heap.size, 2, none⟩ = some (.slice p.po p.pn p.pc)) ∧ (W.cell? ⟨w.heap.size, 0, none⟩ = some (.int .i64 s.k) ∧ W.cell? ⟨w.heap.size, 1, none⟩ = some (.slice s.xo s.xn s.xc) ∧ W.cell? ⟨w.heap.size, 2, none⟩ = some (.slice s.po s.pn s.pc)))) (fun _ => false) (by kernel_rfl) (by exact ⟨⟨j0, j1, j2⟩, m0, m1, m2⟩) (fun hHeld => ?_)
              refine gkp 0 ?_
              refine gkt 1 ?_ (h := by intro W hSw; obtain ⟨⟨r0, r1, r2⟩, s0, s1, s2⟩ := hSw; go_simp; first | done | with_reducible rfl)
              refine gkt 2 ?_ (h := by intro W hSw; obtain ⟨⟨r0, r1, r2⟩, s0, s1, s2⟩ := hSw; go_simp; first | done | with_reducible rfl)
              refine gkt 3 ?_ (h := by intro W hSw; obtain ⟨⟨r0, r1, r2⟩, s0, s1, s2⟩ := hSw; go_simp; first | done | with_reducible rfl)
              refine gkp 4 ?_
              refine gk1 5 (fun K hK => ?_)
              go_simp
              go_at_call 104; refine (DC.out _).mono ?_; rintro e w7 ⟨rfl, hb7⟩; have H7 := hid hb7; clear hb7; have hR : (fun W : World => (W.cell? ⟨wr.heap.size, 0, none⟩ = some (.int .i64 p.k) ∧ W.cell? ⟨wr.heap.size, 1, none⟩ = some (.slice p.xo p.xn p.xc) ∧ W.cell? ⟨wr.heap.size, 2, none⟩ = some (.slice p.po p.pn p.pc)) ∧ (W.cell? ⟨w.heap.size, 0, none⟩ = some (.int .i64 s.k) ∧ W.cell? ⟨w.heap.size, 1, none⟩ = some (.slice s.xo s.xn s.xc) ∧ W.cell? ⟨w.heap.size, 2, none⟩ = some (.slice s.po s.pn s.pc))) w7 := ⟨⟨keep_old H7.out hHeld.1.1, keep_old H7.out hHeld.1.2.1, keep_old H7.out hHeld.1.2.2⟩, ⟨keep_old H7.out hHeld.2.1, keep_old H7.out hHeld.2.2.1, keep_old H7.out hHeld.2.2.2⟩⟩
              refine hK.out _ _ hR (fun hHeld => ?_)
              clear hK K
              (try simp only [Act.put, sA, sZ, sS])
              refine gk1 6 (fun K hK => ?_)
              go_simp
              go_at_call 69; refine (IHP.out w7 (undrew H7.out)).mono ?_; rintro e w8 ⟨⟨v9, rfl⟩, hc8, hf8⟩; have F8 := hid hf8; have C8 := hid hc8; clear hf8 hc8; have hR : (fun W : World => (W.cell? ⟨wr.heap.size, 0, none⟩ = some (.int .i64 p.k) ∧ W.cell? ⟨wr.heap.size, 1, none⟩ = some (.slice p.xo p.xn p.xc) ∧ W.cell? ⟨wr.heap.size, 2, none⟩ = some (.slice p.po p.pn p.pc)) ∧ (W.cell? ⟨w.heap.size, 0, none⟩ = some (.int .i64 s.k) ∧ W.cell? ⟨w.heap.size, 1, none⟩ = some (.slice s.xo s.xn s.xc) ∧ W.cell? ⟨w.heap.size, 2, none⟩ = some (.slice s.po s.pn s.pc))) w8 := ⟨⟨fr_cell F8.out hpc hHeld.1.1, fr_cell F8.out hpc hHeld.1.2.1, fr_cell F8.out hpc hHeld.1.2.2⟩, ⟨fr_cell F8.out hne hHeld.2.1, fr_cell F8.out hne hHeld.2.2.1, fr_cell F8.out hne hHeld.2.2.2⟩⟩
              refine hK.out _ _ hR (fun hHeld => ?_)
              clear hK K
              (try simp only [Act.put, sA, sZ, sS])
              refine wpAnyK_done (by kernel_rfl) ?_ _
              have F9 := hid ((F1.out.trans (Fr.b (S := fun i => i = c) (undrew H7.out))).trans F8.out)
              have B9 := hid (Bx.fr (Bx.keep (show Bx w1.drew w.heap.size s from BS1.out) H7.out) F8.out hne)
              go_wp2
              go_roundw
              case measure => simp [intOf]; omega
              case rel => exact ⟨i + 1, by omega, by go_num, hid (by rw [HSN.out]; exact C8.out), F9, B9⟩
            · have hP' : 1000 < UP := by omega
              by_cases hX : UX ≤ 4000
              · have hX' : (UX : Int) ≤ 4000 := by omega
                go_wp2_with (go_at_call 104; refine (DC.out _).mono ?_; rintro e w1 ⟨rfl, hb1⟩; have H1 := hid hb1; clear hb1; have C1 := hid ((CW.out.keep (ext1 (.cells #[.int .i64 (p).k, .slice (p).xo (p).xn (p).xc, .slice (p).po (p).pn (p).pc] 39))).keep H1.out); obtain ⟨k0, k1, k2⟩ := C1.out.cells; have BP1 := hid ((Bx.new wr p).keep H1.out); obtain ⟨j0, j1, j2⟩ := BP1.out.cells; have BS1 := hid ((BW.out.keep (ext1 (.cells #[.int .i64 (p).k, .slice (p).xo (p).xn (p).xc, .slice (p).po (p).pn (p).pc] 39))).keep H1.out); obtain ⟨m0, m1, m2⟩ := BS1.out.cells; have F1 := hid ((FW.out.trans (Fr.alloc _ wr (.cells #[.int .i64 (p).k, .slice (p).xo (p).xn (p).xc, .slice (p).po (p).pn (p).pc] 39))).trans (Fr.b (S := fun i => i = c) H1.out)); have hz1 := H1.out.size; simp only [World.size_alloc] at hz1)
                have IHP := hid (fun w7 (hb : Below w1.heap.size w1 w7) => IH.out p dd (by have := nodes_lt HPM.out; have := HS.out; omega) HDD.out c (UX, UP, UD) w7 HU.out (C1.out.keep hb) ((HI.out.part HPM.out).fr (F1.out.trans (Fr.b hb))))
                have hpc : wr.heap.size ≠ c := by have := FW.out.size; omega
                refine wp_region_K (S := (fun W : World => (W.cell? ⟨wr.heap.size, 0, none⟩ = some (.int .i64 p.k) ∧ W.cell? ⟨wr.heap.size, 1, none⟩ = some (.slice p.xo p.xn p.xc) ∧ W.cell? ⟨wr.heap.size, 2, none⟩ = some (.slice p.po p.pn p.pc)) ∧ (W.cell? ⟨w.heap.size, 0, none⟩ = some (.int .i64 s.k) ∧ W.cell? ⟨w.heap.size, 1, none⟩ = some (.slice s.xo s.xn s.xc) ∧ W.cell? ⟨w.heap.size, 2, none⟩ = some (.slice s.po s.pn s.pc)))) (fun _ => false) (by kernel_rfl) (by exact ⟨⟨j0, j1, j2⟩, m0, m1, m2⟩) (fun hHeld => ?_)
                refine gkp 0 ?_
                refine gkt 1 ?_ (h := by intro W hSw; obtain ⟨⟨r0, r1, r2⟩, s0, s1, s2⟩ := hSw; go_simp; first | done | with_reducible rfl)
                refine gkt 2 ?_ (h := by intro W hSw; obtain ⟨⟨r0, r1, r2⟩, s0, s1, s2⟩ := hSw; go_simp; first | done | with_reducible rfl)
                refine gkt 3 ?_ (h := by intro W hSw; obtain ⟨⟨r0, r1, r2⟩, s0, s1, s2⟩ := hSw; go_simp; first | done | with_reducible rfl)
                refine gkp 4 ?_
                refine gk1 5 (fun K hK => ?_)
                go_simp
                go_at_call 104; refine (DC.out _).mono ?_; rintro e w7 ⟨rfl, hb7⟩; have H7 := hid hb7; clear hb7; have hR : (fun W : World => (W.cell? ⟨wr.heap.size, 0, none⟩ = some (.int .i64 p.k) ∧ W.cell? ⟨wr.heap.size, 1, none⟩ = some (.slice p.xo p.xn p.xc) ∧ W.cell? ⟨wr.heap.size, 2, none⟩ = some (.slice p.po p.pn p.pc)) ∧ (W.cell? ⟨w.heap.size, 0, none⟩ = some (.int .i64 s.k) ∧ W.cell? ⟨w.heap.size, 1, none⟩ = some (.slice s.xo s.xn s.xc) ∧ W.cell? ⟨w.heap.size, 2, none⟩ = some (.slice s.po s.pn s.pc))) w7 := ⟨⟨keep_old H7.out hHeld.1.1, keep_old H7.out hHeld.1.2.1, keep_old H7.out hHeld.1.2.2⟩, ⟨keep_old H7.out hHeld.2.1, keep_old H7.out hHeld.2.2.1, keep_old H7.out hHeld.2.2.2⟩⟩
                refine hK.out _ _ hR (fun hHeld => ?_)
                clear hK K
                (try simp only [Act.put, sA, sZ, sS])
                refine gk1 6 (fun K hK => ?_)
                go_simp
                go_at_call 69; refine (IHP.out w7 (undrew H7.out)).mono ?_; rintro e w8 ⟨⟨v9, rfl⟩, hc8, hf8⟩; have F8 := hid hf8; have C8 := hid hc8; clear hf8 hc8; have hR : (fun W : World => (W.cell? ⟨wr.heap.size, 0, none⟩ = some (.int .i64 p.k) ∧ W.cell? ⟨wr.heap.size, 1, none⟩ = some (.slice p.xo p.xn p.xc) ∧ W.cell? ⟨wr.heap.size, 2, none⟩ = some (.slice p.po p.pn p.pc)) ∧ (W.cell? ⟨w.heap.size, 0, none⟩ = some (.int .i64 s.k) ∧ W.cell? ⟨w.heap.size, 1, none⟩ = some (.slice s.xo s.xn s.xc) ∧ W.cell? ⟨w.heap.size, 2, none⟩ = some (.slice s.po s.pn s.pc))) w8 := ⟨⟨fr_cell F8.out hpc hHeld.1.1, fr_cell F8.out hpc hHeld.1.2.1, fr_cell F8.out hpc hHeld.1.2.2⟩, ⟨fr_cell F8.out hne hHeld.2.1, fr_cell F8.out hne hHeld.2.2.1, fr_cell F8.out hne hHeld.2.2.2⟩⟩
                refine hK.out _ _ hR (fun hHeld => ?_)
                clear hK K
                (try simp only [Act.put, sA, sZ, sS])
                refine wpAnyK_done (by kernel_rfl) ?_ _
                have F9 := hid ((F1.out.trans (Fr.b (S := fun i => i = c) (undrew H7.out))).trans F8.out)
                have B9 := hid (Bx.fr (Bx.keep (show Bx w1.drew w.heap.size s from BS1.out) H7.out) F8.out hne)
                go_wp2
                go_roundw
                case measure => simp [intOf]; omega
                case rel => exact ⟨i + 1, by omega, by go_num, hid (by rw [HSN.out]; exact C8.out), F9, B9⟩
              · have hX' : (4000 : Int) < (UX : Int) := by omega
                by_cases hD : UD ≤ 16
                · have hD' : (UD : Int) ≤ 16 := by omega
                  go_wp2_with (go_at_call 104; refine (DC.out _).mono ?_; rintro e w1 ⟨rfl, hb1⟩; have H1 := hid hb1; clear hb1; have C1 := hid ((CW.out.keep (ext1 (.cells #[.int .i64 (p).k, .slice (p).xo (p).xn (p).xc, .slice (p).po (p).pn (p).pc] 39))).keep H1.out); obtain ⟨k0, k1, k2⟩ := C1.out.cells; have BP1 := hid ((Bx.new wr p).keep H1.out); obtain ⟨j0, j1, j2⟩ := BP1.out.cells; have BS1 := hid ((BW.out.keep (ext1 (.cells #[.int .i64 (p).k, .slice (p).xo (p).xn (p).xc, .slice (p).po (p).pn (p).pc] 39))).keep H1.out); obtain ⟨m0, m1, m2⟩ := BS1.out.cells; have F1 := hid ((FW.out.trans (Fr.alloc _ wr (.cells #[.int .i64 (p).k, .slice (p).xo (p).xn (p).xc, .slice (p).po (p).pn (p).pc] 39))).trans (Fr.b (S := fun i => i = c) H1.out)); have hz1 := H1.out.size; simp only [World.size_alloc] at hz1)
                  have IHP := hid (fun w7 (hb : Below w1.heap.size w1 w7) => IH.out p dd (by have := nodes_lt HPM.out; have := HS.out; omega) HDD.out c (UX, UP, UD) w7 HU.out (C1.out.keep hb) ((HI.out.part HPM.out).fr (F1.out.trans (Fr.b hb))))
                  have hpc : wr.heap.size ≠ c := by have := FW.out.size; omega
                  refine wp_region_K (S := (fun W : World => (W.cell? ⟨wr.heap.size, 0, none⟩ = some (.int .i64 p.k) ∧ W.cell? ⟨wr.heap.size, 1, none⟩ = some (.slice p.xo p.xn p.xc) ∧ W.cell? ⟨wr.heap.size, 2, none⟩ = some (.slice p.po p.pn p.pc)) ∧ (W.cell? ⟨w.heap.size, 0, none⟩ = some (.int .i64 s.k) ∧ W.cell? ⟨w.heap.size, 1, none⟩ = some (.slice s.xo s.xn s.xc) ∧ W.cell? ⟨w.heap.size, 2, none⟩ = some (.slice s.po s.pn s.pc)))) (fun _ => false) (by kernel_rfl) (by exact ⟨⟨j0, j1, j2⟩, m0, m1, m2⟩) (fun hHeld => ?_)
                  refine gkp 0 ?_
                  refine gkt 1 ?_ (h := by intro W hSw; obtain ⟨⟨r0, r1, r2⟩, s0, s1, s2⟩ := hSw; go_simp; first | done | with_reducible rfl)
                  refine gkt 2 ?_ (h := by intro W hSw; obtain ⟨⟨r0, r1, r2⟩, s0, s1, s2⟩ := hSw; go_simp; first | done | with_reducible rfl)
                  refine gkt 3 ?_ (h := by intro W hSw; obtain ⟨⟨r0, r1, r2⟩, s0, s1, s2⟩ := hSw; go_simp; first | done | with_reducible rfl)
                  refine gkp 4 ?_
                  refine gk1 5 (fun K hK => ?_)
                  go_simp
                  go_at_call 104; refine (DC.out _).mono ?_; rintro e w7 ⟨rfl, hb7⟩; have H7 := hid hb7; clear hb7; have hR : (fun W : World => (W.cell? ⟨wr.heap.size, 0, none⟩ = some (.int .i64 p.k) ∧ W.cell? ⟨wr.heap.size, 1, none⟩ = some (.slice p.xo p.xn p.xc) ∧ W.cell? ⟨wr.heap.size, 2, none⟩ = some (.slice p.po p.pn p.pc)) ∧ (W.cell? ⟨w.heap.size, 0, none⟩ = some (.int .i64 s.k) ∧ W.cell? ⟨w.heap.size, 1, none⟩ = some (.slice s.xo s.xn s.xc) ∧ W.cell? ⟨w.heap.size, 2, none⟩ = some (.slice s.po s.pn s.pc))) w7 := ⟨⟨keep_old H7.out hHeld.1.1, keep_old H7.out hHeld.1.2.1, keep_old H7.out hHeld.1.2.2⟩, ⟨keep_old H7.out hHeld.2.1, keep_old H7.out hHeld.2.2.1, keep_old H7.out hHeld.2.2.2⟩⟩
                  refine hK.out _ _ hR (fun hHeld => ?_)
                  clear hK K
                  (try simp only [Act.put, sA, sZ, sS])
                  refine gk1 6 (fun K hK => ?_)
                  go_simp
                  go_at_call 69; refine (IHP.out w7 (undrew H7.out)).mono ?_; rintro e w8 ⟨⟨v9, rfl⟩, hc8, hf8⟩; have F8 := hid hf8; have C8 := hid hc8; clear hf8 hc8; have hR : (fun W : World => (W.cell? ⟨wr.heap.size, 0, none⟩ = some (.int .i64 p.k) ∧ W.cell? ⟨wr.heap.size, 1, none⟩ = some (.slice p.xo p.xn p.xc) ∧ W.cell? ⟨wr.heap.size, 2, none⟩ = some (.slice p.po p.pn p.pc)) ∧ (W.cell? ⟨w.heap.size, 0, none⟩ = some (.int .i64 s.k) ∧ W.cell? ⟨w.heap.size, 1, none⟩ = some (.slice s.xo s.xn s.xc) ∧ W.cell? ⟨w.heap.size, 2, none⟩ = some (.slice s.po s.pn s.pc))) w8 := ⟨⟨fr_cell F8.out hpc hHeld.1.1, fr_cell F8.out hpc hHeld.1.2.1, fr_cell F8.out hpc hHeld.1.2.2⟩, ⟨fr_cell F8.out hne hHeld.2.1, fr_cell F8.out hne hHeld.2.2.1, fr_cell F8.out hne hHeld.2.2.2⟩⟩
                  refine hK.out _ _ hR (fun hHeld => ?_)
                  clear hK K
                  (try simp only [Act.put, sA, sZ, sS])
                  refine wpAnyK_done (by kernel_rfl) ?_ _
                  have F9 := hid ((F1.out.trans (Fr.b (S := fun i => i = c) (undrew H7.out))).trans F8.out)
                  have B9 := hid (Bx.fr (Bx.keep (show Bx w1.drew w.heap.size s from BS1.out) H7.out) F8.out hne)
                  go_wp2
                  go_roundw
                  case measure => simp [intOf]; omega
                  case rel => exact ⟨i + 1, by omega, by go_num, hid (by rw [HSN.out]; exact C8.out), F9, B9⟩
                · have hD' : (16 : Int) < (UD : Int) := by omega
                  have hful := HU.out.full (by simp only; omega) (by simp only; omega) (by simp only; omega)
                  have HF := hid (show csL (UX, UP, UD) (p.flat dd) = (UX, UP, UD) from (by rw [hful]; exact full_all _ fun x hx => (flat_mem _ p dd (Nat.le_refl _) HDD.out x hx).2.2))
                  clear hful
                  go_wp2_with (go_at_call 104; refine (DC.out _).mono ?_; rintro e w1 ⟨rfl, hb1⟩; have H1 := hid hb1; clear hb1; have C1 := hid ((CW.out.keep (ext1 (.cells #[.int .i64 (p).k, .slice (p).xo (p).xn (p).xc, .slice (p).po (p).pn (p).pc] 39))).keep H1.out); obtain ⟨k0, k1, k2⟩ := C1.out.cells; have BP1 := hid ((Bx.new wr p).keep H1.out); obtain ⟨j0, j1, j2⟩ := BP1.out.cells; have BS1 := hid ((BW.out.keep (ext1 (.cells #[.int .i64 (p).k, .slice (p).xo (p).xn (p).xc, .slice (p).po (p).pn (p).pc] 39))).keep H1.out); obtain ⟨m0, m1, m2⟩ := BS1.out.cells; have F1 := hid ((FW.out.trans (Fr.alloc _ wr (.cells #[.int .i64 (p).k, .slice (p).xo (p).xn (p).xc, .slice (p).po (p).pn (p).pc] 39))).trans (Fr.b (S := fun i => i = c) H1.out)); have hz1 := H1.out.size; simp only [World.size_alloc] at hz1)
                  go_roundw
                  case measure => simp [intOf]; omega
                  case rel => exact ⟨i + 1, by omega, by go_num, hid (by rw [HSN.out, HF.out]; exact C1.out), F1, BS1⟩
          · have h17' : (17 : Int) < (dd : Int) := by omega
            rw [if_neg h17] at HSN
            clear h17
            go_wp2_with (go_at_call 104; refine (DC.out _).mono ?_; rintro e w1 ⟨rfl, hb1⟩; have H1 := hid hb1; clear hb1; have C1 := hid ((CW.out.keep (ext1 (.cells #[.int .i64 (p).k, .slice (p).xo (p).xn (p).xc, .slice (p).po (p).pn (p).pc] 39))).keep H1.out); obtain ⟨k0, k1, k2⟩ := C1.out.cells; have BP1 := hid ((Bx.new wr p).keep H1.out); obtain ⟨j0, j1, j2⟩ := BP1.out.cells; have BS1 := hid ((BW.out.keep (ext1 (.cells #[.int .i64 (p).k, .slice (p).xo (p).xn (p).xc, .slice (p).po (p).pn (p).pc] 39))).keep H1.out); obtain ⟨m0, m1, m2⟩ := BS1.out.cells; have F1 := hid ((FW.out.trans (Fr.alloc _ wr (.cells #[.int .i64 (p).k, .slice (p).xo (p).xn (p).xc, .slice (p).po (p).pn (p).pc] 39))).trans (Fr.b (S := fun i => i = c) H1.out)); have hz1 := H1.out.size; simp only [World.size_alloc] at hz1)
            go_roundw
            case measure => simp [intOf]; omega
            case rel => exact ⟨i + 1, by omega, by go_num, hid (by rw [HSN.out]; exact C1.out), F1, BS1⟩
        · obtain rfl : i = s.pn := by omega
          go_wp2
          go_end0
          exact ⟨⟨_, rfl⟩, (by have h := hCW.out; rw [← HI.out.here.pl, preC_all] at h; exact h), hFW.out⟩
end Go.Proofs.YtpmfedimjjifaaaGreatDoor
