/- What one act makes of a disk and of the document's; no statement of the seat is proved here. -/
import Derived.Test.YtkgenmooepfhjaaFa
namespace Go.Proofs.Ytkgenmooepfhjaa
open Go.RowKit Go.Maps

def actD (d : DS) (x : Av) : DS :=
  if x.k = 0 then (writeD d x.f x.a (secB (cntN x.n) x.s)).2 else if x.k = 1 then (syncD d x.f).2 else if x.k = 2 then (cutD d x.f x.a).2
  else if x.k = 3 then startD (if d.off then d else crashD d x.keep x.t) else if x.k = 4 then armD d x.n x.keep x.t else if x.k = 5 then startD d
  else if x.k = 6 then (if d.off then d else crashD d x.keep x.t) else d

def RdA (xb : Nat) (f a n : Int) (ko : Option Addr) (kn kc : Nat) (t : Int) (W : World) : Prop :=
  W.cell? ⟨xb, 1, none⟩ = some (.int .i64 f) ∧ W.cell? ⟨xb, 2, none⟩ = some (.int .i64 a) ∧ W.cell? ⟨xb, 3, none⟩ = some (.int .i64 n) ∧ W.cell? ⟨xb, 5, none⟩ = some (.slice ko kn kc) ∧ W.cell? ⟨xb, 6, none⟩ = some (.int .i64 t)
theorem RdA.block {xb : Nat} {f a n : Int} {ko : Option Addr} {kn kc : Nat} {t : Int} {W W' : World} (h : RdA xb f a n ko kn kc t W) (hb : W'.heap[xb]? = W.heap[xb]?) : RdA xb f a n ko kn kc t W' :=
  ⟨(World.cell?_of_block hb).trans h.1, (World.cell?_of_block hb).trans h.2.1, (World.cell?_of_block hb).trans h.2.2.1, (World.cell?_of_block hb).trans h.2.2.2.1, (World.cell?_of_block hb).trans h.2.2.2.2⟩
theorem RdA.new (W : World) (k f a n s : Int) (ko : Option Addr) (kn kc : Nat) (t : Int) : RdA W.heap.size f a n ko kn kc t (W.alloc (.cells #[.int .i64 k, .int .i64 f, .int .i64 a, .int .i64 n, .int .u8 s, .slice ko kn kc, .int .i64 t] 34)) := by
  refine ⟨?_, ?_, ?_, ?_, ?_⟩ <;> (rw [World.cell?_alloc_at _ _ _ _ rfl]; rfl)

/-- A disk and the document's, and an act that lies beside them. -/
structure Trio (w1 W : World) (p r : Nat) (P : Parts) (R : RParts) (d e : DS) (xb : Nat) (f a n : Int) (ko : Option Addr) (kn kc : Nat) (t : Int) : Prop where
  b : Both w1 W p r P R d e
  x : RdA xb f a n ko kn kc t W
  l : xb < W.heap.size
  p : xb ≠ p ∧ ¬ P.all xb
  r : xb ≠ r ∧ ¬ R.mut xb
section
variable {w1 W W' : World} {p r : Nat} {P P' : Parts} {R R' : RParts} {d e d' e' : DS} {xb : Nat} {f a n : Int} {ko : Option Addr} {kn kc : Nat} {t : Int}
theorem Trio.left (h : Trio w1 W p r P R d e xb f a n ko kn kc t) (hd' : DiskP W' p P' d') (hg : Grew P W P') (hf : DFrame W W' p P.all) : Trio w1 W' p r P' R d' e xb f a n ko kn kc t :=
  ⟨h.b.left hd' hg hf, h.x.block (hf.block xb h.l h.p.1 h.p.2), Nat.lt_of_lt_of_le h.l hf.size, ⟨h.p.1, fun hk => by rcases hg xb hk with h1 | h1; exact h.p.2 h1; have := h.l; omega⟩, h.r⟩
theorem Trio.right (h : Trio w1 W p r P R d e xb f a n ko kn kc t) (he' : RefP W' r R' e') (hg : RGrew R W R') (hf : DFrame W W' r R.mut) : Trio w1 W' p r P R' d e' xb f a n ko kn kc t :=
  ⟨h.b.right he' hg hf, h.x.block (hf.block xb h.l h.r.1 h.r.2), Nat.lt_of_lt_of_le h.l hf.size, h.p, ⟨h.r.1, fun hk => by rcases hg.2 xb hk with h1 | h1; exact h.r.2 h1; have := h.l; omega⟩⟩
theorem Trio.later (h : Trio w1 W p r P R d e xb f a n ko kn kc t) (hb : Below W.heap.size W W') : Trio w1 W' p r P R d e xb f a n ko kn kc t :=
  ⟨h.b.later hb, h.x.block (hb.block xb h.l), Nat.lt_of_lt_of_le h.l hb.size, h.p, h.r⟩
theorem Trio.drew (h : Trio w1 W p r P R d e xb f a n ko kn kc t) : Trio w1 W.drew p r P R d e xb f a n ko kn kc t := ⟨h.b.drew, h.x, h.l, h.p, h.r⟩
theorem Trio.new (h : Both w1 W p r P R d e) (k s : Int) : Trio w1 (W.alloc (.cells #[.int .i64 k, .int .i64 f, .int .i64 a, .int .i64 n, .int .u8 s, .slice ko kn kc, .int .i64 t] 34)) p r P R d e W.heap.size f a n ko kn kc t := by
  have hp := p_lt h.hd; have hr := h.hr.rlt
  refine ⟨h.later ((Below.refl _ _).alloc (Nat.le_refl _) _), RdA.new W k f a n s ko kn kc t, by simp, ⟨by omega, fun hk => by have := all_lt h.hd hk; omega⟩, ⟨by omega, fun hk => by have := h.hr.lt (h.hr.mut hk); omega⟩⟩
end

theorem load70 {W : World} {g o : Nat} {x0 x1 : Value} (h0 : W.cell? ⟨g, o, none⟩ = some x0) (h1 : W.cell? ⟨g, o + 1, none⟩ = some x1) : (loadVar 70 ⟨g, o, none⟩).run Try.prog W = .ok (.agg #[x0, x1]) W := by
  have hl := run_loadCells_list (P := Try.prog) W ⟨g, o, none⟩ [x0, x1] (fun j v hv => by
    rw [Addr.add_lit]
    rcases j with _ | _ | j
    · simp at hv; rw [← hv]; exact h0
    · simp at hv; rw [← hv]; exact h1
    · simp at hv)
  simp only [List.length_cons, List.length_nil, Nat.zero_add, Nat.reduceAdd] at hl
  simp [loadVar, hl]
theorem results35 {W : World} {tmps : Array Value} {g : Nat} {x0 x1 : Value} (hp : tmps.getD 2 undef = .pointer (some ⟨g, 0, none⟩)) (h0 : W.cell? ⟨g, 0, none⟩ = some x0) (h1 : W.cell? ⟨g, 1, none⟩ = some x1) :
    (results Try.f35 tmps).run Try.prog W = .ok (.agg #[x0, x1]) W := by
  have hp' : tmps[2]?.getD undef = .pointer (some ⟨g, 0, none⟩) := by simpa using hp
  simp [results, hp', asAddr, load70 h0 h1]

set_option maxHeartbeats 400000 in
theorem plain_any (ko : Option Addr) (kn kc : Nat) (t : Int) (w : World) : Calls Try.prog 35 #[.agg #[.slice ko kn kc, .int .i64 t]] w fun e w' => e = .returned (.agg #[.slice ko kn kc, .int .i64 t]) ∧ Below w.heap.size w w' := by
  go_enter Try.func35, Try.ntmps35
  go_wp2
  refine bodyPost_ret_by (results35 rfl (by rw [World.cell?_alloc_at _ _ _ _ (by simp)]; rfl) (by rw [World.cell?_alloc_at _ _ _ _ (by simp)]; rfl)) rfl ⟨rfl, ((Below.refl _ _).alloc (Nat.le_refl _) _).alloc (by simp) _⟩

set_option maxHeartbeats 4000000 in
set_option maxRecDepth 20000 in
theorem act_0 (w1 W : World) (p r : Nat) (P : Parts) (R : RParts) (d : DS) (f a n : Int) (s : Nat) (ko : Option Addr) (kc : Nat) (keep : List Bool) (t : Int) (h : Both w1 W p r P R d d) (hop : d.ops < 1000000000) (hx : AvOk w1 ⟨0, f, a, n, s, ko, kc, keep, t⟩) (hk : keep.length ≤ 100) :
    Calls Try.prog 12 #[.pointer (some ⟨p, 0, none⟩), .pointer (some ⟨r, 0, none⟩), .agg #[.int .i64 0, .int .i64 f, .int .i64 a, .int .i64 n, .int .u8 (s : Int), .slice ko keep.length kc, .int .i64 t]] W fun e w' => e = .returned (.bool true) ∧ ∃ P' R', Both w1 w' p r P' R' (actD d ⟨0, f, a, n, s, ko, kc, keep, t⟩) (actD d ⟨0, f, a, n, s, ko, kc, keep, t⟩) := by
  obtain ⟨kn, hkn⟩ : ∃ kn, kn = keep.length := ⟨_, rfl⟩
  rw [← hkn]
  obtain ⟨W1, hW1⟩ : ∃ W1, W1 = W.alloc (.cells #[.int .i64 0, .int .i64 f, .int .i64 a, .int .i64 n, .int .u8 (s : Int), .slice ko kn kc, .int .i64 t] 34) := ⟨_, rfl⟩
  obtain ⟨xb, hxb⟩ : ∃ xb, xb = W.heap.size := ⟨_, rfl⟩
  have HT : Hid (Trio w1 W1 p r P R d d xb f a n ko kn kc t) := hid (by rw [hW1, hxb]; exact Trio.new h 0 (s : Int))
  have HW1 := hid hW1; have HXB := hid hxb; have HX := hid hx; have HK := hid hk; have HKN := hid hkn
  have q := HT.out.x
  obtain ⟨x1, x2, x3, x5, x6⟩ := q
  have HE : Hid (actD d ⟨0, f, a, n, s, ko, kc, keep, t⟩ = (writeD d f a (secB (cntN n) s)).2) := hid (by simp [actD])
  clear h hx hW1 hxb hk hkn
  go_enter Try.func12, Try.ntmps12
  go_upto_region 4 with (go_at_call 17; rw [← HW1.out]; refine (sectors_any n s W1 HX.out.n).mono ?_; rintro e W2 ⟨rfl, hrow, hb2⟩; have HROW0 := hid hrow; have HB2 := hid hb2; clear hrow hb2)
  rw [← HXB.out]
  have HT2 := hid (HT.out.later HB2.out)
  have HGL : Hid (W1.heap.size < W2.heap.size) := hid (by have := HROW0.out.lt; exact (this W1.heap.size rfl).2)
  have HGP : Hid (W1.heap.size ≠ p ∧ ¬ P.all W1.heap.size) := hid ⟨by have := p_lt HT.out.b.hd; omega, fun hk => by have := all_lt HT.out.b.hd hk; omega⟩
  have HGR : Hid (W1.heap.size ≠ r ∧ ¬ R.mut W1.heap.size) := hid ⟨by have := HT.out.b.hr.rlt; omega, fun hk => by have := HT.out.b.hr.lt (HT.out.b.hr.mut hk); omega⟩
  have HCN : Hid (cntN n ≤ 1000) := hid (by unfold cntN; split <;> omega)
  have HROW : Hid (∀ w' : World, w'.heap[W1.heap.size]? = W2.heap[W1.heap.size]? → Rd w' (some ⟨W1.heap.size, 0, none⟩) (cntN n * 128) (cntN n * 128) (secB (cntN n) s).flatten) := hid (fun w' hb => rd_own (row_stay HROW0.out (fun a ha => by cases ha; exact hb)))
  clear HROW0 HB2
  refine wp_region_K (S := RdA xb f a n ko kn kc t) (fun _ => false) (by kernel_rfl) HT2.out.drew.x (fun hHeld => ?_)
  obtain ⟨W0, hW0⟩ : ∃ W0, W0 = W2.drew := ⟨_, rfl⟩
  rw [← hW0] at hHeld ⊢
  have T0 : Hid (Trio w1 W0 p r P R d d xb f a n ko kn kc t) := hid (by rw [hW0]; exact HT2.out.drew)
  have hR := hHeld
  have HW0 := hid hW0
  clear hW0
  refine wpAnyK_pure (i := 0) (v := ?_) (op_at _ 0 _ rfl) (by kernel_rfl) (by kernel_rfl) (by kernel_rfl) (by kernel_rfl) (fun _ _ _ h => h) (Or.inl ⟨by rfl, ?_⟩) (Or.inl (by assumption)) ?_
  rotate_left 1
  focus (intro W hSw; go_simp; first | done | with_reducible rfl)
  (try simp only [Act.put, List.setIfInBounds_toArray, List.set_cons_zero, List.set_cons_succ])
  refine wpAnyK_pure (i := 1) (v := ?_) (op_at _ 1 _ rfl) (by kernel_rfl) (by kernel_rfl) (by kernel_rfl) (by kernel_rfl) (fun _ _ _ h => h) (Or.inl ⟨by rfl, ?_⟩) (Or.inl (by assumption)) ?_
  rotate_left 1
  focus (intro W hSw; go_simp; first | done | with_reducible rfl)
  (try simp only [Act.put, List.setIfInBounds_toArray, List.set_cons_zero, List.set_cons_succ])
  refine wpAnyK_take (i := 2) (v := ?_) (op_at _ 2 _ rfl) (by kernel_rfl) (by kernel_rfl) (by kernel_rfl) (by kernel_rfl) (fun _ _ _ h => h) (Or.inl ⟨by rfl, ?_⟩) (by assumption) ?_
  rotate_left 1
  focus (intro W hSw; obtain ⟨q1, q2, q3, q5, q6⟩ := hSw; go_simp; first | done | with_reducible rfl)
  (try simp only [Act.put, List.setIfInBounds_toArray, List.set_cons_zero, List.set_cons_succ])
  refine wpAnyK_pure (i := 3) (v := ?_) (op_at _ 3 _ rfl) (by kernel_rfl) (by kernel_rfl) (by kernel_rfl) (by kernel_rfl) (fun _ _ _ h => h) (Or.inl ⟨by rfl, ?_⟩) (Or.inl (by assumption)) ?_
  rotate_left 1
  focus (intro W hSw; go_simp; first | done | with_reducible rfl)
  (try simp only [Act.put, List.setIfInBounds_toArray, List.set_cons_zero, List.set_cons_succ])
  refine wpAnyK_take (i := 4) (v := ?_) (op_at _ 4 _ rfl) (by kernel_rfl) (by kernel_rfl) (by kernel_rfl) (by kernel_rfl) (fun _ _ _ h => h) (Or.inl ⟨by rfl, ?_⟩) (by assumption) ?_
  rotate_left 1
  focus (intro W hSw; obtain ⟨q1, q2, q3, q5, q6⟩ := hSw; go_simp; first | done | with_reducible rfl)
  (try simp only [Act.put, List.setIfInBounds_toArray, List.set_cons_zero, List.set_cons_succ])
  refine wpAnyK_pure (i := 5) (v := ?_) (op_at _ 5 _ rfl) (by kernel_rfl) (by kernel_rfl) (by kernel_rfl) (by kernel_rfl) (fun _ _ _ h => h) (Or.inl ⟨by rfl, ?_⟩) (Or.inl (by assumption)) ?_
  rotate_left 1
  focus (intro W hSw; go_simp; first | done | with_reducible rfl)
  (try simp only [Act.put, List.setIfInBounds_toArray, List.set_cons_zero, List.set_cons_succ])
  refine wpAnyK_pure (i := 7) (v := ?_) (op_at _ 7 _ rfl) (by kernel_rfl) (by kernel_rfl) (by kernel_rfl) (by kernel_rfl) (fun _ _ _ h => h) (Or.inl ⟨by rfl, ?_⟩) (Or.inl (by assumption)) ?_
  rotate_left 1
  focus (intro W hSw; go_simp; first | done | with_reducible rfl)
  (try simp only [Act.put, List.setIfInBounds_toArray, List.set_cons_zero, List.set_cons_succ])
  refine wpAnyK_pure (i := 8) (v := ?_) (op_at _ 8 _ rfl) (by kernel_rfl) (by kernel_rfl) (by kernel_rfl) (by kernel_rfl) (fun _ _ _ h => h) (Or.inl ⟨by rfl, ?_⟩) (Or.inl (by assumption)) ?_
  rotate_left 1
  focus (intro W hSw; go_simp; first | done | with_reducible rfl)
  (try simp only [Act.put, List.setIfInBounds_toArray, List.set_cons_zero, List.set_cons_succ])
  refine wpAnyK_take (i := 9) (v := ?_) (op_at _ 9 _ rfl) (by kernel_rfl) (by kernel_rfl) (by kernel_rfl) (by kernel_rfl) (fun _ _ _ h => h) (Or.inl ⟨by rfl, ?_⟩) (by assumption) ?_
  rotate_left 1
  focus (intro W hSw; obtain ⟨q1, q2, q3, q5, q6⟩ := hSw; go_simp; first | done | with_reducible rfl)
  (try simp only [Act.put, List.setIfInBounds_toArray, List.set_cons_zero, List.set_cons_succ])
  refine wpAnyK_pure (i := 10) (v := ?_) (op_at _ 10 _ rfl) (by kernel_rfl) (by kernel_rfl) (by kernel_rfl) (by kernel_rfl) (fun _ _ _ h => h) (Or.inl ⟨by rfl, ?_⟩) (Or.inl (by assumption)) ?_
  rotate_left 1
  focus (intro W hSw; go_simp; first | done | with_reducible rfl)
  (try simp only [Act.put, List.setIfInBounds_toArray, List.set_cons_zero, List.set_cons_succ])
  refine wpAnyK_take (i := 11) (v := ?_) (op_at _ 11 _ rfl) (by kernel_rfl) (by kernel_rfl) (by kernel_rfl) (by kernel_rfl) (fun _ _ _ h => h) (Or.inl ⟨by rfl, ?_⟩) (by assumption) ?_
  rotate_left 1
  focus (intro W hSw; obtain ⟨q1, q2, q3, q5, q6⟩ := hSw; go_simp; first | done | with_reducible rfl)
  (try simp only [Act.put, List.setIfInBounds_toArray, List.set_cons_zero, List.set_cons_succ])
  refine wpAnyK_pure (i := 12) (v := ?_) (op_at _ 12 _ rfl) (by kernel_rfl) (by kernel_rfl) (by kernel_rfl) (by kernel_rfl) (fun _ _ _ h => h) (Or.inl ⟨by rfl, ?_⟩) (Or.inl (by assumption)) ?_
  rotate_left 1
  focus (intro W hSw; go_simp; first | done | with_reducible rfl)
  (try simp only [Act.put, List.setIfInBounds_toArray, List.set_cons_zero, List.set_cons_succ])
  refine wpAnyK_ready (rs := [6]) (by kernel_rfl) (by simp) ?_
  refine AllReadyK.cons (op_at _ 6 _ rfl) (fun K hK => ?_) AllReadyK.nil
  go_simp
  go_at_call 16; refine (write_call p P d f a (some ⟨W1.heap.size, 0, none⟩) (cntN n * 128) (cntN n * 128) (secB (cntN n) s) W0 T0.out.b.hd hop (secB_sn _ _) (by rw [secB_len]; exact HCN.out) (by rw [secB_len]) (fun w' hf => HROW.out w' ((hf.block _ (by rw [HW0.out]; exact HGL.out) HGP.out.1 HGP.out.2).trans (by rw [HW0.out]; rfl)))).mono ?_; rintro e w3 ⟨rfl, ⟨P', hd', hg'⟩, hf'⟩; have HRD2 : Hid (∀ w', DFrame w3 w' r R.mut → Rd w' (some ⟨W1.heap.size, 0, none⟩) (cntN n * 128) (cntN n * 128) (secB (cntN n) s).flatten) := hid (fun w' hf2 => HROW.out w' ((hf2.block _ (by have h1 := hf'.size; have h2 := HGL.out; have h3 : W0.heap.size = W2.heap.size := (by rw [HW0.out]; rfl); omega) HGR.out.1 HGR.out.2).trans ((hf'.block _ (by rw [HW0.out]; exact HGL.out) HGP.out.1 HGP.out.2).trans (by rw [HW0.out]; rfl)))); have T1 := hid (T0.out.left hd' hg' hf'); have hR := T1.out.x; clear hd' hg' hf'
  refine hK.out _ _ hR (fun hHeld => ?_)
  clear hK K
  (try simp only [Act.put, List.setIfInBounds_toArray, List.set_cons_zero, List.set_cons_succ])
  refine wpAnyK_ready (rs := [13]) (by kernel_rfl) (by simp) ?_
  refine AllReadyK.cons (op_at _ 13 _ rfl) (fun K hK => ?_) AllReadyK.nil
  go_simp
  go_at_call 31; refine (rwrite_call r R d f a (some ⟨W1.heap.size, 0, none⟩) (cntN n * 128) (cntN n * 128) (secB (cntN n) s) w3 T1.out.b.hr hop (secB_sn _ _) (by rw [secB_len]; exact HCN.out) (by rw [secB_len]) (fun w' hf => HRD2.out w' hf)).mono ?_; rintro e w4 ⟨rfl, ⟨R', hd', hg'⟩, hf'⟩; have T2 := hid (T1.out.right hd' hg' hf'); have hR := T2.out.x; clear hd' hg' hf'
  refine hK.out _ _ hR (fun hHeld => ?_)
  clear hK K
  (try simp only [Act.put, List.setIfInBounds_toArray, List.set_cons_zero, List.set_cons_succ])
  refine wpAnyK_pure (i := 14) (v := ?_) (op_at _ 14 _ rfl) (by kernel_rfl) (by kernel_rfl) (by kernel_rfl) (by kernel_rfl) (fun _ _ _ h => h) (Or.inl ⟨by rfl, ?_⟩) (Or.inl (by assumption)) ?_
  rotate_left 1
  focus (intro W hSw; go_simp; first | done | with_reducible rfl)
  (try simp only [Act.put, List.setIfInBounds_toArray, List.set_cons_zero, List.set_cons_succ])
  refine wpAnyK_pure (i := 15) (v := ?_) (op_at _ 15 _ rfl) (by kernel_rfl) (by kernel_rfl) (by kernel_rfl) (by kernel_rfl) (fun _ _ _ h => h) (Or.inl ⟨by rfl, ?_⟩) (Or.inl (by assumption)) ?_
  rotate_left 1
  focus (intro W hSw; go_simp; first | done | with_reducible rfl)
  (try simp only [Act.put, List.setIfInBounds_toArray, List.set_cons_zero, List.set_cons_succ])
  refine wpAnyK_done (by kernel_rfl) ?_ _
  go_wp2
  go_ret
  exact ⟨rfl, _, _, by rw [HE.out]; exact T2.out.b⟩

set_option maxHeartbeats 4000000 in
set_option maxRecDepth 20000 in
theorem act_1 (w1 W : World) (p r : Nat) (P : Parts) (R : RParts) (d : DS) (f a n : Int) (s : Nat) (ko : Option Addr) (kc : Nat) (keep : List Bool) (t : Int) (h : Both w1 W p r P R d d) (hop : d.ops < 1000000000) (hx : AvOk w1 ⟨1, f, a, n, s, ko, kc, keep, t⟩) (hk : keep.length ≤ 100) :
    Calls Try.prog 12 #[.pointer (some ⟨p, 0, none⟩), .pointer (some ⟨r, 0, none⟩), .agg #[.int .i64 1, .int .i64 f, .int .i64 a, .int .i64 n, .int .u8 (s : Int), .slice ko keep.length kc, .int .i64 t]] W fun e w' => e = .returned (.bool true) ∧ ∃ P' R', Both w1 w' p r P' R' (actD d ⟨1, f, a, n, s, ko, kc, keep, t⟩) (actD d ⟨1, f, a, n, s, ko, kc, keep, t⟩) := by
  obtain ⟨kn, hkn⟩ : ∃ kn, kn = keep.length := ⟨_, rfl⟩
  rw [← hkn]
  obtain ⟨W1, hW1⟩ : ∃ W1, W1 = W.alloc (.cells #[.int .i64 1, .int .i64 f, .int .i64 a, .int .i64 n, .int .u8 (s : Int), .slice ko kn kc, .int .i64 t] 34) := ⟨_, rfl⟩
  obtain ⟨xb, hxb⟩ : ∃ xb, xb = W.heap.size := ⟨_, rfl⟩
  have HT : Hid (Trio w1 W1 p r P R d d xb f a n ko kn kc t) := hid (by rw [hW1, hxb]; exact Trio.new h 1 (s : Int))
  have HW1 := hid hW1; have HXB := hid hxb; have HX := hid hx; have HK := hid hk; have HKN := hid hkn
  have q := HT.out.x
  obtain ⟨x1, x2, x3, x5, x6⟩ := q
  have HE : Hid (actD d ⟨1, f, a, n, s, ko, kc, keep, t⟩ = (syncD d f).2) := hid (by simp [actD])
  clear h hx hW1 hxb hk hkn
  go_enter Try.func12, Try.ntmps12
  go_upto_region 6 with fail
  rw [← HW1.out, ← HXB.out]
  refine wp_region_K (S := RdA xb f a n ko kn kc t) (fun _ => false) (by kernel_rfl) HT.out.drew.x (fun hHeld => ?_)
  obtain ⟨W0, hW0⟩ : ∃ W0, W0 = W1.drew := ⟨_, rfl⟩
  rw [← hW0] at hHeld ⊢
  have T0 : Hid (Trio w1 W0 p r P R d d xb f a n ko kn kc t) := hid (by rw [hW0]; exact HT.out.drew)
  have hR := hHeld
  have HW0 := hid hW0
  clear hW0
  refine wpAnyK_pure (i := 0) (v := ?_) (op_at _ 0 _ rfl) (by kernel_rfl) (by kernel_rfl) (by kernel_rfl) (by kernel_rfl) (fun _ _ _ h => h) (Or.inl ⟨by rfl, ?_⟩) (Or.inl (by assumption)) ?_
  rotate_left 1
  focus (intro W hSw; go_simp; first | done | with_reducible rfl)
  (try simp only [Act.put, List.setIfInBounds_toArray, List.set_cons_zero, List.set_cons_succ])
  refine wpAnyK_pure (i := 1) (v := ?_) (op_at _ 1 _ rfl) (by kernel_rfl) (by kernel_rfl) (by kernel_rfl) (by kernel_rfl) (fun _ _ _ h => h) (Or.inl ⟨by rfl, ?_⟩) (Or.inl (by assumption)) ?_
  rotate_left 1
  focus (intro W hSw; go_simp; first | done | with_reducible rfl)
  (try simp only [Act.put, List.setIfInBounds_toArray, List.set_cons_zero, List.set_cons_succ])
  refine wpAnyK_take (i := 2) (v := ?_) (op_at _ 2 _ rfl) (by kernel_rfl) (by kernel_rfl) (by kernel_rfl) (by kernel_rfl) (fun _ _ _ h => h) (Or.inl ⟨by rfl, ?_⟩) (by assumption) ?_
  rotate_left 1
  focus (intro W hSw; obtain ⟨q1, q2, q3, q5, q6⟩ := hSw; go_simp; first | done | with_reducible rfl)
  (try simp only [Act.put, List.setIfInBounds_toArray, List.set_cons_zero, List.set_cons_succ])
  refine wpAnyK_pure (i := 4) (v := ?_) (op_at _ 4 _ rfl) (by kernel_rfl) (by kernel_rfl) (by kernel_rfl) (by kernel_rfl) (fun _ _ _ h => h) (Or.inl ⟨by rfl, ?_⟩) (Or.inl (by assumption)) ?_
  rotate_left 1
  focus (intro W hSw; go_simp; first | done | with_reducible rfl)
  (try simp only [Act.put, List.setIfInBounds_toArray, List.set_cons_zero, List.set_cons_succ])
  refine wpAnyK_pure (i := 5) (v := ?_) (op_at _ 5 _ rfl) (by kernel_rfl) (by kernel_rfl) (by kernel_rfl) (by kernel_rfl) (fun _ _ _ h => h) (Or.inl ⟨by rfl, ?_⟩) (Or.inl (by assumption)) ?_
  rotate_left 1
  focus (intro W hSw; go_simp; first | done | with_reducible rfl)
  (try simp only [Act.put, List.setIfInBounds_toArray, List.set_cons_zero, List.set_cons_succ])
  refine wpAnyK_take (i := 6) (v := ?_) (op_at _ 6 _ rfl) (by kernel_rfl) (by kernel_rfl) (by kernel_rfl) (by kernel_rfl) (fun _ _ _ h => h) (Or.inl ⟨by rfl, ?_⟩) (by assumption) ?_
  rotate_left 1
  focus (intro W hSw; obtain ⟨q1, q2, q3, q5, q6⟩ := hSw; go_simp; first | done | with_reducible rfl)
  (try simp only [Act.put, List.setIfInBounds_toArray, List.set_cons_zero, List.set_cons_succ])
  refine wpAnyK_ready (rs := [3]) (by kernel_rfl) (by simp) ?_
  refine AllReadyK.cons (op_at _ 3 _ rfl) (fun K hK => ?_) AllReadyK.nil
  go_simp
  go_at_call 18; refine (sync_call p P d f W0 T0.out.b.hd hop).mono ?_; rintro e w3 ⟨rfl, ⟨P', hd', hg'⟩, hf'⟩; have T1 := hid (T0.out.left hd' hg' hf'); have hR := T1.out.x; clear hd' hg' hf'
  refine hK.out _ _ hR (fun hHeld => ?_)
  clear hK K
  (try simp only [Act.put, List.setIfInBounds_toArray, List.set_cons_zero, List.set_cons_succ])
  refine wpAnyK_ready (rs := [7]) (by kernel_rfl) (by simp) ?_
  refine AllReadyK.cons (op_at _ 7 _ rfl) (fun K hK => ?_) AllReadyK.nil
  go_simp
  go_at_call 32; refine (rsync_call r R d f w3 T1.out.b.hr hop).mono ?_; rintro e w4 ⟨rfl, ⟨R', hd', hg'⟩, hf'⟩; have T2 := hid (T1.out.right hd' hg' hf'); have hR := T2.out.x; clear hd' hg' hf'
  refine hK.out _ _ hR (fun hHeld => ?_)
  clear hK K
  (try simp only [Act.put, List.setIfInBounds_toArray, List.set_cons_zero, List.set_cons_succ])
  refine wpAnyK_pure (i := 8) (v := ?_) (op_at _ 8 _ rfl) (by kernel_rfl) (by kernel_rfl) (by kernel_rfl) (by kernel_rfl) (fun _ _ _ h => h) (Or.inl ⟨by rfl, ?_⟩) (Or.inl (by assumption)) ?_
  rotate_left 1
  focus (intro W hSw; go_simp; first | done | with_reducible rfl)
  (try simp only [Act.put, List.setIfInBounds_toArray, List.set_cons_zero, List.set_cons_succ])
  refine wpAnyK_pure (i := 9) (v := ?_) (op_at _ 9 _ rfl) (by kernel_rfl) (by kernel_rfl) (by kernel_rfl) (by kernel_rfl) (fun _ _ _ h => h) (Or.inl ⟨by rfl, ?_⟩) (Or.inl (by assumption)) ?_
  rotate_left 1
  focus (intro W hSw; go_simp; first | done | with_reducible rfl)
  (try simp only [Act.put, List.setIfInBounds_toArray, List.set_cons_zero, List.set_cons_succ])
  refine wpAnyK_done (by kernel_rfl) ?_ _
  go_wp2
  go_ret
  exact ⟨rfl, _, _, by rw [HE.out]; exact T2.out.b⟩

set_option maxHeartbeats 4000000 in
set_option maxRecDepth 20000 in
theorem act_2 (w1 W : World) (p r : Nat) (P : Parts) (R : RParts) (d : DS) (f a n : Int) (s : Nat) (ko : Option Addr) (kc : Nat) (keep : List Bool) (t : Int) (h : Both w1 W p r P R d d) (hop : d.ops < 1000000000) (hx : AvOk w1 ⟨2, f, a, n, s, ko, kc, keep, t⟩) (hk : keep.length ≤ 100) :
    Calls Try.prog 12 #[.pointer (some ⟨p, 0, none⟩), .pointer (some ⟨r, 0, none⟩), .agg #[.int .i64 2, .int .i64 f, .int .i64 a, .int .i64 n, .int .u8 (s : Int), .slice ko keep.length kc, .int .i64 t]] W fun e w' => e = .returned (.bool true) ∧ ∃ P' R', Both w1 w' p r P' R' (actD d ⟨2, f, a, n, s, ko, kc, keep, t⟩) (actD d ⟨2, f, a, n, s, ko, kc, keep, t⟩) := by
  obtain ⟨kn, hkn⟩ : ∃ kn, kn = keep.length := ⟨_, rfl⟩
  rw [← hkn]
  obtain ⟨W1, hW1⟩ : ∃ W1, W1 = W.alloc (.cells #[.int .i64 2, .int .i64 f, .int .i64 a, .int .i64 n, .int .u8 (s : Int), .slice ko kn kc, .int .i64 t] 34) := ⟨_, rfl⟩
  obtain ⟨xb, hxb⟩ : ∃ xb, xb = W.heap.size := ⟨_, rfl⟩
  have HT : Hid (Trio w1 W1 p r P R d d xb f a n ko kn kc t) := hid (by rw [hW1, hxb]; exact Trio.new h 2 (s : Int))
  have HW1 := hid hW1; have HXB := hid hxb; have HX := hid hx; have HK := hid hk; have HKN := hid hkn
  have q := HT.out.x
  obtain ⟨x1, x2, x3, x5, x6⟩ := q
  have HE : Hid (actD d ⟨2, f, a, n, s, ko, kc, keep, t⟩ = (cutD d f a).2) := hid (by simp [actD])
  clear h hx hW1 hxb hk hkn
  go_enter Try.func12, Try.ntmps12
  go_upto_region 8 with fail
  rw [← HW1.out, ← HXB.out]
  refine wp_region_K (S := RdA xb f a n ko kn kc t) (fun _ => false) (by kernel_rfl) HT.out.drew.x (fun hHeld => ?_)
  obtain ⟨W0, hW0⟩ : ∃ W0, W0 = W1.drew := ⟨_, rfl⟩
  rw [← hW0] at hHeld ⊢
  have T0 : Hid (Trio w1 W0 p r P R d d xb f a n ko kn kc t) := hid (by rw [hW0]; exact HT.out.drew)
  have hR := hHeld
  have HW0 := hid hW0
  clear hW0
  refine wpAnyK_pure (i := 0) (v := ?_) (op_at _ 0 _ rfl) (by kernel_rfl) (by kernel_rfl) (by kernel_rfl) (by kernel_rfl) (fun _ _ _ h => h) (Or.inl ⟨by rfl, ?_⟩) (Or.inl (by assumption)) ?_
  rotate_left 1
  focus (intro W hSw; go_simp; first | done | with_reducible rfl)
  (try simp only [Act.put, List.setIfInBounds_toArray, List.set_cons_zero, List.set_cons_succ])
  refine wpAnyK_pure (i := 1) (v := ?_) (op_at _ 1 _ rfl) (by kernel_rfl) (by kernel_rfl) (by kernel_rfl) (by kernel_rfl) (fun _ _ _ h => h) (Or.inl ⟨by rfl, ?_⟩) (Or.inl (by assumption)) ?_
  rotate_left 1
  focus (intro W hSw; go_simp; first | done | with_reducible rfl)
  (try simp only [Act.put, List.setIfInBounds_toArray, List.set_cons_zero, List.set_cons_succ])
  refine wpAnyK_take (i := 2) (v := ?_) (op_at _ 2 _ rfl) (by kernel_rfl) (by kernel_rfl) (by kernel_rfl) (by kernel_rfl) (fun _ _ _ h => h) (Or.inl ⟨by rfl, ?_⟩) (by assumption) ?_
  rotate_left 1
  focus (intro W hSw; obtain ⟨q1, q2, q3, q5, q6⟩ := hSw; go_simp; first | done | with_reducible rfl)
  (try simp only [Act.put, List.setIfInBounds_toArray, List.set_cons_zero, List.set_cons_succ])
  refine wpAnyK_pure (i := 3) (v := ?_) (op_at _ 3 _ rfl) (by kernel_rfl) (by kernel_rfl) (by kernel_rfl) (by kernel_rfl) (fun _ _ _ h => h) (Or.inl ⟨by rfl, ?_⟩) (Or.inl (by assumption)) ?_
  rotate_left 1
  focus (intro W hSw; go_simp; first | done | with_reducible rfl)
  (try simp only [Act.put, List.setIfInBounds_toArray, List.set_cons_zero, List.set_cons_succ])
  refine wpAnyK_take (i := 4) (v := ?_) (op_at _ 4 _ rfl) (by kernel_rfl) (by kernel_rfl) (by kernel_rfl) (by kernel_rfl) (fun _ _ _ h => h) (Or.inl ⟨by rfl, ?_⟩) (by assumption) ?_
  rotate_left 1
  focus (intro W hSw; obtain ⟨q1, q2, q3, q5, q6⟩ := hSw; go_simp; first | done | with_reducible rfl)
  (try simp only [Act.put, List.setIfInBounds_toArray, List.set_cons_zero, List.set_cons_succ])
  refine wpAnyK_pure (i := 6) (v := ?_) (op_at _ 6 _ rfl) (by kernel_rfl) (by kernel_rfl) (by kernel_rfl) (by kernel_rfl) (fun _ _ _ h => h) (Or.inl ⟨by rfl, ?_⟩) (Or.inl (by assumption)) ?_
  rotate_left 1
  focus (intro W hSw; go_simp; first | done | with_reducible rfl)
  (try simp only [Act.put, List.setIfInBounds_toArray, List.set_cons_zero, List.set_cons_succ])
  refine wpAnyK_pure (i := 7) (v := ?_) (op_at _ 7 _ rfl) (by kernel_rfl) (by kernel_rfl) (by kernel_rfl) (by kernel_rfl) (fun _ _ _ h => h) (Or.inl ⟨by rfl, ?_⟩) (Or.inl (by assumption)) ?_
  rotate_left 1
  focus (intro W hSw; go_simp; first | done | with_reducible rfl)
  (try simp only [Act.put, List.setIfInBounds_toArray, List.set_cons_zero, List.set_cons_succ])
  refine wpAnyK_take (i := 8) (v := ?_) (op_at _ 8 _ rfl) (by kernel_rfl) (by kernel_rfl) (by kernel_rfl) (by kernel_rfl) (fun _ _ _ h => h) (Or.inl ⟨by rfl, ?_⟩) (by assumption) ?_
  rotate_left 1
  focus (intro W hSw; obtain ⟨q1, q2, q3, q5, q6⟩ := hSw; go_simp; first | done | with_reducible rfl)
  (try simp only [Act.put, List.setIfInBounds_toArray, List.set_cons_zero, List.set_cons_succ])
  refine wpAnyK_pure (i := 9) (v := ?_) (op_at _ 9 _ rfl) (by kernel_rfl) (by kernel_rfl) (by kernel_rfl) (by kernel_rfl) (fun _ _ _ h => h) (Or.inl ⟨by rfl, ?_⟩) (Or.inl (by assumption)) ?_
  rotate_left 1
  focus (intro W hSw; go_simp; first | done | with_reducible rfl)
  (try simp only [Act.put, List.setIfInBounds_toArray, List.set_cons_zero, List.set_cons_succ])
  refine wpAnyK_take (i := 10) (v := ?_) (op_at _ 10 _ rfl) (by kernel_rfl) (by kernel_rfl) (by kernel_rfl) (by kernel_rfl) (fun _ _ _ h => h) (Or.inl ⟨by rfl, ?_⟩) (by assumption) ?_
  rotate_left 1
  focus (intro W hSw; obtain ⟨q1, q2, q3, q5, q6⟩ := hSw; go_simp; first | done | with_reducible rfl)
  (try simp only [Act.put, List.setIfInBounds_toArray, List.set_cons_zero, List.set_cons_succ])
  refine wpAnyK_ready (rs := [5]) (by kernel_rfl) (by simp) ?_
  refine AllReadyK.cons (op_at _ 5 _ rfl) (fun K hK => ?_) AllReadyK.nil
  go_simp
  go_at_call 25; refine (cut_call p P d f a W0 T0.out.b.hd hop).mono ?_; rintro e w3 ⟨rfl, ⟨P', hd', hg'⟩, hf'⟩; have T1 := hid (T0.out.left hd' hg' hf'); have hR := T1.out.x; clear hd' hg' hf'
  refine hK.out _ _ hR (fun hHeld => ?_)
  clear hK K
  (try simp only [Act.put, List.setIfInBounds_toArray, List.set_cons_zero, List.set_cons_succ])
  refine wpAnyK_ready (rs := [11]) (by kernel_rfl) (by simp) ?_
  refine AllReadyK.cons (op_at _ 11 _ rfl) (fun K hK => ?_) AllReadyK.nil
  go_simp
  go_at_call 33; refine (rcut_call r R d f a w3 T1.out.b.hr hop).mono ?_; rintro e w4 ⟨rfl, ⟨R', hd', hg'⟩, hf'⟩; have T2 := hid (T1.out.right hd' hg' hf'); have hR := T2.out.x; clear hd' hg' hf'
  refine hK.out _ _ hR (fun hHeld => ?_)
  clear hK K
  (try simp only [Act.put, List.setIfInBounds_toArray, List.set_cons_zero, List.set_cons_succ])
  refine wpAnyK_pure (i := 12) (v := ?_) (op_at _ 12 _ rfl) (by kernel_rfl) (by kernel_rfl) (by kernel_rfl) (by kernel_rfl) (fun _ _ _ h => h) (Or.inl ⟨by rfl, ?_⟩) (Or.inl (by assumption)) ?_
  rotate_left 1
  focus (intro W hSw; go_simp; first | done | with_reducible rfl)
  (try simp only [Act.put, List.setIfInBounds_toArray, List.set_cons_zero, List.set_cons_succ])
  refine wpAnyK_pure (i := 13) (v := ?_) (op_at _ 13 _ rfl) (by kernel_rfl) (by kernel_rfl) (by kernel_rfl) (by kernel_rfl) (fun _ _ _ h => h) (Or.inl ⟨by rfl, ?_⟩) (Or.inl (by assumption)) ?_
  rotate_left 1
  focus (intro W hSw; go_simp; first | done | with_reducible rfl)
  (try simp only [Act.put, List.setIfInBounds_toArray, List.set_cons_zero, List.set_cons_succ])
  refine wpAnyK_done (by kernel_rfl) ?_ _
  go_wp2
  go_ret
  exact ⟨rfl, _, _, by rw [HE.out]; exact T2.out.b⟩

theorem arm_kn {kn : Nat} {keep : List Bool} (hkn : kn = keep.length) {ee : Int} {n : Int} (hee : ee = if n < 0 then 2 else 0) (p : Nat) (P : Parts) (d : DS) (ko : Option Addr) (kc : Nat) (t : Int) (w : World) (h : DiskP w p P d) (hn2 : n ≤ 9223372036854775807) (hr : RdB w ko keep) (hk : keep.length ≤ 100) (ht : I64 t) (hkp : 0 < keep.length → ∀ a, ko = some a → a.block ≠ p) :
    Calls Try.prog 24 #[.pointer (some ⟨p, 0, none⟩), .int .i64 n, .agg #[.slice ko kn kc, .int .i64 t]] w fun e w' => e = .returned (.int .i64 ee) ∧ (∃ P', DiskP w' p P' (armD d n keep t) ∧ Grew P w P') ∧ DFrame w w' p P.all := by
  subst hkn; subst hee; exact arm_call p P d n ko kc keep t w h hn2 hr hk ht hkp
theorem rarm_kn {kn : Nat} {keep : List Bool} (hkn : kn = keep.length) {ee : Int} {n : Int} (hee : ee = if n < 0 then 2 else 0) (r : Nat) (R : RParts) (d : DS) (ko : Option Addr) (kc : Nat) (t : Int) (w : World) (h : RefP w r R d) (hn2 : n ≤ 9223372036854775807) (hr : RdB w ko keep) (hk : keep.length ≤ 100) (ht : I64 t) :
    Calls Try.prog 37 #[.pointer (some ⟨r, 0, none⟩), .int .i64 n, .agg #[.slice ko kn kc, .int .i64 t]] w fun e w' => e = .returned (.int .i64 ee) ∧ (∃ R', RefP w' r R' (armD d n keep t) ∧ RGrew R w R') ∧ DFrame w w' r R.mut := by
  subst hkn; subst hee; exact rarm_call r R d n ko kc keep t w h hn2 hr hk ht
def crD (d : DS) (keep : List Bool) (t : Int) : DS := if d.off then d else crashD d keep t
theorem crash_both_l {w1 W : World} {p r : Nat} {P : Parts} {R : RParts} {d e : DS} {ko : Option Addr} {kn kc : Nat} {keep : List Bool} {t : Int} (hkn : kn = keep.length) (hk : keep.length ≤ 100) (h : Both w1 W p r P R d e) (hr : RdB w1 ko keep) (ht : I64 t) :
    Calls Try.prog 21 #[.pointer (some ⟨p, 0, none⟩), .agg #[.slice ko kn kc, .int .i64 t]] W fun e w' => e = .returned (.bool (!d.off)) ∧ ∃ P', DiskP w' p P' (crD d keep t) ∧ Grew P W P' ∧ DFrame W w' p P.all := by
  subst hkn
  obtain ⟨hr', hap⟩ := h.keep hr
  unfold crD
  cases ho : d.off
  · refine (crash_on p P d ko kc keep t W h.hd ho hr' hk ht (fun hp a ha => ⟨fun h0 => (hap hp a ha).1 (Or.inl h0), fun h0 => (hap hp a ha).1 (Or.inr (Or.inl h0)), (hap hp a ha).2.1⟩)).mono ?_
    rintro e w' ⟨rfl, ⟨P', h1, h2⟩, h3⟩
    exact ⟨rfl, P', h1, h2, h3⟩
  · refine (crash_off p P d ko keep.length kc t W h.hd ho).mono ?_
    rintro e w' ⟨rfl, hb⟩
    exact ⟨rfl, P, h.hd.later hb, fun k hk => Or.inl hk, DFrame.below hb⟩
set_option maxHeartbeats 1000000 in
theorem rcrash_off (r : Nat) (R : RParts) (d : DS) (ko : Option Addr) (kn kc : Nat) (t : Int) (w : World) (h : RefP w r R d) (ho : d.off = true) : Calls Try.prog 34 #[.pointer (some ⟨r, 0, none⟩), .agg #[.slice ko kn kc, .int .i64 t]] w fun e w' => e = .returned (.bool false) ∧ Below w.heap.size w w' := by
  have c7 := keep_old (w' := w.alloc (.cells #[.slice ko kn kc, .int .i64 t] 70)) ((Below.refl _ _).alloc (Nat.le_refl _) _) h.c7
  have d7 := h.c7
  rw [ho] at c7 d7
  have hrl := h.rlt
  clear h
  go_enter Try.func34, Try.ntmps34
  go_wp2
  go_ret
  exact ⟨rfl, (Below.refl _ _).alloc (Nat.le_refl _) _⟩
theorem crash_both_r {w1 W : World} {p r : Nat} {P : Parts} {R : RParts} {d e : DS} {ko : Option Addr} {kn kc : Nat} {keep : List Bool} {t : Int} (hkn : kn = keep.length) (hk : keep.length ≤ 100) (h : Both w1 W p r P R e d) (hr : RdB w1 ko keep) :
    Calls Try.prog 34 #[.pointer (some ⟨r, 0, none⟩), .agg #[.slice ko kn kc, .int .i64 t]] W fun e w' => e = .returned (.bool (!d.off)) ∧ ∃ R', RefP w' r R' (crD d keep t) ∧ RGrew R W R' ∧ DFrame W w' r R.mut := by
  subst hkn
  obtain ⟨hr', hap⟩ := h.keep hr
  unfold crD
  cases ho : d.off
  · refine (rcrash_on r R d ko kc keep t W h.hr ho hr' hk (fun hp a ha => (hap hp a ha).2.2)).mono ?_
    rintro e w' ⟨rfl, ⟨P', h1, h2⟩, h3⟩
    exact ⟨rfl, P', h1, h2, h3⟩
  · refine (rcrash_off r R d ko keep.length kc t W h.hr ho).mono ?_
    rintro e w' ⟨rfl, hb⟩
    exact ⟨rfl, R, h.hr.later hb, RGrew.refl _ _, DFrame.below hb⟩

set_option maxHeartbeats 4000000 in
set_option maxRecDepth 20000 in
theorem act_6 (w1 W : World) (p r : Nat) (P : Parts) (R : RParts) (d : DS) (f a n : Int) (s : Nat) (ko : Option Addr) (kc : Nat) (keep : List Bool) (t : Int) (h : Both w1 W p r P R d d) (hx : AvOk w1 ⟨6, f, a, n, s, ko, kc, keep, t⟩) (hk : keep.length ≤ 100) :
    Calls Try.prog 12 #[.pointer (some ⟨p, 0, none⟩), .pointer (some ⟨r, 0, none⟩), .agg #[.int .i64 6, .int .i64 f, .int .i64 a, .int .i64 n, .int .u8 (s : Int), .slice ko keep.length kc, .int .i64 t]] W fun e w' => e = .returned (.bool true) ∧ ∃ P' R', Both w1 w' p r P' R' (actD d ⟨6, f, a, n, s, ko, kc, keep, t⟩) (actD d ⟨6, f, a, n, s, ko, kc, keep, t⟩) := by
  obtain ⟨kn, hkn⟩ : ∃ kn, kn = keep.length := ⟨_, rfl⟩
  rw [← hkn]
  obtain ⟨W1, hW1⟩ : ∃ W1, W1 = W.alloc (.cells #[.int .i64 6, .int .i64 f, .int .i64 a, .int .i64 n, .int .u8 (s : Int), .slice ko kn kc, .int .i64 t] 34) := ⟨_, rfl⟩
  obtain ⟨xb, hxb⟩ : ∃ xb, xb = W.heap.size := ⟨_, rfl⟩
  have HT : Hid (Trio w1 W1 p r P R d d xb f a n ko kn kc t) := hid (by rw [hW1, hxb]; exact Trio.new h 6 (s : Int))
  have HW1 := hid hW1; have HXB := hid hxb; have HX := hid hx; have HK := hid hk; have HKN := hid hkn
  have q := HT.out.x
  obtain ⟨x1, x2, x3, x5, x6⟩ := q
  have HE : Hid (actD d ⟨6, f, a, n, s, ko, kc, keep, t⟩ = crD d keep t) := hid (by simp [actD, crD])
  clear h hx hW1 hxb hk hkn
  go_enter Try.func12, Try.ntmps12
  go_upto_region 19 with fail
  rw [← HW1.out, ← HXB.out]
  refine wp_region_K (S := RdA xb f a n ko kn kc t) (fun _ => false) (by kernel_rfl) HT.out.drew.x (fun hHeld => ?_)
  obtain ⟨W0, hW0⟩ : ∃ W0, W0 = W1.drew := ⟨_, rfl⟩
  rw [← hW0] at hHeld ⊢
  have T0 : Hid (Trio w1 W0 p r P R d d xb f a n ko kn kc t) := hid (by rw [hW0]; exact HT.out.drew)
  have hR := hHeld
  have HW0 := hid hW0
  clear hW0
  refine wpAnyK_pure (i := 0) (v := ?_) (op_at _ 0 _ rfl) (by kernel_rfl) (by kernel_rfl) (by kernel_rfl) (by kernel_rfl) (fun _ _ _ h => h) (Or.inl ⟨by rfl, ?_⟩) (Or.inl (by assumption)) ?_
  rotate_left 1
  focus (intro W hSw; go_simp; first | done | with_reducible rfl)
  (try simp only [Act.put, List.setIfInBounds_toArray, List.set_cons_zero, List.set_cons_succ])
  refine wpAnyK_pure (i := 1) (v := ?_) (op_at _ 1 _ rfl) (by kernel_rfl) (by kernel_rfl) (by kernel_rfl) (by kernel_rfl) (fun _ _ _ h => h) (Or.inl ⟨by rfl, ?_⟩) (Or.inl (by assumption)) ?_
  rotate_left 1
  focus (intro W hSw; go_simp; first | done | with_reducible rfl)
  (try simp only [Act.put, List.setIfInBounds_toArray, List.set_cons_zero, List.set_cons_succ])
  refine wpAnyK_take (i := 2) (v := ?_) (op_at _ 2 _ rfl) (by kernel_rfl) (by kernel_rfl) (by kernel_rfl) (by kernel_rfl) (fun _ _ _ h => h) (Or.inl ⟨by rfl, ?_⟩) (by assumption) ?_
  rotate_left 1
  focus (intro W hSw; obtain ⟨q1, q2, q3, q5, q6⟩ := hSw; go_simp; first | done | with_reducible rfl)
  (try simp only [Act.put, List.setIfInBounds_toArray, List.set_cons_zero, List.set_cons_succ])
  refine wpAnyK_pure (i := 4) (v := ?_) (op_at _ 4 _ rfl) (by kernel_rfl) (by kernel_rfl) (by kernel_rfl) (by kernel_rfl) (fun _ _ _ h => h) (Or.inl ⟨by rfl, ?_⟩) (Or.inl (by assumption)) ?_
  rotate_left 1
  focus (intro W hSw; go_simp; first | done | with_reducible rfl)
  (try simp only [Act.put, List.setIfInBounds_toArray, List.set_cons_zero, List.set_cons_succ])
  refine wpAnyK_pure (i := 5) (v := ?_) (op_at _ 5 _ rfl) (by kernel_rfl) (by kernel_rfl) (by kernel_rfl) (by kernel_rfl) (fun _ _ _ h => h) (Or.inl ⟨by rfl, ?_⟩) (Or.inl (by assumption)) ?_
  rotate_left 1
  focus (intro W hSw; go_simp; first | done | with_reducible rfl)
  (try simp only [Act.put, List.setIfInBounds_toArray, List.set_cons_zero, List.set_cons_succ])
  refine wpAnyK_take (i := 6) (v := ?_) (op_at _ 6 _ rfl) (by kernel_rfl) (by kernel_rfl) (by kernel_rfl) (by kernel_rfl) (fun _ _ _ h => h) (Or.inl ⟨by rfl, ?_⟩) (by assumption) ?_
  rotate_left 1
  focus (intro W hSw; obtain ⟨q1, q2, q3, q5, q6⟩ := hSw; go_simp; first | done | with_reducible rfl)
  (try simp only [Act.put, List.setIfInBounds_toArray, List.set_cons_zero, List.set_cons_succ])
  refine wpAnyK_ready (rs := [3]) (by kernel_rfl) (by simp) ?_
  refine AllReadyK.cons (op_at _ 3 _ rfl) (fun K hK => ?_) AllReadyK.nil
  go_simp
  go_at_call 21; refine (crash_both_l HKN.out HK.out T0.out.b HX.out.keep HX.out.t).mono ?_; rintro e w3 ⟨rfl, P', hd', hg', hf'⟩; have T1 := hid (T0.out.left hd' hg' hf'); have hR := T1.out.x; clear hd' hg' hf'
  refine hK.out _ _ hR (fun hHeld => ?_)
  clear hK K
  (try simp only [Act.put, List.setIfInBounds_toArray, List.set_cons_zero, List.set_cons_succ])
  refine wpAnyK_ready (rs := [7]) (by kernel_rfl) (by simp) ?_
  refine AllReadyK.cons (op_at _ 7 _ rfl) (fun K hK => ?_) AllReadyK.nil
  go_simp
  go_at_call 35; refine (plain_any ko kn kc t _).mono ?_; rintro e w4 ⟨rfl, hb'⟩; have T2 := hid (T1.out.later hb'); have hR := T2.out.x; clear hb'
  refine hK.out _ _ hR (fun hHeld => ?_)
  clear hK K
  (try simp only [Act.put, List.setIfInBounds_toArray, List.set_cons_zero, List.set_cons_succ])
  refine wpAnyK_ready (rs := [8]) (by kernel_rfl) (by simp) ?_
  refine AllReadyK.cons (op_at _ 8 _ rfl) (fun K hK => ?_) AllReadyK.nil
  go_simp
  go_at_call 34; refine (crash_both_r HKN.out HK.out T2.out.b HX.out.keep).mono ?_; rintro e w5 ⟨rfl, R', hd', hg', hf'⟩; have T3 := hid (T2.out.right hd' hg' hf'); have hR := T3.out.x; clear hd' hg' hf'
  refine hK.out _ _ hR (fun hHeld => ?_)
  clear hK K
  (try simp only [Act.put, List.setIfInBounds_toArray, List.set_cons_zero, List.set_cons_succ])
  refine wpAnyK_pure (i := 9) (v := ?_) (op_at _ 9 _ rfl) (by kernel_rfl) (by kernel_rfl) (by kernel_rfl) (by kernel_rfl) (fun _ _ _ h => h) (Or.inl ⟨by rfl, ?_⟩) (Or.inl (by assumption)) ?_
  rotate_left 1
  focus (intro W hSw; go_simp; first | done | with_reducible rfl)
  (try simp only [Act.put, List.setIfInBounds_toArray, List.set_cons_zero, List.set_cons_succ])
  refine wpAnyK_pure (i := 10) (v := ?_) (op_at _ 10 _ rfl) (by kernel_rfl) (by kernel_rfl) (by kernel_rfl) (by kernel_rfl) (fun _ _ _ h => h) (Or.inl ⟨by rfl, ?_⟩) (Or.inl (by assumption)) ?_
  rotate_left 1
  focus (intro W hSw; go_simp; first | done | with_reducible rfl)
  (try simp only [Act.put, List.setIfInBounds_toArray, List.set_cons_zero, List.set_cons_succ])
  refine wpAnyK_done (by kernel_rfl) ?_ _
  go_wp2
  go_ret
  exact ⟨rfl, _, _, by rw [HE.out]; exact T3.out.b⟩

set_option maxHeartbeats 4000000 in
set_option maxRecDepth 20000 in
theorem act_4 (w1 W : World) (p r : Nat) (P : Parts) (R : RParts) (d : DS) (f a n : Int) (s : Nat) (ko : Option Addr) (kc : Nat) (keep : List Bool) (t : Int) (h : Both w1 W p r P R d d) (hx : AvOk w1 ⟨4, f, a, n, s, ko, kc, keep, t⟩) (hk : keep.length ≤ 100) :
    Calls Try.prog 12 #[.pointer (some ⟨p, 0, none⟩), .pointer (some ⟨r, 0, none⟩), .agg #[.int .i64 4, .int .i64 f, .int .i64 a, .int .i64 n, .int .u8 (s : Int), .slice ko keep.length kc, .int .i64 t]] W fun e w' => e = .returned (.bool true) ∧ ∃ P' R', Both w1 w' p r P' R' (actD d ⟨4, f, a, n, s, ko, kc, keep, t⟩) (actD d ⟨4, f, a, n, s, ko, kc, keep, t⟩) := by
  obtain ⟨kn, hkn⟩ : ∃ kn, kn = keep.length := ⟨_, rfl⟩
  rw [← hkn]
  obtain ⟨W1, hW1⟩ : ∃ W1, W1 = W.alloc (.cells #[.int .i64 4, .int .i64 f, .int .i64 a, .int .i64 n, .int .u8 (s : Int), .slice ko kn kc, .int .i64 t] 34) := ⟨_, rfl⟩
  obtain ⟨xb, hxb⟩ : ∃ xb, xb = W.heap.size := ⟨_, rfl⟩
  have HT : Hid (Trio w1 W1 p r P R d d xb f a n ko kn kc t) := hid (by rw [hW1, hxb]; exact Trio.new h 4 (s : Int))
  have HW1 := hid hW1; have HXB := hid hxb; have HX := hid hx; have HK := hid hk; have HKN := hid hkn
  have q := HT.out.x
  obtain ⟨x1, x2, x3, x5, x6⟩ := q
  have HE : Hid (actD d ⟨4, f, a, n, s, ko, kc, keep, t⟩ = armD d n keep t) := hid (by simp [actD])
  clear h hx hW1 hxb hk hkn
  obtain ⟨ee, hee⟩ : ∃ ee : Int, ee = if n < 0 then 2 else 0 := ⟨_, rfl⟩
  have HEE := hid hee
  clear hee
  go_enter Try.func12, Try.ntmps12
  go_upto_region 14 with fail
  rw [← HW1.out, ← HXB.out]
  refine wp_region_K (S := RdA xb f a n ko kn kc t) (fun _ => false) (by kernel_rfl) HT.out.drew.x (fun hHeld => ?_)
  obtain ⟨W0, hW0⟩ : ∃ W0, W0 = W1.drew := ⟨_, rfl⟩
  rw [← hW0] at hHeld ⊢
  have T0 : Hid (Trio w1 W0 p r P R d d xb f a n ko kn kc t) := hid (by rw [hW0]; exact HT.out.drew)
  have hR := hHeld
  have HW0 := hid hW0
  clear hW0
  refine wpAnyK_pure (i := 0) (v := ?_) (op_at _ 0 _ rfl) (by kernel_rfl) (by kernel_rfl) (by kernel_rfl) (by kernel_rfl) (fun _ _ _ h => h) (Or.inl ⟨by rfl, ?_⟩) (Or.inl (by assumption)) ?_
  rotate_left 1
  focus (intro W hSw; go_simp; first | done | with_reducible rfl)
  (try simp only [Act.put, List.setIfInBounds_toArray, List.set_cons_zero, List.set_cons_succ])
  refine wpAnyK_pure (i := 1) (v := ?_) (op_at _ 1 _ rfl) (by kernel_rfl) (by kernel_rfl) (by kernel_rfl) (by kernel_rfl) (fun _ _ _ h => h) (Or.inl ⟨by rfl, ?_⟩) (Or.inl (by assumption)) ?_
  rotate_left 1
  focus (intro W hSw; go_simp; first | done | with_reducible rfl)
  (try simp only [Act.put, List.setIfInBounds_toArray, List.set_cons_zero, List.set_cons_succ])
  refine wpAnyK_take (i := 2) (v := ?_) (op_at _ 2 _ rfl) (by kernel_rfl) (by kernel_rfl) (by kernel_rfl) (by kernel_rfl) (fun _ _ _ h => h) (Or.inl ⟨by rfl, ?_⟩) (by assumption) ?_
  rotate_left 1
  focus (intro W hSw; obtain ⟨q1, q2, q3, q5, q6⟩ := hSw; go_simp; first | done | with_reducible rfl)
  (try simp only [Act.put, List.setIfInBounds_toArray, List.set_cons_zero, List.set_cons_succ])
  refine wpAnyK_pure (i := 3) (v := ?_) (op_at _ 3 _ rfl) (by kernel_rfl) (by kernel_rfl) (by kernel_rfl) (by kernel_rfl) (fun _ _ _ h => h) (Or.inl ⟨by rfl, ?_⟩) (Or.inl (by assumption)) ?_
  rotate_left 1
  focus (intro W hSw; go_simp; first | done | with_reducible rfl)
  (try simp only [Act.put, List.setIfInBounds_toArray, List.set_cons_zero, List.set_cons_succ])
  refine wpAnyK_take (i := 4) (v := ?_) (op_at _ 4 _ rfl) (by kernel_rfl) (by kernel_rfl) (by kernel_rfl) (by kernel_rfl) (fun _ _ _ h => h) (Or.inl ⟨by rfl, ?_⟩) (by assumption) ?_
  rotate_left 1
  focus (intro W hSw; obtain ⟨q1, q2, q3, q5, q6⟩ := hSw; go_simp; first | done | with_reducible rfl)
  (try simp only [Act.put, List.setIfInBounds_toArray, List.set_cons_zero, List.set_cons_succ])
  refine wpAnyK_pure (i := 6) (v := ?_) (op_at _ 6 _ rfl) (by kernel_rfl) (by kernel_rfl) (by kernel_rfl) (by kernel_rfl) (fun _ _ _ h => h) (Or.inl ⟨by rfl, ?_⟩) (Or.inl (by assumption)) ?_
  rotate_left 1
  focus (intro W hSw; go_simp; first | done | with_reducible rfl)
  (try simp only [Act.put, List.setIfInBounds_toArray, List.set_cons_zero, List.set_cons_succ])
  refine wpAnyK_pure (i := 7) (v := ?_) (op_at _ 7 _ rfl) (by kernel_rfl) (by kernel_rfl) (by kernel_rfl) (by kernel_rfl) (fun _ _ _ h => h) (Or.inl ⟨by rfl, ?_⟩) (Or.inl (by assumption)) ?_
  rotate_left 1
  focus (intro W hSw; go_simp; first | done | with_reducible rfl)
  (try simp only [Act.put, List.setIfInBounds_toArray, List.set_cons_zero, List.set_cons_succ])
  refine wpAnyK_take (i := 8) (v := ?_) (op_at _ 8 _ rfl) (by kernel_rfl) (by kernel_rfl) (by kernel_rfl) (by kernel_rfl) (fun _ _ _ h => h) (Or.inl ⟨by rfl, ?_⟩) (by assumption) ?_
  rotate_left 1
  focus (intro W hSw; obtain ⟨q1, q2, q3, q5, q6⟩ := hSw; go_simp; first | done | with_reducible rfl)
  (try simp only [Act.put, List.setIfInBounds_toArray, List.set_cons_zero, List.set_cons_succ])
  refine wpAnyK_pure (i := 9) (v := ?_) (op_at _ 9 _ rfl) (by kernel_rfl) (by kernel_rfl) (by kernel_rfl) (by kernel_rfl) (fun _ _ _ h => h) (Or.inl ⟨by rfl, ?_⟩) (Or.inl (by assumption)) ?_
  rotate_left 1
  focus (intro W hSw; go_simp; first | done | with_reducible rfl)
  (try simp only [Act.put, List.setIfInBounds_toArray, List.set_cons_zero, List.set_cons_succ])
  refine wpAnyK_take (i := 10) (v := ?_) (op_at _ 10 _ rfl) (by kernel_rfl) (by kernel_rfl) (by kernel_rfl) (by kernel_rfl) (fun _ _ _ h => h) (Or.inl ⟨by rfl, ?_⟩) (by assumption) ?_
  rotate_left 1
  focus (intro W hSw; obtain ⟨q1, q2, q3, q5, q6⟩ := hSw; go_simp; first | done | with_reducible rfl)
  (try simp only [Act.put, List.setIfInBounds_toArray, List.set_cons_zero, List.set_cons_succ])
  refine wpAnyK_ready (rs := [5]) (by kernel_rfl) (by simp) ?_
  refine AllReadyK.cons (op_at _ 5 _ rfl) (fun K hK => ?_) AllReadyK.nil
  go_simp
  go_at_call 24; refine (arm_kn HKN.out HEE.out p P d ko kc t W0 T0.out.b.hd HX.out.n.2 (T0.out.b.keep HX.out.keep).1 HK.out HX.out.t (fun hp a ha => ((T0.out.b.keep HX.out.keep).2 hp a ha).2.1)).mono ?_; rintro e w3 ⟨rfl, ⟨P', hd', hg'⟩, hf'⟩; have T1 := hid (T0.out.left hd' hg' hf'); have hR := T1.out.x; clear hd' hg' hf'
  refine hK.out _ _ hR (fun hHeld => ?_)
  clear hK K
  (try simp only [Act.put, List.setIfInBounds_toArray, List.set_cons_zero, List.set_cons_succ])
  refine wpAnyK_ready (rs := [11]) (by kernel_rfl) (by simp) ?_
  refine AllReadyK.cons (op_at _ 11 _ rfl) (fun K hK => ?_) AllReadyK.nil
  go_simp
  go_at_call 35; refine (plain_any ko kn kc t _).mono ?_; rintro e w4 ⟨rfl, hb'⟩; have T2 := hid (T1.out.later hb'); have hR := T2.out.x; clear hb'
  refine hK.out _ _ hR (fun hHeld => ?_)
  clear hK K
  (try simp only [Act.put, List.setIfInBounds_toArray, List.set_cons_zero, List.set_cons_succ])
  refine wpAnyK_ready (rs := [12]) (by kernel_rfl) (by simp) ?_
  refine AllReadyK.cons (op_at _ 12 _ rfl) (fun K hK => ?_) AllReadyK.nil
  go_simp
  go_at_call 37; refine (rarm_kn HKN.out HEE.out r R d ko kc t w4 T2.out.b.hr HX.out.n.2 (T2.out.b.keep HX.out.keep).1 HK.out HX.out.t).mono ?_; rintro e w5 ⟨rfl, ⟨R', hd', hg'⟩, hf'⟩; have T3 := hid (T2.out.right hd' hg' hf'); have hR := T3.out.x; clear hd' hg' hf'
  refine hK.out _ _ hR (fun hHeld => ?_)
  clear hK K
  (try simp only [Act.put, List.setIfInBounds_toArray, List.set_cons_zero, List.set_cons_succ])
  refine wpAnyK_pure (i := 13) (v := ?_) (op_at _ 13 _ rfl) (by kernel_rfl) (by kernel_rfl) (by kernel_rfl) (by kernel_rfl) (fun _ _ _ h => h) (Or.inl ⟨by rfl, ?_⟩) (Or.inl (by assumption)) ?_
  rotate_left 1
  focus (intro W hSw; go_simp; first | done | with_reducible rfl)
  (try simp only [Act.put, List.setIfInBounds_toArray, List.set_cons_zero, List.set_cons_succ])
  refine wpAnyK_pure (i := 14) (v := ?_) (op_at _ 14 _ rfl) (by kernel_rfl) (by kernel_rfl) (by kernel_rfl) (by kernel_rfl) (fun _ _ _ h => h) (Or.inl ⟨by rfl, ?_⟩) (Or.inl (by assumption)) ?_
  rotate_left 1
  focus (intro W hSw; go_simp; first | done | with_reducible rfl)
  (try simp only [Act.put, List.setIfInBounds_toArray, List.set_cons_zero, List.set_cons_succ])
  refine wpAnyK_done (by kernel_rfl) ?_ _
  go_wp2
  go_ret
  exact ⟨rfl, _, _, by rw [HE.out]; exact T3.out.b⟩

set_option maxHeartbeats 4000000 in
set_option maxRecDepth 20000 in
theorem act_5 (w1 W : World) (p r : Nat) (P : Parts) (R : RParts) (d : DS) (f a n : Int) (s : Nat) (ko : Option Addr) (kc : Nat) (keep : List Bool) (t : Int) (h : Both w1 W p r P R d d) :
    Calls Try.prog 12 #[.pointer (some ⟨p, 0, none⟩), .pointer (some ⟨r, 0, none⟩), .agg #[.int .i64 5, .int .i64 f, .int .i64 a, .int .i64 n, .int .u8 (s : Int), .slice ko keep.length kc, .int .i64 t]] W fun e w' => e = .returned (.bool true) ∧ ∃ P' R', Both w1 w' p r P' R' (actD d ⟨5, f, a, n, s, ko, kc, keep, t⟩) (actD d ⟨5, f, a, n, s, ko, kc, keep, t⟩) := by
  obtain ⟨kn, hkn⟩ : ∃ kn, kn = keep.length := ⟨_, rfl⟩
  rw [← hkn]
  obtain ⟨W1, hW1⟩ : ∃ W1, W1 = W.alloc (.cells #[.int .i64 5, .int .i64 f, .int .i64 a, .int .i64 n, .int .u8 (s : Int), .slice ko kn kc, .int .i64 t] 34) := ⟨_, rfl⟩
  obtain ⟨xb, hxb⟩ : ∃ xb, xb = W.heap.size := ⟨_, rfl⟩
  have HT : Hid (Trio w1 W1 p r P R d d xb f a n ko kn kc t) := hid (by rw [hW1, hxb]; exact Trio.new h 5 (s : Int))
  have HW1 := hid hW1; have HXB := hid hxb; have HKN := hid hkn
  have q := HT.out.x
  obtain ⟨x1, x2, x3, x5, x6⟩ := q
  have HE : Hid (actD d ⟨5, f, a, n, s, ko, kc, keep, t⟩ = startD d) := hid (by simp [actD])
  clear h hW1 hxb hkn
  go_enter Try.func12, Try.ntmps12
  have T0 := HT
  go_wp2_with (first
    | (go_at_call 36; rw [← HW1.out]; refine (rstart_any r R d W1 HT.out.b.hr).mono ?_; rintro e w3 ⟨rfl, hd', hf'⟩; have T1 := hid (HT.out.right hd' (RGrew.refl _ _) hf'); clear hd' hf')
    | (go_at_call 22; refine (start_any p P d w3 T1.out.b.hd).mono ?_; rintro e w4 ⟨rfl, ⟨P', hd', hg'⟩, hf'⟩; have T2 := hid (T1.out.left hd' hg' (hf'.imp (fun _ _ h => h.elim))); clear hd' hg' hf'))
  go_ret
  exact ⟨rfl, _, _, by rw [HE.out]; exact T2.out.b⟩

set_option maxHeartbeats 4000000 in
set_option maxRecDepth 20000 in
theorem act_3 (w1 W : World) (p r : Nat) (P : Parts) (R : RParts) (d : DS) (f a n : Int) (s : Nat) (ko : Option Addr) (kc : Nat) (keep : List Bool) (t : Int) (h : Both w1 W p r P R d d) (hx : AvOk w1 ⟨3, f, a, n, s, ko, kc, keep, t⟩) (hk : keep.length ≤ 100) :
    Calls Try.prog 12 #[.pointer (some ⟨p, 0, none⟩), .pointer (some ⟨r, 0, none⟩), .agg #[.int .i64 3, .int .i64 f, .int .i64 a, .int .i64 n, .int .u8 (s : Int), .slice ko keep.length kc, .int .i64 t]] W fun e w' => e = .returned (.bool true) ∧ ∃ P' R', Both w1 w' p r P' R' (actD d ⟨3, f, a, n, s, ko, kc, keep, t⟩) (actD d ⟨3, f, a, n, s, ko, kc, keep, t⟩) := by
  obtain ⟨kn, hkn⟩ : ∃ kn, kn = keep.length := ⟨_, rfl⟩
  rw [← hkn]
  obtain ⟨W1, hW1⟩ : ∃ W1, W1 = W.alloc (.cells #[.int .i64 3, .int .i64 f, .int .i64 a, .int .i64 n, .int .u8 (s : Int), .slice ko kn kc, .int .i64 t] 34) := ⟨_, rfl⟩
  obtain ⟨xb, hxb⟩ : ∃ xb, xb = W.heap.size := ⟨_, rfl⟩
  have HT : Hid (Trio w1 W1 p r P R d d xb f a n ko kn kc t) := hid (by rw [hW1, hxb]; exact Trio.new h 3 (s : Int))
  have HW1 := hid hW1; have HXB := hid hxb; have HX := hid hx; have HK := hid hk; have HKN := hid hkn
  have q := HT.out.x
  obtain ⟨x1, x2, x3, x5, x6⟩ := q
  have HE : Hid (actD d ⟨3, f, a, n, s, ko, kc, keep, t⟩ = startD (crD d keep t)) := hid (by simp [actD, crD])
  clear h hx hW1 hxb hk hkn
  go_enter Try.func12, Try.ntmps12
  go_upto_region 10 with fail
  rw [← HW1.out, ← HXB.out]
  refine wp_region_K (S := RdA xb f a n ko kn kc t) (fun _ => false) (by kernel_rfl) HT.out.drew.x (fun hHeld => ?_)
  obtain ⟨W0, hW0⟩ : ∃ W0, W0 = W1.drew := ⟨_, rfl⟩
  rw [← hW0] at hHeld ⊢
  have T0 : Hid (Trio w1 W0 p r P R d d xb f a n ko kn kc t) := hid (by rw [hW0]; exact HT.out.drew)
  have hR := hHeld
  have HW0 := hid hW0
  clear hW0
  refine wpAnyK_pure (i := 0) (v := ?_) (op_at _ 0 _ rfl) (by kernel_rfl) (by kernel_rfl) (by kernel_rfl) (by kernel_rfl) (fun _ _ _ h => h) (Or.inl ⟨by rfl, ?_⟩) (Or.inl (by assumption)) ?_
  rotate_left 1
  focus (intro W hSw; go_simp; first | done | with_reducible rfl)
  (try simp only [Act.put, List.setIfInBounds_toArray, List.set_cons_zero, List.set_cons_succ])
  refine wpAnyK_pure (i := 1) (v := ?_) (op_at _ 1 _ rfl) (by kernel_rfl) (by kernel_rfl) (by kernel_rfl) (by kernel_rfl) (fun _ _ _ h => h) (Or.inl ⟨by rfl, ?_⟩) (Or.inl (by assumption)) ?_
  rotate_left 1
  focus (intro W hSw; go_simp; first | done | with_reducible rfl)
  (try simp only [Act.put, List.setIfInBounds_toArray, List.set_cons_zero, List.set_cons_succ])
  refine wpAnyK_take (i := 2) (v := ?_) (op_at _ 2 _ rfl) (by kernel_rfl) (by kernel_rfl) (by kernel_rfl) (by kernel_rfl) (fun _ _ _ h => h) (Or.inl ⟨by rfl, ?_⟩) (by assumption) ?_
  rotate_left 1
  focus (intro W hSw; obtain ⟨q1, q2, q3, q5, q6⟩ := hSw; go_simp; first | done | with_reducible rfl)
  (try simp only [Act.put, List.setIfInBounds_toArray, List.set_cons_zero, List.set_cons_succ])
  refine wpAnyK_pure (i := 4) (v := ?_) (op_at _ 4 _ rfl) (by kernel_rfl) (by kernel_rfl) (by kernel_rfl) (by kernel_rfl) (fun _ _ _ h => h) (Or.inl ⟨by rfl, ?_⟩) (Or.inl (by assumption)) ?_
  rotate_left 1
  focus (intro W hSw; go_simp; first | done | with_reducible rfl)
  (try simp only [Act.put, List.setIfInBounds_toArray, List.set_cons_zero, List.set_cons_succ])
  refine wpAnyK_pure (i := 5) (v := ?_) (op_at _ 5 _ rfl) (by kernel_rfl) (by kernel_rfl) (by kernel_rfl) (by kernel_rfl) (fun _ _ _ h => h) (Or.inl ⟨by rfl, ?_⟩) (Or.inl (by assumption)) ?_
  rotate_left 1
  focus (intro W hSw; go_simp; first | done | with_reducible rfl)
  (try simp only [Act.put, List.setIfInBounds_toArray, List.set_cons_zero, List.set_cons_succ])
  refine wpAnyK_take (i := 6) (v := ?_) (op_at _ 6 _ rfl) (by kernel_rfl) (by kernel_rfl) (by kernel_rfl) (by kernel_rfl) (fun _ _ _ h => h) (Or.inl ⟨by rfl, ?_⟩) (by assumption) ?_
  rotate_left 1
  focus (intro W hSw; obtain ⟨q1, q2, q3, q5, q6⟩ := hSw; go_simp; first | done | with_reducible rfl)
  (try simp only [Act.put, List.setIfInBounds_toArray, List.set_cons_zero, List.set_cons_succ])
  refine wpAnyK_ready (rs := [3]) (by kernel_rfl) (by simp) ?_
  refine AllReadyK.cons (op_at _ 3 _ rfl) (fun K hK => ?_) AllReadyK.nil
  go_simp
  go_at_call 21; refine (crash_both_l HKN.out HK.out T0.out.b HX.out.keep HX.out.t).mono ?_; rintro e w3 ⟨rfl, P', hd', hg', hf'⟩; have T1 := hid (T0.out.left hd' hg' hf'); have hR := T1.out.x; clear hd' hg' hf'
  refine hK.out _ _ hR (fun hHeld => ?_)
  clear hK K
  (try simp only [Act.put, List.setIfInBounds_toArray, List.set_cons_zero, List.set_cons_succ])
  refine wpAnyK_ready (rs := [7]) (by kernel_rfl) (by simp) ?_
  refine AllReadyK.cons (op_at _ 7 _ rfl) (fun K hK => ?_) AllReadyK.nil
  go_simp
  go_at_call 35; refine (plain_any ko kn kc t _).mono ?_; rintro e w4 ⟨rfl, hb'⟩; have T2 := hid (T1.out.later hb'); have hR := T2.out.x; clear hb'
  refine hK.out _ _ hR (fun hHeld => ?_)
  clear hK K
  (try simp only [Act.put, List.setIfInBounds_toArray, List.set_cons_zero, List.set_cons_succ])
  refine wpAnyK_ready (rs := [8]) (by kernel_rfl) (by simp) ?_
  refine AllReadyK.cons (op_at _ 8 _ rfl) (fun K hK => ?_) AllReadyK.nil
  go_simp
  go_at_call 34; refine (crash_both_r HKN.out HK.out T2.out.b HX.out.keep).mono ?_; rintro e w5 ⟨rfl, R', hd', hg', hf'⟩; have T3 := hid (T2.out.right hd' hg' hf'); have hR := T3.out.x; clear hd' hg' hf'
  refine hK.out _ _ hR (fun hHeld => ?_)
  clear hK K
  (try simp only [Act.put, List.setIfInBounds_toArray, List.set_cons_zero, List.set_cons_succ])
  refine wpAnyK_pure (i := 9) (v := ?_) (op_at _ 9 _ rfl) (by kernel_rfl) (by kernel_rfl) (by kernel_rfl) (by kernel_rfl) (fun _ _ _ h => h) (Or.inl ⟨by rfl, ?_⟩) (Or.inl (by assumption)) ?_
  rotate_left 1
  focus (intro W hSw; go_simp; first | done | with_reducible rfl)
  (try simp only [Act.put, List.setIfInBounds_toArray, List.set_cons_zero, List.set_cons_succ])
  refine wpAnyK_pure (i := 10) (v := ?_) (op_at _ 10 _ rfl) (by kernel_rfl) (by kernel_rfl) (by kernel_rfl) (by kernel_rfl) (fun _ _ _ h => h) (Or.inl ⟨by rfl, ?_⟩) (Or.inl (by assumption)) ?_
  rotate_left 1
  focus (intro W hSw; go_simp; first | done | with_reducible rfl)
  (try simp only [Act.put, List.setIfInBounds_toArray, List.set_cons_zero, List.set_cons_succ])
  refine wpAnyK_pure (i := 11) (v := ?_) (op_at _ 11 _ rfl) (by kernel_rfl) (by kernel_rfl) (by kernel_rfl) (by kernel_rfl) (fun _ _ _ h => h) (Or.inl ⟨by rfl, ?_⟩) (Or.inl (by assumption)) ?_
  rotate_left 1
  focus (intro W hSw; go_simp; first | done | with_reducible rfl)
  (try simp only [Act.put, List.setIfInBounds_toArray, List.set_cons_zero, List.set_cons_succ])
  refine wpAnyK_ready (rs := [12]) (by kernel_rfl) (by simp) ?_
  refine AllReadyK.cons (op_at _ 12 _ rfl) (fun K hK => ?_) AllReadyK.nil
  go_simp
  go_at_call 22; refine (start_any p _ _ w5 T3.out.b.hd).mono ?_; rintro e w6 ⟨rfl, ⟨P', hd', hg'⟩, hf'⟩; have T4 := hid (T3.out.left hd' hg' (hf'.imp (fun _ _ h => h.elim))); have hR := T4.out.x; clear hd' hg' hf'
  refine hK.out _ _ hR (fun hHeld => ?_)
  clear hK K
  (try simp only [Act.put, List.setIfInBounds_toArray, List.set_cons_zero, List.set_cons_succ])
  refine wpAnyK_pure (i := 13) (v := ?_) (op_at _ 13 _ rfl) (by kernel_rfl) (by kernel_rfl) (by kernel_rfl) (by kernel_rfl) (fun _ _ _ h => h) (Or.inl ⟨by rfl, ?_⟩) (Or.inl (by assumption)) ?_
  rotate_left 1
  focus (intro W hSw; go_simp; first | done | with_reducible rfl)
  (try simp only [Act.put, List.setIfInBounds_toArray, List.set_cons_zero, List.set_cons_succ])
  refine wpAnyK_pure (i := 14) (v := ?_) (op_at _ 14 _ rfl) (by kernel_rfl) (by kernel_rfl) (by kernel_rfl) (by kernel_rfl) (fun _ _ _ h => h) (Or.inl ⟨by rfl, ?_⟩) (Or.inl (by assumption)) ?_
  rotate_left 1
  focus (intro W hSw; go_simp; first | done | with_reducible rfl)
  (try simp only [Act.put, List.setIfInBounds_toArray, List.set_cons_zero, List.set_cons_succ])
  refine wpAnyK_done (by kernel_rfl) ?_ _
  go_wp2_with (go_at_call 36; refine (rstart_any r _ _ w6 T4.out.b.hr).mono ?_; rintro e w7 ⟨rfl, hd', hf'⟩; have T5 := hid (T4.out.right hd' (RGrew.refl _ _) hf'); clear hd' hf')
  go_ret
  exact ⟨rfl, _, _, by rw [HE.out]; exact T5.out.b⟩

set_option maxHeartbeats 4000000 in
theorem act_else (w1 W : World) (p r : Nat) (P : Parts) (R : RParts) (d : DS) (k f a n : Int) (s : Nat) (ko : Option Addr) (kc kn : Nat) (t : Int) (h : Both w1 W p r P R d d) (hk : k < 0 ∨ 6 < k) :
    Calls Try.prog 12 #[.pointer (some ⟨p, 0, none⟩), .pointer (some ⟨r, 0, none⟩), .agg #[.int .i64 k, .int .i64 f, .int .i64 a, .int .i64 n, .int .u8 (s : Int), .slice ko kn kc, .int .i64 t]] W fun e w' => e = .returned (.bool true) ∧ Both w1 w' p r P R d d := by
  have H := hid (h.later ((Below.refl _ W).alloc (Nat.le_refl _) (.cells #[.int .i64 k, .int .i64 f, .int .i64 a, .int .i64 n, .int .u8 (s : Int), .slice ko kn kc, .int .i64 t] 34)))
  have k0 : (k == 0) = false := by simp; omega
  have k1 : (k == 1) = false := by simp; omega
  have k2 : (k == 2) = false := by simp; omega
  have k3 : (k == 3) = false := by simp; omega
  have k4 : (k == 4) = false := by simp; omega
  have k5 : (k == 5) = false := by simp; omega
  have k6 : (k == 6) = false := by simp; omega
  clear h hk
  go_enter Try.func12, Try.ntmps12
  go_wp2
  go_ret
  exact ⟨rfl, H.out⟩

/-- An act's value. -/
def avV (x : Av) : Value := .agg #[.int .i64 x.k, .int .i64 x.f, .int .i64 x.a, .int .i64 x.n, .int .u8 (x.s : Int), .slice x.ko x.keep.length x.kc, .int .i64 x.t]
theorem act_any (w1 W : World) (p r : Nat) (P : Parts) (R : RParts) (d : DS) (x : Av) (h : Both w1 W p r P R d d) (hop : d.ops < 1000000000) (hx : AvOk w1 x) (hk : x.keep.length ≤ 100) :
    Calls Try.prog 12 #[.pointer (some ⟨p, 0, none⟩), .pointer (some ⟨r, 0, none⟩), avV x] W fun e w' => e = .returned (.bool true) ∧ ∃ P' R', Both w1 w' p r P' R' (actD d x) (actD d x) := by
  obtain ⟨k, f, a, n, s, ko, kc, keep, t⟩ := x
  unfold avV
  by_cases hb : k < 0 ∨ 6 < k
  · have e : actD d ⟨k, f, a, n, s, ko, kc, keep, t⟩ = d := by
      unfold actD
      simp only
      rw [if_neg (by omega), if_neg (by omega), if_neg (by omega), if_neg (by omega), if_neg (by omega), if_neg (by omega), if_neg (by omega)]
    rw [e]
    refine (act_else w1 W p r P R d k f a n s ko kc keep.length t h hb).mono ?_
    rintro e w' ⟨rfl, h'⟩
    exact ⟨rfl, P, R, h'⟩
  · have hc : k = 0 ∨ k = 1 ∨ k = 2 ∨ k = 3 ∨ k = 4 ∨ k = 5 ∨ k = 6 := by omega
    rcases hc with rfl | rfl | rfl | rfl | rfl | rfl | rfl
    · exact act_0 w1 W p r P R d f a n s ko kc keep t h hop hx hk
    · exact act_1 w1 W p r P R d f a n s ko kc keep t h hop hx hk
    · exact act_2 w1 W p r P R d f a n s ko kc keep t h hop hx hk
    · exact act_3 w1 W p r P R d f a n s ko kc keep t h hx hk
    · exact act_4 w1 W p r P R d f a n s ko kc keep t h hx hk
    · exact act_5 w1 W p r P R d f a n s ko kc keep t h
    · exact act_6 w1 W p r P R d f a n s ko kc keep t h hx hk

theorem ops_crD (d : DS) (keep : List Bool) (t : Int) : (crD d keep t).ops = d.ops := by unfold crD; split <;> rfl
/-- An act counts at most one operation. -/
theorem act_ops (d : DS) (x : Av) : (actD d x).ops ≤ d.ops + 1 := by
  have hp : ∀ (d : DS) (f : Int) (F : FS), (d.put f F).ops = d.ops := fun d f F => by unfold DS.put; split <;> rfl
  unfold actD
  split
  · unfold writeD; repeat' split
    all_goals first | exact Nat.le_succ _ | exact Nat.le_refl _ | (rw [hp]; exact Nat.le_refl _)
  · split
    · unfold syncD; repeat' split
      all_goals first | exact Nat.le_succ _ | exact Nat.le_refl _ | (rw [hp]; exact Nat.le_refl _)
    · split
      · unfold cutD; repeat' split
        all_goals first | exact Nat.le_succ _ | exact Nat.le_refl _ | (rw [hp]; exact Nat.le_refl _)
      · repeat' split
        all_goals first | exact Nat.le_succ _ | (unfold armD; repeat' split) <;> exact Nat.le_succ _

end Go.Proofs.Ytkgenmooepfhjaa
