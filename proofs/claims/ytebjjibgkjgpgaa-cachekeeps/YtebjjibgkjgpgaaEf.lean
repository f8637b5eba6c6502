/- Copy; no statement of the seat is proved here. -/
import Derived.Test.YtebjjibgkjgpgaaEe
import Derived.Deep.WholeRow
namespace Go.Proofs.Ytebjjibgkjgpgaa
open Go.RowKit Go.Maps

theorem Try.u69 : ∃ fs, Try.prog.underlying 69 = some (.struct fs) := ⟨_, Try.underlying69⟩

theorem loadv69 {w : World} {b : Nat} {x : Ent} (h : EntAt w b x) : (loadVar 69 ⟨b, 0, none⟩).run Try.prog w = .ok (.agg (cellsE x).toArray) w := by
  obtain ⟨fs, hu⟩ := Try.u69
  exact run_loadVar_row _ _ 69 69 (cellsE x).toArray (0, 0) _ h.blk hu rfl (by rw [info69]; simp [cellsE_length h.len])
theorem alloc69 (W : World) : (Instr.alloc 69 true (.tuple #[])).run Try.prog W = .ok (.pointer (some ⟨W.heap.size, 0, none⟩)) (W.alloc (.cells (cellsE (zeroE 0)).toArray 69)) := by kernel_rfl
theorem cellsE_one (x : Ent) : ∀ u ∈ cellsE x, u.oneCell' = true := by
  intro u hu
  simp only [cellsE, tailE, List.mem_cons, List.mem_append, List.not_mem_nil, or_false] at hu
  rcases hu with rfl | h | rfl | rfl | rfl | rfl
  · rfl
  · exact bs_one _ u h
  · rfl
  · rfl
  · cases x.bef <;> rfl
  · cases x.aft <;> rfl
theorem storev69 (W : World) (x : Ent) (hx : x.row.bytes.length = 512) : (storeVar 69 ⟨W.heap.size, 0, none⟩ (.agg (cellsE x).toArray)).run Try.prog (W.alloc (.cells (cellsE (zeroE 0)).toArray 69)) = .ok () (W.alloc (.cells (cellsE x).toArray 69)) := by
  exact run_storeVar_new (P := Try.prog) W 69 _ _ (by rw [info69]; simp [cellsE_length hx]) (by simp [cellsE_length hx, cellsE_length (e := zeroE 0) List.length_replicate]) (by simpa using cellsE_one x)

section
variable {F : Fence} {n : Nat} {P : Program} {ops : Array Oper} {rest : List Oper} {o : Oper} {a : Act} {w : World} {Q : Exit → Act → World → Prop}

theorem wpListIn_load_run (hgd : o.guard = none) (ty : TypeId) (x : Operand) (ho : o.op = .load ty x) (ad : Addr) (hx : a.eval x = .pointer (some ad)) (v : Value)
    (hrun : (loadVar ty ad).run P w = .ok v w) (h : wpListIn F n P ops Q rest (a.put o.dst v) w) : wpListIn F n P ops Q (o :: rest) a w := by
  refine wpListIn_plain hgd fun K hK => ?_
  unfold Oper.wpIn
  refine ⟨by simp [Oper.about, ho], ?_⟩
  rw [Oper.semAt_plain F _ _ (by rw [ho]; intro c hc'; cases hc')]
  simp [execOp, ho, hx, Instr.loadAt, Instr.sureAddr, hrun, Result.andThen]
  exact hK _ _ h
theorem wpListIn_store_run (hgd : o.guard = none) (ty : TypeId) (x y : Operand) (ho : o.op = .store ty x y) (ad : Addr) (hx : a.eval x = .pointer (some ad)) (v : Value) (hy : a.eval y = v) (w' : World)
    (hrun : (storeVar ty ad v).run P w = .ok () w') (h : wpListIn F n P ops Q rest (a.put o.dst undef) w') : wpListIn F n P ops Q (o :: rest) a w := by
  refine wpListIn_plain hgd fun K hK => ?_
  unfold Oper.wpIn
  refine ⟨by simp [Oper.about, ho], ?_⟩
  rw [Oper.semAt_plain F _ _ (by rw [ho]; intro c hc'; cases hc')]
  simp [execOp, ho, hx, hy, Instr.storeAt, Instr.sureAddr, hrun, Result.andThen]
  exact hK _ _ h
theorem wpListIn_alloc_run (hgd : o.guard = none) (ty : TypeId) (ho : o.op = .alloc ty) (v : Value) (w' : World)
    (hrun : (Instr.alloc ty true (.tuple #[])).run P w = .ok v w') (h : wpListIn F n P ops Q rest (a.put o.dst v) w') : wpListIn F n P ops Q (o :: rest) a w := by
  refine wpListIn_plain hgd fun K hK => ?_
  unfold Oper.wpIn
  refine ⟨by simp [Oper.about, ho], ?_⟩
  rw [Oper.semAt_plain F _ _ (by rw [ho]; intro c hc'; cases hc')]
  simp [execOp, ho, hrun, Result.andThen]
  exact hK _ _ h
end
theorem here_opIn (k : Nat) {F : Fence} {n : Nat} {P : Program} {ops : Array Oper} {Q : Exit → Act → World → Prop} {a : Act} {w : World} {rest : List Oper} {op : Op} {t : TypeId} {pos : String} {after : Array Edge} {gd : Option (Nat × Bool)}
    (h : wpListIn F n P ops Q (⟨some k, op, t, pos, after, gd⟩ :: rest) a w) : wpListIn F n P ops Q (⟨some k, op, t, pos, after, gd⟩ :: rest) a w := h
theorem here_storeIn {F : Fence} {n : Nat} {P : Program} {ops : Array Oper} {Q : Exit → Act → World → Prop} {a : Act} {w : World} {rest : List Oper} (ty : TypeId) {x y : Operand} {t : TypeId} {pos : String} {after : Array Edge} {gd : Option (Nat × Bool)}
    (h : wpListIn F n P ops Q (⟨none, .store ty x y, t, pos, after, gd⟩ :: rest) a w) : wpListIn F n P ops Q (⟨none, .store ty x y, t, pos, after, gd⟩ :: rest) a w := h

theorem CP.noMark {w : World} {c B : Nat} {C : Parts} {s : CS} (h : CP w c C s) {o : Obj} (ho : w.heap[B]? = some o) (h1 : ∀ cs t f, o ≠ .cells cs t f) (h2 : ∀ es cl, o ≠ .map es cl) : ¬ C.S c B := by
  rintro (rfl | rfl | hB)
  · rw [h.hd] at ho; cases ho; exact h1 _ _ _ rfl
  · obtain ⟨es, cl, hm⟩ := h.mp.obj; rw [hm] at ho; cases ho; exact h2 _ _ rfl
  · rw [(h.rg.en B hB).blk] at ho; cases ho; exact h1 _ _ _ rfl

structure CI (w : World) (c c2 : Nat) (s : CS) (k bo bn : Nat) (W : World) : Prop where
  cp : ∃ C2, CP W c2 C2 { s with l := s.l.take k } ∧ C2.ks.length = k ∧ ∀ j, C2.S c2 j → w.heap.size ≤ j ∧ j ≠ bo ∧ j ≠ bn ∧ j ≠ bn + 1 ∧ j ≠ bn + 2
  b0 : Boxed W bo 24 (.pointer (some ⟨c2, 0, none⟩))
  b1 : Boxed W bn 24 (.pointer (some ⟨c, 0, none⟩))
  bl : Below w.heap.size w W

theorem CI.put {w W : World} {c c2 k bo bn : Nat} {s : CS} (h : CI w c c2 s k bo bn W) {l : Nat} (o' : Obj) (hl : l = bn + 1 ∨ l = bn + 2) (hb : bo < bn) (hw : w.heap.size ≤ bn) : CI w c c2 s k bo bn (W.putObj l o') := by
  obtain ⟨⟨C2, g1, g2, g3⟩, b0, b1, bl⟩ := h
  exact ⟨⟨C2, g1.stay (fun j _ hj => put_other (by have := g3 j hj; omega)), g2, g3⟩, boxed_put _ b0 (by omega), boxed_put _ b1 (by omega), bl.trans (put_below _ (by omega) bl.size)⟩

attribute [local go_sem] Oper.semAt_some

set_option maxRecDepth 100000 in
set_option maxHeartbeats 4000000 in
theorem copy_call (c : Nat) (C : Parts) (s : CS) (w : World) (h : CP w c C s) (hlen : C.ks.length < 1000000) :
    Calls Try.prog 21 #[.pointer (some ⟨c, 0, none⟩)] w fun e w' => ∃ c2, e = .returned (.pointer (some ⟨c2, 0, none⟩)) ∧ ∃ C2, CP w' c2 C2 s ∧ (∀ j, C2.S c2 j → w.heap.size ≤ j) ∧ C2.ks.length = C.ks.length ∧ Below w.heap.size w w' := by
  have k1 := hid (made_yes c s.room w h.c0 h.rm.1)
  have k2 := hid (new_yes s.room w h.rm.1 h.rm.2)
  have k3 := hid (row_any c)
  have c0 := h.c0; have c3 := h.c3; have c4 := h.c4
  have hcl := h.clt
  have HH := hid h
  clear h
  refine (callsIn_wide (n := 3)).1 ?_
  refine callsIn_of_wp_marks Try.func21 rfl trivial ?_ rfl
  simp only [Try.ntmps21, List.size_toArray, List.length_cons, List.length_nil, Nat.reduceAdd, Nat.reduceSub, Array.replicate_succ, Array.replicate_zero, List.push_toArray, List.append_toArray, List.nil_append, List.cons_append]
  gi_wp2_with (first | (refine ⟨trivial, ?_⟩; gi_at_call 48; refine (callsIn_wide.2 k1.out).mono ?_; rintro e w1 ⟨rfl, h0⟩; obtain rfl := h0.symm) | (refine ⟨trivial, ?_⟩; gi_at_call 9; refine (callsIn_wide.2 k2.out).mono ?_; rintro e w1 ⟨c2, rfl, C0, g1, g2, g3, g4⟩; have e3 := keep_old g4 c3; have e4 := keep_old g4 c4; have d3 := g1.c3; have d4 := g1.c4; have f3 := hd_frozen g1.hd 3; have f4 := hd_frozen g1.hd 4; have hc2 := g1.clt; have hc2n : ¬ c2 = w1.heap.size := (by omega); have hcn : ¬ c = w1.heap.size := (by have := g4.size; omega); have hcl1 : c < w1.heap.size := (by have := g4.size; omega); have hcc : ¬ c = c2 := (by have := g3 c2 (Or.inl rfl); omega); have G1 := hid g1; have G2 := hid g2; have G3 := hid g3; have G4 := hid g4; clear g1 g2 g3 g4))
  gi_region
  gi_wp2_with (refine ⟨trivial, ?_⟩; gi_at_call 54; refine (callsIn_wide.2 (k3.out _)).mono ?_; rintro e w2 ⟨rfl, rfl⟩)
  obtain ⟨W0, hW0⟩ : ∃ W0, W0 = ((((w1.setCell ⟨c2, 3, none⟩ (.int .i64 (s.hit : Int))).setCell ⟨c2, 4, none⟩ (.int .i64 (s.miss : Int))).alloc (.cells #[.pointer (some ⟨c2, 0, none⟩)] 24)).alloc (.cells #[.pointer (some ⟨c, 0, none⟩)] 24)).drew := ⟨_, rfl⟩
  rw [← hW0]
  have hsz : W0.heap.size = w1.heap.size + 2 := by rw [hW0]; simp [World.drew]
  have hI0 : CI w c c2 s 0 w1.heap.size (w1.heap.size + 1) W0 := by
    have q1 : CP ((w1.setCell ⟨c2, 3, none⟩ (.int .i64 (s.hit : Int))).setCell ⟨c2, 4, none⟩ (.int .i64 (s.miss : Int))) c2 C0 { s with l := s.l.take 0 } :=
      G1.out.hits s.hit s.miss (hd_set4 (hd_set3 G1.out.hd _) _) (fun j _ _ hj => (set_heap _ _ _ _ _ hj).trans (set_heap _ _ _ _ _ hj))
    obtain ⟨V, hV⟩ : ∃ V, V = (w1.setCell ⟨c2, 3, none⟩ (.int .i64 (s.hit : Int))).setCell ⟨c2, 4, none⟩ (.int .i64 (s.miss : Int)) := ⟨_, rfl⟩
    have hVs : V.heap.size = w1.heap.size := by rw [hV]; simp
    have hVb : Below w.heap.size w V := by
      have hc2w := G3.out c2 (Or.inl rfl)
      rw [hV]
      exact (G4.out.setCell (p := ⟨c2, 3, none⟩) hc2w _).setCell (p := ⟨c2, 4, none⟩) hc2w _
    rw [← hV] at q1 hW0
    have b0 := Boxed.new V 24 (.pointer (some ⟨c2, 0, none⟩))
    have b1 := Boxed.new (V.alloc (.cells #[.pointer (some ⟨c2, 0, none⟩)] 24)) 24 (.pointer (some ⟨c, 0, none⟩))
    rw [World.size_alloc, hVs] at b1
    rw [hVs] at b0
    have hb2 : Below V.heap.size V ((V.alloc (.cells #[.pointer (some ⟨c2, 0, none⟩)] 24)).alloc (.cells #[.pointer (some ⟨c, 0, none⟩)] 24)).drew := (((Below.refl _ V).alloc (Nat.le_refl _) _).alloc (by simp) _).drew
    rw [hW0]
    refine ⟨⟨C0, q1.later hb2, by rw [G2.out]; rfl, fun j hj => ?_⟩, b0.alloc _, b1, gt hVb hb2⟩
    have q3 := G1.out.lt hj
    exact ⟨G3.out j hj, by omega, by omega, by omega, by omega⟩
  have hwle : w.heap.size ≤ w1.heap.size := G4.out.size
  have hb9 := alloc69
  obtain ⟨Z0, hZ0⟩ : ∃ Z0, Z0 = (cellsE (zeroE 0)).toArray := ⟨_, rfl⟩
  have hst := storev69
  rw [← hZ0] at hb9 hst
  have HST := hid hst
  clear hst hW0 hZ0 G1 G2 G3 G4 e3 e4 d3 d4 f3 f4
  have hlk : s.l.length = C.ks.length := by rw [HH.out.ls]; simp
  refine range_nat (gf := 63) (lb := #[.pointer (some ⟨w1.heap.size + 1, 0, none⟩)]) rfl (enters_of Try.func63 (by kernel_rfl) rfl) C.ks.length (fun k => .pointer (some ⟨nx C.ks C.h k, 0, none⟩)) rfl
    (fun k W => CI w c c2 s k w1.heap.size (w1.heap.size + 1) W) (fun _ _ => False) ?hI ?hX ?h0 ?hseq
    (fun k => { tmps := #[Value.pointer (some ⟨c, 0, none⟩), undef, .pointer none, .pointer (some ⟨w1.heap.size, 0, none⟩), .pointer (some ⟨nx C.ks C.h k, 0, none⟩), undef, .pointer (some ⟨c, 0, none⟩), .bool true, .bool false, .pointer (some ⟨c, 0, none⟩), .pointer (some ⟨c, 0, none⟩), .pointer (some ⟨c, 0, none⟩), .int .i64 (s.room : Int), .pointer (some ⟨c2, 0, none⟩), .pointer (some ⟨c2, 0, none⟩), .pointer (some ⟨c2, 0, none⟩), .pointer (some ⟨c, 0, none⟩), .pointer (some ⟨c, 0, none⟩), .pointer (some ⟨c, 3, none⟩), .int .i64 (s.hit : Int), .pointer (some ⟨c, 0, none⟩), .pointer (some ⟨c, 0, none⟩), .pointer (some ⟨c, 4, none⟩), .int .i64 (s.miss : Int), .pointer (some ⟨c2, 0, none⟩), .pointer (some ⟨c2, 3, none⟩), .pointer (some ⟨c2, 0, none⟩), .pointer (some ⟨c2, 4, none⟩), .pointer (some ⟨c, 0, none⟩), .func (.func 63) #[] #[.pointer (some ⟨w1.heap.size + 1, 0, none⟩)], .pointer (some ⟨nx C.ks C.h k, 0, none⟩), undef, undef, undef, undef, undef, undef], defers := [] }) ?assign ?body ?done ?stop
  case hI =>
    intro k W l o o' h1 h2 _ _ h5
    exact h5.put o' (by omega) (by omega) (by omega)
  case hX => intro c W l o o' _ _ _ _ h; exact h
  case h0 =>
    intro W hb _
    obtain ⟨⟨C2, g1, g2, g3⟩, b0, b1, bl⟩ := hI0
    exact ⟨⟨C2, g1.later hb, g2, g3⟩, (hb.block _ (by omega)).trans b0, (hb.block _ (by omega)).trans b1, gt bl hb⟩
  case hseq =>
    intro l J Jx W hJI hY hJ0
    refine row1_in 2 (w1.heap.size + 1) c C.h l C.ks HH.out.rg.nd J Jx (fun k W hj => ?_) hY W hJ0
    obtain ⟨_, _, h4, h5⟩ := hJI k W hj
    have hc := HH.out.later h5
    refine ⟨h4.cell, hc.c2, ⟨_, hc.rg.en C.h (by simp)⟩, fun hk => ⟨_, hc.rg.en _ (List.mem_cons_of_mem _ (nx_in hk))⟩, fun _ => ?_, fun hk => ?_⟩
    · rw [(hc.rg.en C.h (by simp)).aft, hc.rg.first]; rfl
    · rw [(hc.rg.en _ (List.mem_cons_of_mem _ (nx_in hk))).aft, hc.rg.next hk]; rfl
  case assign =>
    intro l k W K hK
    gi_wp2
    exact hK
  case body =>
    intro l k W hk hI hM hR
    rw [hsz] at hM hR ⊢
    have h5 := hI.bl
    have hc := HH.out.later h5
    have he := hc.rg.en (nx C.ks C.h k) (List.mem_cons_of_mem _ (nx_in hk))
    have hrk : s.l[k]'(by omega) = (C.E (nx C.ks C.h k)).row := hc.row_at hk
    obtain ⟨⟨C2, g1, g2, g3⟩, b0, b1, _⟩ := hI
    have hld := loadv69 he
    have hst := HST.out W (C.E (nx C.ks C.h k)) he.len
    obtain ⟨Z, hZ⟩ : ∃ Z, Z = (cellsE (C.E (nx C.ks C.h k))).toArray := ⟨_, rfl⟩
    rw [← hZ] at hld hst
    have hb1 : Below W.heap.size W (W.alloc (.cells Z 69)) := (Below.refl _ W).alloc (Nat.le_refl _) _
    have hen : EntAt (W.alloc (.cells Z 69)) W.heap.size (C.E (nx C.ks C.h k)) := ⟨by rw [hZ]; exact heap_alloc_new W _, he.len⟩
    have hkl : k < s.l.length := by omega
    have hnone : lk C2.ks C2.E (C.E (nx C.ks C.h k)).row.page = none := by
      cases ho : lk C2.ks C2.E (C.E (nx C.ks C.h k)).row.page with
      | none => rfl
      | some x =>
        exfalso
        have q1 := (lk_iff g1.pn).1 ho
        have q2 : (C2.E x).row ∈ s.l.take k := by
          have q4 := g1.ls
          simp only at q4
          rw [q4]; exact List.mem_map.2 ⟨x, q1.1, rfl⟩
        obtain ⟨j, hj, hj2⟩ := List.mem_iff_getElem.1 q2
        rw [List.length_take] at hj
        rw [List.getElem_take] at hj2
        have q3 := HH.out.pg
        have q5 : (s.l.map Row.page)[j]'(by simp; omega) = (s.l.map Row.page)[k]'(by simpa using hkl) := by simp only [List.getElem_map, hj2, q1.2, hrk]
        have q6 := (List.getElem_inj q3).1 q5
        omega
    have hwf := HH.out.wf (s.l[k]) (List.getElem_mem hkl)
    rw [hrk] at hwf
    have kad := hid (add_cp c2 W.heap.size C2 _ (C.E (nx C.ks C.h k)) (W.alloc (.cells Z 69)) (g1.later hb1) hen (fun hs => by have := g1.lt hs; omega) hnone hwf.1 hwf.2 (by omega))
    have q0 := b0.cell
    have hM1 : ¬ C2.S c2 (w1.heap.size + 2) := g1.noMark hM (fun _ _ _ h => by cases h) (fun _ _ h => by cases h)
    obtain ⟨r, hr⟩ := hR
    have hR1 : ¬ C2.S c2 (w1.heap.size + 2 + 1) := g1.noMark hr (fun _ _ _ h => by cases h) (fun _ _ h => by cases h)
    have l1 : w1.heap.size + 2 < W.heap.size := (Array.getElem?_eq_some_iff.1 hM).1
    have l2 : w1.heap.size + 2 + 1 < W.heap.size := (Array.getElem?_eq_some_iff.1 hr).1
    have hq : w1.heap.size < W.heap.size := by omega
    have hq2 : ¬ w1.heap.size = W.heap.size := by omega
    have hend : Hid (∀ w2, (∃ C', CP w2 c2 C' { s with l := s.l.take k ++ [(C.E (nx C.ks C.h k)).row] } ∧ Came (W.alloc (.cells Z 69)) c2 W.heap.size C2 C' (C.E (nx C.ks C.h k)).row w2) → TwoKept (w1.heap.size + 2) W w2 ∧ CI w c c2 s (k + 1) w1.heap.size (w1.heap.size + 1) w2) := by
      refine hid ?_
      rintro w2 ⟨C3, m1, m2⟩
      have hkeep : ∀ j, j < W.heap.size → ¬ C2.S c2 j → w2.heap[j]? = W.heap[j]? := fun j hj hS => (m2.fr.blk j (by simp; omega) (fun h => by rcases h with h | h; exact hS h; omega)).trans (hb1.block j hj)
      refine ⟨⟨hkeep _ l1 hM1, hkeep _ l2 hR1⟩, ⟨C3, ?_, by rw [m2.ks]; simp [g2], fun j hj => ?_⟩, (hkeep _ (by omega) (fun hs => (g3 _ hs).2.1 rfl)).trans b0, (hkeep _ (by omega) (fun hs => (g3 _ hs).2.2.1 rfl)).trans b1, ?_⟩
      · have e1 : s.l.take (k + 1) = s.l.take k ++ [(C.E (nx C.ks C.h k)).row] := by rw [List.take_add_one, List.getElem?_eq_getElem hkl, hrk]; rfl
        rw [e1]; exact m1
      · have : C2.S c2 j ∨ j = W.heap.size := by
          rcases hj with rfl | rfl | hj
          · exact Or.inl (Or.inl rfl)
          · exact Or.inl (Or.inr (Or.inl m2.m))
          · rw [m2.h, m2.ks] at hj
            simp only [List.mem_cons, List.mem_append, List.not_mem_nil, or_false] at hj
            rcases hj with h | h | h
            · exact Or.inl (Or.inr (Or.inr (by simp [h])))
            · exact Or.inl (Or.inr (Or.inr (by simp [h])))
            · exact Or.inr h
        rcases this with h | h
        · exact g3 j h
        · have := h5.size; exact ⟨by omega, by omega, by omega, by omega, by omega⟩
      · have hfr : Fr (fun _ => False) w w2 := ((Fr.of_below h5).trans (T := fun _ => False) (Fr.of_below hb1) (fun _ _ h => h)).trans m2.fr (fun j hj hs => by
          rcases hs with h | h
          · have := (g3 j h).1; omega
          · have := h5.size; omega)
        exact hfr.below
    clear h5 hc he hrk g1 g2 g3 b0 b1 hnone hwf hM hr hM1 hR1 hb1 hen hZ
    gi_wp2_with (first | ((with_reducible refine here_opIn 33 ?_); refine wpListIn_load_run rfl 69 (.tmp 32) rfl _ rfl _ hld ?_) | ((with_reducible refine here_opIn 5 ?_); refine wpListIn_alloc_run rfl 69 rfl _ _ (hb9 _) ?_) | ((with_reducible refine here_storeIn 69 ?_); refine wpListIn_store_run rfl 69 (.tmp 5) (.tmp 33) rfl _ rfl _ rfl _ hst ?_) | (refine ⟨trivial, ?_⟩; gi_at_call 49; refine (CallsIn.inRound l (callsIn_wide.2 kad.out)).mono ?_; rintro e w2 ⟨rfl, h0⟩; replace h0 := hid (hend.out w2 h0)))
    exact h0.out
  case done =>
    intro W hI hM
    have q0 := hI.b0.cell
    have HI := hid hI; have HM := hid hM
    clear hI hM
    gi_wp2
    refine ⟨by simp, .inl ⟨_, _, rfl, run_takeDeferred HM.out, ?_⟩⟩
    refine ⟨_, results_tmp rfl _ _ _, c2, rfl, ?_⟩
    have q := HI.out.put (l := W0.heap.size) (.deferred none) (by omega) (by omega) (by omega)
    obtain ⟨⟨C2, g1, g2, g3⟩, _, _, bl⟩ := q
    rw [List.take_of_length_le (by omega)] at g1
    exact ⟨C2, g1, fun j hj => (g3 j hj).1, g2, bl⟩
  case stop =>
    intro c W h _
    exact h.elim

end Go.Proofs.Ytebjjibgkjgpgaa
