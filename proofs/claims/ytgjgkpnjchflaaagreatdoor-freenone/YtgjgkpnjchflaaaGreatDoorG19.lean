/- A page comes, is used, goes; no statement of the seat is proved here. -/
import Derived.Test.YtgjgkpnjchflaaaGreatDoorG18
namespace Go.Proofs.YtgjgkpnjchflaaaGreatDoor.Cch
open Go.RowKit Go.Maps

def rowsOf (ks : List Nat) (E : Nat → Ent) : List Row := ks.map (fun b => (E b).row)
def pagesOf (ks : List Nat) (E : Nat → Ent) : List Int := ks.map (fun b => (E b).row.page)
theorem pages_rows (ks : List Nat) (E : Nat → Ent) : (rowsOf ks E).map Row.page = pagesOf ks E := by simp [rowsOf, pagesOf, Function.comp_def]
theorem rowsOf_congr {ks : List Nat} {E E' : Nat → Ent} (h : ∀ b ∈ ks, (E' b).row = (E b).row) : rowsOf ks E' = rowsOf ks E := List.map_congr_left h
theorem pagesOf_congr {ks : List Nat} {E E' : Nat → Ent} (h : ∀ b ∈ ks, (E' b).row = (E b).row) : pagesOf ks E' = pagesOf ks E := List.map_congr_left (fun b hb => by rw [h b hb])

theorem lk_iff {ks : List Nat} {E : Nat → Ent} (hn : (pagesOf ks E).Nodup) {k : Int} {b : Nat} : lk ks E k = some b ↔ b ∈ ks ∧ (E b).row.page = k := by
  constructor
  · intro h
    exact ⟨List.mem_of_find?_eq_some h, by have := List.find?_some h; simpa using this⟩
  · rintro ⟨hb, hp⟩
    induction ks with
    | nil => cases hb
    | cons x ks ih =>
      have hn2 := List.nodup_cons.1 hn
      unfold lk
      rw [List.find?_cons]
      rcases List.mem_cons.1 hb with rfl | hb
      · simp [hp]
      · have hxk : (E x).row.page ≠ k := fun hx => hn2.1 (by dsimp only; rw [hx, ← hp]; exact List.mem_map.2 ⟨b, hb, rfl⟩)
        have : ((E x).row.page == k) = false := by simpa using hxk
        rw [this]
        exact ih hn2.2 hb
theorem lk_ext {ks ks' : List Nat} {E E' : Nat → Ent} (hn : (pagesOf ks E).Nodup) (hn' : (pagesOf ks' E').Nodup) (hm : ∀ b, b ∈ ks ↔ b ∈ ks') (hr : ∀ b ∈ ks, (E' b).row = (E b).row) (k : Int) : lk ks E k = lk ks' E' k := by
  refine Option.ext fun b => ?_
  rw [lk_iff hn, lk_iff hn']
  constructor
  · rintro ⟨h1, h2⟩; exact ⟨(hm b).1 h1, by rw [hr b h1]; exact h2⟩
  · rintro ⟨h1, h2⟩; have h3 := (hm b).2 h1; exact ⟨h3, by rw [← hr b h3]; exact h2⟩

theorem CP.pn {w : World} {c : Nat} {C : Parts} {s : CS} (h : CP w c C s) : (pagesOf C.ks C.E).Nodup := by
  have := h.pg; rwa [h.ls, show (C.ks.map fun b => (C.E b).row) = rowsOf C.ks C.E from rfl, pages_rows] at this
theorem CP.mk' {w : World} {c : Nat} {C : Parts} {s : CS} (hd : w.heap[c]? = some (.cells (hdC C.m C.h s.room s.hit s.miss).toArray 130 (0, 0))) (mp : MapAt w C.m (lk C.ks C.E) C.ks.length) (rg : RingAt w C.h C.ks C.E) (ls : s.l = rowsOf C.ks C.E)
    (pn : (pagesOf C.ks C.E).Nodup) (wf : ∀ r ∈ s.l, (Lit.int .i64 r.page).wf = true ∧ 1 ≤ r.page) (rm : 1 ≤ s.room ∧ s.room ≤ 4096) : CP w c C s :=
  ⟨hd, mp, rg, ls, by rw [ls, pages_rows]; exact pn, wf, rm⟩

structure Came (w : World) (c e : Nat) (C C' : Parts) (x : Row) (w' : World) : Prop where
  m : C'.m = C.m
  h : C'.h = C.h
  ks : C'.ks = C.ks ++ [e]
  row : (C'.E e).row = x
  rows : ∀ b, b ≠ e → (C'.E b).row = (C.E b).row
  fr : Fr (fun k => C.S c k ∨ k = e) w w'

theorem add_cp (c e : Nat) (C : Parts) (s : CS) (x : Ent) (w : World) (h : CP w c C s) (hx : EntAt w e x) (he : ¬ C.S c e) (hk : lk C.ks C.E x.row.page = none) (hwf : (Lit.int .i64 x.row.page).wf = true) (h1 : 1 ≤ x.row.page) (hn : C.ks.length < 1000000) :
    Calls Tryz.prog 125 #[.pointer (some ⟨c, 0, none⟩), .pointer (some ⟨e, 0, none⟩)] w fun r w' => r = .returned (.tuple #[]) ∧ ∃ C', CP w' c C' { s with l := s.l ++ [x.row] } ∧ Came w c e C C' x.row w' := by
  obtain ⟨w1, hput, hm1, ht⟩ := (mapped_drew h.mp).put hwf hn e
  rw [hk] at hm1
  have hec : e ≠ c := fun h0 => he (Or.inl h0)
  have hem : e ≠ C.m := fun h0 => he (Or.inr (Or.inl h0))
  have her : e ∉ C.h :: C.ks := fun h0 => he (Or.inr (Or.inr h0))
  have hb : ∀ k, k ≠ C.m → k < w.heap.size → w1.heap[k]? = w.heap[k]? := fun k hk hl => turned_cell ht hk hl
  have hr1 : RingAt w1 C.h C.ks C.E := h.rg.stay (fun b hbm => hb b (fun h0 => h.nm (h0 ▸ hbm)) (h.rg.en b hbm).lt)
  have hx1 : EntAt w1 e x := hx.stay (hb e hem hx.lt)
  have hc1 : w1.cell? ⟨c, 2, none⟩ = some (.pointer (some ⟨C.h, 0, none⟩)) := (World.cell?_of_block (hb c h.mc.symm h.clt)).trans h.c2
  refine add_raw c C.m e x.row.page w w1 _ h.c1 hx.page hput ((link_ring c C.h e C.ks C.E w1 hr1 her x hx1 hc1).mono ?_)
  rintro r w' ⟨rfl, E', g1, g2, g3, g4⟩
  have hrows : ∀ b ∈ C.ks, (E' b).row = (C.E b).row := fun b hb => g3 b (fun h0 => her (by rw [← h0]; simp [hb]))
  have hpn : (pagesOf (C.ks ++ [e]) E').Nodup := by
    have e1 : pagesOf (C.ks ++ [e]) E' = pagesOf C.ks C.E ++ [x.row.page] := by
      have := pagesOf_congr hrows
      simp only [pagesOf] at this ⊢
      simp [this, g2]
    rw [e1]
    refine List.nodup_append.2 ⟨h.pn, by simp, fun a ha b hb => ?_⟩
    simp at hb; subst hb
    rintro rfl
    obtain ⟨y, hy, hyp⟩ := List.mem_map.1 ha
    exact lk_none hk y hy hyp
  have hfr : Fr (fun k => C.S c k ∨ k = e) w w' := by
    refine (((Fr.refl _ w).drew).turned ht (Or.inl (Or.inr (Or.inl rfl)))).trans g4 ?_
    intro j _ hj
    simp only [List.mem_cons, List.mem_append, List.not_mem_nil, or_false] at hj
    rcases hj with h | h | h
    · exact Or.inl (Or.inr (Or.inr (by simp [h])))
    · exact Or.inl (Or.inr (Or.inr (by simp [h])))
    · exact Or.inr h
  have hsz1 : w.heap.size ≤ w1.heap.size := ht.grown.size
  have hcn : c ∉ C.h :: (C.ks ++ [e]) := by
    intro hm
    simp only [List.mem_cons, List.mem_append, List.not_mem_nil, or_false] at hm
    rcases hm with h0 | h0 | h0
    · exact h.nc (by simp [h0])
    · exact h.nc (by simp [h0])
    · exact hec h0.symm
  have hmn : C.m ∉ C.h :: (C.ks ++ [e]) := by
    intro hm
    simp only [List.mem_cons, List.mem_append, List.not_mem_nil, or_false] at hm
    rcases hm with h0 | h0 | h0
    · exact h.nm (by simp [h0])
    · exact h.nm (by simp [h0])
    · exact hem h0.symm
  refine ⟨rfl, ⟨C.m, C.h, C.ks ++ [e], E'⟩, CP.mk' ?_ ?_ g1 ?_ hpn ?_ h.rm, ⟨rfl, rfl, rfl, g2, g3, hfr⟩⟩
  · exact (g4.blk c (Nat.lt_of_lt_of_le h.clt hsz1) hcn).trans ((hb c h.mc.symm h.clt).trans h.hd)
  · refine MapAt.imp (hm1.stay (g4.blk C.m (Nat.lt_of_lt_of_le h.mp.lt hsz1) hmn)) (by simp) (fun k _ => ?_)
    refine Option.ext fun b => ?_
    rw [lk_iff hpn]
    by_cases hkk : k = x.row.page
    · subst hkk
      rw [if_pos rfl]
      simp only [Option.some.injEq, List.mem_append, List.mem_singleton]
      constructor
      · rintro rfl; exact ⟨Or.inr rfl, by rw [g2]⟩
      · rintro ⟨h1 | h1, h2⟩
        · exfalso; rw [hrows b h1] at h2; exact lk_none hk b h1 h2
        · exact h1.symm
    · rw [if_neg hkk, lk_iff h.pn]
      simp only [List.mem_append, List.mem_singleton]
      constructor
      · rintro ⟨h1, h2⟩; exact ⟨Or.inl h1, by rw [hrows b h1]; exact h2⟩
      · rintro ⟨h1 | h1, h2⟩
        · exact ⟨h1, by rw [← hrows b h1]; exact h2⟩
        · exfalso; subst h1; rw [g2] at h2; exact hkk h2.symm
  · have := rowsOf_congr hrows
    simp only [rowsOf] at this ⊢
    simp [this, g2, h.ls]
  · intro r hr
    rcases List.mem_append.1 hr with hr | hr
    · exact h.wf r hr
    · simp at hr; subst hr; exact ⟨hwf, h1⟩

structure Went (w : World) (c e : Nat) (xs ys : List Nat) (C C' : Parts) (w' : World) : Prop where
  m : C'.m = C.m
  h : C'.h = C.h
  ks : C'.ks = xs ++ ys
  rows : ∀ b, (C'.E b).row = (C.E b).row
  aft : ∀ b ∈ ys, (C'.E b).aft = (C.E b).aft
  en : EntAt w' e (C.E e)
  fr : Fr (C.S c) w w'

theorem remove_cp (c e : Nat) (xs ys : List Nat) (C : Parts) (s : CS) (w : World) (h : CP w c C s) (hks : C.ks = xs ++ e :: ys) :
    Calls Tryz.prog 121 #[.pointer (some ⟨c, 0, none⟩), .pointer (some ⟨e, 0, none⟩)] w fun r w' => r = .returned (.tuple #[]) ∧ ∃ C', CP w' c C' { s with l := rowsOf (xs ++ ys) C.E } ∧ Went w c e xs ys C C' w' := by
  have hem : e ∈ C.h :: C.ks := by rw [hks]; simp
  have hee := h.rg.en e hem
  have hwe := h.wf (C.E e).row (by rw [h.ls]; exact List.mem_map.2 ⟨e, by rw [hks]; simp, rfl⟩)
  obtain ⟨w1, hdel, hm1, ht⟩ := (mapped_drew h.mp).del hwe.1 4
  have hdel' : ∀ ty, (Builtin.delete_ #[126, 3] ty #[.map (some C.m), .int .i64 (C.E e).row.page]).run Tryz.prog w.drew = .ok (.tuple #[]) w1 := fun ty => hdel
  have hlk : lk C.ks C.E (C.E e).row.page = some e := (lk_iff h.pn).2 ⟨by rw [hks]; simp, rfl⟩
  rw [hlk] at hm1
  have hb : ∀ k, k ≠ C.m → k < w.heap.size → w1.heap[k]? = w.heap[k]? := fun k hk hl => turned_cell ht hk hl
  have hr1 : RingAt w1 C.h C.ks C.E := h.rg.stay (fun b hbm => hb b (fun h0 => h.nm (h0 ▸ hbm)) (h.rg.en b hbm).lt)
  rw [hks] at hr1
  refine remove_raw c C.m e (C.E e).row.page w w1 _ h.c1 hee.page hdel' ((unlink_ring C.h e xs ys C.E w1 hr1).mono ?_)
  rintro r w' ⟨rfl, E', g1, g2, g3, g4, g5⟩
  have hsz1 : w.heap.size ≤ w1.heap.size := ht.grown.size
  have hsub : ∀ b, b ∈ C.h :: (xs ++ ys) → b ∈ C.h :: C.ks := by
    intro b hb
    rw [hks]
    simp only [List.mem_cons, List.mem_append] at hb ⊢
    rcases hb with h | h | h <;> simp [h]
  have hpn : (pagesOf (xs ++ ys) E').Nodup := by
    rw [pagesOf_congr (fun b _ => g3 b)]
    have := h.pn
    rw [hks] at this
    simp only [pagesOf, List.map_append, List.map_cons] at this ⊢
    have n1 := List.nodup_append.1 this
    exact List.nodup_append.2 ⟨n1.1, (List.nodup_cons.1 n1.2.1).2, fun a ha b hb => n1.2.2 a ha b (by simp [hb])⟩
  have hfr : Fr (C.S c) w w' := (((Fr.refl _ w).drew).turned ht (Or.inr (Or.inl rfl))).trans g5 (fun j _ hj => Or.inr (Or.inr (hsub j hj)))
  refine ⟨rfl, ⟨C.m, C.h, xs ++ ys, E'⟩, CP.mk' ?_ ?_ g1 ?_ hpn ?_ h.rm, ⟨rfl, rfl, rfl, g3, g4, g2, hfr⟩⟩
  · exact (g5.blk c (Nat.lt_of_lt_of_le h.clt hsz1) (fun hm => h.nc (hsub c hm))).trans ((hb c h.mc.symm h.clt).trans h.hd)
  · refine MapAt.imp (hm1.stay (g5.blk C.m (Nat.lt_of_lt_of_le h.mp.lt hsz1) (fun hm => h.nm (hsub _ hm)))) (by rw [hks]; simp) (fun k _ => ?_)
    refine Option.ext fun b => ?_
    rw [lk_iff hpn]
    have hne : e ∉ xs ++ ys := by
      have := (List.nodup_cons.1 h.rg.nd).2
      rw [hks] at this
      have n1 := List.nodup_append.1 this
      intro hm
      rcases List.mem_append.1 hm with h0 | h0
      · exact n1.2.2 e h0 e (by simp) rfl
      · exact (List.nodup_cons.1 n1.2.1).1 h0
    by_cases hkk : k = (C.E e).row.page
    · subst hkk
      rw [if_pos rfl]
      constructor
      · intro h0; cases h0
      · rintro ⟨h1, h2⟩
        exfalso
        rw [g3 b] at h2
        have : lk C.ks C.E (C.E e).row.page = some b := (lk_iff h.pn).2 ⟨by
          have := hsub b (List.mem_cons_of_mem _ h1)
          rcases List.mem_cons.1 this with h3 | h3
          · exfalso
            have n2 := (List.nodup_cons.1 g1.nd).1
            exact n2 (h3 ▸ h1)
          · exact h3, h2⟩
        rw [hlk] at this
        cases this
        exact hne h1
    · rw [if_neg hkk, lk_iff h.pn, hks]
      constructor
      · rintro ⟨h1, h2⟩
        refine ⟨?_, by rw [g3 b]; exact h2⟩
        simp only [List.mem_append, List.mem_cons] at h1 ⊢
        rcases h1 with h0 | h0 | h0
        · exact Or.inl h0
        · exfalso; subst h0; exact hkk h2.symm
        · exact Or.inr h0
      · rintro ⟨h1, h2⟩
        refine ⟨?_, by rw [← g3 b]; exact h2⟩
        simp only [List.mem_append, List.mem_cons] at h1 ⊢
        rcases h1 with h0 | h0 <;> simp [h0]
  · exact (rowsOf_congr (fun b _ => g3 b)).symm
  · intro r hr
    refine h.wf r ?_
    rw [h.ls, hks]
    obtain ⟨b, hb, rfl⟩ := List.mem_map.1 hr
    refine List.mem_map.2 ⟨b, ?_, rfl⟩
    simp only [List.mem_append, List.mem_cons] at hb ⊢
    rcases hb with h0 | h0 <;> simp [h0]

theorem use_cp (c e : Nat) (xs ys : List Nat) (C : Parts) (s : CS) (w : World) (h : CP w c C s) (hks : C.ks = xs ++ e :: ys) :
    Calls Tryz.prog 126 #[.pointer (some ⟨c, 0, none⟩), .pointer (some ⟨e, 0, none⟩)] w fun r w' => r = .returned (.tuple #[]) ∧ ∃ C', CP w' c C' { s with l := rowsOf (xs ++ ys ++ [e]) C.E } ∧ C'.m = C.m ∧ C'.h = C.h ∧ C'.ks = xs ++ ys ++ [e] ∧ (∀ b, (C'.E b).row = (C.E b).row) ∧ Fr (C.S c) w w' := by
  have hr1 := h.rg
  have hcn := h.nc
  rw [hks] at hr1 hcn
  refine (use_ring c C.h e xs ys C.E w hr1 (by rw [h.hd]; rfl) hcn h.c2).mono ?_
  rintro r w' ⟨rfl, E', g1, g3, g5⟩
  have hmem : ∀ b, b ∈ C.ks ↔ b ∈ xs ++ ys ++ [e] := fun b => by
    rw [hks]; simp only [List.mem_append, List.mem_cons, List.not_mem_nil, or_false]
    constructor
    · rintro (h | h | h) <;> simp [h]
    · rintro ((h | h) | h) <;> simp [h]
  have hpn : (pagesOf (xs ++ ys ++ [e]) E').Nodup := by
    rw [pagesOf_congr (fun b _ => g3 b)]
    have h1 := h.pn
    rw [hks] at h1
    refine (List.Perm.nodup_iff ?_).1 h1
    refine List.Perm.map _ ?_
    rw [List.append_assoc]
    exact List.Perm.append_left _ (List.perm_append_singleton e ys).symm
  rw [show (xs ++ e :: ys) = C.ks from hks.symm] at g5
  have hfr : Fr (C.S c) w w' := g5.imp (fun j _ hj => Or.inr (Or.inr hj))
  refine ⟨rfl, ⟨C.m, C.h, xs ++ ys ++ [e], E'⟩, CP.mk' ?_ ?_ g1 ?_ hpn ?_ h.rm, rfl, rfl, rfl, g3, hfr⟩
  · exact (g5.blk c h.clt h.nc).trans h.hd
  · exact MapAt.imp (h.mp.stay (g5.blk C.m h.mp.lt h.nm)) (by rw [hks]; simp) (fun k _ => lk_ext h.pn hpn hmem (fun b _ => g3 b) k)
  · exact (rowsOf_congr (fun b _ => g3 b)).symm
  · intro r hr
    refine h.wf r ?_
    rw [h.ls]
    obtain ⟨b, hb, rfl⟩ := List.mem_map.1 hr
    exact List.mem_map.2 ⟨b, (hmem b).2 hb, rfl⟩

end Go.Proofs.YtgjgkpnjchflaaaGreatDoor.Cch

/- A new cache; no statement of the seat is proved here. -/
namespace Go.Proofs.YtgjgkpnjchflaaaGreatDoor.Cch
open Go.RowKit Go.Maps

def zeroR (k : Int) : Row := ⟨k, List.replicate 512 0, 0, false⟩
def zeroE (k : Int) : Ent := ⟨zeroR k, none, none⟩

theorem wpList_build1_run {P : Program} {ops : Array Oper} {rest : List Oper} {o : Oper} {a : Act} {w : World} {Q : Exit → Act → World → Prop} (hgd : o.guard = none) (ty : TypeId) (x : Operand) (ho : o.op = .build ty #[(0, x)]) (u v : Value) (hx : a.eval x = u)
    (hrun : (Instr.build ty #[(0, u)]).run P w = .ok v w) (h : wpList P ops Q rest (a.put o.dst v) w) : wpList P ops Q (o :: rest) a w := by
  refine wpList_plain hgd fun K hK => ?_
  unfold Oper.wp
  simp [execOp, ho, hx, hrun, Result.andThen]
  exact hK _ _ h

theorem build69 (W : World) : (Instr.build 162 #[]).run Tryz.prog W = .ok (.agg (cellsE (zeroE 0)).toArray) W := by kernel_rfl
theorem build69p (k : Int) (W : World) : (Instr.build 162 #[(0, .int .i64 k)]).run Tryz.prog W = .ok (.agg (cellsE (zeroE k)).toArray) W := by kernel_rfl
theorem box69 (Z : Array Value) (W : World) : (Instr.box 162 (.agg Z)).run Tryz.prog W = .ok (.pointer (some ⟨W.heap.size, 0, none⟩)) (W.alloc (.cells Z 162)) := rfl

theorem ent_new (w : World) (k : Int) : EntAt (w.alloc (.cells (cellsE (zeroE k)).toArray 162)) w.heap.size (zeroE k) := ⟨heap_alloc_new w _, List.length_replicate⟩

set_option maxHeartbeats 1000000 in
theorem ring_any (w : World) : Calls Tryz.prog 76 #[] w fun e w' => e = .returned (.pointer (some ⟨w.heap.size, 0, none⟩)) ∧ w' = ((w.alloc (.cells (cellsE (zeroE 0)).toArray 162)).setCell ⟨w.heap.size, 515, none⟩ (.pointer (some ⟨w.heap.size, 0, none⟩))).setCell ⟨w.heap.size, 516, none⟩ (.pointer (some ⟨w.heap.size, 0, none⟩)) := by
  obtain ⟨Z, hZ⟩ : ∃ Z, Z = (cellsE (zeroE 0)).toArray := ⟨_, rfl⟩
  have hb := build69
  have he := ent_new w 0
  rw [← hZ] at hb ⊢
  obtain ⟨W, hW⟩ : ∃ W, W = w.alloc (.cells Z 162) := ⟨_, rfl⟩
  rw [← hZ, ← hW] at he
  have c1 := he.bef; have c2 := he.aft; have f1 := he.frozen 515; have f2 := he.frozen 516
  have hx : (Instr.box 162 (.agg Z)).run Tryz.prog w = .ok (.pointer (some ⟨w.heap.size, 0, none⟩)) W := hW ▸ box69 Z w
  have HW := hid hW
  clear he hZ
  rw [← hW]
  clear hW
  go_enter Tryz.func76, Tryz.ntmps76
  go_wp2_with (first | ((with_reducible refine here_op 2 ?_); refine wpList_build_run rfl 162 rfl _ (hb _) ?_) | ((with_reducible refine here_op 3 ?_); refine wpList_box_run rfl 162 (.tmp 2) rfl _ _ rfl _ hx ?_))
  go_ret
  exact ⟨rfl, rfl⟩

set_option maxHeartbeats 1000000 in
theorem new_no (r : Int) (w : World) (hr : r < 1 ∨ 4096 < r) : Calls Tryz.prog 41 #[.int .i64 r] w fun e w' => e = .returned (.pointer none) ∧ w' = w := by
  rcases Int.lt_or_le r 1 with h1 | h1
  · clear hr
    go_enter Tryz.func41, Tryz.ntmps41
    go_wp2
    go_ret
    exact ⟨rfl, rfl⟩
  · have h2 : 4096 < r := by omega
    have h3 : ¬ r < 1 := by omega
    clear hr
    go_enter Tryz.func41, Tryz.ntmps41
    go_wp2
    go_ret
    exact ⟨rfl, rfl⟩

theorem ring_world (w : World) : ∃ E, RingAt (((w.alloc (.cells (cellsE (zeroE 0)).toArray 162)).setCell ⟨w.heap.size, 515, none⟩ (.pointer (some ⟨w.heap.size, 0, none⟩))).setCell ⟨w.heap.size, 516, none⟩ (.pointer (some ⟨w.heap.size, 0, none⟩))) w.heap.size [] E := by
  have h1 := ((ent_new w 0).setBef w.heap.size).setAft w.heap.size
  refine ⟨fun _ => ((zeroE 0).wBef w.heap.size).wAft w.heap.size, fun b hb => ?_, ⟨rfl, rfl, trivial⟩, by simp⟩
  simp at hb
  subst hb
  exact h1

set_option maxHeartbeats 1000000 in
theorem new_raw (r : Nat) (w : World) (h1 : 1 ≤ r) (h2 : r ≤ 4096) (w1 : World) (h : Nat) (k : Calls Tryz.prog 76 #[] (w.alloc (.map #[] 0)) fun e w' => e = .returned (.pointer (some ⟨h, 0, none⟩)) ∧ w' = w1) :
    Calls Tryz.prog 41 #[.int .i64 (r : Int)] w fun e w' => e = .returned (.pointer (some ⟨w1.heap.size, 0, none⟩)) ∧ w' = w1.alloc (.cells (hdC w.heap.size h r 0 0).toArray 130) := by
  have hm := @run_makeMap Tryz.prog
  have h3 : ¬ (r : Int) < 1 := by omega
  have h4 : ¬ (4096 : Int) < (r : Int) := by omega
  have k1 := hid k
  clear k
  go_enter Tryz.func41, Tryz.ntmps41
  go_wp2_with (go_at_call 76; refine k1.out.mono ?_; rintro e w2 ⟨rfl, h0⟩; obtain rfl := h0.symm)
  go_ret
  exact ⟨rfl, rfl⟩

theorem new_yes (r : Nat) (w : World) (h1 : 1 ≤ r) (h2 : r ≤ 4096) :
    Calls Tryz.prog 41 #[.int .i64 (r : Int)] w fun e w' => ∃ c, e = .returned (.pointer (some ⟨c, 0, none⟩)) ∧ ∃ C, CP w' c C ⟨r, [], 0, 0⟩ ∧ C.ks = [] ∧ (∀ k, C.S c k → w.heap.size ≤ k) ∧ Below w.heap.size w w' := by
  have k := ring_any (w.alloc (.map #[] 0))
  obtain ⟨W, hW⟩ : ∃ W, W = w.alloc (.map #[] 0) := ⟨_, rfl⟩
  have hWs : W.heap.size = w.heap.size + 1 := by rw [hW]; simp
  have hWm : MapAt W w.heap.size (fun _ => none) 0 := hW ▸ MapAt.new w
  have hWb : Below w.heap.size w W := hW ▸ (Below.refl _ w).alloc (Nat.le_refl _) _
  obtain ⟨E, hE⟩ := ring_world W
  rw [← hW] at k
  obtain ⟨w1, hw1⟩ : ∃ w1, w1 = ((W.alloc (.cells (cellsE (zeroE 0)).toArray 162)).setCell ⟨W.heap.size, 515, none⟩ (.pointer (some ⟨W.heap.size, 0, none⟩))).setCell ⟨W.heap.size, 516, none⟩ (.pointer (some ⟨W.heap.size, 0, none⟩)) := ⟨_, rfl⟩
  rw [← hw1] at hE k
  have hb1 : Below W.heap.size W w1 := by
    rw [hw1]
    exact (((Below.refl _ W).alloc (Nat.le_refl _) _).setCell (p := ⟨W.heap.size, 515, none⟩) (Nat.le_refl _) _).setCell (p := ⟨W.heap.size, 516, none⟩) (Nat.le_refl _) _
  have hs1 : w1.heap.size = W.heap.size + 1 := by rw [hw1]; simp
  clear hw1
  rw [hW] at k
  refine (new_raw r w h1 h2 w1 _ k).mono ?_
  rintro e w' ⟨rfl, rfl⟩
  rw [← hW]
  have hb2 : Below w1.heap.size w1 (w1.alloc (.cells (hdC w.heap.size W.heap.size r 0 0).toArray 130)) := (Below.refl _ w1).alloc (Nat.le_refl _) _
  refine ⟨w1.heap.size, rfl, ⟨w.heap.size, W.heap.size, [], E⟩, CP.mk' (heap_alloc_new w1 _) ?_ (hE.stay (fun b hb => hb2.block b (hE.en b hb).lt)) rfl List.nodup_nil (fun r hr => by cases hr) ⟨h1, h2⟩, rfl, ?_, gt (gt hWb hb1) hb2⟩
  · exact (hWm.stay (hb1.block _ hWm.lt)).stay (hb2.block _ (by rw [hs1]; have := hWm.lt; omega))
  · rintro k (rfl | rfl | hk)
    · omega
    · exact Nat.le_refl _
    · simp at hk; subst hk; show _ ≤ W.heap.size; omega

end Go.Proofs.YtgjgkpnjchflaaaGreatDoor.Cch
