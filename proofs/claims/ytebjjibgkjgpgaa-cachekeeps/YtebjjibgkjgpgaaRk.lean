/- The document's cache: Get; no statement of the seat is proved here. -/
import Derived.Test.YtebjjibgkjgpgaaRj
namespace Go.Proofs.Ytebjjibgkjgpgaa
open Go.RowKit Go.Maps

theorem src_drew {w : World} {ao : Option Addr} {m c : Nat} {ps : List (Row × RB)} (h : Src4 w ao m c ps) : Src4 w.drew ao m c ps := ⟨h.len, h.no, h.at_⟩
theorem src_later {w w' : World} {ao : Option Addr} {m c : Nat} {ps : List (Row × RB)} (h : Src4 w ao m c ps) (hb : Below w.heap.size w w') : Src4 w' ao m c ps := ⟨h.len, h.no, fun ad ha j u hu => keep_old hb (h.at_ ad ha j u hu)⟩

/-- The counters turn. -/
theorem RP.hits {w : World} {m i : Nat} {R : RParts} {s : CS} (h : RP w m R s) (hit miss : Nat) (v : Value) (hv : (hdR s.room R.ao R.ps.length R.cap s.hit s.miss).set i v = hdR s.room R.ao R.ps.length R.cap hit miss) :
    RP (w.setCell ⟨m, i, none⟩ v) m R { s with hit := hit, miss := miss } := by
  have hne : ∀ {a : Addr} {n c sz : Nat} {ao : Option Addr} {e : TypeId} {xs : List Value}, w.ownsRow 0 e sz (.slice ao n c) n xs → e ≠ 63 → ao = some a → a.block ≠ m := fun hr he ha h0 => by
    obtain ⟨cur, hg, _⟩ := row4_blk hr ha
    rw [h0, h.hd] at hg
    simp only [Option.some.injEq, Obj.cells.injEq] at hg
    exact he hg.2.1.symm
  refine ⟨by rw [blk_set h.hd, hv], row4_stay h.row (fun a ha => set_heap _ _ _ _ _ (hne h.row (by decide) ha)), fun p hp => row4_stay (h.by_ p hp) (fun a ha => set_heap _ _ _ _ _ (hne (h.by_ p hp) (by decide) ha)), h.ls⟩

/-- One row more, behind an append. -/
theorem rp_append {w w5 : World} {m : Nat} {R : RParts} {s : CS} {q : Row × RB} {a2 : Option Addr} {c2 : Nat} (h : RP w m R s) (ho : w5.ownsRow 0 81 4 (.slice a2 (R.ps.length + 1) c2) (R.ps.length + 1) (rvs (R.ps ++ [q])))
    (hg : w.grownBy w5 (Value.slice R.ao R.ps.length R.cap).ownBlock) (hat : ∀ a, a2 = some a → ((Value.slice R.ao R.ps.length R.cap).ownBlock = some a.block ∨ a.block = w.heap.size)) (hq : w.ownsRow 0 5 1 (.slice q.2.bo 512 q.2.bc) 512 (bs q.1.bytes)) :
    RStep w (w5.setCell ⟨m, 1, none⟩ (.slice a2 (R.ps.length + 1) c2)) m R ⟨a2, c2, R.ps ++ [q]⟩ { s with l := s.l ++ [q.1] } ∧ w5.cell? ⟨m, 1, none⟩ = some (.slice R.ao R.ps.length R.cap) ∧ w5.frozen? ⟨m, 1, none⟩ = false := by
  have hmne : some m ≠ (Value.slice R.ao R.ps.length R.cap).ownBlock := fun h0 => by
    obtain ⟨a, ha, hb⟩ := slice_own4 h0.symm
    obtain ⟨cur, hgb, _⟩ := row4_blk h.row ha
    rw [hb, h.hd] at hgb
    simp at hgb
  have hm5 : w5.heap[m]? = w.heap[m]? := hg.block m h.mlt hmne
  have hhd := hm5.trans h.hd
  have hm1 : ∀ a, a2 = some a → a.block ≠ m := fun a ha h0 => by
    rcases hat a ha with h1 | h1
    · exact hmne (by rw [← h0, h1])
    · have := h.mlt; omega
  have hby : ∀ p, w.ownsRow 0 5 1 (.slice p.2.bo 512 p.2.bc) 512 (bs (p : Row × RB).1.bytes) → (w5.setCell ⟨m, 1, none⟩ (.slice a2 (R.ps.length + 1) c2)).ownsRow 0 5 1 (.slice p.2.bo 512 p.2.bc) 512 (bs p.1.bytes) := fun p hp => by
    refine row4_stay hp (fun a ha => ?_)
    obtain ⟨cur, hgb, _⟩ := row4_blk hp ha
    refine (set_heap _ _ _ _ _ (fun h0 => ?_)).trans (hg.block _ (row4_lt hp ha) (fun h0 => ?_))
    · rw [h0, h.hd] at hgb; simp at hgb
    · obtain ⟨a', ha', hb'⟩ := slice_own4 h0.symm
      obtain ⟨cur', hgb', _⟩ := row4_blk h.row ha'
      rw [hb', hgb] at hgb'
      simp at hgb'
  refine ⟨⟨⟨?_, ?_, fun p hp => ?_, ?_⟩, ?_, fun k hk => ?_⟩, ?_, ?_⟩
  · have q1 := blk_set (i := 1) (v := .slice a2 (R.ps.length + 1) c2) hhd
    simp only [List.length_append, List.length_cons, List.length_nil, Nat.zero_add]
    exact q1
  · simp only [List.length_append, List.length_cons, List.length_nil, Nat.zero_add]
    exact row4_stay ho (fun a ha => set_heap _ _ _ _ _ (hm1 a ha))
  · rcases List.mem_append.1 hp with h1 | h1
    · exact hby p (h.by_ p h1)
    · simp at h1; subst h1; exact hby _ hq
  · simp [h.ls]
  · have hf : Fr (R.S m) w w5 := ⟨hg.os, hg.tape, hg.output, hg.size, fun k hk hS => hg.block k hk (fun h0 => hS (by obtain ⟨a, ha, hb⟩ := slice_own4 h0.symm; exact Or.inr ⟨a, ha, hb⟩))⟩
    exact hf.set (Or.inl (Or.inl rfl)) _
  · rcases hk with rfl | ⟨a, ha, rfl⟩
    · exact Or.inl (Or.inl rfl)
    · rcases hat a ha with h1 | h1
      · obtain ⟨a', ha', hb'⟩ := slice_own4 h1
        exact Or.inl (Or.inr ⟨a', ha', hb'⟩)
      · exact Or.inr (by omega)
  · exact (World.cell?_of_block hm5).trans h.c1
  · exact hd_frozen hhd 1

/-- A block that holds a row of its own stays behind an append to another. -/
theorem rb_kept {w w5 : World} {m rb : Nat} {R : RParts} {s : CS} {cs : Array Value} (_ : RP w m R s) (hg : w.grownBy w5 (Value.slice R.ao R.ps.length R.cap).ownBlock) (hb : w.heap[rb]? = some (.cells cs 81 (0, 0))) (hS : ¬ R.S m rb) : w5.heap[rb]? = some (.cells cs 81 (0, 0)) :=
  (hg.block rb (Array.getElem?_eq_some_iff.1 hb).1 (fun h0 => hS (by obtain ⟨a, ha, hb'⟩ := slice_own4 h0.symm; exact Or.inr ⟨a, ha, hb'⟩))).trans hb

theorem RStep.trans {w w1 w2 : World} {m : Nat} {R R1 R2 : RParts} {s1 s2 : CS} (h : RStep w w1 m R R1 s1) (k : RStep w1 w2 m R1 R2 s2) : RStep w w2 m R R2 s2 := by
  refine ⟨k.rp, h.fr.trans k.fr (fun j hj hS => ?_), fun j hj => ?_⟩
  · rcases h.gr j hS with h1 | h1
    · exact h1
    · omega
  · rcases k.gr j hj with h1 | h1
    · exact h.gr j h1
    · have := h.fr.size; exact Or.inr (by omega)
theorem RStep.and_later {w w1 w2 : World} {m : Nat} {R R1 : RParts} {s1 : CS} (h : RStep w w1 m R R1 s1) (hb : Below w1.heap.size w1 w2) : RStep w w2 m R R1 s1 := h.trans (RStep.later h.rp hb)

/-- What the last region of Get reads. -/
def GS (m rb : Nat) (v : Value) (q : Row × RB) (W : World) : Prop := W.cell? ⟨m, 1, none⟩ = some v ∧ W.heap[rb]? = some (.cells (rv q).toArray 81 (0, 0))
theorem GS.keep {m rb : Nat} {v : Value} {q : Row × RB} {W W' : World} (h : GS m rb v q W) (hb : Below W.heap.size W W') : GS m rb v q W' := ⟨keep_old hb h.1, (hb.block _ (Array.getElem?_eq_some_iff.1 h.2).1).trans h.2⟩
theorem GS.cells {m rb : Nat} {v : Value} {q : Row × RB} {W : World} (h : GS m rb v q W) : W.cell? ⟨rb, 0, none⟩ = some (.int .i64 q.1.page) ∧ W.cell? ⟨rb, 1, none⟩ = some (.slice q.2.bo 512 q.2.bc) ∧ W.cell? ⟨rb, 2, none⟩ = some (.int .i64 (q.1.pins : Int)) ∧ W.cell? ⟨rb, 3, none⟩ = some (.bool q.1.dirty) :=
  ⟨hd_cell h.2 0, hd_cell h.2 1, hd_cell h.2 2, hd_cell h.2 3⟩

theorem get_idx {s : CS} {k : Int} {i : Nat} (ho : idx s.l k = some i) (hnd : (s.l.map Row.page).Nodup) : ∃ h : i < s.l.length, s.get k = { s with l := s.l.eraseIdx i ++ [s.l[i]], hit := s.hit + 1 } := by
  obtain ⟨h1, h2⟩ := find_some_idx ho
  refine ⟨h1, ?_⟩
  unfold CS.get
  rw [h2, others_idx ho hnd]

set_option maxRecDepth 20000 in
set_option maxHeartbeats 4000000 in
theorem rget_call (m : Nat) (R : RParts) (s : CS) (k : Int) (w : World) (h : RP w m R s) (hn : R.ps.length < 1000000) (hnd : (s.l.map Row.page).Nodup) (hh : s.hit ≤ 1000000) (hm : s.miss ≤ 1000000) :
    Calls Try.prog 33 #[.pointer (some ⟨m, 0, none⟩), .int .i64 k] w fun e w' => Bytes (s.peek k) w.heap.size w' e ∧ ∃ R', RStep w w' m R R' (s.get k) := by
  have k1 := hid (rfind_any m R s k w h (by omega))
  cases ho : idx s.l k with
  | none =>
    rw [ho] at k1
    have c3 := h.c3
    have f3 := hd_frozen h.hd 3
    have hml := h.mlt
    have e1 : s.peek k = none := by unfold CS.peek; rw [find_none_idx ho]; rfl
    have e2 : s.get k = { s with miss := s.miss + 1 } := by unfold CS.get; rw [find_none_idx ho]
    have hw : IntKind.i64.wrap ((s.miss : Int) + 1) = ((s.miss + 1 : Nat) : Int) := by rw [IntWalk.i64_in _ ⟨by omega, by omega⟩]; omega
    have hend : Hid (∀ w1, Below w.heap.size w w1 → ∃ R', RStep w (w1.setCell ⟨m, 3, none⟩ (.int .i64 ((s.miss + 1 : Nat) : Int))) m R R' { s with miss := s.miss + 1 }) :=
      hid (fun w1 hb => ⟨R, (h.later hb).hits s.hit (s.miss + 1) _ rfl, (Fr.of_below hb).set (Or.inl (Or.inl rfl)) _, fun _ h => Or.inl h⟩)
    rw [e1, e2]
    clear h e1 e2 hh hm
    go_enter Try.func33, Try.ntmps33
    go_wp2_with (go_at_call 57; refine k1.out.mono ?_; rintro e w1 ⟨rfl, h1⟩; have z3 := keep_old h1 c3; have g3 := (keep_frozen h1 (a := ⟨m, 3, none⟩) hml).trans f3; have H1 := hid h1; clear h1; simp only [idV])
    go_ret2
    exact ⟨rfl, hend.out w1 H1.out⟩
  | some i =>
    rw [ho] at k1
    have c1 := h.c1; have c2 := h.c2
    have f2 := hd_frozen h.hd 2
    have hml := h.mlt
    obtain ⟨g, cap, ps, rfl, hi, hi2, hrow, hcap, hgm, hgl, y0, y1, y2, y3, fz⟩ := h.at_ ho
    have hby := h.by_ ps[i] (List.getElem_mem hi)
    obtain ⟨n, hnn⟩ : ∃ n, n = ps.length := ⟨_, rfl⟩
    simp only at c1 y0 y1 y2 y3 hn
    obtain ⟨_, e2⟩ := get_idx ho hnd
    have e1 : s.peek k = some ps[i].1.bytes := by unfold CS.peek; obtain ⟨_, q⟩ := find_some_idx ho; rw [q, hrow]; rfl
    rw [← hrow] at e2
    rw [e1, e2]
    obtain ⟨q, hq⟩ : ∃ q, q = ps[i] := ⟨_, rfl⟩
    rw [← hq] at y0 y1 y2 y3 hby ⊢
    rw [← hnn] at c1 hcap hn
    have hin : i < n := by omega
    have hi1 : (i : Int) < (n : Int) := by omega
    have hi0 : ¬ (i : Int) < 0 := by omega
    have hgm' : ¬ g = m := hgm
    have hmg' : ¬ m = g := fun h0 => hgm h0.symm
    have hw : IntKind.i64.wrap ((s.hit : Int) + 1) = ((s.hit + 1 : Nat) : Int) := by rw [IntWalk.i64_in _ ⟨by omega, by omega⟩]; omega
    have hlen : q.1.bytes.length = 512 := by have := hby.1; rwa [bs_length] at this
    have k2 : Hid (∀ w1, Below w.heap.size w w1 → Calls Try.prog 58 #[.pointer (some ⟨m, 0, none⟩), .int .i64 (i : Int)] ((w1.setCell ⟨m, 2, none⟩ (.int .i64 ((s.hit + 1 : Nat) : Int))).alloc (.cells #[.int .i64 q.1.page, .slice q.2.bo 512 q.2.bc, .int .i64 (q.1.pins : Int), .bool q.1.dirty] 81))
        fun e w' => e = .returned (.tuple #[]) ∧ ∃ R', RStep w w' m ⟨some ⟨g, 0, none⟩, cap, ps⟩ R' { s with l := s.l.eraseIdx i, hit := s.hit + 1 } ∧ R'.ps.length + 1 = n ∧ w'.heap[w1.heap.size]? = some (.cells (rv q).toArray 81 (0, 0)) ∧ ¬ R'.S m w1.heap.size ∧ w'.ownsRow 0 5 1 (.slice q.2.bo 512 q.2.bc) 512 (bs q.1.bytes)) := by
      refine hid fun w1 hb1 => ?_
      have r1 : RP (w1.setCell ⟨m, 2, none⟩ (.int .i64 ((s.hit + 1 : Nat) : Int))) m ⟨some ⟨g, 0, none⟩, cap, ps⟩ { s with hit := s.hit + 1 } := (h.later hb1).hits (s.hit + 1) s.miss _ rfl
      obtain ⟨W2, hW2⟩ : ∃ W2, W2 = w1.setCell ⟨m, 2, none⟩ (.int .i64 ((s.hit + 1 : Nat) : Int)) := ⟨_, rfl⟩
      have hs2 : W2.heap.size = w1.heap.size := by rw [hW2]; simp
      have hf2 : Fr (RParts.S ⟨some ⟨g, 0, none⟩, cap, ps⟩ m) w W2 := by rw [hW2]; exact (Fr.of_below hb1).set (Or.inl (Or.inl rfl)) _
      rw [← hW2] at r1 ⊢
      have hb3 : Below W2.heap.size W2 (W2.alloc (.cells #[.int .i64 q.1.page, .slice q.2.bo 512 q.2.bc, .int .i64 (q.1.pins : Int), .bool q.1.dirty] 81)) := (Below.refl _ _).alloc (Nat.le_refl _) _
      refine (rout_any m g cap i n ps _ _ (r1.later hb3) hin (by omega) hnn).mono ?_
      rintro e w' ⟨rfl, R', st⟩
      have hrbS : ¬ RParts.S ⟨some ⟨g, 0, none⟩, cap, ps⟩ m w1.heap.size := by
        rintro (h0 | ⟨a, ha, h0⟩)
        · have := hb1.size; omega
        · cases ha; simp only at h0; have := hb1.size; omega
      have hbk := st.fr.blk w1.heap.size (by simp; omega) hrbS
      have hb4 : W2.heap.size < (W2.alloc (.cells #[.int .i64 q.1.page, .slice q.2.bo 512 q.2.bc, .int .i64 (q.1.pins : Int), .bool q.1.dirty] 81)).heap.size := by simp
      refine ⟨rfl, R', ⟨st.rp, (hf2.trans (T := fun _ => False) (Fr.of_below hb3) (fun _ _ h => h.elim)).trans st.fr (fun _ _ h => h), fun j hj => ?_⟩, ?_, ?_, fun hS => ?_, ?_⟩
      · rcases st.gr j hj with h1 | h1
        · exact Or.inl h1
        · have := hb1.size; exact Or.inr (by omega)
      · have q1 := st.rp.len
        simp only [List.length_eraseIdx] at q1
        rw [if_pos hi2] at q1
        have := h.len
        simp only at this
        omega
      · rw [hbk, ← hs2]; exact heap_alloc_new W2 _
      · rcases st.gr _ hS with h1 | h1
        · exact hrbS h1
        · omega
      · have q1 := ((h.later hb1).by_ q (by rw [hq]; exact List.getElem_mem hi))
        have q2 := (r1.later hb3).by_ q (by rw [hq]; exact List.getElem_mem hi)
        refine row4_stay q2 (fun a ha => st.fr.blk _ (row4_lt q2 ha) (fun hS => ?_))
        obtain ⟨cur, hgb, _⟩ := row4_blk q2 ha
        rcases hS with h0 | ⟨a', ha', h0⟩
        · rw [h0, (r1.later hb3).hd] at hgb; simp at hgb
        · obtain ⟨cur', hgb', _⟩ := row4_blk (r1.later hb3).row ha'
          rw [← h0, hgb'] at hgb; simp at hgb
    have HLEN := hid hlen
    have HBY := hid hby
    clear h e1 e2 hq hrow fz hby hlen hh hm hnn
    go_enter Try.func33, Try.ntmps33
    go_wp2_with (first
      | (go_at_call 57; refine k1.out.mono ?_; rintro e w1 ⟨rfl, h1⟩; have z1 := keep_old h1 c1; have z2 := keep_old h1 c2; have v0 := keep_old h1 y0; have v1 := keep_old h1 y1; have v2 := keep_old h1 y2; have v3 := keep_old h1 y3; have g2 := (keep_frozen h1 (a := ⟨m, 2, none⟩) hml).trans f2; have k3 := hid (k2.out w1 h1); have hg1 : ¬ g = w1.heap.size := (by have := h1.size; omega); have hg2 : g < w1.heap.size := (by have := h1.size; omega); have H1 := hid h1; clear h1 k2; simp only [idV])
      | (go_at_call 58; refine k3.out.mono ?_; rintro e w4 ⟨rfl, R3, g4, n4, b4, s4, by4⟩; have G4 := hid g4; have N4 := hid n4; have B4 := hid b4; have S4 := hid s4; have BY4 := hid by4; clear g4 n4 b4 s4 by4))
    obtain ⟨n3, hn3⟩ : ∃ n3, n3 = R3.ps.length := ⟨_, rfl⟩
    have HN3 := hid hn3
    have d1 := G4.out.rp.c1
    rw [← hn3] at d1
    have hn3' : n3 + 1 = n := by rw [hn3]; exact N4.out
    clear hn3
    have TAIL : Hid (∀ W1, Below w4.heap.size w4 W1 → ∀ a2 c2 w5, w5.ownsRow 0 81 4 (.slice a2 (n3 + 1) c2) (n3 + 1) (rvs (R3.ps ++ [q])) → W1.grownBy w5 (Value.slice R3.ao n3 R3.cap).ownBlock → (∀ a, a2 = some a → ((Value.slice R3.ao n3 R3.cap).ownBlock = some a.block ∨ a.block = W1.heap.size)) →
        GS m w1.heap.size (.slice R3.ao n3 R3.cap) q w5 ∧ w5.cell? ⟨m, 1, none⟩ = some (.slice R3.ao n3 R3.cap) ∧ w5.frozen? ⟨m, 1, none⟩ = false ∧ ∃ R', RStep w (w5.setCell ⟨m, 1, none⟩ (.slice a2 (n3 + 1) c2)) m ⟨some ⟨g, 0, none⟩, cap, ps⟩ R' { s with l := s.l.eraseIdx i ++ [q.1], hit := s.hit + 1 } ∧ q ∈ R'.ps ∧ (w5.setCell ⟨m, 1, none⟩ (.slice a2 (n3 + 1) c2)).cell? ⟨w1.heap.size, 1, none⟩ = some (.slice q.2.bo 512 q.2.bc)) := by
      refine hid fun W1 hb1 a2 c2 w5 ho hg hat => ?_
      rw [HN3.out] at ho hg hat ⊢
      obtain ⟨st, t2, t3⟩ := rp_append (G4.out.rp.later hb1) ho hg hat (row4_stay BY4.out (fun a ha => hb1.block _ (row4_lt BY4.out ha)))
      have hrb := rb_kept (G4.out.rp.later hb1) hg ((hb1.block _ (Array.getElem?_eq_some_iff.1 B4.out).1).trans B4.out) S4.out
      refine ⟨⟨t2, hrb⟩, t2, t3, _, (G4.out.and_later hb1).trans st, by simp, ?_⟩
      have hne : m ≠ w1.heap.size := by have := H1.out.size; omega
      rw [World.cell?_setCell_other _ _ _ _ (by intro e; cases e; exact hne rfl)]
      exact hd_cell hrb 1
    refine wp_region_K (S := GS m w1.heap.size (.slice R3.ao n3 R3.cap) q) (fun i => i == 10) (by kernel_rfl) ⟨d1, B4.out⟩ (fun hHeld => ?_)
    refine wpAnyK_pure (i := 0) (v := ?_) (op_at2 _ 0 _ rfl) (by kernel_rfl) (by kernel_rfl) (by kernel_rfl) (by kernel_rfl) (fun _ _ _ h => h) (Or.inl ⟨by rfl, ?_⟩) (Or.inl (by assumption)) ?_
    rotate_left 1
    focus (intro W hSw; go_simp; first | done | with_reducible rfl)
    (try simp only [Act.put, List.setIfInBounds_toArray, List.set_cons_zero, List.set_cons_succ])
    refine wpAnyK_pure (i := 1) (v := ?_) (op_at2 _ 1 _ rfl) (by kernel_rfl) (by kernel_rfl) (by kernel_rfl) (by kernel_rfl) (fun _ _ _ h => h) (Or.inl ⟨by rfl, ?_⟩) (Or.inl (by assumption)) ?_
    rotate_left 1
    focus (intro W hSw; go_simp; first | done | with_reducible rfl)
    (try simp only [Act.put, List.setIfInBounds_toArray, List.set_cons_zero, List.set_cons_succ])
    refine wpAnyK_pure (i := 2) (v := ?_) (op_at2 _ 2 _ rfl) (by kernel_rfl) (by kernel_rfl) (by kernel_rfl) (by kernel_rfl) (fun _ _ _ h => h) (Or.inl ⟨by rfl, ?_⟩) (Or.inl (by assumption)) ?_
    rotate_left 1
    focus (intro W hSw; go_simp; first | done | with_reducible rfl)
    (try simp only [Act.put, List.setIfInBounds_toArray, List.set_cons_zero, List.set_cons_succ])
    refine wpAnyK_pure (i := 3) (v := ?_) (op_at2 _ 3 _ rfl) (by kernel_rfl) (by kernel_rfl) (by kernel_rfl) (by kernel_rfl) (fun _ _ _ h => h) (Or.inl ⟨by rfl, ?_⟩) (Or.inl (by assumption)) ?_
    rotate_left 1
    focus (intro W hSw; go_simp; first | done | with_reducible rfl)
    (try simp only [Act.put, List.setIfInBounds_toArray, List.set_cons_zero, List.set_cons_succ])
    refine wpAnyK_take (i := 4) (v := ?_) (op_at2 _ 4 _ rfl) (by kernel_rfl) (by kernel_rfl) (by kernel_rfl) (by kernel_rfl) (fun _ _ _ h => h) (Or.inl ⟨by rfl, ?_⟩) (by assumption) ?_
    rotate_left 1
    focus (intro W hSw; have q1 := hSw.1; go_simp; first | done | with_reducible rfl)
    (try simp only [Act.put, List.setIfInBounds_toArray, List.set_cons_zero, List.set_cons_succ])
    refine wpAnyK_take (i := 5) (v := ?_) (op_at2 _ 5 _ rfl) (by kernel_rfl) (by kernel_rfl) (by kernel_rfl) (by kernel_rfl) (fun _ _ _ h => h) (Or.inl ⟨by rfl, ?_⟩) (by assumption) ?_
    rotate_left 1
    focus (intro W hSw; obtain ⟨q1, q2, q3, q4⟩ := GS.cells hSw; go_simp; first | done | with_reducible rfl)
    (try simp only [Act.put, List.setIfInBounds_toArray, List.set_cons_zero, List.set_cons_succ])
    refine wpAnyK_ready (rs := [6]) (by kernel_rfl) (by simp) ?_
    refine AllReadyK.cons (op_at2 _ 6 _ rfl) (fun K hK => ?_) AllReadyK.nil
    go_simp
    obtain ⟨W1, hW1⟩ : ∃ W1, W1 = (w4.alloc (.cells #[.int .i64 q.1.page, .slice q.2.bo 512 q.2.bc, .int .i64 (q.1.pins : Int), .bool q.1.dirty] 81)).drew := ⟨_, rfl⟩; rw [← hW1]; have hb1 : Below w4.heap.size w4 W1 := (by rw [hW1]; exact ((Below.refl _ w4).alloc (Nat.le_refl _) _).drew); have hs1 : Src4 W1 (some ⟨w4.heap.size, 0, none⟩) 1 1 [q] := (by rw [hW1]; exact src_drew (one_src w4 q)); have hR : GS m w1.heap.size (.slice R3.ao n3 R3.cap) q W1 := GS.keep (W := w4) ⟨d1, B4.out⟩ hb1; have HB1 := hid hb1; have HS1 := hid hs1; clear hW1 hb1 hs1
    refine hK.out _ _ hR (fun hHeld => ?_)
    clear hK K
    (try simp only [Act.put, List.setIfInBounds_toArray, List.set_cons_zero, List.set_cons_succ])
    refine wpAnyK_ready (rs := [7]) (by kernel_rfl) (by simp) ?_
    refine AllReadyK.cons (op_at2 _ 7 _ rfl) (fun K hK => ?_) AllReadyK.nil
    refine step_app4 rfl (.tmp 41) (.tmp 43) rfl (.slice R3.ao n3 R3.cap) n3 R3.ps rfl (HN3.out ▸ (G4.out.rp.later HB1.out).row) _ 1 1 [q] rfl HS1.out (by omega) ?_; intro a2 c2 w5 ho2 hg2 hat2; obtain ⟨t1, t2, t3, t4⟩ := TAIL.out _ HB1.out a2 c2 w5 ho2 hg2 hat2; have hR := t1; have T4 := hid t4; clear t4 ho2 hg2 hat2
    refine hK.out _ _ hR (fun hHeld => ?_)
    clear hK K
    (try simp only [Act.put, List.setIfInBounds_toArray, List.set_cons_zero, List.set_cons_succ])
    refine wpAnyK_pure (i := 8) (v := ?_) (op_at2 _ 8 _ rfl) (by kernel_rfl) (by kernel_rfl) (by kernel_rfl) (by kernel_rfl) (fun _ _ _ h => h) (Or.inl ⟨by rfl, ?_⟩) (Or.inl (by assumption)) ?_
    rotate_left 1
    focus (intro W hSw; go_simp; first | done | with_reducible rfl)
    (try simp only [Act.put, List.setIfInBounds_toArray, List.set_cons_zero, List.set_cons_succ])
    refine wpAnyK_pure (i := 9) (v := ?_) (op_at2 _ 9 _ rfl) (by kernel_rfl) (by kernel_rfl) (by kernel_rfl) (by kernel_rfl) (fun _ _ _ h => h) (Or.inl ⟨by rfl, ?_⟩) (Or.inl (by assumption)) ?_
    rotate_left 1
    focus (intro W hSw; go_simp; first | done | with_reducible rfl)
    (try simp only [Act.put, List.setIfInBounds_toArray, List.set_cons_zero, List.set_cons_succ])
    refine wpAnyK_ready (rs := [10]) (by kernel_rfl) (by simp) ?_
    refine AllReadyK.late (op_at2 _ 10 _ rfl) (by kernel_rfl) (fun K hK => ?_) AllReadyK.nil
    go_simp
    refine hK.out _ _ ?_
    clear hK K
    (try simp only [Act.put, List.setIfInBounds_toArray, List.set_cons_zero, List.set_cons_succ])
    refine wpAnyK_done (by kernel_rfl) ?_ _
    obtain ⟨R5, hst, hqm, hcl⟩ := T4.out
    rw [hn3'] at hst hcl
    have hby5 := hst.rp.by_ q hqm
    obtain ⟨W6, hW6⟩ : ∃ W6, W6 = w5.setCell ⟨m, 1, none⟩ (.slice a2 n c2) := ⟨_, rfl⟩
    rw [← hW6] at hst hcl hby5 ⊢
    have hrd5 : Rd W6 q.2.bo 512 q.2.bc q.1.bytes := by
      obtain ⟨ao', cap', e, hr, _⟩ := rd_owned hby5
      simp only [Value.slice.injEq, true_and] at e
      obtain ⟨h1, h2⟩ := e
      rw [h1, h2]; exact hr
    have hrbl : w1.heap.size < W6.heap.size := lt_cell hcl
    have hrbn : ¬ w1.heap.size = W6.heap.size := by omega
    have HST5 := hid hst; have HRD5 := hid hrd5
    have hsz6 : w.heap.size ≤ W6.heap.size := hst.fr.size
    clear hW6 hst hrd5 hby5 T4 t2 t3 hR hHeld TAIL
    go_wp2_with ((with_reducible refine here_op 50 ?_); refine wpList_append_rd rfl (.tmp 47) (.tmp 49) rfl W6.heap.size _ 0 [] rfl (World.ownsRow_made W6 #[] 0 (Nat.le_refl _) (by decide) rfl) _ 512 q.2.bc q.1.bytes rfl (HRD5.out.keep ((Below.refl _ _).alloc (Nat.le_refl _) _)) (by omega) (by simp) ?_; intro v' w7 ho7 hb7; simp only [Nat.zero_add, List.nil_append] at ho7; obtain ⟨ao', cap', e1, _, _⟩ := rd_owned ho7; subst e1; have HO7 := hid ho7; have HB7 := hid hb7; clear ho7 hb7)
    go_ret2
    refine ⟨⟨HLEN.out, ao', cap', rfl, own_base HO7.out hsz6⟩, R5, HST5.out.and_later (((Below.refl _ _).alloc (Nat.le_refl _) _).trans HB7.out)⟩

end Go.Proofs.Ytebjjibgkjgpgaa
