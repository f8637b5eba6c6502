/- Shapes are copied: laws; no statement of the seat is proved here. -/
import Derived.Test.YtcneadohpbeahaaDoorBi
import Derived.Test.YtcneadohpbeahaaDoorBe
namespace Go.Proofs.YtcneadohpbeahaaDoor
open Go.RowKit Go.Maps

section
variable {P : Program} {l : List Oper} {Q : Exit → Act → World → Prop} {md : Region.Mode} {S : World → Prop} {E : Nat → Bool} {oi oj : Oper} {fuel : Nat} {listed : Array Bool} {a : Act} {w : World}
theorem gk2 (i j : Nat) (h : ∀ K' : Act → World → Prop, Shut (∀ a w, S w → (S w → wpAnyK P md l.toArray Q S E fuel (listed.setIfInBounds i true) a w) → K' a w) → if Region.wanted oi (yielded l.toArray a.tmps) = true then Oper.wp P oi a w K' Q else K' (a.put oi.dst undef) w)
    (h' : ∀ K' : Act → World → Prop, Shut (∀ a w, S w → (S w → wpAnyK P md l.toArray Q S E fuel (listed.setIfInBounds j true) a w) → K' a w) → if Region.wanted oj (yielded l.toArray a.tmps) = true then Oper.wp P oj a w K' Q else K' (a.put oj.dst undef) w)
    (hi : l[i]? = some oi := by exact rfl) (hj : l[j]? = some oj := by exact rfl) (hr : Region.ready md l.toArray listed = [i, j] := by kernel_rfl) : wpAnyK P md l.toArray Q S E (fuel + 1) listed a w :=
  wpAnyK_ready (rs := [i, j]) hr (by simp) (AllReadyK.cons (at_op _ _ _ hi) h (AllReadyK.cons (at_op _ _ _ hj) h' AllReadyK.nil))
end
theorem wp_append_sh {o : Oper} {a : Act} {w : World} {K : Act → World → Prop} {Q : Exit → Act → World → Prop} (s x : Operand) (ho : o.op = .call { callee := .builtin .append, args := #[s, x], argTypes := #[23, 23] }) (B : Nat) (v : Value) (n : Nat) (xs : List Sh) (hs : a.eval s = v) (hown : w.ownsRow B 25 3 v n (cv3 xs))
    (g cc : Nat) (c : Sh) (hx : a.eval x = .slice (some ⟨g, 0, none⟩) 1 cc) (hg : At3 w g 0 c) (hb : (n + 1) * 56 ≤ 140737488355328) (hB : B ≤ w.heap.size)
    (h : ∀ v' w', w'.ownsRow B 25 3 v' (n + 1) (cv3 (xs ++ [c])) → w.grownBy w' v.ownBlock → (v'.ownBlock = v.ownBlock ∨ v'.ownBlock = some w.heap.size) → K (a.put o.dst v') w') : o.wp Tryd.prog a w K Q := by
  obtain ⟨i5, hi5, hz0, hz1, hz2⟩ := info_parts info25
  obtain ⟨v', w', hr, h2, h3, _, h5⟩ := run_append_own_at (P := Tryd.prog) w B 23 o.type 25 i5 (.agg #[.int .i64 0, .slice none 0 0, .slice none 0 0]) 3 56 Tryd.underlying23 hi5 hz0 hz1 hz2 rfl (by decide) v n (cv3 xs) hown ⟨g, 0, none⟩ 1 cc (cv3 [c]) rfl (by
    intro j u hu
    rw [Addr.add_lit]
    have hj : j < 3 := by have := (List.getElem?_eq_some_iff.1 hu).1; rw [cv3_len] at this; simpa using this
    obtain ⟨c0, c1, c2⟩ := hg
    match j, hj, hu with
    | 0, _, hu => simp [cv3] at hu; subst hu; exact c0
    | 1, _, hu => simp [cv3] at hu; subst hu; exact c1
    | 2, _, hu => simp [cv3] at hu; subst hu; exact c2) (cv3_one c) (by unfold maxLen; omega) hb hB
  unfold Oper.wp execOp
  simp only [ho, resolve, invoke, builtin, Sem.run_bind, Sem.run_pure, Result.andThen_ok, List.map_toArray, List.map_cons, List.map_nil, hs, hx, hr]
  exact h v' w' (by rw [cv3_append]; exact h2) h3 h5

def zSh : Sh := .mk 0 none 0 0 [] none 0 0 []
theorem Bx.set3 {w : World} {b : Nat} {s : Sh} (h : Bx w b s) (c : Sh) : Bx (((w.setCell ⟨b, 0, none⟩ (.int .i64 c.k)).setCell ⟨b, 1, none⟩ (.slice c.xo c.xn c.xc)).setCell ⟨b, 2, none⟩ (.slice c.po c.pn c.pc)) b c := by
  have h0 := heap_setCell_same w b 0 _ _ (.int .i64 c.k) h
  have h1 := heap_setCell_same _ b 1 _ _ (.slice c.xo c.xn c.xc) h0
  have h2 := heap_setCell_same _ b 2 _ _ (.slice c.po c.pn c.pc) h1
  exact h2
theorem Bx.setP {w : World} {b : Nat} {k : Int} {xo : Option Addr} {xn xc : Nat} {xy : List (Int × Int)} {po : Option Addr} {pn pc : Nat} {ps : List Sh} (h : Bx w b (.mk k xo xn xc xy po pn pc ps)) (po' : Option Addr) (pn' pc' : Nat) (ps' : List Sh) : Bx (w.setCell ⟨b, 2, none⟩ (.slice po' pn' pc')) b (.mk k xo xn xc xy po' pn' pc' ps') :=
  heap_setCell_same w b 2 _ _ (.slice po' pn' pc') h

/-- What is known behind the points' copy. -/
structure Cp1 (s : Sh) (w : World) (ob cap : Nat) (ao : Option Addr) (W : World) : Prop where
  out : Bx W ob (.mk s.k ao s.xn cap s.xy none 0 0 [])
  src : Bx W w.heap.size s
  res : Bx W (w.heap.size + 1) zSh
  row : W.ownsRow (w.heap.size + 2) 41 2 (.slice ao s.xn cap) s.xn (pv s.xy)
  ge : w.heap.size + 2 ≤ ob
  bl : Below w.heap.size w W
theorem fr3 {w : World} {b : Nat} (u v x : Value) : Fr (fun i => i = b) w (((w.setCell ⟨b, 0, none⟩ u).setCell ⟨b, 1, none⟩ v).setCell ⟨b, 2, none⟩ x) := ((Fr.set _ _ _ _).trans (Fr.set _ _ _ _)).trans (Fr.set _ _ _ _)
theorem row_base {W : World} {B B' : Nat} {e : TypeId} {size : Nat} {v : Value} {n : Nat} {xs : List Value} (h : W.ownsRow B e size v n xs) (hb : B' ≤ B) : W.ownsRow B' e size v n xs := ⟨h.1, h.2.imp id fun ⟨g, cap, cur, h1, h2, h3⟩ => ⟨g, cap, cur, h1, Nat.le_trans hb h2, h3⟩⟩
theorem row_fr {W W' : World} {B b cap n : Nat} {ao : Option Addr} {xs : List Value} (h : W.ownsRow B 41 2 (.slice ao n cap) n xs) (hb : Fr (fun i => i = b) W W') {c : Array Value} (hc : W.heap[b]? = some (.cells c 25)) : W'.ownsRow B 41 2 (.slice ao n cap) n xs := by
  refine row_keep h fun a ha => ?_
  rcases h.2 with ⟨h1, _⟩ | ⟨g, cap', cur, h1, _, hg, _⟩
  · rw [ha] at h1; simp at h1
  · have e : a = ⟨g, 0, none⟩ := by simp at h1; rw [h1.1] at ha; simpa using ha.symm
    rw [e]
    refine hb.blk g (Array.getElem?_eq_some_iff.1 hg).1 fun e2 => ?_
    rw [e2, hc] at hg
    simp at hg

theorem eqL_snoc : ∀ {a b : List Sh} {x y : Sh}, a.length = b.length → eqL (a ++ [x]) (b ++ [y]) = (eqL a b && eqS x y)
  | [], [], x, y, _ => by rw [List.nil_append, List.nil_append, eqL_cons, eqL_nil, Bool.and_true, Bool.true_and]
  | p :: r, q :: r', x, y, h => by rw [List.cons_append, List.cons_append, eqL_cons, eqL_cons, eqL_snoc (by simpa using h), Bool.and_assoc]
theorem rowg_keep {W W' : World} {B cap n size : Nat} {e : TypeId} {ao : Option Addr} {xs : List Value} (h : W.ownsRow B e size (.slice ao n cap) n xs) (hb : ∀ a, ao = some a → W'.heap[a.block]? = W.heap[a.block]?) : W'.ownsRow B e size (.slice ao n cap) n xs := by
  refine ⟨h.1, ?_⟩
  rcases h.2 with h2 | ⟨g, cap', cur, hv, h3, h4, h5⟩
  · exact .inl h2
  · refine .inr ⟨g, cap', cur, hv, h3, ?_, h5⟩
    have e : ao = some ⟨g, 0, none⟩ := by simp at hv; exact hv.1
    exact (hb _ e).trans h4
theorem rowg_blk {W : World} {B cap n size : Nat} {e : TypeId} {ao : Option Addr} {xs : List Value} (h : W.ownsRow B e size (.slice ao n cap) n xs) {a : Addr} (ha : ao = some a) : B ≤ a.block ∧ a.block < W.heap.size ∧ ∃ cur, W.heap[a.block]? = some (.cells cur e) := by
  rcases h.2 with ⟨h1, _⟩ | ⟨g, cap', cur, hv, h3, h4, h5⟩
  · rw [ha] at h1; simp at h1
  · have e : a = ⟨g, 0, none⟩ := by simp at hv; rw [hv.1] at ha; simpa using ha.symm
    rw [e]; exact ⟨h3, (Array.getElem?_eq_some_iff.1 h4).1, cur, h4⟩

/-- What is held while parts are copied. -/
structure CpH (s : Sh) (w : World) (ob cap : Nat) (ao : Option Addr) (i : Nat) (qs : List Sh) (po : Option Addr) (pc : Nat) (R : Nat → Prop) (W : World) : Prop where
  len : qs.length = i
  eq : eqL qs (s.ps.take i) = true
  out : Bx W ob (.mk s.k ao s.xn cap s.xy po i pc qs)
  src : Bx W w.heap.size s
  res : Bx W (w.heap.size + 1) zSh
  row : W.ownsRow (w.heap.size + 2) 41 2 (.slice ao s.xn cap) s.xn (pv s.xy)
  prow : W.ownsRow (w.heap.size + 2) 25 3 (.slice po i pc) i (cv3 qs)
  pne : ∀ a, po = some a → a.block ≠ ob
  ins : ∀ q ∈ qs, In R W q
  nf : NF W R
  rb : ∀ b, R b → w.heap.size + 2 ≤ b ∧ b < W.heap.size ∧ b ≠ ob ∧ ∀ a, po = some a → b ≠ a.block
  bl : Below w.heap.size w W
  ge : w.heap.size + 2 ≤ ob
theorem CpH.start {s : Sh} {w : World} {ob cap : Nat} {ao : Option Addr} {W : World} (h : Cp1 s w ob cap ao W) : CpH s w ob cap ao 0 [] none 0 (fun _ => False) W :=
  { len := rfl, eq := by rw [List.take_zero]; exact eqL_nil, out := h.out, src := h.src, res := h.res, row := h.row, prow := World.ownsRow_nil _ _ _ _, pne := fun a ha => (by cases ha), ins := fun q hq => (by cases hq), nf := fun b hb => hb.elim, rb := fun b hb => hb.elim, bl := h.bl, ge := h.ge }
theorem CpH.step {s : Sh} {w : World} {ob cap : Nat} {ao : Option Addr} {i : Nat} {qs : List Sh} {po : Option Addr} {pc : Nat} {R R' : Nat → Prop} {V w8 w9 : World} {p c : Sh} {v' : Value} (h : CpH s w ob cap ao i qs po pc R V) (hp : s.ps[i]? = some p) (he : eqS c p = true)
    (hb : Below V.heap.size V w8) (hin : In R' w8 c) (hnf : NF w8 R') (hR' : ∀ b, R' b → V.heap.size ≤ b ∧ b < w8.heap.size) (ho : w9.ownsRow (w.heap.size + 2) 25 3 v' (i + 1) (cv3 (qs ++ [c]))) (hg : w8.grownBy w9 (Value.slice po i pc).ownBlock) (h5 : v'.ownBlock = (Value.slice po i pc).ownBlock ∨ v'.ownBlock = some w8.heap.size) :
    ∃ po' pc', v' = .slice po' (i + 1) pc' ∧ Bx w9 ob (.mk s.k ao s.xn cap s.xy po i pc qs) ∧ CpH s w ob cap ao (i + 1) (qs ++ [c]) po' pc' (fun b => R b ∨ R' b) (w9.setCell ⟨ob, 2, none⟩ v') := by
  obtain ⟨po', pc', rfl⟩ := row_form ho
  have hobV := h.out.lt
  have hz := hb.size
  have hz9 := hg.size
  have sF : Fr (fun j => j = ob) w9 (w9.setCell ⟨ob, 2, none⟩ (.slice po' (i + 1) pc')) := Fr.set _ _ _ _
  have own : ∀ b, (∀ a, po = some a → b ≠ a.block) → some b ≠ (Value.slice po i pc).ownBlock := fun b hbn e => by
    cases hpo : po with
    | none => rw [hpo] at e; simp [Value.ownBlock] at e
    | some a => rw [hpo] at e; simp only [Value.ownBlock, Option.some.injEq] at e; exact hbn a hpo e
  have k89 : ∀ b, b < w8.heap.size → (∀ a, po = some a → b ≠ a.block) → w9.heap[b]? = w8.heap[b]? := fun b h1 h2 => hg.block b h1 fun e => own b h2 (by first | exact e.symm | exact e)
  have kall : ∀ b, b < w8.heap.size → b ≠ ob → (∀ a, po = some a → b ≠ a.block) → (w9.setCell ⟨ob, 2, none⟩ (.slice po' (i + 1) pc')).heap[b]? = w8.heap[b]? := fun b h1 h2 h3 => (sF.blk b (Nat.lt_of_lt_of_le h1 hz9) h2).trans (k89 b h1 h3)
  have kV : ∀ b, b < V.heap.size → b ≠ ob → (∀ a, po = some a → b ≠ a.block) → (w9.setCell ⟨ob, 2, none⟩ (.slice po' (i + 1) pc')).heap[b]? = V.heap[b]? := fun b h1 h2 h3 => (kall b (Nat.lt_of_lt_of_le h1 hz) h2 h3).trans (hb.block b h1)
  have pge : ∀ a, po = some a → w.heap.size + 2 ≤ a.block ∧ a.block < V.heap.size := fun a ha => by obtain ⟨h1, h2, _⟩ := rowg_blk h.prow ha; exact ⟨h1, h2⟩
  have hge := h.ge
  have hO9 : Bx w9 ob (.mk s.k ao s.xn cap s.xy po i pc qs) := (k89 ob (by omega) fun a ha e => h.pne a ha e.symm).trans ((hb.block ob hobV).trans h.out)
  have pn' : ∀ a, po' = some a → a.block ≠ ob ∧ ∀ b, b < w8.heap.size → (∀ a, po = some a → b ≠ a.block) → b ≠ a.block := fun a ha => by
    rcases h5 with h5 | h5
    · cases hpo : po with
      | none => rw [ha, hpo] at h5; simp [Value.ownBlock] at h5
      | some a0 =>
        rw [ha, hpo] at h5
        simp only [Value.ownBlock, Option.some.injEq] at h5
        rw [h5]
        exact ⟨h.pne a0 hpo, fun b _ h2 => h2 a0 rfl⟩
    · rw [ha] at h5
      simp only [Value.ownBlock, Option.some.injEq] at h5
      rw [h5]
      exact ⟨by omega, fun b h1 _ => by omega⟩
  have r1 : ∀ b, R b → (w9.setCell ⟨ob, 2, none⟩ (.slice po' (i + 1) pc')).heap[b]? = V.heap[b]? := fun b hb' => by obtain ⟨_, h2, h3, h4⟩ := h.rb b hb'; exact kV b h2 h3 h4
  have r2 : ∀ b, R' b → (w9.setCell ⟨ob, 2, none⟩ (.slice po' (i + 1) pc')).heap[b]? = w8.heap[b]? := fun b hb' => by
    obtain ⟨h1, h2⟩ := hR' b hb'
    exact kall b h2 (by omega) fun a ha => by have := (pge a ha).2; omega
  refine ⟨po', pc', rfl, hO9, { len := by rw [List.length_append, h.len]; rfl, eq := ?_, out := hO9.setP po' (i + 1) pc' (qs ++ [c]), src := ?_, res := ?_, row := ?_, prow := ?_, pne := fun a ha => (pn' a ha).1, ins := ?_, nf := ?_, rb := ?_, bl := ?_, ge := h.ge }⟩
  · rw [List.take_add_one, hp]
    have hlen : qs.length = (s.ps.take i).length := by rw [h.len, List.length_take]; have := (List.getElem?_eq_some_iff.1 hp).1; omega
    show eqL (qs ++ [c]) (s.ps.take i ++ [p]) = true
    rw [eqL_snoc hlen, h.eq, he]; rfl
  · exact (kV _ h.src.lt (by omega) fun a ha => by have := (pge a ha).1; omega).trans h.src
  · exact (kV _ h.res.lt (by omega) fun a ha => by have := (pge a ha).1; omega).trans h.res
  · refine rowg_keep h.row fun a ha => ?_
    obtain ⟨_, h2, cur, h3⟩ := rowg_blk h.row ha
    refine kV _ h2 (fun e => ?_) fun a0 ha0 e => ?_
    · rw [e, h.out] at h3; simp at h3
    · obtain ⟨_, _, cur2, h4⟩ := rowg_blk h.prow ha0
      rw [e, h4] at h3; simp at h3
  · refine rowg_keep ho fun a ha => sF.blk _ (rowg_blk ho ha).2.1 (pn' a ha).1
  · intro q hq
    rcases List.mem_append.1 hq with hq | hq
    · exact (h.ins q hq).of fun b hb' => ⟨r1 b hb', .inl hb'⟩
    · rw [List.mem_singleton] at hq
      subst hq
      exact hin.of fun b hb' => ⟨r2 b hb', .inr hb'⟩
  · intro b hb'
    rcases hb' with hb' | hb'
    · obtain ⟨cur, t, e⟩ := h.nf b hb'
      exact ⟨cur, t, (r1 b hb').trans e⟩
    · obtain ⟨cur, t, e⟩ := hnf b hb'
      exact ⟨cur, t, (r2 b hb').trans e⟩
  · have hz10 := sF.size
    intro b hb'
    rcases hb' with hb' | hb'
    · obtain ⟨h1, h2, h3, h4⟩ := h.rb b hb'
      exact ⟨h1, by omega, h3, fun a ha => (pn' a ha).2 b (by omega) h4⟩
    · obtain ⟨h1, h2⟩ := hR' b hb'
      have h9 := h.bl.size
      exact ⟨by omega, by omega, by omega, fun a ha => (pn' a ha).2 b h2 fun a0 ha0 => by have := (pge a0 ha0).2; omega⟩
  · refine ⟨sF.os.trans (hg.os.trans (hb.os.trans h.bl.os)), sF.tape.trans (hg.tape.trans (hb.tape.trans h.bl.tape)), sF.output.trans (hg.output.trans (hb.output.trans h.bl.output)), Nat.le_trans h.bl.size (Nat.le_trans hz (Nat.le_trans hz9 sF.size)), fun b hb' => ?_⟩
    exact (kV b (Nat.lt_of_lt_of_le hb' h.bl.size) (by omega) fun a ha => by have := (pge a ha).1; omega).trans (h.bl.block b hb')
/-- Where the points' copy leaves. -/
def Reg1 (s : Sh) (k : Nat) (w : World) (a' : Act) (W' : World) : Prop := ∃ ob ao cap, a' = ⟨#[.agg #[.int .i64 (s).k, .slice (s).xo (s).xn (s).xc, .slice (s).po (s).pn (s).pc], .int .i64 (k : Int), .pointer (some ⟨w.heap.size, 0, none⟩), undef, .pointer (some ⟨w.heap.size + 1, 0, none⟩), .pointer (some ⟨ob, 0, none⟩), undef, undef, .pointer (some ⟨w.heap.size, 0, none⟩), .int .i64 s.k, .pointer (some ⟨w.heap.size, 1, none⟩), .slice s.xo s.xn s.xc, .slice ao s.xn cap, .agg #[.int .i64 s.k, .slice ao s.xn cap, .slice none 0 0], undef, undef, undef, undef, undef, undef, undef, undef, undef, undef, undef, undef, undef, undef, undef, undef, undef, undef, undef, undef, undef], []⟩ ∧ Cp1 s w ob cap ao W'
end Go.Proofs.YtcneadohpbeahaaDoor
