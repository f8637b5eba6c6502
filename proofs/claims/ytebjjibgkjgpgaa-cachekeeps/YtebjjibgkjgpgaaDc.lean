/- What the row tells; no statement of the seat is proved here. -/
import Derived.Test.YtebjjibgkjgpgaaDb
import Derived.RangeFuncBox
import Derived.Maps.AppendAt
namespace Go.Proofs.Ytebjjibgkjgpgaa
open Go.RowKit Go.Maps

set_option maxHeartbeats 1000000 in
theorem row_any (c : Nat) (w : World) : Calls Try.prog 54 #[.pointer (some ⟨c, 0, none⟩)] w fun e w' => e = .returned (.func (.func 63) #[] #[.pointer (some ⟨w.heap.size, 0, none⟩)]) ∧ w' = w.alloc (.cells #[.pointer (some ⟨c, 0, none⟩)] 24) := by
  go_enter Try.func54, Try.ntmps54
  go_wp2
  go_ret
  exact ⟨rfl, rfl⟩
set_option maxHeartbeats 1000000 in
theorem which44 (b : Nat) (x : Ent) (w : World) (h : EntAt w b x) : Calls Try.prog 44 #[.pointer (some ⟨b, 0, none⟩)] w fun e w' => e = .returned (.bool x.row.dirty) ∧ w' = w := by
  have c1 := h.dirty
  clear h
  go_enter Try.func44, Try.ntmps44
  go_wp2
  go_ret
  exact ⟨rfl, rfl⟩
set_option maxHeartbeats 1000000 in
theorem which46 (b : Nat) (w : World) : Calls Try.prog 46 #[.pointer (some ⟨b, 0, none⟩)] w fun e w' => e = .returned (.bool true) ∧ w' = w := by
  go_enter Try.func46, Try.ntmps46
  go_wp2
  go_ret
  exact ⟨rfl, rfl⟩



theorem RingAt.first {w : World} {h : Nat} {ks : List Nat} {E : Nat → Ent} (H : RingAt w h ks E) : (E h).aft = some (nx ks h 0) := by
  have := H.ch
  cases ks with
  | nil => exact this.1
  | cons x ks => exact this.1
theorem chain_next {E : Nat → Ent} {h : Nat} : ∀ {ks : List Nat} {a : Nat}, Chain E (a :: ks ++ [h]) → ∀ k, k < ks.length → (E (nx ks h k)).aft = some (nx ks h (k + 1))
  | [], _, _, k, hk => by simp at hk
  | [x], a, hc, k, hk => by
    obtain rfl : k = 0 := by simpa using hk
    exact hc.2.2.1
  | x :: y :: ks, a, hc, k, hk => by
    cases k with
    | zero => exact hc.2.2.1
    | succ k => exact chain_next (ks := y :: ks) (a := x) hc.2.2 k (by simpa using hk)
theorem RingAt.next {w : World} {h : Nat} {ks : List Nat} {E : Nat → Ent} (H : RingAt w h ks E) {k : Nat} (hk : k < ks.length) : (E (nx ks h k)).aft = some (nx ks h (k + 1)) := chain_next H.ch k hk
theorem CP.row_at {w : World} {c : Nat} {C : Parts} {s : CS} (h : CP w c C s) {k : Nat} (hk : k < C.ks.length) : s.l[k]'(by rw [h.ls]; simpa using hk) = (C.E (nx C.ks C.h k)).row := by
  simp only [h.ls, List.getElem_map, nx, List.getD, List.getElem?_eq_getElem hk, Option.getD_some]
theorem ownsRow_later {w w' : World} {B n : Nat} {e : TypeId} {v : Value} {xs : List Value} (h : w.ownsRow B e 1 v n xs) (hb : Below w.heap.size w w') : w'.ownsRow B e 1 v n xs := by
  refine ⟨h.1, ?_⟩
  rcases h.2 with hn | ⟨g, cap, cur, rfl, hb', hg, hr⟩
  · exact .inl hn
  · exact .inr ⟨g, cap, cur, rfl, hb', (hb.block g (Array.getElem?_eq_some_iff.1 hg).1).trans hg, hr⟩

theorem stepIn_append {F : Fence} {n : Nat} {P : Program} {ops : Array Oper} {o : Oper} {a : Act} {w : World} {K : Act → World → Prop} {Q : Exit → Act → World → Prop} {E' : Prop} (hgd : o.guard = none) (s x : Operand) (t : TypeId)
    (ho : o.op = .call { callee := .builtin .append, args := #[s, x], argTypes := #[t, t] }) (v u v' : Value) (hs : a.eval s = v) (hx : a.eval x = u) (w' : World)
    (hrun : (Builtin.append_ #[t, t] o.type #[v, u]).run P w = .ok v' w') (h : K (a.put o.dst v') w') : if Region.wanted o (yielded ops a.tmps) = true then Oper.wpIn F n P o a w K Q else E' := by
  have hw : Region.wanted o (yielded ops a.tmps) = true := by simp [Region.wanted, hgd]
  rw [if_pos hw]
  unfold Oper.wpIn
  refine ⟨by simp [Oper.about, ho, resolve, Target.leads, Sem.run_pure], ?_⟩
  rw [Oper.semAt_plain F _ _ (by rw [ho]; intro c hc'; cases hc')]
  simp [execOp, ho, resolve, invoke, builtin, hs, hx, hrun, Result.andThen, Oper.uponIn]
  exact h

def ints (l : List Int) : List Value := l.map (fun x => Value.int .i64 x)
theorem ints_one (l : List Int) : ∀ u ∈ ints l, u.oneCell' = true := by
  intro u hu
  obtain ⟨x, _, rfl⟩ := List.mem_map.1 hu
  rfl
theorem info3 : (Try.prog.info? 3).map (fun i => (i.zero, i.size, i.bytes)) = some (some (.int .i64 0), 1, 8) := by kernel_rfl
theorem Try.u33 : Try.prog.underlying 33 = some (.slice 3) := by kernel_rfl

def told (p : Row → Bool) (l : List Row) : List Int := (l.filter p).map Row.page

structure TI (w : World) (fv : Value) (c : Nat) (l : List Int) (W : World) : Prop where
  out : ∃ v, Boxed W (w.heap.size + 1) 33 v ∧ W.ownsRow w.heap.size 3 1 v l.length (ints l)
  fb : Boxed W w.heap.size 70 fv
  cb : Boxed W (w.heap.size + 1 + 1) 24 (.pointer (some ⟨c, 0, none⟩))
  bl : Below w.heap.size w W

theorem put_below {n : Nat} {W : World} {l : Nat} (o : Obj) (h : n ≤ l) (hs : n ≤ W.heap.size) : Below n W (W.putObj l o) := (Below.refl n W).grown (grownBy_putObj' W l o) hs (fun k e => by cases e; exact h)
theorem boxed_put {W : World} {b l : Nat} {t : TypeId} {v : Value} (o : Obj) (h : Boxed W b t v) (hn : b ≠ l) : Boxed (W.putObj l o) b t v := (put_other hn).trans h

theorem TI.put {w : World} {fv : Value} {c : Nat} {l : List Int} {W : World} (h : TI w fv c l W) {k : Nat} {o : Obj} (o' : Obj) (hk : w.heap.size + 3 ≤ k) (hl : W.heap[k]? = some o) (ho : o.isCells = false) : TI w fv c l (W.putObj k o') := by
  obtain ⟨⟨v, h1, h2⟩, h3, h4, h5⟩ := h
  exact ⟨⟨v, boxed_put _ h1 (by omega), ownsRow_putObj h2 o' hl ho⟩, boxed_put _ h3 (by omega), boxed_put _ h4 (by omega), h5.trans (put_below _ (by omega) h5.size)⟩

theorem told_end {w W w1 : World} {B c : Nat} {fv v v' : Value} {l : List Int} {p : Int} {tmp : Obj} (hM : Mark B W) (hR : Rec B W) (h3 : Boxed W w.heap.size 70 fv) (h4 : Boxed W (w.heap.size + 1 + 1) 24 (.pointer (some ⟨c, 0, none⟩))) (h5 : Below w.heap.size w W)
    (hv : Boxed W (w.heap.size + 1) 33 v) (hrow : W.ownsRow w.heap.size 3 1 v l.length (ints l)) (hown' : w1.ownsRow w.heap.size 3 1 v' (l.length + 1) (ints l ++ [.int .i64 p])) (hgrow : (W.alloc tmp).drew.grownBy w1 v.ownBlock) :
    TwoKept B W (w1.setCell ⟨w.heap.size + 1, 0, none⟩ v') ∧ TI w fv c (l ++ [p]) (w1.setCell ⟨w.heap.size + 1, 0, none⟩ v') := by
  obtain ⟨hv1, hv2, hr2, hk2, hb2⟩ := Boxed.appended (W := W.drew) (tmp := tmp) hv (by decide) hrow h5.size (by omega) hown' hgrow
  have k3 : Boxed w1 w.heap.size 70 fv := Boxed.kept (W := (W.alloc tmp).drew) (h3.alloc tmp) hgrow (h3.not_row (by decide) hrow)
  have k4 : Boxed w1 (w.heap.size + 1 + 1) 24 (.pointer (some ⟨c, 0, none⟩)) := Boxed.kept (W := (W.alloc tmp).drew) (h4.alloc tmp) hgrow (h4.not_row (by decide) hrow)
  refine ⟨TwoKept.of (W' := w1.setCell ⟨w.heap.size + 1, 0, none⟩ v') ⟨hk2.size, hk2.same⟩ hM hR, ⟨v', hv2, ?_⟩, (set_heap _ _ _ _ _ (by omega)).trans k3, (set_heap _ _ _ _ _ (by omega)).trans k4, ?_⟩
  · have e1 : ints (l ++ [p]) = ints l ++ [.int .i64 p] := by simp [ints]
    rw [e1, List.length_append]; exact hr2
  · exact h5.trans ⟨hb2.os, hb2.tape, hb2.output, hb2.size, hb2.block⟩

theorem take_filter (p : Row → Bool) (l : List Row) (k : Nat) (h : k < l.length) : told p (l.take (k + 1)) = if p l[k] then told p (l.take k) ++ [l[k].page] else told p (l.take k) := by
  rw [List.take_add_one, List.getElem?_eq_getElem h]
  simp only [told, Option.toList_some, List.filter_append, List.map_append]
  cases hp : p l[k] <;> simp [hp]

attribute [local go_sem] Oper.semAt_some


set_option maxRecDepth 100000 in
set_option maxHeartbeats 4000000 in
theorem told44 (c : Nat) (C : Parts) (s : CS) (w : World) (h : CP w c C s) (hlen : C.ks.length ≤ 1000000) :
    Calls Try.prog 43 #[.pointer (some ⟨c, 0, none⟩), .func (.func 44) #[] #[]] w fun e w' => ∃ v, e = .returned v ∧ w'.ownsRow w.heap.size 3 1 v (told Row.dirty s.l).length (ints (told Row.dirty s.l)) ∧ Below w.heap.size w w' := by
  have k1 := hid (fun W (c0 : W.cell? ⟨c, 0, none⟩ = some (.int .i64 (s.room : Int))) => made_yes c s.room W c0 h.rm.1)
  have k2 := hid (row_any c)
  have c0 := h.c0
  obtain ⟨i0, hi, hz0, hz1, hz2⟩ := info_parts info3
  have hcl : ¬ c = w.heap.size := by have := h.clt; omega
  have HH := hid h
  clear h
  refine (callsIn_wide (n := 3)).1 ?_
  refine callsIn_of_wp_marks Try.func43 rfl trivial ?_ rfl
  simp only [Try.ntmps43, List.size_toArray, List.length_cons, List.length_nil, Nat.reduceAdd, Nat.reduceSub, Array.replicate_succ, Array.replicate_zero, List.push_toArray, List.append_toArray, List.nil_append, List.cons_append]
  gi_wp2_with (first | (refine ⟨trivial, ?_⟩; gi_at_call 48; refine (callsIn_wide.2 (k1.out _ (keep_old ((Below.refl _ w).alloc (Nat.le_refl _) _) c0))).mono ?_; rintro e w1 ⟨rfl, rfl⟩) | (refine ⟨trivial, ?_⟩; gi_at_call 54; refine (callsIn_wide.2 (k2.out _)).mono ?_; rintro e w1 ⟨rfl, rfl⟩))
  have hb0 : Boxed (w.alloc (.cells #[.func (.func 44) #[] #[]] 70)) w.heap.size 70 (.func (.func 44) #[] #[]) := Boxed.new w 70 _
  have hb1 := Boxed.new (w.alloc (.cells #[.func (.func 44) #[] #[]] 70)) 33 (.slice none 0 0)
  have hb2 := Boxed.new ((w.alloc (.cells #[.func (.func 44) #[] #[]] 70)).alloc (.cells #[.slice none 0 0] 33)) 24 (.pointer (some ⟨c, 0, none⟩))
  simp only [World.size_alloc] at hb1 hb2
  have hI0 : TI w (.func (.func 44) #[] #[]) c [] (((w.alloc (.cells #[.func (.func 44) #[] #[]] 70)).alloc (.cells #[.slice none 0 0] 33)).alloc (.cells #[.pointer (some ⟨c, 0, none⟩)] 24)) :=
    ⟨⟨_, hb1.alloc _, World.ownsRow_nil _ _ _ _⟩, (hb0.alloc _).alloc _, hb2, (((Below.refl _ w).alloc (Nat.le_refl _) _).alloc (by simp) _).alloc (by simp; omega) _⟩
  obtain ⟨W0, hW0⟩ : ∃ W0, W0 = (((w.alloc (.cells #[.func (.func 44) #[] #[]] 70)).alloc (.cells #[.slice none 0 0] 33)).alloc (.cells #[.pointer (some ⟨c, 0, none⟩)] 24)) := ⟨_, rfl⟩
  have hsz : W0.heap.size = w.heap.size + 3 := by rw [hW0]; simp
  rw [← hW0] at hI0 ⊢
  clear hW0 hb0 hb1 hb2
  have hlk : s.l.length = C.ks.length := by rw [HH.out.ls]; simp
  refine range_nat (gf := 63) (lb := #[.pointer (some ⟨w.heap.size + 1 + 1, 0, none⟩)]) rfl (enters_of Try.func63 (by kernel_rfl) rfl) C.ks.length (fun k => .pointer (some ⟨nx C.ks C.h k, 0, none⟩)) rfl
    (fun k W => TI w (.func (.func 44) #[] #[]) c (told Row.dirty (s.l.take k)) W) (fun _ _ => False) ?hI ?hX ?h0 ?hseq
    (fun k => { tmps := #[Value.pointer (some ⟨c, 0, none⟩), .func (.func 44) #[] #[], undef, .pointer (some ⟨w.heap.size, 0, none⟩), .slice none 0 0, .pointer (some ⟨w.heap.size + 1, 0, none⟩), .pointer (some ⟨nx C.ks C.h k, 0, none⟩), .pointer (some ⟨c, 0, none⟩), .bool true, .bool false, .pointer (some ⟨c, 0, none⟩), .func (.func 63) #[] #[.pointer (some ⟨w.heap.size + 1 + 1, 0, none⟩)], .pointer (some ⟨nx C.ks C.h k, 0, none⟩), undef, undef, undef, undef, undef, undef, undef, undef, undef, undef, undef], defers := [] }) ?assign ?body ?done ?stop
  case hI =>
    intro k W l o o' h1 h2 h3 h4 h5
    exact h5.put o' (by omega) h3 h4
  case hX => intro c W l o o' _ _ _ _ h; exact h
  case h0 =>
    intro W hb _
    obtain ⟨⟨v, h1, h2⟩, h3, h4, h5⟩ := hI0
    refine ⟨⟨v, (hb.block _ (by omega)).trans h1, ownsRow_later h2 hb⟩, (hb.block _ (by omega)).trans h3, (hb.block _ (by omega)).trans h4, gt h5 (hb.mono (by omega))⟩
  case hseq =>
    intro l J Jx W hJI hY hJ0
    refine row1_in 2 (w.heap.size + 1 + 1) c C.h l C.ks HH.out.rg.nd J Jx (fun k W hj => ?_) hY W hJ0
    obtain ⟨_, _, h4, h5⟩ := hJI k W hj
    have hc := HH.out.later h5
    refine ⟨h4.cell, hc.c2, ⟨_, hc.rg.en C.h (by simp)⟩, fun hk => ⟨_, hc.rg.en _ (List.mem_cons_of_mem _ (nx_in hk))⟩, fun _ => ?_, fun hk => ?_⟩
    · rw [(hc.rg.en C.h (by simp)).aft, hc.rg.first]; rfl
    · rw [(hc.rg.en _ (List.mem_cons_of_mem _ (nx_in hk))).aft, hc.rg.next hk]; rfl
  case assign =>
    intro l k W K hK
    gi_wp2
    exact hK
  case body =>
    intro l k W hk hI hM hR
    obtain ⟨⟨v, hv, hrow⟩, h3, h4, h5⟩ := hI
    have hc := HH.out.later h5
    have he := hc.rg.en (nx C.ks C.h k) (List.mem_cons_of_mem _ (nx_in hk))
    have hrk : s.l[k]'(by omega) = (C.E (nx C.ks C.h k)).row := hc.row_at hk
    have hstep := take_filter Row.dirty s.l k (by omega)
    have cp := he.page
    have kw := hid (which44 _ _ W he)
    have hfb := h3.cell; have hvb := hv.cell
    have hle : (told Row.dirty (s.l.take k)).length ≤ 1000000 := by
      have h6 : (told Row.dirty (s.l.take k)).length ≤ (s.l.take k).length := by unfold told; rw [List.length_map]; exact List.length_filter_le _ _
      rw [List.length_take] at h6; omega
    have HR := hid hrow; have HV := hid hv; have HS := hid hstep; have HRK := hid hrk; have H3 := hid h3; have H4 := hid h4; have H5 := hid h5; have HM := hid hM; have HRC := hid hR
    have hBs := h5.size
    have hb1 : ¬ w.heap.size + 1 = W.heap.size := by have := hv.lt; omega
    have hb2 : w.heap.size + 1 < W.heap.size := hv.lt
    clear hrow hv hstep hrk h3 h4 h5 hc he hM hR
    cases hd : (C.E (nx C.ks C.h k)).row.dirty
    · rw [hd] at kw
      have e1 : told Row.dirty (s.l.take (k + 1)) = told Row.dirty (s.l.take k) := by rw [HS.out, HRK.out, hd]; rfl
      rw [e1]
      gi_wp2_with (first | (refine ⟨trivial, ?_⟩; gi_at_call 44; refine (CallsIn.inRound l (callsIn_wide.2 kw.out)).mono ?_; rintro e w1 ⟨rfl, h0⟩; obtain rfl := h0.symm) | fail)
      exact ⟨TwoKept.of (KeepsOthers.refl W) HM.out HRC.out, ⟨_, HV.out, HR.out⟩, H3.out, H4.out, H5.out⟩
    · rw [hd] at kw
      have e1 : told Row.dirty (s.l.take (k + 1)) = told Row.dirty (s.l.take k) ++ [(C.E (nx C.ks C.h k)).row.page] := by rw [HS.out, HRK.out, hd]; rfl
      rw [e1]
      gi_wp2_with (first | (refine ⟨trivial, ?_⟩; gi_at_call 44; refine (CallsIn.inRound l (callsIn_wide.2 kw.out)).mono ?_; rintro e w1 ⟨rfl, h0⟩; obtain rfl := h0.symm) | fail)
      obtain ⟨v', w1, hrun, hown', hgrow, -, -⟩ := run_append_own_at (P := Try.prog) (W.alloc (.cells #[.int .i64 (C.E (nx C.ks C.h k)).row.page] 3)).drew w.heap.size 33 33 3 i0 (.int .i64 0) 1 8 Try.u33 hi hz0 hz1 hz2 rfl (by decide) v _ _ (HR.out.alloc _) ⟨W.heap.size, 0, none⟩ 1 1 [.int .i64 (C.E (nx C.ks C.h k)).row.page] rfl (cell_one_new W _ _) (by simp [Value.oneCell']) (by unfold maxLen; omega) (by omega) (by simp; omega)
      obtain ⟨g', cap', rfl⟩ := ownsRow_succ hown'
      have hv1 := (Boxed.appended (W := W.drew) (tmp := .cells #[.int .i64 (C.E (nx C.ks C.h k)).row.page] 3) HV.out (by decide) HR.out hBs (by omega) hown' hgrow).1
      have hc1 := hv1.cell; have hf1 := hv1.frozen; have HO' := hid hown'; have HG := hid hgrow
      clear hown' hgrow hv1
      have hmx : Try.prog.follows .mixedOrders = true := by kernel_rfl
      refine wpIn_region_any hmx ?_
      change wpAnyIn _ _ _ _ _ _ _ _ _ (World.drew _)
      refine wpAnyIn_ready (rs := [0, 1]) (by kernel_rfl) (by simp) ?_
      refine AllReadyIn.cons rfl (fun K hK => ?_) ?_
      · as_aux_lemma =>
          go_simp
          refine hK _ _ ?_
          clear hK K
          refine wpAnyIn_ready (rs := [1]) (by kernel_rfl) (by simp) ?_
          refine AllReadyIn.cons rfl (fun K hK => ?_) AllReadyIn.nil
          go_simp
          refine hK _ _ ?_
          clear hK K
          refine wpAnyIn_ready (rs := [2]) (by kernel_rfl) (by simp) ?_
          refine AllReadyIn.cons rfl (fun K hK => ?_) AllReadyIn.nil
          go_simp
          refine hK _ _ ?_
          clear hK K
          refine wpAnyIn_ready (rs := [3]) (by kernel_rfl) (by simp) ?_
          refine AllReadyIn.cons rfl (fun K hK => ?_) AllReadyIn.nil
          go_simp
          refine hK _ _ ?_
          clear hK K
          refine wpAnyIn_ready (rs := [4]) (by kernel_rfl) (by simp) ?_
          refine AllReadyIn.cons rfl (fun K hK => ?_) AllReadyIn.nil
          go_simp
          refine hK _ _ ?_
          clear hK K
          refine wpAnyIn_ready (rs := [5]) (by kernel_rfl) (by simp) ?_
          refine AllReadyIn.cons rfl (fun K hK => ?_) AllReadyIn.nil
          go_simp
          refine hK _ _ ?_
          clear hK K
          refine wpAnyIn_ready (rs := [6]) (by kernel_rfl) (by simp) ?_
          refine AllReadyIn.cons rfl (fun K hK => ?_) AllReadyIn.nil
          refine stepIn_append rfl _ _ 33 rfl _ _ _ rfl rfl w1 hrun ?_
          refine hK _ _ ?_
          clear hK K
          simp only [Act.put, List.setIfInBounds_toArray]
          refine wpAnyIn_ready (rs := [7]) (by kernel_rfl) (by simp) ?_
          refine AllReadyIn.cons rfl (fun K hK => ?_) AllReadyIn.nil
          go_simp
          refine hK _ _ ?_
          clear hK K
          refine wpAnyIn_done (by kernel_rfl) ?_ _
          gi_wp2
          exact told_end HM.out HRC.out H3.out H4.out H5.out HV.out HR.out HO'.out HG.out
      refine AllReadyIn.cons rfl (fun K hK => ?_) ?_
      · as_aux_lemma =>
          go_simp
          refine hK _ _ ?_
          clear hK K
          refine wpAnyIn_ready (rs := [0, 2]) (by kernel_rfl) (by simp) ?_
          refine AllReadyIn.cons rfl (fun K hK => ?_) ?_
          · as_aux_lemma =>
              go_simp
              refine hK _ _ ?_
              clear hK K
              refine wpAnyIn_ready (rs := [2]) (by kernel_rfl) (by simp) ?_
              refine AllReadyIn.cons rfl (fun K hK => ?_) AllReadyIn.nil
              go_simp
              refine hK _ _ ?_
              clear hK K
              refine wpAnyIn_ready (rs := [3]) (by kernel_rfl) (by simp) ?_
              refine AllReadyIn.cons rfl (fun K hK => ?_) AllReadyIn.nil
              go_simp
              refine hK _ _ ?_
              clear hK K
              refine wpAnyIn_ready (rs := [4]) (by kernel_rfl) (by simp) ?_
              refine AllReadyIn.cons rfl (fun K hK => ?_) AllReadyIn.nil
              go_simp
              refine hK _ _ ?_
              clear hK K
              refine wpAnyIn_ready (rs := [5]) (by kernel_rfl) (by simp) ?_
              refine AllReadyIn.cons rfl (fun K hK => ?_) AllReadyIn.nil
              go_simp
              refine hK _ _ ?_
              clear hK K
              refine wpAnyIn_ready (rs := [6]) (by kernel_rfl) (by simp) ?_
              refine AllReadyIn.cons rfl (fun K hK => ?_) AllReadyIn.nil
              refine stepIn_append rfl _ _ 33 rfl _ _ _ rfl rfl w1 hrun ?_
              refine hK _ _ ?_
              clear hK K
              simp only [Act.put, List.setIfInBounds_toArray]
              refine wpAnyIn_ready (rs := [7]) (by kernel_rfl) (by simp) ?_
              refine AllReadyIn.cons rfl (fun K hK => ?_) AllReadyIn.nil
              go_simp
              refine hK _ _ ?_
              clear hK K
              refine wpAnyIn_done (by kernel_rfl) ?_ _
              gi_wp2
              exact told_end HM.out HRC.out H3.out H4.out H5.out HV.out HR.out HO'.out HG.out
          refine AllReadyIn.cons rfl (fun K hK => ?_) ?_
          · as_aux_lemma =>
              go_simp
              refine hK _ _ ?_
              clear hK K
              refine wpAnyIn_ready (rs := [0, 3]) (by kernel_rfl) (by simp) ?_
              refine AllReadyIn.cons rfl (fun K hK => ?_) ?_
              · as_aux_lemma =>
                  go_simp
                  refine hK _ _ ?_
                  clear hK K
                  refine wpAnyIn_ready (rs := [3]) (by kernel_rfl) (by simp) ?_
                  refine AllReadyIn.cons rfl (fun K hK => ?_) AllReadyIn.nil
                  go_simp
                  refine hK _ _ ?_
                  clear hK K
                  refine wpAnyIn_ready (rs := [4]) (by kernel_rfl) (by simp) ?_
                  refine AllReadyIn.cons rfl (fun K hK => ?_) AllReadyIn.nil
                  go_simp
                  refine hK _ _ ?_
                  clear hK K
                  refine wpAnyIn_ready (rs := [5]) (by kernel_rfl) (by simp) ?_
                  refine AllReadyIn.cons rfl (fun K hK => ?_) AllReadyIn.nil
                  go_simp
                  refine hK _ _ ?_
                  clear hK K
                  refine wpAnyIn_ready (rs := [6]) (by kernel_rfl) (by simp) ?_
                  refine AllReadyIn.cons rfl (fun K hK => ?_) AllReadyIn.nil
                  refine stepIn_append rfl _ _ 33 rfl _ _ _ rfl rfl w1 hrun ?_
                  refine hK _ _ ?_
                  clear hK K
                  simp only [Act.put, List.setIfInBounds_toArray]
                  refine wpAnyIn_ready (rs := [7]) (by kernel_rfl) (by simp) ?_
                  refine AllReadyIn.cons rfl (fun K hK => ?_) AllReadyIn.nil
                  go_simp
                  refine hK _ _ ?_
                  clear hK K
                  refine wpAnyIn_done (by kernel_rfl) ?_ _
                  gi_wp2
                  exact told_end HM.out HRC.out H3.out H4.out H5.out HV.out HR.out HO'.out HG.out
              refine AllReadyIn.cons rfl (fun K hK => ?_) ?_
              · as_aux_lemma =>
                  go_simp
                  refine hK _ _ ?_
                  clear hK K
                  refine wpAnyIn_ready (rs := [0, 4]) (by kernel_rfl) (by simp) ?_
                  refine AllReadyIn.cons rfl (fun K hK => ?_) ?_
                  · as_aux_lemma =>
                      go_simp
                      refine hK _ _ ?_
                      clear hK K
                      refine wpAnyIn_ready (rs := [4]) (by kernel_rfl) (by simp) ?_
                      refine AllReadyIn.cons rfl (fun K hK => ?_) AllReadyIn.nil
                      go_simp
                      refine hK _ _ ?_
                      clear hK K
                      refine wpAnyIn_ready (rs := [5]) (by kernel_rfl) (by simp) ?_
                      refine AllReadyIn.cons rfl (fun K hK => ?_) AllReadyIn.nil
                      go_simp
                      refine hK _ _ ?_
                      clear hK K
                      refine wpAnyIn_ready (rs := [6]) (by kernel_rfl) (by simp) ?_
                      refine AllReadyIn.cons rfl (fun K hK => ?_) AllReadyIn.nil
                      refine stepIn_append rfl _ _ 33 rfl _ _ _ rfl rfl w1 hrun ?_
                      refine hK _ _ ?_
                      clear hK K
                      simp only [Act.put, List.setIfInBounds_toArray]
                      refine wpAnyIn_ready (rs := [7]) (by kernel_rfl) (by simp) ?_
                      refine AllReadyIn.cons rfl (fun K hK => ?_) AllReadyIn.nil
                      go_simp
                      refine hK _ _ ?_
                      clear hK K
                      refine wpAnyIn_done (by kernel_rfl) ?_ _
                      gi_wp2
                      exact told_end HM.out HRC.out H3.out H4.out H5.out HV.out HR.out HO'.out HG.out
                  refine AllReadyIn.cons rfl (fun K hK => ?_) ?_
                  · as_aux_lemma =>
                      go_simp
                      refine hK _ _ ?_
                      clear hK K
                      refine wpAnyIn_ready (rs := [0, 5]) (by kernel_rfl) (by simp) ?_
                      refine AllReadyIn.cons rfl (fun K hK => ?_) ?_
                      · as_aux_lemma =>
                          go_simp
                          refine hK _ _ ?_
                          clear hK K
                          refine wpAnyIn_ready (rs := [5]) (by kernel_rfl) (by simp) ?_
                          refine AllReadyIn.cons rfl (fun K hK => ?_) AllReadyIn.nil
                          go_simp
                          refine hK _ _ ?_
                          clear hK K
                          refine wpAnyIn_ready (rs := [6]) (by kernel_rfl) (by simp) ?_
                          refine AllReadyIn.cons rfl (fun K hK => ?_) AllReadyIn.nil
                          refine stepIn_append rfl _ _ 33 rfl _ _ _ rfl rfl w1 hrun ?_
                          refine hK _ _ ?_
                          clear hK K
                          simp only [Act.put, List.setIfInBounds_toArray]
                          refine wpAnyIn_ready (rs := [7]) (by kernel_rfl) (by simp) ?_
                          refine AllReadyIn.cons rfl (fun K hK => ?_) AllReadyIn.nil
                          go_simp
                          refine hK _ _ ?_
                          clear hK K
                          refine wpAnyIn_done (by kernel_rfl) ?_ _
                          gi_wp2
                          exact told_end HM.out HRC.out H3.out H4.out H5.out HV.out HR.out HO'.out HG.out
                      refine AllReadyIn.cons rfl (fun K hK => ?_) ?_
                      · as_aux_lemma =>
                          go_simp
                          refine hK _ _ ?_
                          clear hK K
                          refine wpAnyIn_ready (rs := [0]) (by kernel_rfl) (by simp) ?_
                          refine AllReadyIn.cons rfl (fun K hK => ?_) AllReadyIn.nil
                          go_simp
                          refine hK _ _ ?_
                          clear hK K
                          refine wpAnyIn_ready (rs := [6]) (by kernel_rfl) (by simp) ?_
                          refine AllReadyIn.cons rfl (fun K hK => ?_) AllReadyIn.nil
                          refine stepIn_append rfl _ _ 33 rfl _ _ _ rfl rfl w1 hrun ?_
                          refine hK _ _ ?_
                          clear hK K
                          simp only [Act.put, List.setIfInBounds_toArray]
                          refine wpAnyIn_ready (rs := [7]) (by kernel_rfl) (by simp) ?_
                          refine AllReadyIn.cons rfl (fun K hK => ?_) AllReadyIn.nil
                          go_simp
                          refine hK _ _ ?_
                          clear hK K
                          refine wpAnyIn_done (by kernel_rfl) ?_ _
                          gi_wp2
                          exact told_end HM.out HRC.out H3.out H4.out H5.out HV.out HR.out HO'.out HG.out
                      exact AllReadyIn.nil
                  exact AllReadyIn.nil
              exact AllReadyIn.nil
          exact AllReadyIn.nil
      exact AllReadyIn.nil
  case done =>
    intro W hI hM
    obtain ⟨⟨v, hv, hrow⟩, h3, h4, h5⟩ := hI
    rw [List.take_of_length_le (by omega)] at hrow
    have hvb := hv.cell
    have HR := hid hrow; have H5 := hid h5; have HM := hid hM
    clear hrow h3 h4 h5 hM
    gi_wp2
    refine ⟨by simp, .inl ⟨_, _, rfl, run_takeDeferred HM.out, ?_⟩⟩
    refine ⟨_, results_tmp rfl _ _ _, _, rfl, ownsRow_putObj HR.out _ HM.out rfl, H5.out.trans (put_below _ (by omega) H5.out.size)⟩
  case stop =>
    intro c W h _
    exact h.elim

set_option maxRecDepth 100000 in
set_option maxHeartbeats 4000000 in
theorem told46 (c : Nat) (C : Parts) (s : CS) (w : World) (h : CP w c C s) (hlen : C.ks.length ≤ 1000000) :
    Calls Try.prog 43 #[.pointer (some ⟨c, 0, none⟩), .func (.func 46) #[] #[]] w fun e w' => ∃ v, e = .returned v ∧ w'.ownsRow w.heap.size 3 1 v (told (fun _ => true) s.l).length (ints (told (fun _ => true) s.l)) ∧ Below w.heap.size w w' := by
  have k1 := hid (fun W (c0 : W.cell? ⟨c, 0, none⟩ = some (.int .i64 (s.room : Int))) => made_yes c s.room W c0 h.rm.1)
  have k2 := hid (row_any c)
  have c0 := h.c0
  obtain ⟨i0, hi, hz0, hz1, hz2⟩ := info_parts info3
  have hcl : ¬ c = w.heap.size := by have := h.clt; omega
  have HH := hid h
  clear h
  refine (callsIn_wide (n := 3)).1 ?_
  refine callsIn_of_wp_marks Try.func43 rfl trivial ?_ rfl
  simp only [Try.ntmps43, List.size_toArray, List.length_cons, List.length_nil, Nat.reduceAdd, Nat.reduceSub, Array.replicate_succ, Array.replicate_zero, List.push_toArray, List.append_toArray, List.nil_append, List.cons_append]
  gi_wp2_with (first | (refine ⟨trivial, ?_⟩; gi_at_call 48; refine (callsIn_wide.2 (k1.out _ (keep_old ((Below.refl _ w).alloc (Nat.le_refl _) _) c0))).mono ?_; rintro e w1 ⟨rfl, rfl⟩) | (refine ⟨trivial, ?_⟩; gi_at_call 54; refine (callsIn_wide.2 (k2.out _)).mono ?_; rintro e w1 ⟨rfl, rfl⟩))
  have hb0 : Boxed (w.alloc (.cells #[.func (.func 46) #[] #[]] 70)) w.heap.size 70 (.func (.func 46) #[] #[]) := Boxed.new w 70 _
  have hb1 := Boxed.new (w.alloc (.cells #[.func (.func 46) #[] #[]] 70)) 33 (.slice none 0 0)
  have hb2 := Boxed.new ((w.alloc (.cells #[.func (.func 46) #[] #[]] 70)).alloc (.cells #[.slice none 0 0] 33)) 24 (.pointer (some ⟨c, 0, none⟩))
  simp only [World.size_alloc] at hb1 hb2
  have hI0 : TI w (.func (.func 46) #[] #[]) c [] (((w.alloc (.cells #[.func (.func 46) #[] #[]] 70)).alloc (.cells #[.slice none 0 0] 33)).alloc (.cells #[.pointer (some ⟨c, 0, none⟩)] 24)) :=
    ⟨⟨_, hb1.alloc _, World.ownsRow_nil _ _ _ _⟩, (hb0.alloc _).alloc _, hb2, (((Below.refl _ w).alloc (Nat.le_refl _) _).alloc (by simp) _).alloc (by simp; omega) _⟩
  obtain ⟨W0, hW0⟩ : ∃ W0, W0 = (((w.alloc (.cells #[.func (.func 46) #[] #[]] 70)).alloc (.cells #[.slice none 0 0] 33)).alloc (.cells #[.pointer (some ⟨c, 0, none⟩)] 24)) := ⟨_, rfl⟩
  have hsz : W0.heap.size = w.heap.size + 3 := by rw [hW0]; simp
  rw [← hW0] at hI0 ⊢
  clear hW0 hb0 hb1 hb2
  have hlk : s.l.length = C.ks.length := by rw [HH.out.ls]; simp
  refine range_nat (gf := 63) (lb := #[.pointer (some ⟨w.heap.size + 1 + 1, 0, none⟩)]) rfl (enters_of Try.func63 (by kernel_rfl) rfl) C.ks.length (fun k => .pointer (some ⟨nx C.ks C.h k, 0, none⟩)) rfl
    (fun k W => TI w (.func (.func 46) #[] #[]) c (told (fun _ => true) (s.l.take k)) W) (fun _ _ => False) ?hI ?hX ?h0 ?hseq
    (fun k => { tmps := #[Value.pointer (some ⟨c, 0, none⟩), .func (.func 46) #[] #[], undef, .pointer (some ⟨w.heap.size, 0, none⟩), .slice none 0 0, .pointer (some ⟨w.heap.size + 1, 0, none⟩), .pointer (some ⟨nx C.ks C.h k, 0, none⟩), .pointer (some ⟨c, 0, none⟩), .bool true, .bool false, .pointer (some ⟨c, 0, none⟩), .func (.func 63) #[] #[.pointer (some ⟨w.heap.size + 1 + 1, 0, none⟩)], .pointer (some ⟨nx C.ks C.h k, 0, none⟩), undef, undef, undef, undef, undef, undef, undef, undef, undef, undef, undef], defers := [] }) ?assign ?body ?done ?stop
  case hI =>
    intro k W l o o' h1 h2 h3 h4 h5
    exact h5.put o' (by omega) h3 h4
  case hX => intro c W l o o' _ _ _ _ h; exact h
  case h0 =>
    intro W hb _
    obtain ⟨⟨v, h1, h2⟩, h3, h4, h5⟩ := hI0
    refine ⟨⟨v, (hb.block _ (by omega)).trans h1, ownsRow_later h2 hb⟩, (hb.block _ (by omega)).trans h3, (hb.block _ (by omega)).trans h4, gt h5 (hb.mono (by omega))⟩
  case hseq =>
    intro l J Jx W hJI hY hJ0
    refine row1_in 2 (w.heap.size + 1 + 1) c C.h l C.ks HH.out.rg.nd J Jx (fun k W hj => ?_) hY W hJ0
    obtain ⟨_, _, h4, h5⟩ := hJI k W hj
    have hc := HH.out.later h5
    refine ⟨h4.cell, hc.c2, ⟨_, hc.rg.en C.h (by simp)⟩, fun hk => ⟨_, hc.rg.en _ (List.mem_cons_of_mem _ (nx_in hk))⟩, fun _ => ?_, fun hk => ?_⟩
    · rw [(hc.rg.en C.h (by simp)).aft, hc.rg.first]; rfl
    · rw [(hc.rg.en _ (List.mem_cons_of_mem _ (nx_in hk))).aft, hc.rg.next hk]; rfl
  case assign =>
    intro l k W K hK
    gi_wp2
    exact hK
  case body =>
    intro l k W hk hI hM hR
    obtain ⟨⟨v, hv, hrow⟩, h3, h4, h5⟩ := hI
    have hc := HH.out.later h5
    have he := hc.rg.en (nx C.ks C.h k) (List.mem_cons_of_mem _ (nx_in hk))
    have hrk : s.l[k]'(by omega) = (C.E (nx C.ks C.h k)).row := hc.row_at hk
    have hstep := take_filter (fun _ => true) s.l k (by omega)
    have cp := he.page
    have kw := hid (which46 (nx C.ks C.h k) W)
    have hfb := h3.cell; have hvb := hv.cell
    have hle : (told (fun _ => true) (s.l.take k)).length ≤ 1000000 := by
      have h6 : (told (fun _ => true) (s.l.take k)).length ≤ (s.l.take k).length := by unfold told; rw [List.length_map]; exact List.length_filter_le _ _
      rw [List.length_take] at h6; omega
    have HR := hid hrow; have HV := hid hv; have HS := hid hstep; have HRK := hid hrk; have H3 := hid h3; have H4 := hid h4; have H5 := hid h5; have HM := hid hM; have HRC := hid hR
    have hBs := h5.size
    have hb1 : ¬ w.heap.size + 1 = W.heap.size := by have := hv.lt; omega
    have hb2 : w.heap.size + 1 < W.heap.size := hv.lt
    clear hrow hv hstep hrk h3 h4 h5 hc he hM hR
    · have e1 : told (fun _ => true) (s.l.take (k + 1)) = told (fun _ => true) (s.l.take k) ++ [(C.E (nx C.ks C.h k)).row.page] := by rw [HS.out, HRK.out]; rfl
      rw [e1]
      gi_wp2_with (first | (refine ⟨trivial, ?_⟩; gi_at_call 46; refine (CallsIn.inRound l (callsIn_wide.2 kw.out)).mono ?_; rintro e w1 ⟨rfl, h0⟩; obtain rfl := h0.symm) | fail)
      obtain ⟨v', w1, hrun, hown', hgrow, -, -⟩ := run_append_own_at (P := Try.prog) (W.alloc (.cells #[.int .i64 (C.E (nx C.ks C.h k)).row.page] 3)).drew w.heap.size 33 33 3 i0 (.int .i64 0) 1 8 Try.u33 hi hz0 hz1 hz2 rfl (by decide) v _ _ (HR.out.alloc _) ⟨W.heap.size, 0, none⟩ 1 1 [.int .i64 (C.E (nx C.ks C.h k)).row.page] rfl (cell_one_new W _ _) (by simp [Value.oneCell']) (by unfold maxLen; omega) (by omega) (by simp; omega)
      obtain ⟨g', cap', rfl⟩ := ownsRow_succ hown'
      have hv1 := (Boxed.appended (W := W.drew) (tmp := .cells #[.int .i64 (C.E (nx C.ks C.h k)).row.page] 3) HV.out (by decide) HR.out hBs (by omega) hown' hgrow).1
      have hc1 := hv1.cell; have hf1 := hv1.frozen; have HO' := hid hown'; have HG := hid hgrow
      clear hown' hgrow hv1
      have hmx : Try.prog.follows .mixedOrders = true := by kernel_rfl
      refine wpIn_region_any hmx ?_
      change wpAnyIn _ _ _ _ _ _ _ _ _ (World.drew _)
      refine wpAnyIn_ready (rs := [0, 1]) (by kernel_rfl) (by simp) ?_
      refine AllReadyIn.cons rfl (fun K hK => ?_) ?_
      · as_aux_lemma =>
          go_simp
          refine hK _ _ ?_
          clear hK K
          refine wpAnyIn_ready (rs := [1]) (by kernel_rfl) (by simp) ?_
          refine AllReadyIn.cons rfl (fun K hK => ?_) AllReadyIn.nil
          go_simp
          refine hK _ _ ?_
          clear hK K
          refine wpAnyIn_ready (rs := [2]) (by kernel_rfl) (by simp) ?_
          refine AllReadyIn.cons rfl (fun K hK => ?_) AllReadyIn.nil
          go_simp
          refine hK _ _ ?_
          clear hK K
          refine wpAnyIn_ready (rs := [3]) (by kernel_rfl) (by simp) ?_
          refine AllReadyIn.cons rfl (fun K hK => ?_) AllReadyIn.nil
          go_simp
          refine hK _ _ ?_
          clear hK K
          refine wpAnyIn_ready (rs := [4]) (by kernel_rfl) (by simp) ?_
          refine AllReadyIn.cons rfl (fun K hK => ?_) AllReadyIn.nil
          go_simp
          refine hK _ _ ?_
          clear hK K
          refine wpAnyIn_ready (rs := [5]) (by kernel_rfl) (by simp) ?_
          refine AllReadyIn.cons rfl (fun K hK => ?_) AllReadyIn.nil
          go_simp
          refine hK _ _ ?_
          clear hK K
          refine wpAnyIn_ready (rs := [6]) (by kernel_rfl) (by simp) ?_
          refine AllReadyIn.cons rfl (fun K hK => ?_) AllReadyIn.nil
          refine stepIn_append rfl _ _ 33 rfl _ _ _ rfl rfl w1 hrun ?_
          refine hK _ _ ?_
          clear hK K
          simp only [Act.put, List.setIfInBounds_toArray]
          refine wpAnyIn_ready (rs := [7]) (by kernel_rfl) (by simp) ?_
          refine AllReadyIn.cons rfl (fun K hK => ?_) AllReadyIn.nil
          go_simp
          refine hK _ _ ?_
          clear hK K
          refine wpAnyIn_done (by kernel_rfl) ?_ _
          gi_wp2
          exact told_end HM.out HRC.out H3.out H4.out H5.out HV.out HR.out HO'.out HG.out
      refine AllReadyIn.cons rfl (fun K hK => ?_) ?_
      · as_aux_lemma =>
          go_simp
          refine hK _ _ ?_
          clear hK K
          refine wpAnyIn_ready (rs := [0, 2]) (by kernel_rfl) (by simp) ?_
          refine AllReadyIn.cons rfl (fun K hK => ?_) ?_
          · as_aux_lemma =>
              go_simp
              refine hK _ _ ?_
              clear hK K
              refine wpAnyIn_ready (rs := [2]) (by kernel_rfl) (by simp) ?_
              refine AllReadyIn.cons rfl (fun K hK => ?_) AllReadyIn.nil
              go_simp
              refine hK _ _ ?_
              clear hK K
              refine wpAnyIn_ready (rs := [3]) (by kernel_rfl) (by simp) ?_
              refine AllReadyIn.cons rfl (fun K hK => ?_) AllReadyIn.nil
              go_simp
              refine hK _ _ ?_
              clear hK K
              refine wpAnyIn_ready (rs := [4]) (by kernel_rfl) (by simp) ?_
              refine AllReadyIn.cons rfl (fun K hK => ?_) AllReadyIn.nil
              go_simp
              refine hK _ _ ?_
              clear hK K
              refine wpAnyIn_ready (rs := [5]) (by kernel_rfl) (by simp) ?_
              refine AllReadyIn.cons rfl (fun K hK => ?_) AllReadyIn.nil
              go_simp
              refine hK _ _ ?_
              clear hK K
              refine wpAnyIn_ready (rs := [6]) (by kernel_rfl) (by simp) ?_
              refine AllReadyIn.cons rfl (fun K hK => ?_) AllReadyIn.nil
              refine stepIn_append rfl _ _ 33 rfl _ _ _ rfl rfl w1 hrun ?_
              refine hK _ _ ?_
              clear hK K
              simp only [Act.put, List.setIfInBounds_toArray]
              refine wpAnyIn_ready (rs := [7]) (by kernel_rfl) (by simp) ?_
              refine AllReadyIn.cons rfl (fun K hK => ?_) AllReadyIn.nil
              go_simp
              refine hK _ _ ?_
              clear hK K
              refine wpAnyIn_done (by kernel_rfl) ?_ _
              gi_wp2
              exact told_end HM.out HRC.out H3.out H4.out H5.out HV.out HR.out HO'.out HG.out
          refine AllReadyIn.cons rfl (fun K hK => ?_) ?_
          · as_aux_lemma =>
              go_simp
              refine hK _ _ ?_
              clear hK K
              refine wpAnyIn_ready (rs := [0, 3]) (by kernel_rfl) (by simp) ?_
              refine AllReadyIn.cons rfl (fun K hK => ?_) ?_
              · as_aux_lemma =>
                  go_simp
                  refine hK _ _ ?_
                  clear hK K
                  refine wpAnyIn_ready (rs := [3]) (by kernel_rfl) (by simp) ?_
                  refine AllReadyIn.cons rfl (fun K hK => ?_) AllReadyIn.nil
                  go_simp
                  refine hK _ _ ?_
                  clear hK K
                  refine wpAnyIn_ready (rs := [4]) (by kernel_rfl) (by simp) ?_
                  refine AllReadyIn.cons rfl (fun K hK => ?_) AllReadyIn.nil
                  go_simp
                  refine hK _ _ ?_
                  clear hK K
                  refine wpAnyIn_ready (rs := [5]) (by kernel_rfl) (by simp) ?_
                  refine AllReadyIn.cons rfl (fun K hK => ?_) AllReadyIn.nil
                  go_simp
                  refine hK _ _ ?_
                  clear hK K
                  refine wpAnyIn_ready (rs := [6]) (by kernel_rfl) (by simp) ?_
                  refine AllReadyIn.cons rfl (fun K hK => ?_) AllReadyIn.nil
                  refine stepIn_append rfl _ _ 33 rfl _ _ _ rfl rfl w1 hrun ?_
                  refine hK _ _ ?_
                  clear hK K
                  simp only [Act.put, List.setIfInBounds_toArray]
                  refine wpAnyIn_ready (rs := [7]) (by kernel_rfl) (by simp) ?_
                  refine AllReadyIn.cons rfl (fun K hK => ?_) AllReadyIn.nil
                  go_simp
                  refine hK _ _ ?_
                  clear hK K
                  refine wpAnyIn_done (by kernel_rfl) ?_ _
                  gi_wp2
                  exact told_end HM.out HRC.out H3.out H4.out H5.out HV.out HR.out HO'.out HG.out
              refine AllReadyIn.cons rfl (fun K hK => ?_) ?_
              · as_aux_lemma =>
                  go_simp
                  refine hK _ _ ?_
                  clear hK K
                  refine wpAnyIn_ready (rs := [0, 4]) (by kernel_rfl) (by simp) ?_
                  refine AllReadyIn.cons rfl (fun K hK => ?_) ?_
                  · as_aux_lemma =>
                      go_simp
                      refine hK _ _ ?_
                      clear hK K
                      refine wpAnyIn_ready (rs := [4]) (by kernel_rfl) (by simp) ?_
                      refine AllReadyIn.cons rfl (fun K hK => ?_) AllReadyIn.nil
                      go_simp
                      refine hK _ _ ?_
                      clear hK K
                      refine wpAnyIn_ready (rs := [5]) (by kernel_rfl) (by simp) ?_
                      refine AllReadyIn.cons rfl (fun K hK => ?_) AllReadyIn.nil
                      go_simp
                      refine hK _ _ ?_
                      clear hK K
                      refine wpAnyIn_ready (rs := [6]) (by kernel_rfl) (by simp) ?_
                      refine AllReadyIn.cons rfl (fun K hK => ?_) AllReadyIn.nil
                      refine stepIn_append rfl _ _ 33 rfl _ _ _ rfl rfl w1 hrun ?_
                      refine hK _ _ ?_
                      clear hK K
                      simp only [Act.put, List.setIfInBounds_toArray]
                      refine wpAnyIn_ready (rs := [7]) (by kernel_rfl) (by simp) ?_
                      refine AllReadyIn.cons rfl (fun K hK => ?_) AllReadyIn.nil
                      go_simp
                      refine hK _ _ ?_
                      clear hK K
                      refine wpAnyIn_done (by kernel_rfl) ?_ _
                      gi_wp2
                      exact told_end HM.out HRC.out H3.out H4.out H5.out HV.out HR.out HO'.out HG.out
                  refine AllReadyIn.cons rfl (fun K hK => ?_) ?_
                  · as_aux_lemma =>
                      go_simp
                      refine hK _ _ ?_
                      clear hK K
                      refine wpAnyIn_ready (rs := [0, 5]) (by kernel_rfl) (by simp) ?_
                      refine AllReadyIn.cons rfl (fun K hK => ?_) ?_
                      · as_aux_lemma =>
                          go_simp
                          refine hK _ _ ?_
                          clear hK K
                          refine wpAnyIn_ready (rs := [5]) (by kernel_rfl) (by simp) ?_
                          refine AllReadyIn.cons rfl (fun K hK => ?_) AllReadyIn.nil
                          go_simp
                          refine hK _ _ ?_
                          clear hK K
                          refine wpAnyIn_ready (rs := [6]) (by kernel_rfl) (by simp) ?_
                          refine AllReadyIn.cons rfl (fun K hK => ?_) AllReadyIn.nil
                          refine stepIn_append rfl _ _ 33 rfl _ _ _ rfl rfl w1 hrun ?_
                          refine hK _ _ ?_
                          clear hK K
                          simp only [Act.put, List.setIfInBounds_toArray]
                          refine wpAnyIn_ready (rs := [7]) (by kernel_rfl) (by simp) ?_
                          refine AllReadyIn.cons rfl (fun K hK => ?_) AllReadyIn.nil
                          go_simp
                          refine hK _ _ ?_
                          clear hK K
                          refine wpAnyIn_done (by kernel_rfl) ?_ _
                          gi_wp2
                          exact told_end HM.out HRC.out H3.out H4.out H5.out HV.out HR.out HO'.out HG.out
                      refine AllReadyIn.cons rfl (fun K hK => ?_) ?_
                      · as_aux_lemma =>
                          go_simp
                          refine hK _ _ ?_
                          clear hK K
                          refine wpAnyIn_ready (rs := [0]) (by kernel_rfl) (by simp) ?_
                          refine AllReadyIn.cons rfl (fun K hK => ?_) AllReadyIn.nil
                          go_simp
                          refine hK _ _ ?_
                          clear hK K
                          refine wpAnyIn_ready (rs := [6]) (by kernel_rfl) (by simp) ?_
                          refine AllReadyIn.cons rfl (fun K hK => ?_) AllReadyIn.nil
                          refine stepIn_append rfl _ _ 33 rfl _ _ _ rfl rfl w1 hrun ?_
                          refine hK _ _ ?_
                          clear hK K
                          simp only [Act.put, List.setIfInBounds_toArray]
                          refine wpAnyIn_ready (rs := [7]) (by kernel_rfl) (by simp) ?_
                          refine AllReadyIn.cons rfl (fun K hK => ?_) AllReadyIn.nil
                          go_simp
                          refine hK _ _ ?_
                          clear hK K
                          refine wpAnyIn_done (by kernel_rfl) ?_ _
                          gi_wp2
                          exact told_end HM.out HRC.out H3.out H4.out H5.out HV.out HR.out HO'.out HG.out
                      exact AllReadyIn.nil
                  exact AllReadyIn.nil
              exact AllReadyIn.nil
          exact AllReadyIn.nil
      exact AllReadyIn.nil
  case done =>
    intro W hI hM
    obtain ⟨⟨v, hv, hrow⟩, h3, h4, h5⟩ := hI
    rw [List.take_of_length_le (by omega)] at hrow
    have hvb := hv.cell
    have HR := hid hrow; have H5 := hid h5; have HM := hid hM
    clear hrow h3 h4 h5 hM
    gi_wp2
    refine ⟨by simp, .inl ⟨_, _, rfl, run_takeDeferred HM.out, ?_⟩⟩
    refine ⟨_, results_tmp rfl _ _ _, _, rfl, ownsRow_putObj HR.out _ HM.out rfl, H5.out.trans (put_below _ (by omega) H5.out.size)⟩
  case stop =>
    intro c W h _
    exact h.elim

end Go.Proofs.Ytebjjibgkjgpgaa
