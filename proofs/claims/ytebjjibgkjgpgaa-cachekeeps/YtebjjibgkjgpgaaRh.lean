/- The document's cache: Dirt, which sorts by hand; no statement of the seat is proved here. -/
import Derived.Test.YtebjjibgkjgpgaaRg
namespace Go.Proofs.Ytebjjibgkjgpgaa
open Go.RowKit Go.Maps

theorem perm_sorted_eq : ∀ {l l' : List Int}, l.Perm l' → l.Pairwise (· ≤ ·) → l'.Pairwise (· ≤ ·) → l = l'
  | [], l', h, _, _ => (List.Perm.nil_eq h)
  | a :: t, [], h, _, _ => by have := h.length_eq; simp at this
  | a :: t, b :: t', h, h1, h2 => by
    have p1 := List.pairwise_cons.1 h1
    have p2 := List.pairwise_cons.1 h2
    have ha : a ∈ b :: t' := h.mem_iff.1 (by simp)
    have hb : b ∈ a :: t := h.mem_iff.2 (by simp)
    have e : a = b := by
      rcases List.mem_cons.1 ha with h3 | h3
      · exact h3
      · rcases List.mem_cons.1 hb with h4 | h4
        · exact h4.symm
        · have := p1.1 b h4; have := p2.1 a h3; omega
    subst e
    rw [perm_sorted_eq (List.Perm.cons_inv h) p1.2 p2.2]

theorem rise_sorted (l : List Int) : (rise l).Pairwise (· ≤ ·) := by
  have := List.pairwise_mergeSort (le := fun x y : Int => decide (x ≤ y)) (by intro a b c; simp; omega) (by intro a b; simp; omega) l
  simpa [rise] using this
theorem rise_perm (l : List Int) : (rise l).Perm l := List.mergeSort_perm l _
theorem rise_eq {l x : List Int} (h : l.Perm x) (hs : l.Pairwise (· ≤ ·)) : l = rise x := perm_sorted_eq (h.trans (rise_perm x).symm) hs (rise_sorted x)

theorem ins_sorted {l : List Int} {p : Int} {k : Nat} (hs : l.Pairwise (· ≤ ·)) (hk : k ≤ l.length) (h1 : ∀ x ∈ l.drop k, p < x) (h2 : ∀ j (hj : j < l.length), j + 1 = k → l[j] ≤ p) : (l.take k ++ p :: l.drop k).Pairwise (· ≤ ·) := by
  have e : l = l.take k ++ l.drop k := (List.take_append_drop k l).symm
  rw [e] at hs
  have n1 := List.pairwise_append.1 hs
  have hle : ∀ x ∈ l.take k, x ≤ p := fun x hx => by
    cases k with
    | zero => simp at hx
    | succ k =>
      have hkl : k < l.length := by omega
      have hlast := h2 k hkl rfl
      rw [List.take_add_one, List.getElem?_eq_getElem hkl] at hx
      rcases List.mem_append.1 hx with h3 | h3
      · have hs' := n1.1
        rw [List.take_add_one, List.getElem?_eq_getElem hkl] at hs'
        have := (List.pairwise_append.1 hs').2.2 x h3 l[k] (by simp)
        omega
      · simp at h3; omega
  refine List.pairwise_append.2 ⟨n1.1, List.pairwise_cons.2 ⟨fun x hx => by have := h1 x hx; omega, n1.2.1⟩, fun x hx y hy => ?_⟩
  rcases List.mem_cons.1 hy with rfl | hy
  · exact hle x hx
  · exact n1.2.2 x hx y hy
theorem ins_perm (l : List Int) (p : Int) (k : Nat) : (l.take k ++ p :: l.drop k).Perm (l ++ [p]) := by
  have h1 : (l.take k ++ p :: l.drop k).Perm (p :: (l.take k ++ l.drop k)) := List.perm_middle
  rw [List.take_append_drop] at h1
  exact h1.trans (List.perm_append_singleton p l).symm

theorem row_setB {w : World} {B sz g n cap : Nat} {e : TypeId} {xs : List Value} (h : w.ownsRow B e sz (.slice (some ⟨g, 0, none⟩) n cap) n xs) (t : Nat) (v : Value) :
    (w.setCell ⟨g, t, none⟩ v).ownsRow B e sz (.slice (some ⟨g, 0, none⟩) n cap) n (xs.set t v) := by
  rcases h.2 with ⟨hv, _⟩ | ⟨g', cap', cur, hv, hb', hg, hnc, hm, hcs, htake⟩
  · simp at hv
  · simp only [Value.slice.injEq, Option.some.injEq, Addr.mk.injEq, and_true, true_and] at hv
    obtain ⟨rfl, rfl⟩ := hv
    have hset : (w.setCell ⟨g, t, none⟩ v).heap[g]? = some (.cells (cur.setIfInBounds t v) e (0, 0)) := by
      simp [World.setCell, Array.getElem?_modify, hg]
    refine ⟨by rw [List.length_set]; exact h.1, .inr ⟨g, cap, _, rfl, hb', hset, hnc, hm, by simpa using hcs, ?_⟩⟩
    rw [Array.toList_setIfInBounds, List.take_set, htake]
theorem ints_set (l : List Int) (i : Nat) (z : Int) : (ints l).set i (.int .i64 z) = ints (l.set i z) := by simp [ints, List.map_set]

theorem own_succ3 {w : World} {B n c : Nat} {ao : Option Addr} {xs : List Value} (h : w.ownsRow B 3 1 (.slice ao (n + 1) c) (n + 1) xs) : ∃ g, ao = some ⟨g, 0, none⟩ := by
  rcases h.2 with ⟨hv, hz⟩ | ⟨g, cap, cur, hv, _⟩
  · omega
  · simp only [Value.slice.injEq] at hv; exact ⟨g, hv.1⟩

/-- 'append' of one number onto a row of one's own. -/
theorem wpList_app33g {w : World} {ops : Array Oper} {rest : List Oper} {o : Oper} {a : Act} {Q : Exit → Act → World → Prop} (hgd : o.guard = none) (s x : Operand)
    (ho : o.op = .call { callee := .builtin .append, args := #[s, x], argTypes := #[33, 33] }) (B : Nat) (v : Value) (n : Nat) (xs : List Int) (hs : a.eval s = v) (hown : w.ownsRow B 3 1 v n (ints xs))
    (ad : Addr) (z : Int) (hx : a.eval x = .slice (some ad) 1 1) (hat : w.cell? ad = some (.int .i64 z)) (hn : n ≤ 1000000) (hB : B ≤ w.heap.size)
    (h : ∀ ao' c' w', w'.ownsRow B 3 1 (.slice ao' (n + 1) c') (n + 1) (ints (xs ++ [z])) → Below B w w' → w.grownBy w' v.ownBlock → wpList Try.prog ops Q rest (a.put o.dst (.slice ao' (n + 1) c')) w') : wpList Try.prog ops Q (o :: rest) a w := by
  refine wpList_plain hgd fun K hK => ?_
  obtain ⟨i, hi, hz0, hz1, hz2⟩ := info_parts info3
  obtain ⟨v', w', hr, h2, h3, -, -⟩ := run_append_own_at (P := Try.prog) w B 33 o.type 3 i (.int .i64 0) 1 8 Try.u33 hi hz0 hz1 hz2 rfl (by decide) v n (ints xs) hown ad 1 1 [.int .i64 z] rfl
    (fun j u hu => by
      cases j with
      | zero =>
        simp at hu; subst hu
        obtain ⟨b, off, sp⟩ := ad
        have hsp : sp = none := World.cell?_spot hat
        subst hsp
        rw [Addr.add_lit]; exact hat
      | succ j => simp at hu) (by simp [Value.oneCell']) (by unfold maxLen; omega) (by omega) hB
  obtain ⟨ao', c', rfl⟩ := row_slice h2
  unfold Oper.wp execOp
  simp only [ho, resolve, invoke, builtin, Sem.run_bind, Sem.run_pure, Result.andThen_ok, List.map_toArray, List.map_cons, List.map_nil, hs, hx, hr]
  refine hK _ _ (h ao' c' w' (by rw [show ints (xs ++ [z]) = ints xs ++ [.int .i64 z] by simp [ints]]; exact h2) ((Below.refl B w).grown h3 hB fun k hk => (hown.lt k hk).1) h3)

theorem own_not {w : World} {B n c : Nat} {ao : Option Addr} {xs : List Value} (h : w.ownsRow B 3 1 (.slice ao n c) n xs) {rb : Nat} {cs : Array Value} (hb : w.heap[rb]? = some (.cells cs 81 (0, 0))) : some rb ≠ (Value.slice ao n c).ownBlock := by
  intro h0
  rcases h.2 with ⟨hv, _⟩ | ⟨g, cap, cur, hv, _, hg, _⟩
  · simp only [Value.slice.injEq] at hv; rw [hv.1] at h0; simp [Value.ownBlock] at h0
  · simp only [Value.slice.injEq] at hv; rw [hv.1] at h0
    have : rb = g := by simpa [Value.ownBlock] using h0
    rw [← this, hb] at hg
    simp at hg

/-- The row while a number is on its way down. -/
structure DI (w : World) (g rb cap L : Nat) (srt : List Int) (p : Int) (k : Nat) (y : Int) (W : World) : Prop where
  row : W.ownsRow w.heap.size 3 1 (.slice (some ⟨g, 0, none⟩) (L + 1) cap) (L + 1) (ints (srt.take k ++ y :: srt.drop k))
  box : ∃ cs, W.heap[rb]? = some (.cells cs 81 (0, 0)) ∧ cs[0]? = some (.int .i64 p)
  bl : Below w.heap.size w W
  up : ∀ x ∈ srt.drop k, p < x
  len : srt.length = L
  kl : k ≤ L

theorem DI.cell {w W : World} {g rb cap L k : Nat} {srt : List Int} {p y : Int} (h : DI w g rb cap L srt p k y W) : W.cell? ⟨rb, 0, none⟩ = some (.int .i64 p) := by
  obtain ⟨cs, h1, h2⟩ := h.box
  simp [World.cell?, h1, h2]
theorem DI.blk {w W : World} {g rb cap L k : Nat} {srt : List Int} {p y : Int} (h : DI w g rb cap L srt p k y W) : g ≠ rb ∧ w.heap.size ≤ g ∧ L + 1 ≤ cap ∧ ∃ cur, W.heap[g]? = some (.cells cur 3 (0, 0)) := by
  obtain ⟨cs, h1, _⟩ := h.box
  rcases h.row.2 with ⟨hv, _⟩ | ⟨g', cap', cur, hv, hB, hg, hnc, _⟩
  · simp at hv
  · simp only [Value.slice.injEq, Option.some.injEq, Addr.mk.injEq, and_true, true_and] at hv
    obtain ⟨rfl, rfl⟩ := hv
    exact ⟨fun h0 => by rw [h0, h1] at hg; simp at hg, hB, hnc, cur, hg⟩
theorem DI.at_ {w W : World} {g rb cap L k : Nat} {srt : List Int} {p y : Int} (h : DI w g rb cap L srt p k y W) {j : Nat} (hj : j < k) : W.cell? ⟨g, j, none⟩ = some (.int .i64 (srt.getD j 0)) := by
  have hl := h.len; have hk := h.kl
  rw [h.row.cellAt j (by omega)]
  simp [ints, List.getElem?_append_left, List.length_take, show j < min k srt.length by omega, List.getElem?_eq_getElem (show j < srt.length by omega), List.getD]
theorem DI.set {w W : World} {g rb cap L k : Nat} {srt : List Int} {p y : Int} (h : DI w g rb cap L srt p k y W) (z : Int) : DI w g rb cap L srt p k z (W.setCell ⟨g, k, none⟩ (.int .i64 z)) ∧ W.frozen? ⟨g, k, none⟩ = false ∧ W.cell? ⟨g, k, none⟩ = some (.int .i64 y) := by
  obtain ⟨hne, hB, _, cur, hg⟩ := h.blk
  have hl := h.len; have hk := h.kl
  have ht : (srt.take k).length = k := by simp; omega
  refine ⟨⟨?_, ?_, h.bl.setCell (p := ⟨g, k, none⟩) hB _, h.up, h.len, h.kl⟩, by simp [World.frozen?, hg], ?_⟩
  · have q := row_setB h.row k (.int .i64 z)
    rw [ints_set] at q
    have e1 : (srt.take k ++ y :: srt.drop k).set k z = srt.take k ++ z :: srt.drop k := by
      rw [List.set_append_right _ _ (by omega), ht, Nat.sub_self, List.set_cons_zero]
    rw [e1] at q; exact q
  · obtain ⟨cs, h1, h2⟩ := h.box
    exact ⟨cs, (set_heap _ _ _ _ _ hne.symm).trans h1, h2⟩
  · rw [h.row.cellAt k (by omega)]
    simp [ints, show min k srt.length = k by omega]
/-- One place down. -/
theorem DI.down {w W : World} {g rb cap L k : Nat} {srt : List Int} {p : Int} (h : DI w g rb cap L srt p (k + 1) (srt.getD k 0) W) (hp : p < srt.getD k 0) : DI w g rb cap L srt p k (srt.getD k 0) W := by
  have hl := h.len; have hk := h.kl
  have hkl : k < srt.length := by omega
  have e0 : srt.getD k 0 = srt[k] := by simp [List.getD, List.getElem?_eq_getElem hkl]
  have e2 : srt.drop k = srt[k] :: srt.drop (k + 1) := List.drop_eq_getElem_cons hkl
  have e1 : srt.take (k + 1) ++ srt.getD k 0 :: srt.drop (k + 1) = srt.take k ++ srt.getD k 0 :: srt.drop k := by
    rw [List.take_add_one, List.getElem?_eq_getElem hkl, e2, e0]; simp only [Option.toList_some, List.append_assoc, List.cons_append, List.nil_append]
  refine ⟨by rw [← e1]; exact h.row, h.box, h.bl, fun x hx => ?_, h.len, by omega⟩
  rw [e2] at hx
  rcases List.mem_cons.1 hx with rfl | hx
  · rw [← e0]; exact hp
  · exact h.up x hx

theorem two_kept {wr w2 : World} {cs ds : Array Value} {B n c : Nat} {ao : Option Addr} {xs : List Value} (h : ((wr.alloc (.cells cs 81)).alloc (.cells ds 3)).ownsRow B 3 1 (.slice ao n c) n xs) (hg : ((wr.alloc (.cells cs 81)).alloc (.cells ds 3)).grownBy w2 (Value.slice ao n c).ownBlock) : w2.heap[wr.heap.size]? = some (.cells cs 81 (0, 0)) := by
  have h1 : ((wr.alloc (.cells cs 81)).alloc (.cells ds 3)).heap[wr.heap.size]? = some (.cells cs 81 (0, 0)) := (Below.heap_alloc _ _ _ (by simp)).trans (heap_alloc_new wr _)
  exact (hg.block _ (by simp; omega) (own_not h h1)).trans h1

theorem DI.down' {w W : World} {g rb cap L k : Nat} {srt : List Int} {p x : Int} (h : DI w g rb cap L srt p (k + 1) x W) (hx : x = srt.getD k 0) (hp : p < x) : DI w g rb cap L srt p k x W := by
  subst hx
  exact h.down hp

theorem DI.drew {w W : World} {g rb cap L k : Nat} {srt : List Int} {p y : Int} (h : DI w g rb cap L srt p k y W) : DI w g rb cap L srt p k y W.drew := ⟨h.row, h.box, h.bl.drew, h.up, h.len, h.kl⟩

theorem told_step (p : Row → Bool) (l : List Row) (i : Nat) (hi : i < l.length) : told p (l.take (i + 1)) = told p (l.take i) ++ (if p l[i] then [l[i].page] else []) := by
  rw [take_filter p l i hi]; split <;> simp

theorem op_at2 (l : List Oper) (i : Nat) (o : Oper) (h : l[i]? = some o) : l.toArray[i]? = some o := by simpa using h

set_option maxRecDepth 20000 in
set_option maxHeartbeats 4000000 in
theorem rdirt_some (m g n cap : Nat) (ps : List (Row × RB)) (s : CS) (w : World) (h : RP w m ⟨some ⟨g, 0, none⟩, cap, ps⟩ s) (hn : ps.length ≤ 1000000) (hnn : n = ps.length) :
    Calls Try.prog 41 #[.pointer (some ⟨m, 0, none⟩)] w fun e w' => Told s.dirt w e w' := by
  have c1 := h.c1
  have hsl : s.l.length = n := by rw [h.len, hnn]
  have HH := hid h
  simp only at c1
  rw [← hnn] at c1 hn
  have HN := hid hnn; have HSL := hid hsl
  clear h hnn hsl
  go_enter Try.func41, Try.ntmps41
  go_wp2
  go_loopg [3, 12] n (fun q d c W => ∃ (i : Nat) (ao' : Option Addr) (L cap' : Nat) (srt : List Int), i + q = n ∧ c = .int .i64 (i : Int) ∧ d = .slice ao' L cap' ∧ L ≤ i ∧ Hid (W.ownsRow w.heap.size 3 1 (.slice ao' L cap') L (ints srt)) ∧ Hid (srt.Perm (told Row.dirty (s.l.take i)) ∧ srt.Pairwise (· ≤ ·)) ∧ Hid (Below w.heap.size w W))
  case atStart => exact ⟨0, none, 0, 0, [], by omega, rfl, rfl, by omega, hid (World.ownsRow_nil _ _ _ _), hid ⟨List.Perm.refl _, List.Pairwise.nil⟩, hid (Below.refl _ _)⟩
  case round =>
    obtain ⟨i, ao', L, cap', srt, hik, rfl, rfl, hLi, HO, HS, HB⟩ := hrel
    by_cases hi : i < n
    · have hi0 : i < ps.length := by rw [← HN.out]; exact hi
      have hi2 : i < s.l.length := by rw [HSL.out]; exact hi
      obtain ⟨g', ha, hcap, _, hgl, y0, y1, y2, y3, _⟩ := (HH.out.later HB.out).cells (i := i) hi0
      simp only [Option.some.injEq, Addr.mk.injEq, and_true] at ha
      obtain rfl := ha
      have hrw : ps[i].1 = s.l[i] := by simp only [HH.out.ls, List.getElem_map]
      simp only at y0 y1 y2 y3 hcap
      rw [hrw] at y0 y2 y3
      rw [← HN.out] at hcap
      have hstep := told_step Row.dirty s.l i hi2
      obtain ⟨p, hp⟩ : ∃ p, p = s.l[i].page := ⟨_, rfl⟩
      obtain ⟨bo, hbo⟩ : ∃ b, b = ps[i].2.bo := ⟨_, rfl⟩
      obtain ⟨bc, hbc⟩ : ∃ b, b = ps[i].2.bc := ⟨_, rfl⟩
      obtain ⟨pn, hpn⟩ : ∃ b, b = s.l[i].pins := ⟨_, rfl⟩
      rw [← hp] at y0 hstep; rw [← hbo, ← hbc] at y1; rw [← hpn] at y2
      have hi1 : (i : Int) < (n : Int) := by omega
      have hgn : ¬ g = wr.heap.size := by omega
      have hbs := HB.out.size
      cases hdi : s.l[i].dirty
      · rw [hdi] at y3 hstep
        have HST := hid hstep
        clear hp hrw hbo hbc hpn hi0 hstep hdi hi2
        go_wp2
        go_roundg (gk - 1)
        case measure => omega
        case rel =>
          refine ⟨i + 1, ao', L, cap', srt, by omega, by simp, rfl, by omega, hid (ownsRow_later HO.out ((Below.refl _ _).alloc (Nat.le_refl _) _)), hid ?_, hid (gt HB.out (by repeat (first | with_reducible exact Below.refl _ _ | with_reducible assumption | with_reducible refine Below.drew ?_ | with_reducible refine below_drewN ?_ _ | with_reducible refine Below.alloc ?_ (by simp <;> omega) _ | with_reducible refine Below.setCell ?_ (by simp <;> omega) _)))⟩
          rw [HST.out]; simpa using HS.out
      · rw [hdi] at y3 hstep
        have HST := hid hstep
        clear hp hrw hbo hbc hpn hi0 hstep hdi hi2
        obtain ⟨G0, hG0⟩ : ∃ G0, G0 = gk - 1 := ⟨_, rfl⟩
        have hsrtl : srt.length = L := by have := HO.out.1; simpa [ints] using this
        have HSRT := hid hsrtl
        clear hsrtl
        go_wp2_with ((with_reducible refine here_op 25 ?_); refine wpList_app33g rfl (.tmp 21) (.tmp 24) rfl w.heap.size (.slice ao' L cap') L srt rfl (ownsRow_later (ownsRow_later HO.out ((Below.refl _ _).alloc (Nat.le_refl _) _)) ((Below.refl _ _).alloc (Nat.le_refl _) _)) _ p rfl (by rw [World.cell?_alloc_at _ _ _ _ (by simp)]; rfl) (by omega) (by simp; omega) ?_; intro a2 c2 w2 ho2 hb2 hgr2; obtain ⟨g2, rfl⟩ := own_succ3 ho2; have hbx : w2.heap[wr.heap.size]? = some (.cells #[.int .i64 p, .slice bo 512 bc, .int .i64 (pn : Int), .bool true] 81 (0, 0)) := (two_kept (ownsRow_later (ownsRow_later HO.out ((Below.refl _ _).alloc (Nat.le_refl _) _)) ((Below.refl _ _).alloc (Nat.le_refl _) _)) hgr2); have HBX := hid hbx; have HO2 := hid ho2; have HB2 := hid hb2; clear ho2 hb2 hgr2 hbx)
        have hDI : DI w g2 wr.heap.size c2 L srt p L p w2 := by
          have hsl := HSRT.out
          refine ⟨?_, ?_, ?_, fun x hx => ?_, hsl, Nat.le_refl _⟩
          · have q := HO2.out
            rw [List.take_of_length_le (by omega), List.drop_of_length_le (by omega)]
            exact q
          · exact ⟨_, HBX.out, rfl⟩
          · exact HB.out.trans ((((Below.refl _ wr).alloc hbs _).alloc (by simp; omega) _).trans HB2.out)
          · rw [List.drop_of_length_le (by omega)] at hx; cases hx
        have HDI := hid hDI
        clear hDI
        go_loopg [6] L (fun q d W => ∃ (j : Nat) (y : Int), q = j ∧ d = .int .i64 (j : Int) ∧ Hid (DI w g2 wr.heap.size c2 L srt p j y W))
        case atStart => exact ⟨L, p, rfl, rfl, HDI⟩
        case round =>
          clear HDI
          obtain ⟨j, y, hjq, rfl, HD⟩ := hrel
          cases j with
          | zero =>
            have d0 := HD.out.cell
            obtain ⟨HD2, fz, cz⟩ := HD.out.set p
            replace HD2 := hid HD2
            have hcap2 := HD.out.blk.2.2.1
            rw [show (((0 : Nat) : Int)) = 0 from rfl]
            go_wp2
            refine wp_region_K (S := fun _ => True) (fun _ => false) (by kernel_rfl) trivial (fun hHeld => ?_)
            refine wpAnyK_pure (i := 0) (v := ?_) (op_at2 _ 0 _ rfl) (by kernel_rfl) (by kernel_rfl) (by kernel_rfl) (by kernel_rfl) (fun _ _ _ h => h) (Or.inl ⟨by rfl, ?_⟩) (Or.inl (by assumption)) ?_
            rotate_left 1
            focus (intro W hSw; go_simp; first | done | with_reducible rfl)
            (try simp only [Act.put, List.setIfInBounds_toArray, List.set_cons_zero, List.set_cons_succ])
            refine wpAnyK_pure (i := 1) (v := .bool false) (op_at2 _ 1 _ rfl) (by kernel_rfl) (by kernel_rfl) (by kernel_rfl) (by kernel_rfl) (fun _ _ _ h => h) (Or.inl ⟨by rfl, ?_⟩) (Or.inl (by assumption)) ?_
            focus (intro W hSw; go_simp; first | done | with_reducible rfl | rfl | (trace_state; simp))
            (try simp only [Act.put, List.setIfInBounds_toArray, List.set_cons_zero, List.set_cons_succ])
            refine wpAnyK_pure (i := 2) (v := .bool false) (op_at2 _ 2 _ rfl) (by kernel_rfl) (by kernel_rfl) (by kernel_rfl) (by kernel_rfl) (fun _ _ _ h => h) (Or.inl ⟨by rfl, ?_⟩) (Or.inl (by assumption)) ?_
            focus (intro W hSw; go_simp; first | done | with_reducible rfl | rfl | (trace_state; simp))
            (try simp only [Act.put, List.setIfInBounds_toArray, List.set_cons_zero, List.set_cons_succ])
            refine wpAnyK_pure (i := 3) (v := undef) (op_at2 _ 3 _ rfl) (by kernel_rfl) (by kernel_rfl) (by kernel_rfl) (by kernel_rfl) (fun _ _ _ h => h) (Or.inr ⟨by kernel_rfl, rfl⟩) (Or.inl (by assumption)) ?_
            (try simp only [Act.put, List.setIfInBounds_toArray, List.set_cons_zero, List.set_cons_succ])
            refine wpAnyK_pure (i := 4) (v := undef) (op_at2 _ 4 _ rfl) (by kernel_rfl) (by kernel_rfl) (by kernel_rfl) (by kernel_rfl) (fun _ _ _ h => h) (Or.inr ⟨by kernel_rfl, rfl⟩) (Or.inl (by assumption)) ?_
            (try simp only [Act.put, List.setIfInBounds_toArray, List.set_cons_zero, List.set_cons_succ])
            refine wpAnyK_pure (i := 5) (v := undef) (op_at2 _ 5 _ rfl) (by kernel_rfl) (by kernel_rfl) (by kernel_rfl) (by kernel_rfl) (fun _ _ _ h => h) (Or.inr ⟨by kernel_rfl, rfl⟩) (Or.inl (by assumption)) ?_
            (try simp only [Act.put, List.setIfInBounds_toArray, List.set_cons_zero, List.set_cons_succ])
            refine wpAnyK_pure (i := 6) (v := undef) (op_at2 _ 6 _ rfl) (by kernel_rfl) (by kernel_rfl) (by kernel_rfl) (by kernel_rfl) (fun _ _ _ h => h) (Or.inr ⟨by kernel_rfl, rfl⟩) (Or.inl (by assumption)) ?_
            (try simp only [Act.put, List.setIfInBounds_toArray, List.set_cons_zero, List.set_cons_succ])
            refine wpAnyK_pure (i := 7) (v := undef) (op_at2 _ 7 _ rfl) (by kernel_rfl) (by kernel_rfl) (by kernel_rfl) (by kernel_rfl) (fun _ _ _ h => h) (Or.inr ⟨by kernel_rfl, rfl⟩) (Or.inl (by assumption)) ?_
            (try simp only [Act.put, List.setIfInBounds_toArray, List.set_cons_zero, List.set_cons_succ])
            refine wpAnyK_pure (i := 8) (v := undef) (op_at2 _ 8 _ rfl) (by kernel_rfl) (by kernel_rfl) (by kernel_rfl) (by kernel_rfl) (fun _ _ _ h => h) (Or.inr ⟨by kernel_rfl, rfl⟩) (Or.inl (by assumption)) ?_
            (try simp only [Act.put, List.setIfInBounds_toArray, List.set_cons_zero, List.set_cons_succ])
            refine wpAnyK_pure (i := 9) (v := undef) (op_at2 _ 9 _ rfl) (by kernel_rfl) (by kernel_rfl) (by kernel_rfl) (by kernel_rfl) (fun _ _ _ h => h) (Or.inr ⟨by kernel_rfl, rfl⟩) (Or.inl (by assumption)) ?_
            (try simp only [Act.put, List.setIfInBounds_toArray, List.set_cons_zero, List.set_cons_succ])
            refine wpAnyK_pure (i := 10) (v := undef) (op_at2 _ 10 _ rfl) (by kernel_rfl) (by kernel_rfl) (by kernel_rfl) (by kernel_rfl) (fun _ _ _ h => h) (Or.inr ⟨by kernel_rfl, rfl⟩) (Or.inl (by assumption)) ?_
            (try simp only [Act.put, List.setIfInBounds_toArray, List.set_cons_zero, List.set_cons_succ])
            refine wpAnyK_pure (i := 11) (v := ?_) (op_at2 _ 11 _ rfl) (by kernel_rfl) (by kernel_rfl) (by kernel_rfl) (by kernel_rfl) (fun _ _ _ h => h) (Or.inl ⟨by rfl, ?_⟩) (Or.inl (by assumption)) ?_
            rotate_left 1
            focus (intro W hSw; go_simp; first | done | with_reducible rfl)
            (try simp only [Act.put, List.setIfInBounds_toArray, List.set_cons_zero, List.set_cons_succ])
            refine wpAnyK_done (by kernel_rfl) ?_ _
            go_wp2
            go_roundg G0
            case measure => omega
            case rel =>
              refine ⟨i + 1, _, L + 1, c2, srt.take 0 ++ p :: srt.drop 0, by omega, by simp, rfl, by omega, hid HD2.out.row, hid ⟨?_, ?_⟩, hid HD2.out.bl.drew⟩
              · rw [HST.out]
                exact (ins_perm srt p 0).trans (List.Perm.append_right [p] HS.out.1)
              · exact ins_sorted HS.out.2 (by have := HD2.out.len; have := HD2.out.kl; omega) HD2.out.up (fun q _ hq => by omega)
          | succ j =>
            have d0 := HD.out.cell
            have d1 := HD.out.at_ (j := j) (by omega)
            have hkl := HD.out.kl
            have hsl := HD.out.len
            have hcap2 := HD.out.blk.2.2.1
            have hj1 : (0 : Int) < ((j + 1 : Nat) : Int) := by omega
            have hj2 : IntKind.i64.wrap (((j + 1 : Nat) : Int) - 1) = (j : Int) := by rw [IntWalk.i64_in _ ⟨by omega, by omega⟩]; omega
            have hj3 : (j : Int) < (L : Int) + 1 := by omega
            have hj4 : IntKind.i64.wrap (j : Int) = (j : Int) := IntWalk.i64_in _ ⟨by omega, by omega⟩
            have hj5 : (j : Int) + 1 < (L : Int) + 1 := by omega
            obtain ⟨x, hx⟩ : ∃ x, x = srt.getD j 0 := ⟨_, rfl⟩
            rw [← hx] at d1
            have HX := hid hx
            clear hx
            by_cases hlt : p < x
            · have hg1 : x > p := hlt
              go_wp2
              refine wp_region_K (S := Reads2 ⟨g2, j, none⟩ _ (.int .i64 x) (.int .i64 p)) (fun _ => false) (by kernel_rfl) ⟨d1, d0⟩ (fun hHeld => ?_)
              refine wpAnyK_pure (i := 0) (v := ?_) (op_at2 _ 0 _ rfl) (by kernel_rfl) (by kernel_rfl) (by kernel_rfl) (by kernel_rfl) (fun _ _ _ h => h) (Or.inl ⟨by rfl, ?_⟩) (Or.inl (by assumption)) ?_
              rotate_left 1
              focus (intro W hSw; go_simp; first | done | with_reducible rfl)
              (try simp only [Act.put, List.setIfInBounds_toArray, List.set_cons_zero, List.set_cons_succ])
              refine wpAnyK_pure (i := 1) (v := .bool true) (op_at2 _ 1 _ rfl) (by kernel_rfl) (by kernel_rfl) (by kernel_rfl) (by kernel_rfl) (fun _ _ _ h => h) (Or.inl ⟨by rfl, ?_⟩) (Or.inl (by assumption)) ?_
              focus (intro W hSw; go_simp; first | done | with_reducible rfl)
              (try simp only [Act.put, List.setIfInBounds_toArray, List.set_cons_zero, List.set_cons_succ])
              refine wpAnyK_pure (i := 2) (v := .bool true) (op_at2 _ 2 _ rfl) (by kernel_rfl) (by kernel_rfl) (by kernel_rfl) (by kernel_rfl) (fun _ _ _ h => h) (Or.inl ⟨by rfl, ?_⟩) (Or.inl (by assumption)) ?_
              focus (intro W hSw; go_simp; first | done | with_reducible rfl)
              (try simp only [Act.put, List.setIfInBounds_toArray, List.set_cons_zero, List.set_cons_succ])
              refine wpAnyK_pure (i := 3) (v := ?_) (op_at2 _ 3 _ rfl) (by kernel_rfl) (by kernel_rfl) (by kernel_rfl) (by kernel_rfl) (fun _ _ _ h => h) (Or.inl ⟨by rfl, ?_⟩) (Or.inl (by assumption)) ?_
              rotate_left 1
              focus (intro W hSw; go_simp; first | done | with_reducible rfl)
              (try simp only [Act.put, List.setIfInBounds_toArray, List.set_cons_zero, List.set_cons_succ])
              refine wpAnyK_pure (i := 4) (v := ?_) (op_at2 _ 4 _ rfl) (by kernel_rfl) (by kernel_rfl) (by kernel_rfl) (by kernel_rfl) (fun _ _ _ h => h) (Or.inl ⟨by rfl, ?_⟩) (Or.inl (by assumption)) ?_
              rotate_left 1
              focus (intro W hSw; go_simp; first | done | with_reducible rfl)
              (try simp only [Act.put, List.setIfInBounds_toArray, List.set_cons_zero, List.set_cons_succ])
              refine wpAnyK_pure (i := 5) (v := ?_) (op_at2 _ 5 _ rfl) (by kernel_rfl) (by kernel_rfl) (by kernel_rfl) (by kernel_rfl) (fun _ _ _ h => h) (Or.inl ⟨by rfl, ?_⟩) (Or.inl (by assumption)) ?_
              rotate_left 1
              focus (intro W hSw; go_simp; first | done | with_reducible rfl)
              (try simp only [Act.put, List.setIfInBounds_toArray, List.set_cons_zero, List.set_cons_succ])
              refine wpAnyK_pure (i := 6) (v := ?_) (op_at2 _ 6 _ rfl) (by kernel_rfl) (by kernel_rfl) (by kernel_rfl) (by kernel_rfl) (fun _ _ _ h => h) (Or.inl ⟨by rfl, ?_⟩) (Or.inl (by assumption)) ?_
              rotate_left 1
              focus (intro W hSw; go_simp; first | done | with_reducible rfl)
              (try simp only [Act.put, List.setIfInBounds_toArray, List.set_cons_zero, List.set_cons_succ])
              refine wpAnyK_take (i := 7) (v := ?_) (op_at2 _ 7 _ rfl) (by kernel_rfl) (by kernel_rfl) (by kernel_rfl) (by kernel_rfl) (fun _ _ _ h => h) (Or.inl ⟨by rfl, ?_⟩) (by assumption) ?_
              rotate_left 1
              focus (intro W hSw; obtain ⟨hw1, hw2⟩ := hSw; go_simp; first | done | with_reducible rfl)
              (try simp only [Act.put, List.setIfInBounds_toArray, List.set_cons_zero, List.set_cons_succ])
              refine wpAnyK_pure (i := 8) (v := ?_) (op_at2 _ 8 _ rfl) (by kernel_rfl) (by kernel_rfl) (by kernel_rfl) (by kernel_rfl) (fun _ _ _ h => h) (Or.inl ⟨by rfl, ?_⟩) (Or.inl (by assumption)) ?_
              rotate_left 1
              focus (intro W hSw; go_simp; first | done | with_reducible rfl)
              (try simp only [Act.put, List.setIfInBounds_toArray, List.set_cons_zero, List.set_cons_succ])
              refine wpAnyK_take (i := 9) (v := ?_) (op_at2 _ 9 _ rfl) (by kernel_rfl) (by kernel_rfl) (by kernel_rfl) (by kernel_rfl) (fun _ _ _ h => h) (Or.inl ⟨by rfl, ?_⟩) (by assumption) ?_
              rotate_left 1
              focus (intro W hSw; obtain ⟨hw1, hw2⟩ := hSw; go_simp; first | done | with_reducible rfl)
              (try simp only [Act.put, List.setIfInBounds_toArray, List.set_cons_zero, List.set_cons_succ])
              refine wpAnyK_pure (i := 10) (v := .bool true) (op_at2 _ 10 _ rfl) (by kernel_rfl) (by kernel_rfl) (by kernel_rfl) (by kernel_rfl) (fun _ _ _ h => h) (Or.inl ⟨by rfl, ?_⟩) (Or.inl (by assumption)) ?_
              focus (intro W hSw; go_simp; first | done | with_reducible rfl | (simp; omega) | omega)
              (try simp only [Act.put, List.setIfInBounds_toArray, List.set_cons_zero, List.set_cons_succ])
              refine wpAnyK_pure (i := 11) (v := .bool true) (op_at2 _ 11 _ rfl) (by kernel_rfl) (by kernel_rfl) (by kernel_rfl) (by kernel_rfl) (fun _ _ _ h => h) (Or.inl ⟨by rfl, ?_⟩) (Or.inl (by assumption)) ?_
              focus (intro W hSw; go_simp; first | done | with_reducible rfl)
              (try simp only [Act.put, List.setIfInBounds_toArray, List.set_cons_zero, List.set_cons_succ])
              refine wpAnyK_done (by kernel_rfl) ?_ _
              obtain ⟨HD3, fz, cz⟩ := HD.out.set x
              have HD4 := hid (HD3.down' HX.out hlt)
              clear HD3
              go_wp2
              go_roundg (gk - 1)
              case measure => omega
              case rel => exact ⟨j, x, by omega, rfl, hid HD4.out.drew⟩
            · have hg1 : ¬ x > p := hlt
              obtain ⟨HD2, fz, cz⟩ := HD.out.set p
              replace HD2 := hid HD2
              go_wp2
              refine wp_region_K (S := Reads2 ⟨g2, j, none⟩ _ (.int .i64 x) (.int .i64 p)) (fun _ => false) (by kernel_rfl) ⟨d1, d0⟩ (fun hHeld => ?_)
              refine wpAnyK_pure (i := 0) (v := ?_) (op_at2 _ 0 _ rfl) (by kernel_rfl) (by kernel_rfl) (by kernel_rfl) (by kernel_rfl) (fun _ _ _ h => h) (Or.inl ⟨by rfl, ?_⟩) (Or.inl (by assumption)) ?_
              rotate_left 1
              focus (intro W hSw; go_simp; first | done | with_reducible rfl)
              (try simp only [Act.put, List.setIfInBounds_toArray, List.set_cons_zero, List.set_cons_succ])
              refine wpAnyK_pure (i := 1) (v := .bool true) (op_at2 _ 1 _ rfl) (by kernel_rfl) (by kernel_rfl) (by kernel_rfl) (by kernel_rfl) (fun _ _ _ h => h) (Or.inl ⟨by rfl, ?_⟩) (Or.inl (by assumption)) ?_
              focus (intro W hSw; go_simp; first | done | with_reducible rfl)
              (try simp only [Act.put, List.setIfInBounds_toArray, List.set_cons_zero, List.set_cons_succ])
              refine wpAnyK_pure (i := 2) (v := .bool true) (op_at2 _ 2 _ rfl) (by kernel_rfl) (by kernel_rfl) (by kernel_rfl) (by kernel_rfl) (fun _ _ _ h => h) (Or.inl ⟨by rfl, ?_⟩) (Or.inl (by assumption)) ?_
              focus (intro W hSw; go_simp; first | done | with_reducible rfl)
              (try simp only [Act.put, List.setIfInBounds_toArray, List.set_cons_zero, List.set_cons_succ])
              refine wpAnyK_pure (i := 3) (v := ?_) (op_at2 _ 3 _ rfl) (by kernel_rfl) (by kernel_rfl) (by kernel_rfl) (by kernel_rfl) (fun _ _ _ h => h) (Or.inl ⟨by rfl, ?_⟩) (Or.inl (by assumption)) ?_
              rotate_left 1
              focus (intro W hSw; go_simp; first | done | with_reducible rfl)
              (try simp only [Act.put, List.setIfInBounds_toArray, List.set_cons_zero, List.set_cons_succ])
              refine wpAnyK_pure (i := 4) (v := ?_) (op_at2 _ 4 _ rfl) (by kernel_rfl) (by kernel_rfl) (by kernel_rfl) (by kernel_rfl) (fun _ _ _ h => h) (Or.inl ⟨by rfl, ?_⟩) (Or.inl (by assumption)) ?_
              rotate_left 1
              focus (intro W hSw; go_simp; first | done | with_reducible rfl)
              (try simp only [Act.put, List.setIfInBounds_toArray, List.set_cons_zero, List.set_cons_succ])
              refine wpAnyK_pure (i := 5) (v := ?_) (op_at2 _ 5 _ rfl) (by kernel_rfl) (by kernel_rfl) (by kernel_rfl) (by kernel_rfl) (fun _ _ _ h => h) (Or.inl ⟨by rfl, ?_⟩) (Or.inl (by assumption)) ?_
              rotate_left 1
              focus (intro W hSw; go_simp; first | done | with_reducible rfl)
              (try simp only [Act.put, List.setIfInBounds_toArray, List.set_cons_zero, List.set_cons_succ])
              refine wpAnyK_pure (i := 6) (v := ?_) (op_at2 _ 6 _ rfl) (by kernel_rfl) (by kernel_rfl) (by kernel_rfl) (by kernel_rfl) (fun _ _ _ h => h) (Or.inl ⟨by rfl, ?_⟩) (Or.inl (by assumption)) ?_
              rotate_left 1
              focus (intro W hSw; go_simp; first | done | with_reducible rfl)
              (try simp only [Act.put, List.setIfInBounds_toArray, List.set_cons_zero, List.set_cons_succ])
              refine wpAnyK_take (i := 7) (v := ?_) (op_at2 _ 7 _ rfl) (by kernel_rfl) (by kernel_rfl) (by kernel_rfl) (by kernel_rfl) (fun _ _ _ h => h) (Or.inl ⟨by rfl, ?_⟩) (by assumption) ?_
              rotate_left 1
              focus (intro W hSw; obtain ⟨hw1, hw2⟩ := hSw; go_simp; first | done | with_reducible rfl)
              (try simp only [Act.put, List.setIfInBounds_toArray, List.set_cons_zero, List.set_cons_succ])
              refine wpAnyK_pure (i := 8) (v := ?_) (op_at2 _ 8 _ rfl) (by kernel_rfl) (by kernel_rfl) (by kernel_rfl) (by kernel_rfl) (fun _ _ _ h => h) (Or.inl ⟨by rfl, ?_⟩) (Or.inl (by assumption)) ?_
              rotate_left 1
              focus (intro W hSw; go_simp; first | done | with_reducible rfl)
              (try simp only [Act.put, List.setIfInBounds_toArray, List.set_cons_zero, List.set_cons_succ])
              refine wpAnyK_take (i := 9) (v := ?_) (op_at2 _ 9 _ rfl) (by kernel_rfl) (by kernel_rfl) (by kernel_rfl) (by kernel_rfl) (fun _ _ _ h => h) (Or.inl ⟨by rfl, ?_⟩) (by assumption) ?_
              rotate_left 1
              focus (intro W hSw; obtain ⟨hw1, hw2⟩ := hSw; go_simp; first | done | with_reducible rfl)
              (try simp only [Act.put, List.setIfInBounds_toArray, List.set_cons_zero, List.set_cons_succ])
              refine wpAnyK_pure (i := 10) (v := .bool false) (op_at2 _ 10 _ rfl) (by kernel_rfl) (by kernel_rfl) (by kernel_rfl) (by kernel_rfl) (fun _ _ _ h => h) (Or.inl ⟨by rfl, ?_⟩) (Or.inl (by assumption)) ?_
              focus (intro W hSw; go_simp; first | done | with_reducible rfl | (simp; omega) | omega)
              (try simp only [Act.put, List.setIfInBounds_toArray, List.set_cons_zero, List.set_cons_succ])
              refine wpAnyK_pure (i := 11) (v := .bool false) (op_at2 _ 11 _ rfl) (by kernel_rfl) (by kernel_rfl) (by kernel_rfl) (by kernel_rfl) (fun _ _ _ h => h) (Or.inl ⟨by rfl, ?_⟩) (Or.inl (by assumption)) ?_
              focus (intro W hSw; go_simp; first | done | with_reducible rfl)
              (try simp only [Act.put, List.setIfInBounds_toArray, List.set_cons_zero, List.set_cons_succ])
              refine wpAnyK_done (by kernel_rfl) ?_ _
              go_wp2
              go_roundg G0
              case measure => omega
              case rel =>
                refine ⟨i + 1, _, L + 1, c2, srt.take (j + 1) ++ p :: srt.drop (j + 1), by omega, by simp, rfl, by omega, hid HD2.out.row, hid ⟨?_, ?_⟩, hid HD2.out.bl.drew⟩
                · rw [HST.out]
                  exact (ins_perm srt p (j + 1)).trans (List.Perm.append_right [p] HS.out.1)
                · exact ins_sorted HS.out.2 (by have := HD2.out.len; have := HD2.out.kl; omega) HD2.out.up (fun q hq1 hq => by obtain rfl : q = j := (by omega); have e0 : srt.getD q 0 = srt[q] := (by simp [List.getD, List.getElem?_eq_getElem hq1]); rw [← e0, ← HX.out]; omega)
    · obtain rfl : i = n := by omega
      have hi1 : ¬ (i : Int) < (i : Int) := by omega
      go_wp2
      go_ret
      have q := HO.out
      have e2 := HS.out.1
      rw [List.take_of_length_le (by have := HSL.out; omega)] at e2
      have e3 : srt = s.dirt := rise_eq e2 HS.out.2
      have e1 : s.dirt.length = L := by rw [← e3]; have := HO.out.1; simpa [ints] using this
      rw [e3] at q
      exact ⟨ao', cap', by rw [e1]; rfl, by rw [e1]; exact q, HB.out⟩

set_option maxRecDepth 20000 in
set_option maxHeartbeats 1000000 in
theorem rdirt_none (m : Nat) (ao : Option Addr) (cap : Nat) (w : World) (c1 : w.cell? ⟨m, 1, none⟩ = some (.slice ao 0 cap)) :
    Calls Try.prog 41 #[.pointer (some ⟨m, 0, none⟩)] w fun e w' => e = .returned (.slice none 0 0) ∧ Below w.heap.size w w' := by
  go_enter Try.func41, Try.ntmps41
  go_wp2
  go_loopg [3, 12] 0 (fun q d c W => d = .slice none 0 0 ∧ c = .int .i64 0 ∧ Hid (Below w.heap.size w W))
  case atStart => exact ⟨rfl, rfl, hid (Below.refl _ _)⟩
  case round =>
    obtain ⟨rfl, rfl, HB⟩ := hrel
    go_wp2
    go_ret
    exact ⟨rfl, HB.out⟩

theorem rdirt_call (m : Nat) (R : RParts) (s : CS) (w : World) (h : RP w m R s) (hn : R.ps.length ≤ 1000000) :
    Calls Try.prog 41 #[.pointer (some ⟨m, 0, none⟩)] w fun e w' => Told s.dirt w e w' := by
  rcases h.form with ⟨h1, h2⟩ | ⟨g, h1, h2⟩
  · have c1 := h.c1
    rw [h1] at c1
    refine (rdirt_none m R.ao R.cap w c1).mono ?_
    rintro e w' ⟨rfl, hb⟩
    have e1 : s.dirt = [] := by unfold CS.dirt; rw [h2]; simp [told, rise]
    rw [e1]
    exact ⟨none, 0, rfl, World.ownsRow_nil _ _ _ _, hb⟩
  · obtain ⟨ao, cap, ps⟩ := R
    simp only at h1 h2 hn
    subst h1
    exact rdirt_some m g ps.length cap ps s w h hn rfl

end Go.Proofs.Ytebjjibgkjgpgaa
