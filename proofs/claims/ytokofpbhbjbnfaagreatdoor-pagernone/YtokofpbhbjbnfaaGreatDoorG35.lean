/- The steps that make the pages sure; no statement of the seat is proved here. -/
import Derived.Test.YtokofpbhbjbnfaaGreatDoorG34
namespace Go.Proofs.YtokofpbhbjbnfaaGreatDoor
open Go.RowKit Go.Maps
open Dsk (gt hid undrew keep_old keep_cell lt_cell Rd DS FS Sec DiskP DFrame Grew From op_at idx dirtD was secD)
open Cch (CS CP Fr wpAnyK wpAnyK_take wpAnyK_pure wpAnyK_ready wpAnyK_done wp_region_K AllReadyK.cons AllReadyK.nil)

/-- The writing of the first i pages of l. -/
def wrL (now : List Pg) (l : List Nat) (i : Nat) : List Stp := (l.take i).map fun z : Nat => .wr 0 (((z : Int) - 1) * 4) (chunks 4 (now.getD (z - 1) []))
theorem wrL_length (now : List Pg) (l : List Nat) {i : Nat} (h : i ≤ l.length) : (wrL now l i).length = i := by simp [wrL]; omega
theorem wrL_succ (now : List Pg) {l : List Nat} {i : Nat} (h : i < l.length) : wrL now l (i + 1) = wrL now l i ++ [.wr 0 ((((l.getD i 0 : Nat) : Int) - 1) * 4) (chunks 4 (now.getD (l.getD i 0 - 1) []))] := by
  have e : l.take (i + 1) = l.take i ++ [l.getD i 0] := by
    rw [List.take_add_one, List.getElem?_eq_getElem h]; simp [List.getD, List.getElem?_eq_getElem h]
  simp only [wrL]
  rw [e, List.map_append]
  rfl
/-- What written does. -/
def writtenL (now : List Pg) (l : List Nat) (np : Nat) : List Stp := wrL now l l.length ++ [.sy 0, .ct 0 ((np : Int) * 4), .ct 1 0]

theorem row_slice {w : World} {B n : Nat} {e : TypeId} {v : Value} {xs : List Value} (h : w.ownsRow B e 1 v n xs) : ∃ ao c, v = .slice ao n c := by
  rcases h.2 with ⟨h1, h2⟩ | ⟨g, cap, cur, h1, _⟩
  · exact ⟨none, 0, by rw [h2]; exact h1⟩
  · exact ⟨_, cap, h1⟩

set_option maxHeartbeats 8000000 in
set_option maxRecDepth 20000 in
theorem written_make (p : Nat) (x : PC) (N : Nat → Prop) (n : Nat) (now : List Pg) (c : List Bool) (enc : List Sec) (w : World) (hP : PgAt w p x) (hN : ∀ k, N k → k < w.heap.size) (hg : Chg w N x.m n now c enc) (hcb : c.length ≤ 4000) (hl : ∀ i, i < now.length → (now.getD i []).length = 512) (hnp : x.np ≤ 4000) :
    Calls Tryz.prog 93 #[.pointer (some ⟨p, 0, none⟩)] w fun e w' => ∃ ao cp, e = .returned (.slice ao (writtenL now (chL c) x.np).length cp) ∧ StepsAt w' x.q N ao (writtenL now (chL c) x.np) ∧ Below w.heap.size w w' := by
  obtain ⟨np, hnpe⟩ : ∃ np, x.np = np := ⟨_, rfl⟩
  obtain ⟨a0, a1, a2, a3, a4, a5, a6, a7, a8, a9, a10, a11⟩ := hP.cells
  rw [hnpe] at a6 hnp ⊢
  have hcl := chL_length c
  obtain ⟨l, hll⟩ : ∃ l, chL c = l := ⟨_, rfl⟩
  have c56 := hid (changed_any (np : Int) x.m n (false :: c) enc w hg.map (by unfold chL at hcl; omega))
  rw [show idx (false :: c) = l from hll] at c56
  have HLM : Hid (∀ z ∈ l, 1 ≤ z ∧ z ≤ c.length ∧ c.getD (z - 1) false = true) := hid (fun z hz => chL_mem (by rw [hll]; exact hz))
  rw [hll] at hcl ⊢
  have hLb : l.length ≤ 4001 := by omega
  have HP0 := hid hP; have HN := hid hN; have HG := hid hg; have HL := hid hl; have HNP := hid hnpe
  have hnw : IntKind.i64.wrap ((np : Int) * 4) = (np : Int) * 4 := IntWalk.i64_in _ ⟨by omega, by omega⟩
  obtain ⟨L, hL⟩ : ∃ L, l.length = L := ⟨_, rfl⟩
  rw [hL] at c56 hLb hcl
  have HLL := hid hL
  clear hP hN hg hl hnpe hll hL
  go_enter Tryz.func93, Tryz.ntmps93
  go_wp2_with (go_at_call 56; refine c56.out.mono ?_; rintro e w1 ⟨v1, rfl, o1, n1, b1⟩; obtain ⟨ao1, c1, rfl⟩ := row_slice o1; have O1 := hid o1; have N1 := hid n1; have B0 := hid b1; clear o1 n1 b1 a0 a1 a2 a3 a4 a5 a6 a7 a8 a9 a10 a11)
  have o0 := hid (StRow.nil w1 x.q N w1.heap.size (fun k hk => Nat.lt_of_lt_of_le (HN.out k hk) B0.out.size) (Nat.le_refl _))
  go_loopw [3, 12] (fun o cc W => ∃ (i : Nat) (us : List Value), i ≤ L ∧ cc = .int .i64 (i : Int) ∧ Hid (StRow W x.q N w1.heap.size o us (wrL now l i)) ∧ Hid (Below w1.heap.size w1 W)) (fun _ cc _ => L - (Lib.intOf cc).toNat)
  case atStart => exact ⟨0, [], by omega, rfl, hid (by simpa [wrL] using o0.out), hid (Below.refl _ _)⟩
  case round =>
    obtain ⟨i, us, hi, rfl, OO, BB⟩ := hrel
    clear o0
    have HLL2 := HLL
    have HP := hid ((HP0.out.later B0.out).later BB.out)
    have hpu : Hid (¬ u3.ownBlock = some p) := hid (fun e => by have h1 := (OO.out.blk _ e).1; have h2 := (HP0.out.later B0.out).lt; omega)
    by_cases hiL : i < L
    · obtain ⟨g, hcp, hv, hg2, hglt⟩ := O1.out.form (by omega)
      simp only [Value.slice.injEq] at hv
      obtain ⟨rfl, -, rfl⟩ := hv
      obtain ⟨z, hz⟩ : ∃ z, l.getD i 0 = z := ⟨_, rfl⟩
      have hcz : wr.cell? ⟨g, i, none⟩ = some (.int .i64 (z : Int)) := keep_old BB.out (by rw [O1.out.cellAt i (by omega), zI_get (by rw [HLL.out]; exact hiL), hz])
      have hzl : z ∈ l := by
        rw [← hz, List.getD, List.getElem?_eq_getElem (by rw [HLL.out]; exact hiL)]
        exact List.getElem_mem _
      obtain ⟨hz1, hz2, hz3⟩ := HLM.out z hzl
      obtain ⟨b, o, cap, hen, hrd, hob0⟩ := HG.out.at_ (z - 1) hz3
      rw [show z - 1 + 1 = z by omega] at hen
      obtain ⟨d, hd⟩ : ∃ d, now.getD (z - 1) [] = d := ⟨_, rfl⟩
      rw [hd] at hrd
      have hdl : Hid (d.length = 512) := hid (by rw [← hd]; exact HL.out _ (by have := HG.out.len; omega))
      have hwz : Hid ((Lit.int .i64 (z : Int)).wf = true) := hid (Dsk.wf_i64 z (by omega))
      have hpr : Hid (-1000000 ≤ (z : Int) ∧ (z : Int) ≤ 1000000) := hid ⟨by omega, by omega⟩
      have hat : Hid ((dirtD (false :: c) enc).atKey (.int .i64 (z : Int)) (secD []) = secD [b, o, 512, cap]) := hid (by
        rw [Dsk.at_dirt _ _ _ (by cases z with | zero => omega | succ z => simpa using hz3), hen])
      have hob := hid hob0
      have rdw : Hid (∀ W, Below w1.heap.size w1 W → Rd W (some ⟨b, o, none⟩) 512 cap d) := hid (fun W hW => (hrd.keep B0.out).keep hW)
      have hno : Hid (¬ NV N u3 b) := hid (fun hk => by
        rcases hk with hk | hk
        · exact hob0.2 hk
        · have h1 := (OO.out.blk _ hk).1; have h2 := hob0.1; have h3 := B0.out.size; omega)
      have hbs : Hid (wrL now l (i + 1) = wrL now l i ++ [.wr 0 (((z : Int) - 1) * 4) (chunks 4 d)]) := hid (by rw [wrL_succ now (by rw [HLL.out]; exact hiL), hz, hd])
      have MP : Hid (wr.drew.ownsMap Tryz.prog 3 slR x.m n (dirtD (false :: c) enc)) := hid (((HG.out.later B0.out).later BB.out).later (Below.refl _ _).drew).map
      have hmu : Hid (¬ u3.ownBlock = some x.m) := hid (fun e => by have h1 := (OO.out.blk _ e).1; have h2 := (HG.out.later B0.out).map.lt; omega)
      have hiI : (i : Int) < (L : Int) := by omega
      have hi0 : (0 : Int) ≤ (i : Int) := by omega
      clear hz hzl hz1 hz2 hz3 hen hrd hob0 hd hg2
      go_upto_region 5 with fail
      replace OO := hid (OO.out.later (Below.refl _ _).drew); replace BB := hid (BB.out.drew); replace HP := hid (HP.out.later (Below.refl _ _).drew)
      clear hcz
      have hLl : Hid (l.length = L) := HLL
      refine wp_region_K (S := Gv u3 wr.drew) (fun _ => false) (by kernel_rfl) (Cch.Fr.refl _ _) (fun hHeld => ?_)
      refine wpAnyK_pure (i := 0) (v := ?_) (op_at _ 0 _ rfl) (by kernel_rfl) (by kernel_rfl) (by kernel_rfl) (by kernel_rfl) (fun _ _ _ h => h) (Or.inl ⟨by rfl, ?_⟩) (Or.inl (by assumption)) ?_
      rotate_left 1
      focus (intro W hSw; go_simp; first | done | with_reducible rfl)
      (try simp only [Act.put, List.setIfInBounds_toArray, List.set_cons_zero, List.set_cons_succ])
      refine wpAnyK_pure (i := 1) (v := ?_) (op_at _ 1 _ rfl) (by kernel_rfl) (by kernel_rfl) (by kernel_rfl) (by kernel_rfl) (fun _ _ _ h => h) (Or.inl ⟨by rfl, ?_⟩) (Or.inl (by assumption)) ?_
      rotate_left 1
      focus (intro W hSw; go_simp; first | done | with_reducible rfl)
      (try simp only [Act.put, List.setIfInBounds_toArray, List.set_cons_zero, List.set_cons_succ])
      refine wpAnyK_pure (i := 2) (v := ?_) (op_at _ 2 _ rfl) (by kernel_rfl) (by kernel_rfl) (by kernel_rfl) (by kernel_rfl) (fun _ _ _ h => h) (Or.inl ⟨by rfl, ?_⟩) (Or.inl (by assumption)) ?_
      rotate_left 1
      focus (intro W hSw; go_simp; first | done | with_reducible rfl)
      (try simp only [Act.put, List.setIfInBounds_toArray, List.set_cons_zero, List.set_cons_succ])
      refine wpAnyK_pure (i := 3) (v := ?_) (op_at _ 3 _ rfl) (by kernel_rfl) (by kernel_rfl) (by kernel_rfl) (by kernel_rfl) (fun _ _ _ h => h) (Or.inl ⟨by rfl, ?_⟩) (Or.inl (by assumption)) ?_
      rotate_left 1
      focus (intro W hSw; go_simp; first | done | with_reducible rfl)
      (try simp only [Act.put, List.setIfInBounds_toArray, List.set_cons_zero, List.set_cons_succ])
      refine wpAnyK_take (i := 4) (v := ?_) (op_at _ 4 _ rfl) (by kernel_rfl) (by kernel_rfl) (by kernel_rfl) (by kernel_rfl) (fun _ _ _ h => h) (Or.inl ⟨by rfl, ?_⟩) (by assumption) ?_
      rotate_left 1
      focus (intro W hSw; obtain ⟨a0, a1, a2, a3, a4, a5, a6, a7, a8, a9, a10, a11⟩ := ((HP.out).stay (hSw.blk p HP.out.lt hpu.out)).cells; rw [HNP.out] at a6; go_simp; first | done | with_reducible rfl)
      (try simp only [Act.put, List.setIfInBounds_toArray, List.set_cons_zero, List.set_cons_succ])
      refine wpAnyK_pure (i := 5) (v := ?_) (op_at _ 5 _ rfl) (by kernel_rfl) (by kernel_rfl) (by kernel_rfl) (by kernel_rfl) (fun _ _ _ h => h) (Or.inl ⟨by rfl, ?_⟩) (Or.inl (by assumption)) ?_
      rotate_left 1
      focus (intro W hSw; go_simp; first | done | with_reducible rfl)
      (try simp only [Act.put, List.setIfInBounds_toArray, List.set_cons_zero, List.set_cons_succ])
      refine wpAnyK_pure (i := 7) (v := ?_) (op_at _ 7 _ rfl) (by kernel_rfl) (by kernel_rfl) (by kernel_rfl) (by kernel_rfl) (fun _ _ _ h => h) (Or.inl ⟨by rfl, ?_⟩) (Or.inl (by assumption)) ?_
      rotate_left 1
      focus (intro W hSw; go_simp; first | done | with_reducible rfl)
      (try simp only [Act.put, List.setIfInBounds_toArray, List.set_cons_zero, List.set_cons_succ])
      refine wpAnyK_pure (i := 8) (v := ?_) (op_at _ 8 _ rfl) (by kernel_rfl) (by kernel_rfl) (by kernel_rfl) (by kernel_rfl) (fun _ _ _ h => h) (Or.inl ⟨by rfl, ?_⟩) (Or.inl (by assumption)) ?_
      rotate_left 1
      focus (intro W hSw; go_simp; first | done | with_reducible rfl)
      (try simp only [Act.put, List.setIfInBounds_toArray, List.set_cons_zero, List.set_cons_succ])
      refine wpAnyK_pure (i := 9) (v := ?_) (op_at _ 9 _ rfl) (by kernel_rfl) (by kernel_rfl) (by kernel_rfl) (by kernel_rfl) (fun _ _ _ h => h) (Or.inl ⟨by rfl, ?_⟩) (Or.inl (by assumption)) ?_
      rotate_left 1
      focus (intro W hSw; go_simp; first | done | with_reducible rfl)
      (try simp only [Act.put, List.setIfInBounds_toArray, List.set_cons_zero, List.set_cons_succ])
      refine wpAnyK_pure (i := 10) (v := ?_) (op_at _ 10 _ rfl) (by kernel_rfl) (by kernel_rfl) (by kernel_rfl) (by kernel_rfl) (fun _ _ _ h => h) (Or.inl ⟨by rfl, ?_⟩) (Or.inl (by assumption)) ?_
      rotate_left 1
      focus (intro W hSw; go_simp; first | done | with_reducible rfl)
      (try simp only [Act.put, List.setIfInBounds_toArray, List.set_cons_zero, List.set_cons_succ])
      refine wpAnyK_take (i := 11) (v := ?_) (op_at _ 11 _ rfl) (by kernel_rfl) (by kernel_rfl) (by kernel_rfl) (by kernel_rfl) (fun _ _ _ h => h) (Or.inl ⟨by rfl, ?_⟩) (by assumption) ?_
      rotate_left 1
      focus (intro W hSw; obtain ⟨a0, a1, a2, a3, a4, a5, a6, a7, a8, a9, a10, a11⟩ := ((HP.out).stay (hSw.blk p HP.out.lt hpu.out)).cells; rw [HNP.out] at a6; go_simp; first | done | with_reducible rfl)
      (try simp only [Act.put, List.setIfInBounds_toArray, List.set_cons_zero, List.set_cons_succ])
      refine wpAnyK_pure (i := 12) (v := ?_) (op_at _ 12 _ rfl) (by kernel_rfl) (by kernel_rfl) (by kernel_rfl) (by kernel_rfl) (fun _ _ _ h => h) (Or.inl ⟨by rfl, ?_⟩) (Or.inl (by assumption)) ?_
      rotate_left 1
      focus (intro W hSw; go_simp; first | done | with_reducible rfl)
      (try simp only [Act.put, List.setIfInBounds_toArray, List.set_cons_zero, List.set_cons_succ])
      refine wpAnyK_take (i := 13) (v := ?_) (op_at _ 13 _ rfl) (by kernel_rfl) (by kernel_rfl) (by kernel_rfl) (by kernel_rfl) (fun _ _ _ h => h) (Or.inl ⟨by rfl, ?_⟩) (by assumption) ?_
      rotate_left 1
      focus (intro W hSw; have lk := lookB (map_df MP.out (hSw.blk x.m MP.out.lt hmu.out)) (z : Int) hwz.out b o 512 cap hat.out; go_simp; first | done | with_reducible rfl)
      (try simp only [Act.put, List.setIfInBounds_toArray, List.set_cons_zero, List.set_cons_succ])
      refine wpAnyK_ready (rs := [6]) (by kernel_rfl) (by simp) ?_
      refine AllReadyK.cons (op_at _ 6 _ rfl) (fun K hK => ?_) AllReadyK.nil
      go_simp
      go_at_call 97; refine (place_any _ _ hpr.out).mono ?_; rintro e w4 ⟨rfl, hw⟩; have hb : Below wr.drew.heap.size wr.drew w4 := (by rw [hw]; exact Below.refl _ _); have hR : Gv u3 wr.drew w4 := gv_below hb; replace OO := hid (OO.out.later hb); replace BB := hid (gt BB.out hb); replace HP := hid (HP.out.later hb); clear hw hb
      refine hK.out _ _ hR (fun hHeld => ?_)
      clear hK K
      (try simp only [Act.put, List.setIfInBounds_toArray, List.set_cons_zero, List.set_cons_succ])
      clear hHeld
      refine wpAnyK_more (S' := Gv u3 w4) (fun W h => gvt hR h) ?_
      have hHeld : Gv u3 w4 w4 := Cch.Fr.refl _ _
      clear hR
      refine wpAnyK_ready (rs := [14]) (by kernel_rfl) (by simp) ?_
      refine AllReadyK.cons (op_at _ 14 _ rfl) (fun K hK => ?_) AllReadyK.nil
      go_simp
      go_at_call 109; refine (write_make x.q 0 (((z : Int) - 1) * 4) (some ⟨b, o, none⟩) 512 cap (chunks 4 d) (NV N u3) w4 (fun k hk => OO.out.lt hk) (rd_sec (rdw.out w4 BB.out)) (fun _ y hy => (by obtain rfl := Option.some.inj hy; exact ⟨Nat.lt_of_lt_of_le hob.out.1 (Nat.le_trans B0.out.size BB.out.size), fun hk => hno.out hk⟩)) (by rw [chunks_length]) (chunks_each 4 d (by rw [hdl.out])) (by rw [chunks_length]; omega)).mono ?_; rintro e w5 ⟨u, rfl, hst, hb⟩; have hR : Gv u3 w4 w5 := gv_below hb; replace OO := hid (OO.out.later hb); replace BB := hid (gt BB.out hb); replace HP := hid (HP.out.later hb); obtain ⟨n5, cs5, rfl⟩ := step_func hst; have ST := hid hst; clear hst hb
      refine hK.out _ _ hR (fun hHeld => ?_)
      clear hK K
      (try simp only [Act.put, List.setIfInBounds_toArray, List.set_cons_zero, List.set_cons_succ])
      clear hHeld
      refine wpAnyK_more (S' := Gv u3 w5) (fun W h => gvt hR h) ?_
      have hHeld : Gv u3 w5 w5 := Cch.Fr.refl _ _
      clear hR
      refine wpAnyK_ready (rs := [15]) (by kernel_rfl) (by simp) ?_
      refine AllReadyK.cons (op_at _ 15 _ rfl) (fun K hK => ?_) AllReadyK.nil
      go_simp
      have hb : Below w5.heap.size w5 (w5.alloc (.cells #[.func (.func n5) #[] cs5] 115)) := Below.alloc (Below.refl _ _) (Nat.le_refl _) _; have hR : Gv u3 w5 (w5.alloc (.cells #[.func (.func n5) #[] cs5] 115)) := gv_below hb; replace OO := hid (OO.out.later hb); replace BB := hid (gt BB.out hb); replace HP := hid (HP.out.later hb); replace ST := hid (ST.out.later hb); have SR := hid (lit_src w5 [.func (.func n5) #[] cs5] 115 (by intro x hx; simp at hx; subst hx; exact step_one ST.out)); clear hb
      refine hK.out _ _ hR (fun hHeld => ?_)
      clear hK K
      (try simp only [Act.put, List.setIfInBounds_toArray, List.set_cons_zero, List.set_cons_succ])
      clear hHeld
      refine wpAnyK_more (S' := Gv u3 (w5.alloc (.cells #[.func (.func n5) #[] cs5] 115))) (fun W h => gvt hR h) ?_
      have hHeld : Gv u3 (w5.alloc (.cells #[.func (.func n5) #[] cs5] 115)) (w5.alloc (.cells #[.func (.func n5) #[] cs5] 115)) := Cch.Fr.refl _ _
      clear hR
      refine wpAnyK_ready (rs := [16]) (by kernel_rfl) (by simp) ?_
      refine AllReadyK.cons (op_at _ 16 _ rfl) (fun K hK => ?_) AllReadyK.nil
      refine Cch.step_app rfl (.tmp 16) (.tmp 31) el113 rfl u3 (wrL now l i).length us rfl OO.out.row (some ⟨w5.heap.size, 0, none⟩) 1 1 [.func (.func n5) #[] cs5] rfl SR.out (by rw [wrL_length now l (by rw [HLL.out]; omega)]; omega) ?_; intro a7 c7 w7 ho7 hg7 ha7; have hR : Gv u3 (w5.alloc (.cells #[.func (.func n5) #[] cs5] 115)) w7 := gv_grown hg7; have O7 := hid ho7; have G7 := hid hg7; have A7 := hid ha7; clear ho7 hg7 ha7
      refine hK.out _ _ hR (fun hHeld => ?_)
      clear hK K
      (try simp only [Act.put, List.setIfInBounds_toArray, List.set_cons_zero, List.set_cons_succ])
      clear hR
      refine wpAnyK_pure (i := 17) (v := ?_) (op_at _ 17 _ rfl) (by kernel_rfl) (by kernel_rfl) (by kernel_rfl) (by kernel_rfl) (fun _ _ _ h => h) (Or.inl ⟨by rfl, ?_⟩) (Or.inl (by assumption)) ?_
      rotate_left 1
      focus (intro W hSw; go_simp; first | done | with_reducible rfl)
      (try simp only [Act.put, List.setIfInBounds_toArray, List.set_cons_zero, List.set_cons_succ])
      refine wpAnyK_done (by kernel_rfl) ?_ _
      go_wp2
      go_roundw
      case rel =>
        have hlt : ∀ y, a7 = some y → y.block < w7.heap.size := fun y hy => own_bound O7.out (by rw [hy]; rfl)
        have hP7 := OO.out.push (ls := [.wr 0 (((z : Int) - 1) * 4) (chunks 4 d)]) (ys := [.func (.func n5) #[] cs5]) (m := 1) (fun j s hs => by
          cases j with
          | zero => simp at hs; subst hs; exact ⟨_, rfl, ST.out⟩
          | succ j => simp at hs) rfl rfl O7.out G7.out A7.out hlt
        rw [← hbs.out] at hP7
        exact ⟨i + 1, us ++ [.func (.func n5) #[] cs5], by omega, by go_num, hid hP7, hid (below_grown BB.out G7.out (fun k hk => (OO.out.blk k hk).1))⟩
      case measure => simp [Lib.intOf]; omega
    · obtain rfl : i = L := by omega
      go_upto_region 7 with fail
      replace OO := hid (OO.out.later (Below.refl _ _).drew); replace BB := hid (BB.out.drew); replace HP := hid (HP.out.later (Below.refl _ _).drew)
      refine wp_region_K (S := Gv u3 wr.drew) (fun _ => false) (by kernel_rfl) (Cch.Fr.refl _ _) (fun hHeld => ?_)
      refine wpAnyK_pure (i := 0) (v := ?_) (op_at _ 0 _ rfl) (by kernel_rfl) (by kernel_rfl) (by kernel_rfl) (by kernel_rfl) (fun _ _ _ h => h) (Or.inl ⟨by rfl, ?_⟩) (Or.inl (by assumption)) ?_
      rotate_left 1
      focus (intro W hSw; go_simp; first | done | with_reducible rfl)
      (try simp only [Act.put, List.setIfInBounds_toArray, List.set_cons_zero, List.set_cons_succ])
      refine wpAnyK_pure (i := 1) (v := ?_) (op_at _ 1 _ rfl) (by kernel_rfl) (by kernel_rfl) (by kernel_rfl) (by kernel_rfl) (fun _ _ _ h => h) (Or.inl ⟨by rfl, ?_⟩) (Or.inl (by assumption)) ?_
      rotate_left 1
      focus (intro W hSw; go_simp; first | done | with_reducible rfl)
      (try simp only [Act.put, List.setIfInBounds_toArray, List.set_cons_zero, List.set_cons_succ])
      refine wpAnyK_pure (i := 2) (v := ?_) (op_at _ 2 _ rfl) (by kernel_rfl) (by kernel_rfl) (by kernel_rfl) (by kernel_rfl) (fun _ _ _ h => h) (Or.inl ⟨by rfl, ?_⟩) (Or.inl (by assumption)) ?_
      rotate_left 1
      focus (intro W hSw; go_simp; first | done | with_reducible rfl)
      (try simp only [Act.put, List.setIfInBounds_toArray, List.set_cons_zero, List.set_cons_succ])
      refine wpAnyK_pure (i := 3) (v := ?_) (op_at _ 3 _ rfl) (by kernel_rfl) (by kernel_rfl) (by kernel_rfl) (by kernel_rfl) (fun _ _ _ h => h) (Or.inl ⟨by rfl, ?_⟩) (Or.inl (by assumption)) ?_
      rotate_left 1
      focus (intro W hSw; go_simp; first | done | with_reducible rfl)
      (try simp only [Act.put, List.setIfInBounds_toArray, List.set_cons_zero, List.set_cons_succ])
      refine wpAnyK_take (i := 4) (v := ?_) (op_at _ 4 _ rfl) (by kernel_rfl) (by kernel_rfl) (by kernel_rfl) (by kernel_rfl) (fun _ _ _ h => h) (Or.inl ⟨by rfl, ?_⟩) (by assumption) ?_
      rotate_left 1
      focus (intro W hSw; obtain ⟨a0, a1, a2, a3, a4, a5, a6, a7, a8, a9, a10, a11⟩ := ((HP.out).stay (hSw.blk p HP.out.lt hpu.out)).cells; rw [HNP.out] at a6; go_simp; first | done | with_reducible rfl)
      (try simp only [Act.put, List.setIfInBounds_toArray, List.set_cons_zero, List.set_cons_succ])
      refine wpAnyK_pure (i := 6) (v := ?_) (op_at _ 6 _ rfl) (by kernel_rfl) (by kernel_rfl) (by kernel_rfl) (by kernel_rfl) (fun _ _ _ h => h) (Or.inl ⟨by rfl, ?_⟩) (Or.inl (by assumption)) ?_
      rotate_left 1
      focus (intro W hSw; go_simp; first | done | with_reducible rfl)
      (try simp only [Act.put, List.setIfInBounds_toArray, List.set_cons_zero, List.set_cons_succ])
      refine wpAnyK_pure (i := 7) (v := ?_) (op_at _ 7 _ rfl) (by kernel_rfl) (by kernel_rfl) (by kernel_rfl) (by kernel_rfl) (fun _ _ _ h => h) (Or.inl ⟨by rfl, ?_⟩) (Or.inl (by assumption)) ?_
      rotate_left 1
      focus (intro W hSw; go_simp; first | done | with_reducible rfl)
      (try simp only [Act.put, List.setIfInBounds_toArray, List.set_cons_zero, List.set_cons_succ])
      refine wpAnyK_pure (i := 8) (v := ?_) (op_at _ 8 _ rfl) (by kernel_rfl) (by kernel_rfl) (by kernel_rfl) (by kernel_rfl) (fun _ _ _ h => h) (Or.inl ⟨by rfl, ?_⟩) (Or.inl (by assumption)) ?_
      rotate_left 1
      focus (intro W hSw; go_simp; first | done | with_reducible rfl)
      (try simp only [Act.put, List.setIfInBounds_toArray, List.set_cons_zero, List.set_cons_succ])
      refine wpAnyK_take (i := 9) (v := ?_) (op_at _ 9 _ rfl) (by kernel_rfl) (by kernel_rfl) (by kernel_rfl) (by kernel_rfl) (fun _ _ _ h => h) (Or.inl ⟨by rfl, ?_⟩) (by assumption) ?_
      rotate_left 1
      focus (intro W hSw; obtain ⟨a0, a1, a2, a3, a4, a5, a6, a7, a8, a9, a10, a11⟩ := ((HP.out).stay (hSw.blk p HP.out.lt hpu.out)).cells; rw [HNP.out] at a6; go_simp; first | done | with_reducible rfl)
      (try simp only [Act.put, List.setIfInBounds_toArray, List.set_cons_zero, List.set_cons_succ])
      refine wpAnyK_pure (i := 10) (v := ?_) (op_at _ 10 _ rfl) (by kernel_rfl) (by kernel_rfl) (by kernel_rfl) (by kernel_rfl) (fun _ _ _ h => h) (Or.inl ⟨by rfl, ?_⟩) (Or.inl (by assumption)) ?_
      rotate_left 1
      focus (intro W hSw; go_simp; first | done | with_reducible rfl)
      (try simp only [Act.put, List.setIfInBounds_toArray, List.set_cons_zero, List.set_cons_succ])
      refine wpAnyK_pure (i := 11) (v := ?_) (op_at _ 11 _ rfl) (by kernel_rfl) (by kernel_rfl) (by kernel_rfl) (by kernel_rfl) (fun _ _ _ h => h) (Or.inl ⟨by rfl, ?_⟩) (Or.inl (by assumption)) ?_
      rotate_left 1
      focus (intro W hSw; go_simp; first | done | with_reducible rfl)
      (try simp only [Act.put, List.setIfInBounds_toArray, List.set_cons_zero, List.set_cons_succ])
      refine wpAnyK_pure (i := 12) (v := ?_) (op_at _ 12 _ rfl) (by kernel_rfl) (by kernel_rfl) (by kernel_rfl) (by kernel_rfl) (fun _ _ _ h => h) (Or.inl ⟨by rfl, ?_⟩) (Or.inl (by assumption)) ?_
      rotate_left 1
      focus (intro W hSw; go_simp; first | done | with_reducible rfl)
      (try simp only [Act.put, List.setIfInBounds_toArray, List.set_cons_zero, List.set_cons_succ])
      refine wpAnyK_pure (i := 13) (v := ?_) (op_at _ 13 _ rfl) (by kernel_rfl) (by kernel_rfl) (by kernel_rfl) (by kernel_rfl) (fun _ _ _ h => h) (Or.inl ⟨by rfl, ?_⟩) (Or.inl (by assumption)) ?_
      rotate_left 1
      focus (intro W hSw; go_simp; first | done | with_reducible rfl)
      (try simp only [Act.put, List.setIfInBounds_toArray, List.set_cons_zero, List.set_cons_succ])
      refine wpAnyK_take (i := 14) (v := ?_) (op_at _ 14 _ rfl) (by kernel_rfl) (by kernel_rfl) (by kernel_rfl) (by kernel_rfl) (fun _ _ _ h => h) (Or.inl ⟨by rfl, ?_⟩) (by assumption) ?_
      rotate_left 1
      focus (intro W hSw; obtain ⟨a0, a1, a2, a3, a4, a5, a6, a7, a8, a9, a10, a11⟩ := ((HP.out).stay (hSw.blk p HP.out.lt hpu.out)).cells; rw [HNP.out] at a6; go_simp; first | done | with_reducible rfl)
      (try simp only [Act.put, List.setIfInBounds_toArray, List.set_cons_zero, List.set_cons_succ])
      refine wpAnyK_pure (i := 15) (v := .int .i64 ((np : Int) * 4)) (op_at _ 15 _ rfl) (by kernel_rfl) (by kernel_rfl) (by kernel_rfl) (by kernel_rfl) (fun _ _ _ h => h) (Or.inl ⟨by rfl, ?_⟩) (Or.inl (by assumption)) ?_
      focus (intro W hSw; go_simp; first | done | with_reducible rfl | (simp [hnw]) | (rw [hnw]))
      (try simp only [Act.put, List.setIfInBounds_toArray, List.set_cons_zero, List.set_cons_succ])
      refine wpAnyK_pure (i := 17) (v := ?_) (op_at _ 17 _ rfl) (by kernel_rfl) (by kernel_rfl) (by kernel_rfl) (by kernel_rfl) (fun _ _ _ h => h) (Or.inl ⟨by rfl, ?_⟩) (Or.inl (by assumption)) ?_
      rotate_left 1
      focus (intro W hSw; go_simp; first | done | with_reducible rfl)
      (try simp only [Act.put, List.setIfInBounds_toArray, List.set_cons_zero, List.set_cons_succ])
      refine wpAnyK_pure (i := 18) (v := ?_) (op_at _ 18 _ rfl) (by kernel_rfl) (by kernel_rfl) (by kernel_rfl) (by kernel_rfl) (fun _ _ _ h => h) (Or.inl ⟨by rfl, ?_⟩) (Or.inl (by assumption)) ?_
      rotate_left 1
      focus (intro W hSw; go_simp; first | done | with_reducible rfl)
      (try simp only [Act.put, List.setIfInBounds_toArray, List.set_cons_zero, List.set_cons_succ])
      refine wpAnyK_pure (i := 19) (v := ?_) (op_at _ 19 _ rfl) (by kernel_rfl) (by kernel_rfl) (by kernel_rfl) (by kernel_rfl) (fun _ _ _ h => h) (Or.inl ⟨by rfl, ?_⟩) (Or.inl (by assumption)) ?_
      rotate_left 1
      focus (intro W hSw; go_simp; first | done | with_reducible rfl)
      (try simp only [Act.put, List.setIfInBounds_toArray, List.set_cons_zero, List.set_cons_succ])
      refine wpAnyK_take (i := 20) (v := ?_) (op_at _ 20 _ rfl) (by kernel_rfl) (by kernel_rfl) (by kernel_rfl) (by kernel_rfl) (fun _ _ _ h => h) (Or.inl ⟨by rfl, ?_⟩) (by assumption) ?_
      rotate_left 1
      focus (intro W hSw; obtain ⟨a0, a1, a2, a3, a4, a5, a6, a7, a8, a9, a10, a11⟩ := ((HP.out).stay (hSw.blk p HP.out.lt hpu.out)).cells; rw [HNP.out] at a6; go_simp; first | done | with_reducible rfl)
      (try simp only [Act.put, List.setIfInBounds_toArray, List.set_cons_zero, List.set_cons_succ])
      refine wpAnyK_ready (rs := [5]) (by kernel_rfl) (by simp) ?_
      refine AllReadyK.cons (op_at _ 5 _ rfl) (fun K hK => ?_) AllReadyK.nil
      go_simp
      go_at_call 110; refine (sync_make x.q 0 (NV N u3) wr.drew (fun k hk => OO.out.lt hk)).mono ?_; rintro e w1 ⟨x1, rfl, s1, hb⟩; have hR : Gv u3 wr.drew w1 := gv_below hb; obtain ⟨n1, cs1, rfl⟩ := step_func s1; have S1 := hid s1; replace OO := hid (OO.out.later hb); replace BB := hid (gt BB.out hb); replace HP := hid (HP.out.later hb); clear s1 hb
      refine hK.out _ _ hR (fun hHeld => ?_)
      clear hK K
      (try simp only [Act.put, List.setIfInBounds_toArray, List.set_cons_zero, List.set_cons_succ])
      clear hHeld
      refine wpAnyK_more (S' := Gv u3 w1) (fun W h => gvt hR h) ?_
      have hHeld : Gv u3 w1 w1 := Cch.Fr.refl _ _
      clear hR
      refine wpAnyK_ready (rs := [16]) (by kernel_rfl) (by simp) ?_
      refine AllReadyK.cons (op_at _ 16 _ rfl) (fun K hK => ?_) AllReadyK.nil
      go_simp
      go_at_call 78; refine (cut_make x.q 0 ((np : Int) * 4) (NV N u3) w1 (fun k hk => OO.out.lt hk)).mono ?_; rintro e w2 ⟨x2, rfl, s2, hb⟩; have hR : Gv u3 w1 w2 := gv_below hb; obtain ⟨n2, cs2, rfl⟩ := step_func s2; have S2 := hid s2; replace S1 := hid (S1.out.later hb); replace OO := hid (OO.out.later hb); replace BB := hid (gt BB.out hb); replace HP := hid (HP.out.later hb); clear s2 hb
      refine hK.out _ _ hR (fun hHeld => ?_)
      clear hK K
      (try simp only [Act.put, List.setIfInBounds_toArray, List.set_cons_zero, List.set_cons_succ])
      clear hHeld
      refine wpAnyK_more (S' := Gv u3 w2) (fun W h => gvt hR h) ?_
      have hHeld : Gv u3 w2 w2 := Cch.Fr.refl _ _
      clear hR
      refine wpAnyK_ready (rs := [21]) (by kernel_rfl) (by simp) ?_
      refine AllReadyK.cons (op_at _ 21 _ rfl) (fun K hK => ?_) AllReadyK.nil
      go_simp
      go_at_call 78; refine (cut_make x.q 1 0 (NV N u3) w2 (fun k hk => OO.out.lt hk)).mono ?_; rintro e w3 ⟨x3, rfl, s3, hb⟩; have hR : Gv u3 w2 w3 := gv_below hb; obtain ⟨n3, cs3, rfl⟩ := step_func s3; have S3 := hid s3; replace S1 := hid (S1.out.later hb); replace S2 := hid (S2.out.later hb); replace OO := hid (OO.out.later hb); replace BB := hid (gt BB.out hb); replace HP := hid (HP.out.later hb); clear s3 hb
      refine hK.out _ _ hR (fun hHeld => ?_)
      clear hK K
      (try simp only [Act.put, List.setIfInBounds_toArray, List.set_cons_zero, List.set_cons_succ])
      clear hHeld
      refine wpAnyK_more (S' := Gv u3 w3) (fun W h => gvt hR h) ?_
      have hHeld : Gv u3 w3 w3 := Cch.Fr.refl _ _
      clear hR
      refine wpAnyK_ready (rs := [22]) (by kernel_rfl) (by simp) ?_
      refine AllReadyK.cons (op_at _ 22 _ rfl) (fun K hK => ?_) AllReadyK.nil
      go_simp
      have hb : Below w3.heap.size w3 (w3.alloc (.cells #[.func (.func n1) #[] cs1, .func (.func n2) #[] cs2, .func (.func n3) #[] cs3] 115)) := Below.alloc (Below.refl _ _) (Nat.le_refl _) _; have hR : Gv u3 w3 (w3.alloc (.cells #[.func (.func n1) #[] cs1, .func (.func n2) #[] cs2, .func (.func n3) #[] cs3] 115)) := gv_below hb; replace OO := hid (OO.out.later hb); replace BB := hid (gt BB.out hb); replace HP := hid (HP.out.later hb); replace S1 := hid (S1.out.later hb); replace S2 := hid (S2.out.later hb); replace S3 := hid (S3.out.later hb); have SR := hid (lit_src w3 [.func (.func n1) #[] cs1, .func (.func n2) #[] cs2, .func (.func n3) #[] cs3] 115 (by intro x hx; simp at hx; rcases hx with rfl | rfl | rfl <;> rfl)); clear hb
      refine hK.out _ _ hR (fun hHeld => ?_)
      clear hK K
      (try simp only [Act.put, List.setIfInBounds_toArray, List.set_cons_zero, List.set_cons_succ])
      clear hHeld
      refine wpAnyK_more (S' := Gv u3 (w3.alloc (.cells #[.func (.func n1) #[] cs1, .func (.func n2) #[] cs2, .func (.func n3) #[] cs3] 115))) (fun W h => gvt hR h) ?_
      have hHeld : Gv u3 (w3.alloc (.cells #[.func (.func n1) #[] cs1, .func (.func n2) #[] cs2, .func (.func n3) #[] cs3] 115)) (w3.alloc (.cells #[.func (.func n1) #[] cs1, .func (.func n2) #[] cs2, .func (.func n3) #[] cs3] 115)) := Cch.Fr.refl _ _
      clear hR
      refine wpAnyK_ready (rs := [23]) (by kernel_rfl) (by simp) ?_
      refine AllReadyK.cons (op_at _ 23 _ rfl) (fun K hK => ?_) AllReadyK.nil
      refine Cch.step_app rfl (.tmp 34) (.tmp 56) el113 rfl u3 (wrL now l i).length us rfl OO.out.row (some ⟨w3.heap.size, 0, none⟩) 3 3 [.func (.func n1) #[] cs1, .func (.func n2) #[] cs2, .func (.func n3) #[] cs3] rfl SR.out (by rw [wrL_length now l (by rw [HLL.out]; omega)]; omega) ?_; intro a7 c7 w7 ho7 hg7 ha7; have hR : Gv u3 (w3.alloc (.cells #[.func (.func n1) #[] cs1, .func (.func n2) #[] cs2, .func (.func n3) #[] cs3] 115)) w7 := gv_grown hg7; have O7 := hid ho7; have G7 := hid hg7; have A7 := hid ha7; clear ho7 hg7 ha7
      refine hK.out _ _ hR (fun hHeld => ?_)
      clear hK K
      (try simp only [Act.put, List.setIfInBounds_toArray, List.set_cons_zero, List.set_cons_succ])
      clear hR
      refine wpAnyK_pure (i := 24) (v := ?_) (op_at _ 24 _ rfl) (by kernel_rfl) (by kernel_rfl) (by kernel_rfl) (by kernel_rfl) (fun _ _ _ h => h) (Or.inl ⟨by rfl, ?_⟩) (Or.inl (by assumption)) ?_
      rotate_left 1
      focus (intro W hSw; go_simp; first | done | with_reducible rfl)
      (try simp only [Act.put, List.setIfInBounds_toArray, List.set_cons_zero, List.set_cons_succ])
      refine wpAnyK_done (by kernel_rfl) ?_ _
      go_wp2
      go_ret
      have hlt : ∀ y, a7 = some y → y.block < w7.heap.size := fun y hy => own_bound O7.out (by rw [hy]; rfl)
      have hP7 := OO.out.push (ls := [.sy 0, .ct 0 ((np : Int) * 4), .ct 1 0]) (ys := [.func (.func n1) #[] cs1, .func (.func n2) #[] cs2, .func (.func n3) #[] cs3]) (m := 3) (fun j s hs => by
          match j with
          | 0 => simp at hs; subst hs; exact ⟨_, rfl, S1.out⟩
          | 1 => simp at hs; subst hs; exact ⟨_, rfl, S2.out⟩
          | 2 => simp at hs; subst hs; exact ⟨_, rfl, S3.out⟩
          | j + 3 => simp at hs) rfl rfl O7.out G7.out A7.out hlt
      obtain ⟨hn, hst⟩ := hP7.steps
      have hwl : writtenL now l np = wrL now l i ++ [.sy 0, .ct 0 ((np : Int) * 4), .ct 1 0] := by rw [writtenL, HLL.out]
      refine ⟨a7, c7, by rw [hwl, ← hn]; rfl, by rw [hwl]; exact hst, gt B0.out (below_grown BB.out G7.out (fun k hk => (OO.out.blk k hk).1))⟩

end Go.Proofs.YtokofpbhbjbnfaaGreatDoor
