/- The law JournalTorn, walked; no statement of the seat is proved here. -/
import Derived.Test.YtndlogjmnbgegaaDoorCd
import Derived.Deep.RegionLaw
import Derived.Deep.DeepCutAuto
namespace Go.Proofs.YtndlogjmnbgegaaDoor
open Go.RowKit

/-- 'append' onto a slice of the call's own, of bytes that can be read, as a step of a region that draws its order. -/
theorem step_append_rd {ops : Array Oper} {o : Oper} {a : Act} {w : World} {K : Act → World → Prop} {Q : Exit → Act → World → Prop} {E : Prop} (hgd : o.guard = none) (s x : Operand)
    (ho : o.op = .call { callee := .builtin .append, args := #[s, x], argTypes := #[30, 30] }) (B : Nat) (v : Value) (n : Nat) (xs : List Nat) (hs : a.eval s = v) (hown : w.ownsRow B 5 1 v n (bs xs))
    (ao : Option Addr) (m c : Nat) (ys : List Nat) (hx : a.eval x = .slice ao m c) (hr : Rd w ao m c ys) (hb : n + m ≤ 140737488355328) (hB : B ≤ w.heap.size)
    (h : ∀ v' w', w'.ownsRow B 5 1 v' (n + m) (bs (xs ++ ys)) → Below B w w' → K (a.put o.dst v') w') : if Region.wanted o (yielded ops a.tmps) = true then Oper.wp Tryd.prog o a w K Q else E := by
  have hw : Region.wanted o (yielded ops a.tmps) = true := by simp [Region.wanted, hgd]
  rw [if_pos hw]
  obtain ⟨i5, hi5, hz0, hz1, hz2⟩ := info_parts Tryd.info5
  obtain ⟨hl, hc, hno, hat⟩ := hr
  cases ao with
  | none =>
    obtain ⟨rfl, rfl⟩ := hno rfl
    obtain rfl : ys = [] := List.eq_nil_of_length_eq_zero hl
    have hrun := run_append_owned_none (P := Tryd.prog) (w := w) B 30 o.type 5 i5 1 Tryd.underlying30 hi5 v n (bs xs) hown
    unfold Oper.wp
    simp [execOp, ho, resolve, invoke, builtin, hs, hx, hrun, Result.andThen]
    exact h v w (by simpa using hown) (Below.refl _ _)
  | some ad =>
    refine wp_append_own w s x 30 ho B 5 i5 (.int .u8 0) 1 1 Tryd.underlying30 hi5 hz0 hz1 hz2 rfl (by decide) v n (bs xs) hs hown ad m c (bs ys) hx (by simp [bs, hl]) ?_ (bs_one ys) (by unfold maxLen; omega) (by omega) hB ?_
    · intro j u hu
      obtain ⟨hj, rfl⟩ := bs_get' ys j u hu
      obtain ⟨b, off, e, hcell⟩ := hat (by omega)
      simp only [Option.some.injEq] at e
      subst e
      rw [Addr.add_lit]
      exact hcell j (by omega)
    · intro v' w' h1 h2 _
      exact h v' w' (by rw [bs_append]; exact h1) ((Below.refl B w).grown h2 hB fun k hk => (hown.lt k hk).1)

theorem nat_of {c : Int} (h : 0 ≤ c) : ∃ k : Nat, c = (k : Int) := ⟨c.toNat, by omega⟩

/-- What HeadBytes answers, good or not. -/
def HeadIs (B : Nat) (c p : Int) (n : Nat) (wh : Bool) (ao : Option Addr) (m : Nat) (w' : World) : Prop :=
  (hgood c p = true ∧ m = 128 ∧ ∃ g, ao = some ⟨g, 0, none⟩ ∧ B ≤ g ∧ Rd w' (some ⟨g, 0, none⟩) 128 128 (headN c.toNat p.toNat n wh)) ∨ (hgood c p = false ∧ m = 0 ∧ ao = none)

theorem HeadIs.keep {B : Nat} {c p : Int} {n : Nat} {wh : Bool} {ao : Option Addr} {m : Nat} {w w' : World} (h : HeadIs B c p n wh ao m w) (hb : Below w.heap.size w w') : HeadIs B c p n wh ao m w' := by
  rcases h with ⟨h1, h2, g, h3, h4, h5⟩ | h
  · exact Or.inl ⟨h1, h2, g, h3, h4, h5.keep hb⟩
  · exact Or.inr h

theorem head_all (c p : Int) (n : Nat) (wh : Bool) (B : Nat) (w : World) (hT : Tab w) (hB : B ≤ w.heap.size) :
    Calls Tryd.prog 13 #[.agg #[.int .i64 c, .int .i64 p, .int .u64 (n : Int)], .bool wh] w fun e w' => ∃ ao m, e = .returned (.slice ao m m) ∧ HeadIs B c p n wh ao m w' ∧ Below w.heap.size w w' := by
  cases hg : hgood c p with
  | false => exact (head_no c p n wh w hg).mono fun e w' ⟨he, hb⟩ => ⟨none, 0, he, Or.inr ⟨hg, rfl, rfl⟩, hb⟩
  | true =>
    have h := (hgood_iff c p).1 hg
    obtain ⟨c, rfl⟩ := nat_of (show 0 ≤ c by omega)
    obtain ⟨p, rfl⟩ := nat_of (show 0 ≤ p by omega)
    exact (head_yes c p n wh w (by omega) (by omega) hT).mono fun e w' ⟨g, he, ho, hb⟩ => ⟨_, 128, he, Or.inl ⟨hg, rfl, g, rfl, by have := (ho.lt g rfl).1; omega, rd_own ho⟩, hb⟩

/-- Two boxes with heads. -/
def HB2 (W : World) (q q' : Nat) (c p : Int) (n : Nat) (d r : Int) (m : Nat) : Prop := HB 24 W q c p n ∧ HB 24 W q' d r m

theorem HB2.keep {W W' : World} {q q' : Nat} {c p d r : Int} {n m : Nat} (h : HB2 W q q' c p n d r m) (hb : Below W.heap.size W W') : HB2 W' q q' c p n d r m := ⟨h.1.keep hb, h.2.keep hb⟩

theorem HB2.new (w : World) (c p d r : Int) (n m : Nat) : HB2 ((w.alloc (.cells #[.int .i64 c, .int .i64 p, .int .u64 (n : Int)] 24)).alloc (.cells #[.int .i64 d, .int .i64 r, .int .u64 (m : Int)] 24)) w.heap.size (w.heap.size + 1) c p n d r m := by
  refine ⟨(HB.new 24 w c p n).keep (Below.alloc (Below.refl _ _) (Nat.le_refl _) _), ?_⟩
  have := HB.new 24 (w.alloc (.cells #[.int .i64 c, .int .i64 p, .int .u64 (n : Int)] 24)) d r m
  simpa using this

theorem not_good {c p : Int} (h : hgood c p = false) : c < 0 ∨ (¬ c < 0 ∧ 4000 < c) ∨ (¬ c < 0 ∧ ¬ 4000 < c ∧ p < 0) ∨ (¬ c < 0 ∧ ¬ 4000 < c ∧ ¬ p < 0 ∧ 4000 < p) := by
  have : ¬ ((0 ≤ c ∧ c ≤ 4000) ∧ 0 ≤ p ∧ p ≤ 4000) := fun hh => by rw [(hgood_iff c p).2 hh] at h; cases h
  omega

theorem hot_over {X Y : List Nat} {c p n d r m j : Nat} (hX : X = headN c p n true) (hY : Y = headN d r m false) (hj : j < 128) : hotN (X.take j ++ Y.drop j) = false := by
  apply not_hot
  have h1 : (X.take j).length = j := by rw [hX]; simp [headN_length]; omega
  have h2 : (X.take j ++ Y.drop j).getD 127 0 = Y.getD 127 0 := by
    simp only [List.getD]
    rw [List.getElem?_append_right (by omega), h1, List.getElem?_drop, show j + (127 - j) = 127 by omega]
  rw [h2, hY, head_last]
  rfl

theorem hot_blank {X : List Nat} {c p n L j : Nat} (hX : X = headN c p n true) (hj : j < 128) : hotN (X.take j ++ List.replicate L 0) = false := by
  apply not_hot
  have h1 : (X.take j).length = j := by rw [hX]; simp [headN_length]; omega
  simp only [List.getD]
  rw [List.getElem?_append_right (by omega), h1, List.getElem?_replicate]
  split <;> rfl

set_option maxHeartbeats 4000000 in
set_option maxRecDepth 20000 in
theorem torn_law (c p d r : Int) (n m k : Nat) (w : World) (hT : Tab w) (hn : n < 18446744073709551616) :
    Calls Tryd.prog 6 #[.agg #[.int .i64 c, .int .i64 p, .int .u64 (n : Int)], .agg #[.int .i64 d, .int .i64 r, .int .u64 (m : Int)], .int .u64 (k : Int)] w fun e w' => e = .returned (.bool true) ∧ Below w.heap.size w w' := by
  have c1 := hid fun W hT => head_all c p n true w.heap.size W hT
  have c2 := hid fun W hT => head_all d r m false w.heap.size W hT
  have lv := hid lives_any
  have hT' := hid hT
  have t1 : Hid True := hid trivial
  have q0 := hid (HB2.new w c p d r n m)
  have A0 : Hid (Below w.heap.size w ((w.alloc (.cells #[.int .i64 c, .int .i64 p, .int .u64 (n : Int)] 24)).alloc (.cells #[.int .i64 d, .int .i64 r, .int .u64 (m : Int)] 24))) := hid (Below.alloc (Below.alloc (Below.refl _ _) (Nat.le_refl _) _) (by simp) _)
  have hn' := hid hn
  clear hT hn
  go_enter Tryd.func6, Tryd.ntmps6
  go_upto_region 1 with fail
  generalize ((w.alloc (.cells #[.int .i64 c, .int .i64 p, .int .u64 (n : Int)] 24)).alloc (.cells #[.int .i64 d, .int .i64 r, .int .u64 (m : Int)] 24)) = W0 at *
  generalize w.heap.size + 1 = q1 at *
  go_cut [7, 8] (fun s7 s8 W => ∃ ao1 m1 ao2 m2, s7 = .slice ao1 m1 m1 ∧ s8 = .slice ao2 m2 m2 ∧ Hid (HeadIs w.heap.size c p n true ao1 m1 W) ∧ Hid (HeadIs w.heap.size d r m false ao2 m2 W) ∧ Hid (HB2 W w.heap.size q1 c p n d r m) ∧ Hid (Below w.heap.size w W))
  case first =>
    obtain ⟨a0, a1, a2, _, _, _⟩ := q0.out.1.cells
    obtain ⟨e0, e1, e2, _, _, _⟩ := q0.out.2.cells
    go_region_with (first
      | (go_at_call 13; clear t1; refine (c1.out _ (hT'.out.keep A0.out.drew) A0.out.size).mono ?_; rintro e w1 ⟨ao1, m1, rfl, hd1, hb1⟩; have Q1 := hid (q0.out.keep (undrew hb1)); have B1 := hid (gt A0.out (undrew hb1)); replace hd1 := hid hd1; clear hb1 a0 a1 a2 e0 e1 e2; obtain ⟨a0, a1, a2, _, _, _⟩ := Q1.out.1.cells; obtain ⟨e0, e1, e2, _, _, _⟩ := Q1.out.2.cells)
      | (go_at_call 13; refine (c2.out _ (hT'.out.keep B1.out) B1.out.size).mono ?_; rintro e w2 ⟨ao2, m2, rfl, hd2, hb2⟩; have Q2 := hid (Q1.out.keep hb2); have B2 := hid (gt B1.out hb2); replace hd2 := hid hd2; have hd3 := hid (hd1.out.keep hb2); clear hb2 a0 a1 a2 e0 e1 e2; obtain ⟨a0, a1, a2, _, _, _⟩ := Q2.out.1.cells; obtain ⟨e0, e1, e2, _, _, _⟩ := Q2.out.2.cells))
    all_goals
      go_wp2
      go_meet
      case rel => exact ⟨ao1, m1, ao2, m2, rfl, rfl, hd3, hd2, Q2, B2⟩
  case rest =>
    obtain ⟨ao1, m1, ao2, m2, rfl, rfl, D1, D2, Q, B⟩ := hcut
    obtain ⟨a0, a1, a2, _, _, _⟩ := Q.out.1.cells
    obtain ⟨e0, e1, e2, _, _, _⟩ := Q.out.2.cells
    clear c1 c2 t1 q0 A0
    rcases D1.out with ⟨g1, rfl, b1, rfl, hb1, r1⟩ | ⟨g1, rfl, rfl⟩
    · rcases D2.out with ⟨g2, rfl, b2, rfl, hb2, r2⟩ | ⟨g2, rfl, rfl⟩
      · obtain ⟨j, hj, hj2⟩ : ∃ j : Nat, (k : Int).tmod 128 = (j : Int) ∧ j < 128 := ⟨k % 128, by rw [Int.tmod_eq_emod_of_nonneg (by omega)]; omega, by omega⟩
        have hj4 : (j : Int) ≤ 128 := by omega
        have hj5 : ¬ (128 : Nat) = j := by omega
        have hj3 : (j : Int) < 128 := by omega
        have hjw : IntKind.i64.wrap (j : Int) = (j : Int) := by rw [IntKind.wrap_i64]; omega
        obtain ⟨g1a, g1b⟩ := (hgood_iff c p).1 g1
        obtain ⟨g2a, g2b⟩ := (hgood_iff d r).1 g2
        obtain ⟨c, rfl⟩ := nat_of g1a.1
        obtain ⟨p, rfl⟩ := nat_of g1b.1
        obtain ⟨d, rfl⟩ := nat_of g2a.1
        obtain ⟨r, rfl⟩ := nat_of g2b.1
        simp only [Int.toNat_natCast] at r1 r2
        obtain ⟨X, hX⟩ : ∃ X, X = headN c p n true := ⟨_, rfl⟩
        obtain ⟨Y, hY⟩ : ∃ Y, Y = headN d r m false := ⟨_, rfl⟩
        rw [← hX] at r1
        rw [← hY] at r2
        have R1 := hid r1
        have R2 := hid r2
        have hX' := hid hX
        have hY' := hid hY
        have rj : Rd wc (some ⟨b1, 0, none⟩) j 128 (X.take j) := by
          by_cases h0 : j = 0
          · subst h0
            exact ⟨by simp, by omega, fun h => (by cases h), fun h => (by omega)⟩
          · exact rd_take r1 j (by omega) (by omega)
        have rk := (r2.from_ j (by omega)).2 (by omega)
        rw [Nat.zero_add] at rk
        have RJ := hid rj
        have RK := hid rk
        have g1c : c ≤ 4000 ∧ p ≤ 4000 := by omega
        have G1 := hid g1c
        have tA : Hid True := hid trivial
        have tB : Hid True := hid trivial
        obtain ⟨L, hL, hL2⟩ : ∃ L : Nat, (128 : Int) - (j : Int) = (L : Int) ∧ L = 128 - j := ⟨128 - j, by omega, rfl⟩
        have HL := hid hL2
        clear hL2
        clear D1 D2 a0 a1 a2 e0 e1 e2 r1 r2 hX hY g1 g2 g1a g1b g2a g2b rj rk g1c
        have hBs := B.out.size
        go_upto_region 7 with fail
        go_region_law (first
          | (refine step_append_rd rfl (.tmp 76) (.tmp 79) rfl wc.heap.size _ 0 [] (by simp [Act.eval]) (World.ownsRow_made wc #[] 0 (Nat.le_refl _) (by decide) rfl).drew (some ⟨b1, 0, none⟩) j 128 (X.take j) (by simp [Act.eval]) (RJ.out.keep (Below.alloc (Below.refl _ _) (Nat.le_refl _) _).drew) (by omega) (by simp) ?_; intro v1 w1 ho1 hb1; replace hb1 : Below wc.heap.size wc w1 := (Below.alloc (Below.refl _ _) (Nat.le_refl _) _).drew.trans hb1)
          | (refine step_append_rd rfl (.tmp 80) (.tmp 83) rfl wc.heap.size _ (0 + j) ([] ++ X.take j) (by simp [Act.eval]) ho1 (some ⟨b2, j, none⟩) (128 - j) (128 - j) (Y.drop j) (by simp [Act.eval]) (RK.out.keep hb1) (by omega) hb1.size ?_; intro v2 w2 ho2 hb2; replace hb2 : Below wc.heap.size wc w2 := hb1.trans hb2))
        obtain ⟨ao3, cap3, rfl, r3⟩ := rd_owned ho2
        rw [List.nil_append, show 0 + j + (128 - j) = 128 by omega] at r3
        have R3 := hid r3
        have B2 := hid (gt B.out hb2)
        have F2 := hid hb2
        rw [show 0 + j + (128 - j) = 128 by omega]
        clear r3 ho1 hb1 ho2 hb2
        go_wp2_with (first
          | ((with_reducible refine here_op 89 ?_); refine wpList_append_rd rfl (.tmp 85) (.tmp 88) rfl w2.heap.size _ 0 [] rfl (World.ownsRow_made w2 #[] 0 (Nat.le_refl _) (by decide) rfl) (some ⟨b1, 0, none⟩) j 128 (X.take j) rfl ((RJ.out.keep F2.out).keep (Below.alloc (Below.refl _ _) (Nat.le_refl _) _)) (by omega) (by simp) ?_; intro v4 w4 ho4 hb4; have H4 := hid ((Below.alloc (Below.refl _ _) (Nat.le_refl _) _).trans hb4); replace ho4 := hid ho4; clear hb4)
          | ((with_reducible refine here_op 92 ?_); refine wpList_append_zeros rfl (.tmp 89) (.tmp 91) rfl w2.heap.size _ (0 + j) ([] ++ X.take j) rfl ho4.out L rfl (by have := HL.out; omega) (by have := HL.out; omega) H4.out.size ?_; intro v5 w5 ho5 hb5; have H5 := hid (H4.out.trans hb5); obtain ⟨ao5, cap5, hv5, r5⟩ := rd_owned ho5; rw [List.nil_append, show 0 + j + L = 128 by have := HL.out; omega] at r5; rw [show 0 + j + L = 128 by have := HL.out; omega] at hv5; subst hv5; have R5 := hid r5; have B5 := hid (gt B2.out H5.out); clear r5 ho5 hb5 ho4 H4)
          | (go_at_call 28; clear tA; refine (hot_any ao3 128 cap3 _ _ (R3.out.keep H5.out) ?_ (by omega) (hT'.out.keep B5.out)).mono ?_; exact app_bytes (take_bytes (by rw [hX'.out]; exact headN_bytes _ _ _ _) _) (drop_bytes (by rw [hY'.out]; exact headN_bytes _ _ _ _) _); rw [hot_over hX'.out hY'.out hj2]; rintro e w6 ⟨rfl, hb6⟩; have B6 := hid (gt B5.out hb6); have R6 := hid (R5.out.keep hb6); have R16 := hid (((R1.out.keep F2.out).keep H5.out).keep hb6); clear hb6)
          | (go_at_call 28; clear tB; refine (hot_any ao5 128 cap5 _ _ R6.out ?_ (by omega) (hT'.out.keep B6.out)).mono ?_; exact app_bytes (take_bytes (by rw [hX'.out]; exact headN_bytes _ _ _ _) _) (zero_bytes _); rw [hot_blank hX'.out hj2]; rintro e w7 ⟨rfl, hb7⟩; have B7 := hid (gt B6.out hb7); have R17 := hid (R16.out.keep hb7); clear hb7)
          | (go_at_call 28; refine (hot_any (some ⟨b1, 0, none⟩) 128 128 X _ R17.out ?_ (by omega) (hT'.out.keep B7.out)).mono ?_; rw [hX'.out]; exact headN_bytes _ _ _ _; rw [hX'.out, show hotN (headN c p n true) = true by have := hot_head c p n G1.out.1 G1.out.2 hn'.out []; simpa using this]; rintro e w8 ⟨rfl, hb8⟩; have B8 := hid (gt B7.out hb8); clear hb8)
          | (go_at_call 8; refine (lv.out _).mono ?_; rintro e w9 ⟨rfl, h9⟩; obtain rfl := h9.symm))
        go_ret
        exact ⟨rfl, B8.out⟩
      · clear D1 D2
        have g1' := (hgood_iff c p).1 g1
        have x1 : ¬ c < 0 := by omega
        have x2 : ¬ 4000 < c := by omega
        have x3 : ¬ p < 0 := by omega
        have x4 : ¬ 4000 < p := by omega
        rcases not_good g2 with h | ⟨h, h1⟩ | ⟨h, h1, h2⟩ | ⟨h, h1, h2, h3⟩
        · go_wp2_with (go_at_call 8; refine (lv.out _).mono ?_; rintro e w3 ⟨rfl, h3⟩; obtain rfl := h3.symm)
          go_ret
          exact ⟨rfl, B.out⟩
        · go_wp2_with (go_at_call 8; refine (lv.out _).mono ?_; rintro e w3 ⟨rfl, h3⟩; obtain rfl := h3.symm)
          go_ret
          exact ⟨rfl, B.out⟩
        · go_wp2_with (go_at_call 8; refine (lv.out _).mono ?_; rintro e w3 ⟨rfl, h3⟩; obtain rfl := h3.symm)
          go_ret
          exact ⟨rfl, B.out⟩
        · go_wp2_with (go_at_call 8; refine (lv.out _).mono ?_; rintro e w3 ⟨rfl, h3⟩; obtain rfl := h3.symm)
          go_ret
          exact ⟨rfl, B.out⟩
    · clear D1 D2
      rcases not_good g1 with h | ⟨h, h1⟩ | ⟨h, h1, h2⟩ | ⟨h, h1, h2, h3⟩
      · go_wp2_with (go_at_call 8; refine (lv.out _).mono ?_; rintro e w3 ⟨rfl, h3⟩; obtain rfl := h3.symm)
        go_ret
        exact ⟨rfl, B.out⟩
      · go_wp2_with (go_at_call 8; refine (lv.out _).mono ?_; rintro e w3 ⟨rfl, h3⟩; obtain rfl := h3.symm)
        go_ret
        exact ⟨rfl, B.out⟩
      · go_wp2_with (go_at_call 8; refine (lv.out _).mono ?_; rintro e w3 ⟨rfl, h3⟩; obtain rfl := h3.symm)
        go_ret
        exact ⟨rfl, B.out⟩
      · go_wp2_with (go_at_call 8; refine (lv.out _).mono ?_; rintro e w3 ⟨rfl, h3⟩; obtain rfl := h3.symm)
        go_ret
        exact ⟨rfl, B.out⟩

end Go.Proofs.YtndlogjmnbgegaaDoor
