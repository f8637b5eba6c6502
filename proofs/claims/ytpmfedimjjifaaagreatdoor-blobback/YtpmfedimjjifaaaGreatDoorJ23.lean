/- A shape that a reader reads, however deep it lies; no statement of the seat is proved here. -/
import Derived.Test.YtpmfedimjjifaaaGreatDoorJ22
namespace Go.Proofs.YtpmfedimjjifaaaGreatDoor
open Go.RowKit Go.Maps

set_option maxRecDepth 100000 in
theorem order_deep {s : St} {l : Bool} {s1 : St} (h : orderD true s = .ok l s1) : False := by
  unfold orderD at h
  split at h
  · cases h
  · split at h
    · cases h
    · cases h
set_option maxRecDepth 100000 in
theorem shape_all (N rb pb qb : Nat) (hz : rb ≠ 0 ∧ pb ≠ 0 ∧ qb ≠ 0) : ∀ (f d : Nat), d + f = 17 → 1 ≤ d → ∀ (want : Int) (W : World) (s : St), RdAt N rb pb qb W s → Tab W →
    (∀ t s', shapeD f want s = .ok t s' → Calls Tryz.prog 89 #[.pointer (some ⟨rb, 0, none⟩), .int .i64 (d : Int), .int .i64 want] W (ShOk N rb pb qb W t s')) ∧
    (∀ e, shapeD f want s = .bad e → Calls Tryz.prog 89 #[.pointer (some ⟨rb, 0, none⟩), .int .i64 (d : Int), .int .i64 want] W (ShBad rb pb qb W e)) := by
  intro f
  induction f with
  | zero =>
    intro d hd h1 want W s h hT
    obtain rfl : d = 17 := by omega
    constructor
    · intro t s' hs
      obtain ⟨l, s1, ho, _⟩ := bind_inv hs
      exact (order_deep ho).elim
    · intro e hs
      rcases bad_inv hs with ho | ⟨l, s1, ho, _⟩
      · exact shape_order h hT hz 17 (by omega) want e ho
      · exact (order_deep ho).elim
  | succ f ih =>
    intro d hd h1 want W s h hT
    have hd16 : decide (16 < d) = false := by simp; omega
    have hn : Deeper N rb pb qb d (shapeD f) := fun k W si hr hT => ih (d + 1) (by omega) (by omega) (partK k) W si hr hT
    constructor
    · intro t s' hs
      obtain ⟨l, s1, ho, hs⟩ := bind_inv hs
      obtain ⟨k, s2, hk, hs⟩ := bind_inv hs
      rw [← hd16] at ho
      have k17 := (Len.kind want l).2 _ _ _ hk
      unfold bodyD at hs
      split at hs
      · rename_i e
        subst e
        obtain ⟨xy, s3, hb, hs⟩ := bind_inv hs
        injection hs with e1 e2
        subst e1 e2
        exact shape_ok1 h hT hz d (by omega) want l s1 s2 s3 ho hk xy hb
      · split at hs
        · rename_i e
          subst e
          obtain ⟨xy, s3, hb, hs⟩ := bind_inv hs
          injection hs with e1 e2
          subst e1 e2
          exact shape_ok2 h hT hz d (by omega) want l s1 s2 s3 ho hk xy hb
        · split at hs
          · rename_i e
            subst e
            obtain ⟨ts, s3, hb, hs⟩ := bind_inv hs
            injection hs with e1 e2
            subst e1 e2
            exact shape_ok3 h hT hz d (by omega) want l s1 s2 s3 ho hk ts hb
          · obtain ⟨ts, s3, hb, hs⟩ := bind_inv hs
            injection hs with e1 e2
            subst e1 e2
            exact shape_okn h hT hz d (by omega) want l s1 s2 s3 k ⟨by assumption, by assumption, by assumption, by omega, by omega⟩ ho hk (shapeD f) hn ts hb
    · intro e hs
      rcases bad_inv hs with ho | ⟨l, s1, ho, hs⟩
      · rw [← hd16] at ho
        exact shape_order h hT hz d (by omega) want e ho
      rw [← hd16] at ho
      rcases bad_inv hs with hk | ⟨k, s2, hk, hs⟩
      · exact shape_kind h hT hz d (by omega) want l s1 e ho hk
      have k17 := (Len.kind want l).2 _ _ _ hk
      unfold bodyD at hs
      split at hs
      · rename_i ek
        subst ek
        rcases bad_inv hs with hb | ⟨xy, s3, _, hs⟩
        · exact shape_bad1 h hT hz d (by omega) want l s1 s2 e ho hk hb
        · cases hs
      · split at hs
        · rename_i ek
          subst ek
          rcases bad_inv hs with hb | ⟨xy, s3, _, hs⟩
          · exact shape_bad2 h hT hz d (by omega) want l s1 s2 e ho hk hb
          · cases hs
        · split at hs
          · rename_i ek
            subst ek
            rcases bad_inv hs with hb | ⟨xy, s3, _, hs⟩
            · exact shape_bad3 h hT hz d (by omega) want l s1 s2 e ho hk hb
            · cases hs
          · rcases bad_inv hs with hb | ⟨xy, s3, _, hs⟩
            · exact shape_badn h hT hz d (by omega) want l s1 s2 e k ⟨by assumption, by assumption, by assumption, by omega, by omega⟩ ho hk (shapeD f) hn hb
            · cases hs
end Go.Proofs.YtpmfedimjjifaaaGreatDoor

/- Decode and Read; no statement of the seat is proved here. -/
namespace Go.Proofs.YtpmfedimjjifaaaGreatDoor
open Go.RowKit Go.Maps

set_option maxRecDepth 100000 in
theorem upTo_call (n : Int) (w : World) : Calls Tryz.prog 105 #[.int .i64 n] w fun e w' => e = .returned (.func (.func 126) #[] #[.pointer (some ⟨w.heap.size, 0, none⟩)]) ∧ w' = w.alloc (.cells #[.int .i64 n] 3) := by
  go_enter Tryz.func105, Tryz.ntmps105
  go_wp2
  go_ret
  exact ⟨rfl, rfl⟩
set_option maxRecDepth 100000 in
set_option maxHeartbeats 2000000 in
theorem over_call (o : Option Addr) (n c : Nat) (xs : List Nat) (w : World) (h : Rd w o n c xs) (hx : ∀ x ∈ xs, x < 256) (hn : n ≤ 1000000000) :
    Calls Tryz.prog 87 #[.slice o n c] w fun e w' => e = .returned (.pointer (some ⟨w.heap.size + 2, 0, none⟩)) ∧ RdAt (w.heap.size + 3) (w.heap.size + 2) w.heap.size (w.heap.size + 1) w' ⟨xs, 4000, 1000⟩ ∧ Below w.heap.size w w' := by
  have UC := hid (fun n w => upTo_call n w)
  have HR := hid h
  have HX := hid hx
  clear h hx
  go_enter Tryz.func87, Tryz.ntmps87
  go_wp2_with (go_at_call 105; refine (UC.out _ _).mono ?_; rintro e w1 ⟨rfl, hw⟩; obtain rfl := hw.symm)
  go_ret
  have B0 := ((Bo.new w #[.int .i64 4000] 3).keep (ext1 (.cells #[.int .i64 1000] 3))).keep (ext1 (.cells (rdrV o n c w.heap.size (w.heap.size + 1)) 138))
  have B1 := (Bo.new (w.alloc (.cells #[.int .i64 4000] 3)) #[.int .i64 1000] 3).keep (ext1 (.cells (rdrV o n c w.heap.size (w.heap.size + 1)) 138))
  have B2 := Bo.new ((w.alloc (.cells #[.int .i64 4000] 3)).alloc (.cells #[.int .i64 1000] 3)) (rdrV o n c w.heap.size (w.heap.size + 1)) 138
  simp only [World.size_alloc] at B1 B2
  have lo : 0 < n → ∀ b off, o = some ⟨b, off, none⟩ → b < w.heap.size := by
    rintro h0 b off rfl
    obtain ⟨b', off', e, hc⟩ := HR.out.2.2.2 h0
    simp only [Option.some.injEq, Addr.mk.injEq, and_true] at e
    rw [e.1]
    exact lt_cell (hc 0 h0)
  exact ⟨rfl, { lo := ⟨by omega, by omega, by omega, by omega, by omega, by omega⟩, sz := by simp, bx := ⟨o, n, c, B2, HR.out.keep (gt (ext1 _) (gt (ext1 _) (ext1 _))), fun b off e h0 => by have := lo h0 b off e; omega⟩, pp := B0, qq := B1, by8 := HX.out, len := by have := HR.out.1; simp only; omega, lim := ⟨by simp, by simp⟩ }, gt (ext1 _) (gt (ext1 _) (ext1 _))⟩

set_option maxRecDepth 100000 in
theorem results_cell_tmp2 {fn : Func} {p u v : Tmp} {ty : TypeId} (h : fn.results = #[.cell p ty, .tmp u, .tmp v]) (tmps : Array Value) (P : Program) (w : World) :
    (results fn tmps).run P w = ((asAddr (tmps.getD p undef)).run P w).andThen fun a w₁ => ((loadVar ty a).run P w₁).andThen fun x w₂ => .ok (.tuple #[x, tmps.getD u undef, tmps.getD v undef]) w₂ := by
  simp only [results, h]
  simp [Sem.run_bind, Result.andThen]
set_option maxRecDepth 100000 in
theorem ret_sh3 {fn : Func} {p u v : Tmp} (h : fn.results = #[.cell p 39, .tmp u, .tmp v]) {tmps : Array Value} {W : World} {q : Nat} {t' : TypeId} {a b c : Value}
    (hp : tmps.getD p undef = .pointer (some ⟨q, 0, none⟩)) (hb : W.heap[q]? = some (.cells #[a, b, c] t')) : (results fn tmps).run Tryz.prog W = .ok (.tuple #[.agg #[a, b, c], tmps.getD u undef, tmps.getD v undef]) W := by
  rw [results_cell_tmp2 h, hp]
  simp [asAddr, load3 Tryz.isAgg39 Tryz.sizeOf39 hb]
/-- What Decode says of bytes: a shape and how many bytes are left, or an error. -/
def D0 (xs : List Nat) : Re T := (shapeD 16 (-1) ⟨xs, 4000, 1000⟩).bind fun t s => if chk t = 0 then .ok t s else .bad (chk t).toNat
set_option maxRecDepth 100000 in
theorem checkV_cases (D P X : Nat) (k : Int) (g p : Bool) : checkV D P X k g p = 0 ∨ checkV D P X k g p = 9 ∨ checkV D P X k g p = 10 ∨ checkV D P X k g p = 11 ∨ checkV D P X k g p = 12 := by
  unfold checkV
  repeat' split
  all_goals simp
set_option maxRecDepth 100000 in
theorem chk_cases (t : T) : chk t = 0 ∨ chk t = 9 ∨ chk t = 10 ∨ chk t = 11 ∨ chk t = 12 := checkV_cases _ _ _ _ _ _
set_option maxRecDepth 100000 in
theorem cg_low {w a b : World} {rb pb qb : Nat} (h : Below w.heap.size w a) (f : Fr (Cg rb pb qb) a b) (hl : w.heap.size ≤ rb ∧ w.heap.size ≤ pb ∧ w.heap.size ≤ qb) : Below w.heap.size w b :=
  h.trans (f.below h.size fun k hk e => by rcases e with e | e | e <;> omega)

set_option maxRecDepth 100000 in
set_option maxHeartbeats 4000000 in
theorem decode_bad (o : Option Addr) (n c : Nat) (xs : List Nat) (w : World) (hT : Tab w) (h : Rd w o n c xs) (hx : ∀ x ∈ xs, x < 256) (hn : n ≤ 1000000000) (e : Nat) (hd : D0 xs = .bad e) :
    Calls Tryz.prog 54 #[.slice o n c] w fun x w' => x = .returned (.tuple #[.agg #[.int .i64 0, .slice none 0 0, .slice none 0 0], .int .i64 0, .int .i64 (e : Int)]) ∧ (1 ≤ e ∧ e ≤ 20) ∧ Below w.heap.size w w' := by
  have hz1 : 1 ≤ w.heap.size := by have := lt_cell (hT 0 (by omega)).1; simp at this; omega
  have hb1 : Below w.heap.size w (w.alloc (.cells #[.int .i64 0, .slice none 0 0, .slice none 0 0] 39)) := ext1 _
  have OV := hid (over_call o n c xs _ (h.keep hb1) hx hn)
  rw [World.size_alloc] at OV
  have BR := hid (Bo.new w #[.int .i64 0, .slice none 0 0, .slice none 0 0] 39)
  have HT := hid hT
  rcases bad_inv hd with hd | ⟨t, s1, hs, hd⟩
  · have SC := hid (fun W (r : RdAt (w.heap.size + 1 + 3) (w.heap.size + 1 + 2) (w.heap.size + 1) (w.heap.size + 1 + 1) W ⟨xs, 4000, 1000⟩) (ht : Tab W) => (shape_all _ _ _ _ (by omega) 16 1 rfl (by omega) (-1) W _ r ht).2 e hd)
    have TB := hid (fun w => taken_bad e w)
    clear h hx hd hT
    go_enter Tryz.func54, Tryz.ntmps54
    by_cases he : 1 ≤ e ∧ e ≤ 20
    · have he1 : ((e : Int) == 0) = false := by simp; omega
      have he2 : ((e : Int) != 0) = true := by simp; omega
      go_wp2_with (first
        | (go_at_call 87; refine OV.out.mono ?_; rintro x w1 ⟨rfl, r1, b1⟩; have R1 := hid r1; have H1 := hid b1; have X1 := hid (BR.out.keep (by rw [World.size_alloc]; exact b1)); clear r1 b1)
        | (go_at_call 89; refine (SC.out _ R1.out (HT.out.keep (gt hb1 (by rw [World.size_alloc]; exact H1.out)))).mono ?_; rintro x w2 ⟨rfl, -, f2⟩; have F2 := hid f2; have X2 := hid (show Bo w2 w.heap.size #[.int .i64 0, .slice none 0 0, .slice none 0 0] 39 from (f2.blk _ X1.out.lt (fun e => by rcases e with e | e | e <;> omega)).trans X1.out); clear f2)
        | (go_at_call 88; refine (TB.out _).mono ?_; rintro x w3 ⟨rfl, b3⟩; have H3 := hid b3; have X3 := hid ((X2.out.keep b3).keep (ext1 (.cells #[.int .i64 0, .slice none 0 0, .slice none 0 0] 39))); have c0 := X3.out.cell 0 _ rfl; have c1 := X3.out.cell 1 _ rfl; have c2 := X3.out.cell 2 _ rfl; have f0 := X3.out.fz 0; have f1 := X3.out.fz 1; have f2 := X3.out.fz 2; clear b3))
      refine bodyPost_ret (ret_sh3 rfl rfl (((X3.out.set 0 _).set 1 _).set 2 _)) rfl ?_
      have B2 := cg_low (hb1.trans (H1.out.mono (by omega))) F2.out (by omega)
      have B3 := gt B2 H3.out
      exact ⟨rfl, he, (((B3.alloc B3.size _).setCell (Nat.le_refl _) _).setCell (Nat.le_refl _) _).setCell (Nat.le_refl _) _⟩
    · go_wp2_with (first
        | (go_at_call 87; refine OV.out.mono ?_; rintro x w1 ⟨rfl, r1, b1⟩; have R1 := hid r1; have H1 := hid b1; clear r1 b1)
        | (go_at_call 89; refine (SC.out _ R1.out (HT.out.keep (gt hb1 (by rw [World.size_alloc]; exact H1.out)))).mono ?_; rintro x w2 ⟨rfl, h2, f2⟩; exact absurd h2 he))
  · have hcn : chk t ≠ 0 := by
      intro e0
      rw [if_pos e0] at hd
      cases hd
    rw [if_neg hcn] at hd
    injection hd with hd
    have he : (1 ≤ e ∧ e ≤ 20) ∧ chk t = (e : Int) := by have := chk_cases t; omega
    have SC := hid (fun W (r : RdAt (w.heap.size + 1 + 3) (w.heap.size + 1 + 2) (w.heap.size + 1) (w.heap.size + 1 + 1) W ⟨xs, 4000, 1000⟩) (ht : Tab W) => (shape_all _ _ _ _ (by omega) 16 1 rfl (by omega) (-1) W _ r ht).1 t s1 hs)
    have TO := hid (fun (s : Sh) w => taken_ok s w)
    have CK := hid (fun (s : Sh) w (ht : Tab w) (hi : In (fun b => b < w.heap.size) w s) => check_call s w ht hi)
    have HE := hid he.1
    have HCE := hid he.2
    have he1 : ((e : Int) == 0) = false := by simp; omega
    have he2 : ((e : Int) != 0) = true := by simp; omega
    clear h hx hd hT hs hcn he
    go_enter Tryz.func54, Tryz.ntmps54
    go_wp2_with (first
      | (go_at_call 87; refine OV.out.mono ?_; rintro x w1 ⟨rfl, r1, b1⟩; have R1 := hid r1; have H1 := hid b1; have X1 := hid (BR.out.keep (by rw [World.size_alloc]; exact b1)); clear r1 b1)
      | (go_at_call 89; refine (SC.out _ R1.out (HT.out.keep (gt hb1 (by rw [World.size_alloc]; exact H1.out)))).mono ?_; rintro x w2 ⟨⟨p, rfl, hct, hm⟩, f2, r2⟩; have F2 := hid f2; have R2 := hid r2; have HM := hid hm; have HCT := hid hct; have X2 := hid (show Bo w2 w.heap.size #[.int .i64 0, .slice none 0 0, .slice none 0 0] 39 from (f2.blk _ X1.out.lt (fun e => by rcases e with e | e | e <;> omega)).trans X1.out); have BB := hid (cg_low (hb1.trans (H1.out.mono (by omega))) f2 (by omega)); clear f2 r2 hm hct)
      | (go_at_call 88; refine (TO.out p _).mono ?_; rintro x w3 ⟨rfl, b3⟩; have H3 := hid b3; have X3 := hid ((X2.out.keep b3).keep (ext1 (.cells #[.int .i64 (p).k, .slice (p).xo (p).xn (p).xc, .slice (p).po (p).pn (p).pc] 39))); have XB := hid (Bx.new w3 p); obtain ⟨p0, p1, p2⟩ := XB.out.cells; have z2 := BB.out.size; have z3 := b3.size; have HM3 := hid ((HM.out.keep b3).keep (ext1 (.cells #[.int .i64 (p).k, .slice (p).xo (p).xn (p).xc, .slice (p).po (p).pn (p).pc] 39))); clear b3)
      | (go_at_call 39; refine (CK.out p _ (HT.out.keep (gt BB.out (gt H3.out (ext1 _)))) (HM3.out.of fun b hb => ⟨rfl, hb.2⟩)).mono ?_; rintro x w4 ⟨rfl, b4⟩; have EC : checkN p = (e : Int) := (by rw [chk_eq HM3.out, HCT.out]; exact HCE.out); rw [EC]; clear EC; have H4 := hid b4; have X4 := hid (X3.out.keep b4); have c0 := X4.out.cell 0 _ rfl; have c1 := X4.out.cell 1 _ rfl; have c2 := X4.out.cell 2 _ rfl; have f0 := X4.out.fz 0; have f1 := X4.out.fz 1; have f2 := X4.out.fz 2; have XB4 := hid (XB.out.keep b4); obtain ⟨p0, p1, p2⟩ := XB4.out.cells; clear b4))
    refine bodyPost_ret (ret_sh3 rfl rfl (((X4.out.set 0 _).set 1 _).set 2 _)) rfl ?_
    have B4 := gt BB.out (gt H3.out (gt (ext1 (.cells #[.int .i64 (p).k, .slice (p).xo (p).xn (p).xc, .slice (p).po (p).pn (p).pc] 39)) H4.out))
    exact ⟨rfl, HE.out, ((B4.setCell (Nat.le_refl _) _).setCell (Nat.le_refl _) _).setCell (Nat.le_refl _) _⟩

set_option maxRecDepth 100000 in
set_option maxHeartbeats 4000000 in
theorem decode_ok (o : Option Addr) (n c : Nat) (xs : List Nat) (w : World) (hT : Tab w) (h : Rd w o n c xs) (hx : ∀ x ∈ xs, x < 256) (hn : n ≤ 1000000000) (t : T) (s1 : St) (hd : D0 xs = .ok t s1) :
    Calls Tryz.prog 54 #[.slice o n c] w fun x w' => (∃ p : Sh, x = .returned (.tuple #[.agg #[.int .i64 (p).k, .slice (p).xo (p).xn (p).xc, .slice (p).po (p).pn (p).pc], .int .i64 ((n : Int) - (s1.xs.length : Int)), .int .i64 0]) ∧ p.t = t ∧ Made w.heap.size w' p) ∧ chk t = 0 ∧ s1.xs.length ≤ n ∧ Below w.heap.size w w' := by
  have hz1 : 1 ≤ w.heap.size := by have := lt_cell (hT 0 (by omega)).1; simp at this; omega
  have hb1 : Below w.heap.size w (w.alloc (.cells #[.int .i64 0, .slice none 0 0, .slice none 0 0] 39)) := ext1 _
  have OV := hid (over_call o n c xs _ (h.keep hb1) hx hn)
  rw [World.size_alloc] at OV
  have BR := hid (Bo.new w #[.int .i64 0, .slice none 0 0, .slice none 0 0] 39)
  have HT := hid hT
  obtain ⟨t', s1', hs, hd⟩ := bind_inv hd
  split at hd
  · rename_i hc0
    injection hd with hd1 hd2
    subst hd1 hd2
    have SC := hid (fun W (r : RdAt (w.heap.size + 1 + 3) (w.heap.size + 1 + 2) (w.heap.size + 1) (w.heap.size + 1 + 1) W ⟨xs, 4000, 1000⟩) (ht : Tab W) => (shape_all _ _ _ _ (by omega) 16 1 rfl (by omega) (-1) W _ r ht).1 t' s1' hs)
    have TO := hid (fun (s : Sh) w => taken_ok s w)
    have CK := hid (fun (s : Sh) w (ht : Tab w) (hi : In (fun b => b < w.heap.size) w s) => check_call s w ht hi)
    have HC := hid hc0
    have hln : s1'.xs.length ≤ n := by
      have := shapeD_len false 16 (-1) _ _ _ hs
      have := h.1
      simp only at *
      omega
    have HLN := hid hln
    clear h hx hT hs hc0
    go_enter Tryz.func54, Tryz.ntmps54
    go_wp2_with (first
      | (go_at_call 87; refine OV.out.mono ?_; rintro x w1 ⟨rfl, r1, b1⟩; have R1 := hid r1; have H1 := hid b1; have X1 := hid (BR.out.keep (by rw [World.size_alloc]; exact b1)); clear r1 b1)
      | (go_at_call 89; refine (SC.out _ R1.out (HT.out.keep (gt hb1 (by rw [World.size_alloc]; exact H1.out)))).mono ?_; rintro x w2 ⟨⟨p, rfl, hct, hm⟩, f2, r2⟩; have F2 := hid f2; have R2 := hid r2; have HM := hid hm; have HCT := hid hct; have X2 := hid (show Bo w2 w.heap.size #[.int .i64 0, .slice none 0 0, .slice none 0 0] 39 from (f2.blk _ X1.out.lt (fun e => by rcases e with e | e | e <;> omega)).trans X1.out); have BB := hid (cg_low (hb1.trans (H1.out.mono (by omega))) f2 (by omega)); clear f2 r2 hm hct)
      | (go_at_call 88; refine (TO.out p _).mono ?_; rintro x w3 ⟨rfl, b3⟩; have H3 := hid b3; have X3 := hid ((X2.out.keep b3).keep (ext1 (.cells #[.int .i64 (p).k, .slice (p).xo (p).xn (p).xc, .slice (p).po (p).pn (p).pc] 39))); have XB := hid (Bx.new w3 p); obtain ⟨p0, p1, p2⟩ := XB.out.cells; have z2 := BB.out.size; have z3 := b3.size; have HM3 := hid ((HM.out.keep b3).keep (ext1 (.cells #[.int .i64 (p).k, .slice (p).xo (p).xn (p).xc, .slice (p).po (p).pn (p).pc] 39))); clear b3)
      | (go_at_call 39; refine (CK.out p _ (HT.out.keep (gt BB.out (gt H3.out (ext1 _)))) (HM3.out.of fun b hb => ⟨rfl, hb.2⟩)).mono ?_; rintro x w4 ⟨rfl, b4⟩; have EC : checkN p = 0 := (by rw [chk_eq HM3.out, HCT.out]; exact HC.out); rw [EC]; clear EC; have H4 := hid b4; have X4 := hid (X3.out.keep b4); have c0 := X4.out.cell 0 _ rfl; have c1 := X4.out.cell 1 _ rfl; have c2 := X4.out.cell 2 _ rfl; have f0 := X4.out.fz 0; have f1 := X4.out.fz 1; have f2 := X4.out.fz 2; have XB4 := hid (XB.out.keep b4); obtain ⟨p0, p1, p2⟩ := XB4.out.cells; clear b4))
    have R4 := hid (((R2.out.keep H3.out).al (.cells #[.int .i64 (p).k, .slice (p).xo (p).xn (p).xc, .slice (p).po (p).pn (p).pc] 39)).keep H4.out)
    obtain ⟨o', m', c', h1, h2, -⟩ := R4.out.bx
    have hm' := h2.1
    have q0 := h1.cell 0 (.slice o' m' c') rfl
    have HQ := hid h1
    have HMM := hid (show (m' : Int) = (s1'.xs.length : Int) by rw [hm'])
    have hmn : m' ≤ n := by have := HLN.out; omega
    have hw : IntKind.i64.wrap ((n : Int) - (m' : Int)) = (n : Int) - (m' : Int) := by rw [IntKind.wrap_i64]; omega
    clear h1 h2 hm'
    refine wp_region_K (S := (fun W' : World => (W'.cell? ⟨w3.heap.size, 0, none⟩ = some (.int .i64 p.k) ∧ W'.cell? ⟨w3.heap.size, 1, none⟩ = some (.slice p.xo p.xn p.xc) ∧ W'.cell? ⟨w3.heap.size, 2, none⟩ = some (.slice p.po p.pn p.pc)) ∧ W'.cell? ⟨w.heap.size + 1 + 2, 0, none⟩ = some (.slice o' m' c'))) (fun _ => false) (by kernel_rfl) (by exact ⟨⟨p0, p1, p2⟩, q0⟩) (fun hHeld => ?_)
    refine gkt 0 ?_ (h := by intro W hSw; obtain ⟨⟨r0, r1, r2⟩, r3⟩ := hSw; go_simp; first | done | with_reducible rfl)
    refine gkp 1 ?_
    refine gkp 2 ?_
    refine gkp 3 ?_
    refine gkp 4 ?_
    refine gkp 5 ?_
    refine gkt 6 ?_ (h := by intro W hSw; obtain ⟨⟨r0, r1, r2⟩, r3⟩ := hSw; go_simp; first | done | with_reducible rfl)
    refine gkp 7 ?_
    refine gkp 8 ?_ (v := .int .i64 ((n : Int) - (m' : Int))) (h := by intro W hSw; go_simp)
    refine gk1 9 (fun K hK => ?_)
    go_simp
    have XS := (((X4.out.set 0 (.int .i64 p.k)).set 1 (.slice p.xo p.xn p.xc)).set 2 (.slice p.po p.pn p.pc))
    have z4 := H4.out.size
    simp only [World.size_alloc] at z4
    have zz := R1.out.sz
    have zf := F2.out.size
    have XB5 : Bo w4 w3.heap.size #[.int .i64 p.k, .slice p.xo p.xn p.xc, .slice p.po p.pn p.pc] 39 := XB4.out
    have XQ := ((XB5.other (b' := w.heap.size) (i := 0) (v := .int .i64 p.k) (by omega)).other (b' := w.heap.size) (i := 1) (v := .slice p.xo p.xn p.xc) (by omega)).other (b' := w.heap.size) (i := 2) (v := .slice p.po p.pn p.pc) (by omega)
    have XR := ((HQ.out.other (b' := w.heap.size) (i := 0) (v := .int .i64 p.k) (by omega)).other (b' := w.heap.size) (i := 1) (v := .slice p.xo p.xn p.xc) (by omega)).other (b' := w.heap.size) (i := 2) (v := .slice p.po p.pn p.pc) (by omega)
    have hR : (fun W' : World => (W'.cell? ⟨w3.heap.size, 0, none⟩ = some (.int .i64 p.k) ∧ W'.cell? ⟨w3.heap.size, 1, none⟩ = some (.slice p.xo p.xn p.xc) ∧ W'.cell? ⟨w3.heap.size, 2, none⟩ = some (.slice p.po p.pn p.pc)) ∧ W'.cell? ⟨w.heap.size + 1 + 2, 0, none⟩ = some (.slice o' m' c')) (((w4.setCell ⟨w.heap.size, 0, none⟩ (.int .i64 p.k)).setCell ⟨w.heap.size, 1, none⟩ (.slice p.xo p.xn p.xc)).setCell ⟨w.heap.size, 2, none⟩ (.slice p.po p.pn p.pc)) := ⟨⟨XQ.cell 0 _ rfl, XQ.cell 1 _ rfl, XQ.cell 2 _ rfl⟩, XR.cell 0 _ rfl⟩
    have XS' := hid XS
    have HM4 := hid ((HM3.out.keep H4.out))
    clear XQ XR XS XB5
    refine hK.out _ _ hR (fun hHeld => ?_)
    clear hK K hR
    (try simp only [Act.put, sA, sZ, sS])
    refine gkp 10 ?_
    refine gkp 11 ?_
    refine wpAnyK_done (by kernel_rfl) ?_ _
    go_wp2
    refine bodyPost_ret (ret_sh3 rfl rfl XS'.out) rfl ?_
    have B4 := gt BB.out (gt H3.out (gt (ext1 (.cells #[.int .i64 (p).k, .slice (p).xo (p).xn (p).xc, .slice (p).po (p).pn (p).pc] 39)) H4.out))
    refine ⟨⟨p, ?_, HCT.out, ?_⟩, HC.out, HLN.out, Below.drew (((B4.setCell (Nat.le_refl _) _).setCell (Nat.le_refl _) _).setCell (Nat.le_refl _) _)⟩
    · rw [← HMM.out]; rfl
    · have := R1.out.sz
      have hq : w.heap.size < w1.heap.size := by omega
      exact ((((HM4.out.st hq).st hq).st hq).up (Nat.le_of_lt hq)).keep (Below.refl _ _).drew
  · cases hd

/-- What Read says. -/
def R0 (xs : List Nat) : Re T := (D0 xs).bind fun t s => if s.xs.length = 0 then .ok t s else .bad 9
set_option maxRecDepth 100000 in
set_option maxHeartbeats 4000000 in
theorem read_bad (o : Option Addr) (n c : Nat) (xs : List Nat) (w : World) (hT : Tab w) (h : Rd w o n c xs) (hx : ∀ x ∈ xs, x < 256) (hn : n ≤ 1000000000) (e : Nat) (hd : R0 xs = .bad e) :
    Calls Tryz.prog 28 #[.slice o n c] w fun x w' => x = .returned (.tuple #[.agg #[.int .i64 0, .slice none 0 0, .slice none 0 0], .int .i64 (e : Int)]) ∧ (1 ≤ e ∧ e ≤ 20) ∧ Below w.heap.size w w' := by
  have hb1 : Below w.heap.size w (w.alloc (.cells #[.int .i64 0, .slice none 0 0, .slice none 0 0] 39)) := ext1 _
  have BR := hid (Bo.new w #[.int .i64 0, .slice none 0 0, .slice none 0 0] 39)
  rcases bad_inv hd with hd | ⟨t, s1, hs, hd⟩
  · have DC := hid (decode_bad o n c xs _ (hT.keep hb1) (h.keep hb1) hx hn e hd)
    clear h hx hd hT
    by_cases he : 1 ≤ e ∧ e ≤ 20
    · have he1 : ((e : Int) == 0) = false := by simp; omega
      have he2 : ((e : Int) != 0) = true := by simp; omega
      go_enter Tryz.func28, Tryz.ntmps28
      go_wp2_with (go_at_call 54; refine DC.out.mono ?_; rintro x w1 ⟨rfl, -, b1⟩; have H1 := hid b1; have X1 := hid ((BR.out.keep b1).keep (ext1 (.cells #[.int .i64 0, .slice none 0 0, .slice none 0 0] 39))); have c0 := X1.out.cell 0 _ rfl; have c1 := X1.out.cell 1 _ rfl; have c2 := X1.out.cell 2 _ rfl; have f0 := X1.out.fz 0; have f1 := X1.out.fz 1; have f2 := X1.out.fz 2; clear b1)
      refine bodyPost_ret (ret_sh2 rfl rfl (((X1.out.set 0 _).set 1 _).set 2 _)) rfl ?_
      have B1 := gt hb1 H1.out
      exact ⟨rfl, he, (((B1.alloc B1.size _).setCell (Nat.le_refl _) _).setCell (Nat.le_refl _) _).setCell (Nat.le_refl _) _⟩
    · go_enter Tryz.func28, Tryz.ntmps28
      go_wp2_with (go_at_call 54; refine DC.out.mono ?_; rintro x w1 ⟨rfl, h2, b1⟩; exact absurd h2 he)
  · have hl : s1.xs.length ≠ 0 := by
      intro e0
      rw [if_pos e0] at hd
      cases hd
    rw [if_neg hl] at hd
    injection hd with hd
    subst hd
    have DC := hid (decode_ok o n c xs _ (hT.keep hb1) (h.keep hb1) hx hn t s1 hs)
    have hL : 0 < s1.xs.length := by omega
    generalize s1.xs.length = L at *
    have hlt : (n : Int) - (L : Int) < (n : Int) := by omega
    clear h hx hs hT hl
    go_enter Tryz.func28, Tryz.ntmps28
    go_wp2_with (go_at_call 54; refine DC.out.mono ?_; rintro x w1 ⟨⟨p, rfl, -, -⟩, -, -, b1⟩; have H1 := hid b1; have X1 := hid ((BR.out.keep b1).keep (ext1 (.cells #[.int .i64 (p).k, .slice (p).xo (p).xn (p).xc, .slice (p).po (p).pn (p).pc] 39))); have c0 := X1.out.cell 0 _ rfl; have c1 := X1.out.cell 1 _ rfl; have c2 := X1.out.cell 2 _ rfl; have f0 := X1.out.fz 0; have f1 := X1.out.fz 1; have f2 := X1.out.fz 2; clear b1)
    refine bodyPost_ret (ret_sh2 rfl rfl (((X1.out.set 0 _).set 1 _).set 2 _)) rfl ?_
    have B1 := gt hb1 H1.out
    exact ⟨rfl, by omega, (((B1.alloc B1.size _).setCell (Nat.le_refl _) _).setCell (Nat.le_refl _) _).setCell (Nat.le_refl _) _⟩
set_option maxRecDepth 100000 in
set_option maxHeartbeats 4000000 in
theorem read_ok (o : Option Addr) (n c : Nat) (xs : List Nat) (w : World) (hT : Tab w) (h : Rd w o n c xs) (hx : ∀ x ∈ xs, x < 256) (hn : n ≤ 1000000000) (t : T) (s1 : St) (hd : R0 xs = .ok t s1) :
    Calls Tryz.prog 28 #[.slice o n c] w fun x w' => (∃ p : Sh, x = .returned (.tuple #[.agg #[.int .i64 (p).k, .slice (p).xo (p).xn (p).xc, .slice (p).po (p).pn (p).pc], .int .i64 0]) ∧ p.t = t ∧ Made w.heap.size w' p) ∧ chk t = 0 ∧ Below w.heap.size w w' := by
  have hb1 : Below w.heap.size w (w.alloc (.cells #[.int .i64 0, .slice none 0 0, .slice none 0 0] 39)) := ext1 _
  have BR := hid (Bo.new w #[.int .i64 0, .slice none 0 0, .slice none 0 0] 39)
  obtain ⟨t', s1', hs, hd⟩ := bind_inv hd
  split at hd
  · rename_i hl
    injection hd with hd1 hd2
    subst hd1 hd2
    have DC := hid (decode_ok o n c xs _ (hT.keep hb1) (h.keep hb1) hx hn t' s1' hs)
    rw [hl] at DC
    simp only [Int.ofNat_zero, Int.sub_zero] at DC
    clear h hx hs hT hl
    go_enter Tryz.func28, Tryz.ntmps28
    go_wp2_with (go_at_call 54; refine DC.out.mono ?_; rintro x w1 ⟨⟨p, rfl, hct, hm⟩, hc0, -, b1⟩; have H1 := hid b1; have X1 := hid ((BR.out.keep b1).keep (ext1 (.cells #[.int .i64 (p).k, .slice (p).xo (p).xn (p).xc, .slice (p).po (p).pn (p).pc] 39))); have HM := hid ((hm.keep (ext1 (.cells #[.int .i64 (p).k, .slice (p).xo (p).xn (p).xc, .slice (p).po (p).pn (p).pc] 39)))); have HC := hid hc0; have HCT := hid hct; have XB := hid (Bx.new w1 p); obtain ⟨p0, p1, p2⟩ := XB.out.cells; have c0 := X1.out.cell 0 _ rfl; have c1 := X1.out.cell 1 _ rfl; have c2 := X1.out.cell 2 _ rfl; have f0 := X1.out.fz 0; have f1 := X1.out.fz 1; have f2 := X1.out.fz 2; clear b1 hm hct hc0)
    refine bodyPost_ret (ret_sh2 rfl rfl (((X1.out.set 0 _).set 1 _).set 2 _)) rfl ?_
    have B1 := gt hb1 H1.out
    have hq : w.heap.size < (w.alloc (.cells #[.int .i64 0, .slice none 0 0, .slice none 0 0] 39)).heap.size := by simp
    exact ⟨⟨p, rfl, HCT.out, (((HM.out.st hq).st hq).st hq).up (Nat.le_of_lt hq)⟩, HC.out, (((B1.alloc B1.size _).setCell (Nat.le_refl _) _).setCell (Nat.le_refl _) _).setCell (Nat.le_refl _) _⟩
  · cases hd
end Go.Proofs.YtpmfedimjjifaaaGreatDoor
