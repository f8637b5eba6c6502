/- Lists of records in memory, and what records makes of seeds; no statement of the seat is proved here. -/
import Derived.Test.YtokofpbhbjbnfaaGreatDoorG07
import Derived.Deep.DeepCutAuto
import Derived.Test.YtokofpbhbjbnfaaGreatDoorG04
import Derived.Test.YtokofpbhbjbnfaaGreatDoorG06
namespace Go.Proofs.YtokofpbhbjbnfaaGreatDoor.Jrn
open Go.RowKit

/-- Records that can be read. -/
def Recs (W : World) (ao : Option Addr) (L : Nat) (P : Nat → Int) (D : Nat → List Nat) : Prop :=
  0 < L → ∃ b off, ao = some ⟨b, off, none⟩ ∧ ∀ i, i < L → ∃ a n c, W.cell? ⟨b, off + i * 2, none⟩ = some (.int .i64 (P i)) ∧ W.cell? ⟨b, off + i * 2 + 1, none⟩ = some (.slice a n c) ∧ Rd W a n c (D i)

theorem Recs.keep {W W' : World} {ao : Option Addr} {L : Nat} {P : Nat → Int} {D : Nat → List Nat} (h : Recs W ao L P D) (hb : Below W.heap.size W W') : Recs W' ao L P D := by
  intro hL
  obtain ⟨b, off, e, hc⟩ := h hL
  refine ⟨b, off, e, fun i hi => ?_⟩
  obtain ⟨a, n, c, h0, h1, h2⟩ := hc i hi
  exact ⟨a, n, c, keep_old hb h0, keep_old hb h1, h2.keep hb⟩

/-- The cells of records whose data are blocks of their own. -/
def recCells (P : Nat → Int) (D : Nat → List Nat) : Nat → List Nat → List Value
  | _, [] => []
  | i, g :: gs => .int .i64 (P i) :: .slice (some ⟨g, 0, none⟩) (D i).length (D i).length :: recCells P D (i + 1) gs

theorem recCells_length (P : Nat → Int) (D : Nat → List Nat) (gs : List Nat) : ∀ i, (recCells P D i gs).length = gs.length * 2 := by
  induction gs with
  | nil => intro i; rfl
  | cons g gs ih => intro i; simp [recCells, ih]; omega

theorem recCells_snoc (P : Nat → Int) (D : Nat → List Nat) (g : Nat) (gs : List Nat) : ∀ i, recCells P D i (gs ++ [g]) = recCells P D i gs ++ [.int .i64 (P (i + gs.length)), .slice (some ⟨g, 0, none⟩) (D (i + gs.length)).length (D (i + gs.length)).length] := by
  induction gs with
  | nil => intro i; rfl
  | cons h gs ih =>
    intro i
    simp only [List.cons_append, recCells, ih, List.length_cons]
    rw [show i + 1 + gs.length = i + (gs.length + 1) by omega]

theorem recCells_get (P : Nat → Int) (D : Nat → List Nat) (gs : List Nat) : ∀ i j, j < gs.length → (recCells P D i gs)[j * 2]? = some (.int .i64 (P (i + j))) ∧ (recCells P D i gs)[j * 2 + 1]? = some (.slice (some ⟨gs.getD j 0, 0, none⟩) (D (i + j)).length (D (i + j)).length) := by
  induction gs with
  | nil => intro i j h; simp at h
  | cons g gs ih =>
    intro i j h
    cases j with
    | zero => simp [recCells]
    | succ j =>
      have := ih (i + 1) j (by simpa using h)
      rw [show (j + 1) * 2 = j * 2 + 1 + 1 by omega]
      simp only [recCells, List.getElem?_cons_succ]
      rw [show i + 1 + j = i + (j + 1) by omega] at this
      simpa using this

/-- Each of these blocks holds its record's data. -/
def DataAt (W : World) (D : Nat → List Nat) : Nat → List Nat → Prop
  | _, [] => True
  | i, g :: gs => W.heap[g]? = some (.cells (bs (D i)).toArray 5 (0, 0)) ∧ DataAt W D (i + 1) gs

theorem DataAt.snoc {W : World} {D : Nat → List Nat} {g : Nat} {gs : List Nat} : ∀ {i}, DataAt W D i gs → W.heap[g]? = some (.cells (bs (D (i + gs.length))).toArray 5 (0, 0)) → DataAt W D i (gs ++ [g]) := by
  induction gs with
  | nil => intro i _ h; exact ⟨h, trivial⟩
  | cons a gs ih =>
    intro i h hg
    refine ⟨h.1, ih h.2 ?_⟩
    rw [show i + 1 + gs.length = i + (a :: gs).length by simp; omega]
    exact hg

theorem DataAt.move {W W' : World} {D : Nat → List Nat} {gs : List Nat} (hm : ∀ (g : Nat) (C : Array Value), W.heap[g]? = some (Obj.cells C 5 (0, 0)) → W'.heap[g]? = some (Obj.cells C 5 (0, 0))) : ∀ {i}, DataAt W D i gs → DataAt W' D i gs := by
  induction gs with
  | nil => intro i _; trivial
  | cons a gs ih =>
    intro i h
    exact ⟨hm _ _ h.1, ih h.2⟩

theorem DataAt.get {W : World} {D : Nat → List Nat} {gs : List Nat} : ∀ {i}, DataAt W D i gs → ∀ j, j < gs.length → W.heap[gs.getD j 0]? = some (.cells (bs (D (i + j))).toArray 5 (0, 0)) := by
  induction gs with
  | nil => intro i _ j h; simp at h
  | cons a gs ih =>
    intro i h j hj
    cases j with
    | zero => simpa using h.1
    | succ j =>
      have := ih h.2 j (by simpa using hj)
      rw [show i + 1 + j = i + (j + 1) by omega] at this
      simpa using this

theorem rd_block {W : World} {g n : Nat} {xs : List Nat} (h : W.heap[g]? = some (.cells (bs xs).toArray 5 (0, 0))) (hn : xs.length = n) : Rd W (some ⟨g, 0, none⟩) n n xs := by
  refine ⟨hn, Nat.le_refl _, fun h => (by cases h), fun _ => ⟨g, 0, rfl, fun t ht => ?_⟩⟩
  rw [Nat.zero_add]
  have := bs_get xs t (by omega)
  simpa [World.cell?, h] using this

theorem recs_own {W : World} {B : Nat} {ao : Option Addr} {cap L : Nat} {P : Nat → Int} {D : Nat → List Nat} {t : TypeId} {gs : List Nat} (hl : gs.length = L) (h : W.ownsRow B t 2 (.slice ao L cap) L (recCells P D 0 gs)) (hd : DataAt W D 0 gs) : Recs W ao L P D := by
  intro hL
  rcases h.2 with ⟨h', h0⟩ | ⟨g, cap', cur, h', hb, hg, hnc, hm, hs, ht⟩
  · omega
  · simp only [Value.slice.injEq, true_and] at h'
    obtain ⟨rfl, rfl⟩ := h'
    refine ⟨g, 0, rfl, fun i hi => ⟨some ⟨gs.getD i 0, 0, none⟩, (D i).length, (D i).length, ?_, ?_, ?_⟩⟩
    · have := (recCells_get P D gs 0 i (by omega)).1
      rw [Nat.zero_add, h.cellAt (i * 2) (by omega), this, Nat.zero_add]
    · have := (recCells_get P D gs 0 i (by omega)).2
      rw [Nat.zero_add, h.cellAt (i * 2 + 1) (by omega), this, Nat.zero_add]
    · have := hd.get i (by omega)
      rw [Nat.zero_add] at this
      exact rd_block this rfl

theorem Tryz.info153 : (Tryz.prog.info? 153).map (fun i => (i.zero, i.size, i.bytes)) = some (some (.agg #[.int .i64 0, .slice none 0 0]), 2, 32) := by kernel_rfl
/-- A box with a seed in it. -/
def SB (W : World) (q : Nat) (p : Int) (s : Nat) (l : Bool) : Prop := W.heap[q]? = some (.cells #[.int .i64 p, .int .u8 (s : Int), .bool l] 66 (0, 0))
theorem SB.cells {W : World} {q : Nat} {p : Int} {s : Nat} {l : Bool} (h : SB W q p s l) : W.cell? ⟨q, 0, none⟩ = some (.int .i64 p) ∧ W.cell? ⟨q, 1, none⟩ = some (.int .u8 (s : Int)) ∧ W.cell? ⟨q, 2, none⟩ = some (.bool l) := by
  unfold SB at h
  simp [World.cell?, h]
theorem SB.lt {W : World} {q : Nat} {p : Int} {s : Nat} {l : Bool} (h : SB W q p s l) : q < W.heap.size := lt_of_block h

/-- A seed's data. -/
def seedN (x : Int × Nat × Bool) : Nat := if x.2.2 then 3 else 512
def seedD (x : Int × Nat × Bool) : List Nat := List.replicate (seedN x) x.2.1
theorem seedD_length (x : Int × Nat × Bool) : (seedD x).length = seedN x := by simp [seedD]

theorem fill_step (i n s : Nat) (hi : i < n) : (List.replicate i s ++ List.replicate (n - i) 0).set i s = List.replicate (i + 1) s ++ List.replicate (n - (i + 1)) 0 := by
  rw [List.set_append_right _ _ (by simp)]
  simp only [List.length_replicate, Nat.sub_self]
  rw [show n - i = (n - (i + 1)) + 1 by omega, List.replicate_succ, List.set_cons_zero, List.replicate_succ', List.append_assoc]
  rfl

theorem row_later {w w' : World} {base : Nat} {e : TypeId} {size : Nat} {v : Value} {n : Nat} {xs : List Value} (h : w.ownsRow base e size v n xs) (hb : Below w.heap.size w w') : w'.ownsRow base e size v n xs := by
  obtain ⟨hl, h | ⟨g, cap, cur, rfl, hb', hg, rest⟩⟩ := h
  · exact ⟨hl, .inl h⟩
  · exact ⟨hl, .inr ⟨g, cap, cur, rfl, hb', by rw [hb.block g (lt_of_block hg)]; exact hg, rest⟩⟩

theorem row_form {w : World} {base : Nat} {e : TypeId} {size : Nat} {v : Value} {n : Nat} {xs : List Value} (h : w.ownsRow base e size v n xs) : ∃ ao cap, v = .slice ao n cap := by
  obtain ⟨hl, ⟨rfl, rfl⟩ | ⟨g, cap, cur, rfl, _⟩⟩ := h
  · exact ⟨_, _, rfl⟩
  · exact ⟨_, _, rfl⟩

theorem own_block {w : World} {B g n : Nat} {xs : List Nat} (h : w.ownsRow B 5 1 (.slice (some ⟨g, 0, none⟩) n n) n (bs xs)) : w.heap[g]? = some (.cells (bs xs).toArray 5 (0, 0)) := by
  obtain ⟨hl, ⟨h', _⟩ | ⟨g', cap, cur, h', hb', hg, hnc, hm, hs, ht⟩⟩ := h
  · cases h'
  · simp only [Value.slice.injEq, Option.some.injEq, Addr.mk.injEq, and_true, true_and] at h'
    obtain ⟨rfl, rfl⟩ := h'
    have : cur.toList = bs xs := by
      rw [← ht]
      exact (List.take_of_length_le (by simp [hs])).symm
    rw [hg, ← this]

/-- Where a row of records grows, blocks of bytes stay. -/
theorem data_grown {w w' : World} {base : Nat} {e : TypeId} (he : e ≠ 5) {size : Nat} {v : Value} {n : Nat} {xs : List Value} (h : w.ownsRow base e size v n xs) (hg : w.grownBy w' v.ownBlock) : ∀ (g : Nat) (C : Array Value), w.heap[g]? = some (Obj.cells C 5 (0, 0)) → w'.heap[g]? = some (Obj.cells C 5 (0, 0)) := by
  intro g C hc
  rw [hg.block g (lt_of_block hc) ?_]
  · exact hc
  · intro hv
    obtain ⟨hl, ⟨rfl, rfl⟩ | ⟨g', cap, cur, rfl, hb', hg', rest⟩⟩ := h
    · cases hv
    · simp only [Value.ownBlock, Option.some.injEq] at hv
      subst hv
      rw [hc] at hg'
      simp only [Option.some.injEq, Obj.cells.injEq] at hg'
      exact he hg'.2.1.symm

theorem below_grown {w w' : World} {B base : Nat} {e : TypeId} {size : Nat} {v : Value} {n : Nat} {xs : List Value} (h : w.ownsRow base e size v n xs) (hg : w.grownBy w' v.ownBlock) (hB : B ≤ base) (hB2 : B ≤ w.heap.size) : Below B w w' :=
  (Below.refl B w).grown hg hB2 fun k hk => Nat.le_trans hB (h.lt k hk).1

theorem two_cells (w : World) (a b : Value) (t : TypeId) : ∀ j u, [a, b][j]? = some u → (w.alloc (.cells #[a, b] t)).cell? ((⟨w.heap.size, 0, none⟩ : Addr).add j) = some u := by
  intro j u hu
  rw [Addr.add_lit]
  match j, hu with
  | 0, hu => simp at hu; subst hu; simp
  | 1, hu => simp at hu; subst hu; simp
  | j + 2, hu => simp at hu

end Go.Proofs.YtokofpbhbjbnfaaGreatDoor.Jrn

/- What Good returns; no statement of the seat is proved here. -/
namespace Go.Proofs.YtokofpbhbjbnfaaGreatDoor.Jrn
open Go.RowKit

/-- Do the records from i on, L in all, stand in order behind the page last? -/
def goodFrom (P : Nat → Int) (D : Nat → List Nat) (pg : Int) (last : Int) : Nat → Nat → Bool
  | _, 0 => true
  | i, k + 1 => rgood (P i) (D i).length && decide (last < P i) && decide (P i ≤ pg) && goodFrom P D pg (P i) (i + 1) k

def goodL (c pg : Int) (L : Nat) (P : Nat → Int) (D : Nat → List Nat) : Bool := hgood c pg && decide ((L : Int) = c) && goodFrom P D pg 0 0 L

theorem RB.keep2 {t : TypeId} {W W' : World} {q : Nat} {p : Int} {ao : Option Addr} {n cap : Nat} {o : Obj} (h : RB t W q p ao n cap) (hb : Below (W.alloc o).heap.size (W.alloc o) W') : RB t W' q p ao n cap := (h.keep (Below.alloc (Below.refl _ _) (Nat.le_refl _) o)).keep hb

set_option maxHeartbeats 4000000 in
theorem good_any (c pg : Int) (m : Nat) (ao : Option Addr) (L cap : Nat) (P : Nat → Int) (D : Nat → List Nat) (w : World) (h : Recs w ao L P D) (hL : L ≤ 100000) :
    Calls Tryz.prog 108 #[.agg #[.int .i64 c, .int .i64 pg, .int .u64 (m : Int)], .slice ao L cap] w fun e w' => e = .returned (.bool (goodL c pg L P D)) ∧ Below w.heap.size w w' := by
  have h' := hid h
  have cg := hid (hgood_any c pg m)
  have q0 := hid (HB.new 122 w c pg m)
  have cr := hid fun p ao n cap W => rgood_any p ao n cap W
  obtain ⟨b, hb⟩ : ∃ b, b = goodL c pg L P D := ⟨_, rfl⟩
  have hb' := hid hb
  rw [← hb]
  clear h hb
  cases hg : hgood c pg with
  | false =>
    rw [hg] at cg
    obtain rfl : b = false := by rw [hb'.out]; unfold goodL; rw [hg]; rfl
    clear hg
    go_enter Tryz.func108, Tryz.ntmps108
    go_wp2_with (go_at_call 137; refine (cg.out _).mono ?_; rintro e w1 ⟨rfl, hb1⟩)
    go_ret
    exact ⟨rfl, gt (Below.alloc (Below.refl _ _) (Nat.le_refl _) _) hb1⟩
  | true =>
    rw [hg] at cg
    by_cases hLc : (L : Int) = c
    · have e1 : b = goodFrom P D pg 0 0 L := by rw [hb'.out]; unfold goodL; rw [hg]; simp [hLc]
      have e1' := hid e1
      have hne : ((L : Int) != c) = false := by simp [hLc]
      clear hg e1 hb'
      subst hLc
      go_enter Tryz.func108, Tryz.ntmps108
      go_wp2_with (go_at_call 137; refine (cg.out _).mono ?_; rintro e w1 ⟨rfl, hb1⟩; have Q1 := hid (q0.out.keep hb1); have B1 := hid (gt (Below.alloc (Below.refl _ _) (Nat.le_refl _) _) hb1); clear hb1; obtain ⟨a0, a1, a2, _, _, _⟩ := Q1.out.cells)
      clear a0 a1 a2
      go_loopw [5, 20] (fun s5 cc W => ∃ (i : Nat) (last : Int), i ≤ L ∧ cc = .int .i64 (i : Int) ∧ s5 = .int .i64 last ∧ Hid (goodFrom P D pg last i (L - i) = b) ∧ Hid (HB 122 W w.heap.size (L : Int) pg m) ∧ Hid (Below w.heap.size w W)) (fun _ cc _ => L - (intOf cc).toNat)
      case atStart => exact ⟨0, 0, by omega, rfl, rfl, hid e1'.out.symm, Q1, B1⟩
      case round =>
        obtain ⟨i, last, hi, rfl, rfl, G, Q, B⟩ := hrel
        clear Q1 B1
        by_cases hiL : i < L
        · obtain ⟨b0, off, rfl, hc⟩ := h'.out (by omega)
          obtain ⟨a, n, c1, k0, k1, rd⟩ := hc i hiL
          have k0' := keep_old B.out k0
          have k1' := keep_old B.out k1
          have hn : (D i).length = n := rd.1
          obtain ⟨p, hp⟩ : ∃ p, p = P i := ⟨_, rfl⟩
          rw [← hp] at k0'
          have hG := G.out
          rw [show L - i = (L - (i + 1)) + 1 by omega] at hG
          simp only [goodFrom] at hG
          rw [← hp, hn] at hG
          have G' := hid hG
          have hBs := B.out.size
          clear hG G k0 k1 rd hc hn hp e1'
          cases hg1 : rgood p n with
          | false =>
            have hbf : b = false := by rw [← G'.out, hg1]; simp only [Bool.false_and]
            clear G'
            subst hbf
            go_wp2_with (go_at_call 138; refine (cr.out p a n c1 _).mono ?_; rw [hg1]; rintro e w2 ⟨rfl, hb2⟩; have Q2 := hid (Q.out.keep2 hb2); have B2 := hid (gt2 B.out hb2); have Y2 := hid ((RB.new 153 wr p a n c1).keep hb2); obtain ⟨y0, y1, _, _⟩ := Y2.out.cells; obtain ⟨q0, q1, q2, _, _, _⟩ := Q2.out.cells; clear hb2)
            go_ret
            exact ⟨rfl, B2.out⟩
          | true =>
            by_cases hl1 : last < p
            · by_cases hl2 : p ≤ pg
              · have G2 : Hid (goodFrom P D pg p (i + 1) (L - (i + 1)) = b) := hid (by rw [← G'.out, hg1, decide_eq_true hl1, decide_eq_true hl2]; simp only [Bool.true_and])
                clear G'
                go_wp2_with (go_at_call 138; refine (cr.out p a n c1 _).mono ?_; rw [hg1]; rintro e w2 ⟨rfl, hb2⟩; have Q2 := hid (Q.out.keep2 hb2); have B2 := hid (gt2 B.out hb2); have Y2 := hid ((RB.new 153 wr p a n c1).keep hb2); obtain ⟨y0, y1, _, _⟩ := Y2.out.cells; obtain ⟨q0, q1, q2, _, _, _⟩ := Q2.out.cells; clear hb2)
                exact ⟨⟨i + 1, p, by omega, by go_num, rfl, G2, Q2, B2⟩, by simp [intOf]; omega⟩
              · have hbf : b = false := by rw [← G'.out, hg1, decide_eq_false hl2]; simp only [Bool.false_and, Bool.and_false]
                clear G'
                subst hbf
                go_wp2_with (go_at_call 138; refine (cr.out p a n c1 _).mono ?_; rw [hg1]; rintro e w2 ⟨rfl, hb2⟩; have Q2 := hid (Q.out.keep2 hb2); have B2 := hid (gt2 B.out hb2); have Y2 := hid ((RB.new 153 wr p a n c1).keep hb2); obtain ⟨y0, y1, _, _⟩ := Y2.out.cells; obtain ⟨q0, q1, q2, _, _, _⟩ := Q2.out.cells; clear hb2)
                go_ret
                exact ⟨rfl, B2.out⟩
            · have hbf : b = false := by rw [← G'.out, hg1, decide_eq_false hl1]; simp only [Bool.false_and, Bool.and_false]
              clear G'
              subst hbf
              go_wp2_with (go_at_call 138; refine (cr.out p a n c1 _).mono ?_; rw [hg1]; rintro e w2 ⟨rfl, hb2⟩; have Q2 := hid (Q.out.keep2 hb2); have B2 := hid (gt2 B.out hb2); have Y2 := hid ((RB.new 153 wr p a n c1).keep hb2); obtain ⟨y0, y1, _, _⟩ := Y2.out.cells; obtain ⟨q0, q1, q2, _, _, _⟩ := Q2.out.cells; clear hb2)
              go_ret
              exact ⟨rfl, B2.out⟩
        · obtain rfl : i = L := by omega
          have : b = true := by rw [← G.out, Nat.sub_self]; rfl
          subst this
          go_wp2
          go_ret
          exact ⟨rfl, B.out⟩
    · obtain rfl : b = false := by rw [hb'.out]; unfold goodL; rw [hg]; simp [hLc]
      have hne : ((L : Int) != c) = true := by simp [hLc]
      have hne2 : ((L : Int) == c) = false := by simp [hLc]
      clear hg
      go_enter Tryz.func108, Tryz.ntmps108
      go_wp2_with (go_at_call 137; refine (cg.out _).mono ?_; rintro e w1 ⟨rfl, hb1⟩; have Q1 := hid (q0.out.keep hb1); have B1 := hid (gt (Below.alloc (Below.refl _ _) (Nat.le_refl _) _) hb1); clear hb1; obtain ⟨a0, a1, a2, _, _, _⟩ := Q1.out.cells)
      go_ret
      exact ⟨rfl, B1.out⟩

end Go.Proofs.YtokofpbhbjbnfaaGreatDoor.Jrn

/- What Bytes returns; no statement of the seat is proved here. -/
namespace Go.Proofs.YtokofpbhbjbnfaaGreatDoor.Jrn
open Go.RowKit

/-- The bytes of the records from i on, k of them. -/
def recsN (P : Nat → Int) (D : Nat → List Nat) (n : Nat) : Nat → Nat → List Nat
  | _, 0 => []
  | i, k + 1 => recN (P i).toNat n (D i) ++ recsN P D n (i + 1) k

def bytesN (c pg : Int) (n : Nat) (wh : Bool) (L : Nat) (P : Nat → Int) (D : Nat → List Nat) : List Nat := headN c.toNat pg.toNat n wh ++ recsN P D n 0 L

theorem recsN_bytes (P : Nat → Int) (D : Nat → List Nat) (n : Nat) (k : Nat) : ∀ i, (∀ j, j < i + k → ∀ x ∈ D j, x < 256) → ∀ x ∈ recsN P D n i k, x < 256 := by
  induction k with
  | zero => intro i _ x h; cases h
  | succ k ih =>
    intro i hd
    exact app_bytes (recN_bytes _ _ (hd i (by omega))) (ih (i + 1) (fun j hj => hd j (by omega)))

theorem bytesN_bytes (c pg : Int) (n : Nat) (wh : Bool) (L : Nat) (P : Nat → Int) (D : Nat → List Nat) (hd : ∀ j, j < L → ∀ x ∈ D j, x < 256) : ∀ x ∈ bytesN c pg n wh L P D, x < 256 :=
  app_bytes (headN_bytes _ _ _ _) (recsN_bytes P D n L 0 (by simpa using hd))

theorem goodFrom_all {P : Nat → Int} {D : Nat → List Nat} {pg : Int} (k : Nat) : ∀ {last i}, goodFrom P D pg last i k = true → ∀ j, i ≤ j → j < i + k → (1 ≤ P j ∧ P j ≤ 4000) ∧ (D j).length = 512 := by
  induction k with
  | zero => intro last i _ j h1 h2; omega
  | succ k ih =>
    intro last i h j h1 h2
    simp only [goodFrom, Bool.and_eq_true] at h
    rcases Nat.eq_or_lt_of_le h1 with rfl | h3
    · exact (rgood_iff _ _).1 h.1.1.1
    · exact ih h.2 j (by omega) (by omega)

theorem goodL_all {c pg : Int} {L : Nat} {P : Nat → Int} {D : Nat → List Nat} (h : goodL c pg L P D = true) : ((0 ≤ c ∧ c ≤ 4000) ∧ 0 ≤ pg ∧ pg ≤ 4000) ∧ (L : Int) = c ∧ ∀ j, j < L → (1 ≤ P j ∧ P j ≤ 4000) ∧ (D j).length = 512 := by
  simp only [goodL, Bool.and_eq_true, decide_eq_true_eq] at h
  exact ⟨(hgood_iff _ _).1 h.1.1, h.1.2, fun j hj => goodFrom_all L h.2 j (by omega) (by omega)⟩

theorem recsN_length {P : Nat → Int} {D : Nat → List Nat} {n : Nat} (k : Nat) : ∀ i, (∀ j, i ≤ j → j < i + k → (D j).length = 512) → (recsN P D n i k).length = k * 640 := by
  induction k with
  | zero => intro i _; rfl
  | succ k ih =>
    intro i h
    simp only [recsN, List.length_append, recN_length, h i (by omega) (by omega)]
    rw [ih (i + 1) (fun j h1 h2 => h j (by omega) (by omega))]
    omega

theorem recsN_step {P : Nat → Int} {D : Nat → List Nat} {n i L : Nat} (hi : i < L) {ys T : List Nat} (e : ys ++ recsN P D n i (L - i) = T) : (ys ++ recN (P i).toNat n (D i)) ++ recsN P D n (i + 1) (L - (i + 1)) = T := by
  rw [← e, show L - i = (L - (i + 1)) + 1 by omega]
  simp [recsN]

set_option maxHeartbeats 1000000 in
theorem bytes_no (c pg : Int) (m : Nat) (ao : Option Addr) (L cap : Nat) (P : Nat → Int) (D : Nat → List Nat) (wh : Bool) (w : World) (h : Recs w ao L P D) (hL : L ≤ 100000) (hg : goodL c pg L P D = false) :
    Calls Tryz.prog 118 #[.agg #[.int .i64 c, .int .i64 pg, .int .u64 (m : Int)], .slice ao L cap, .bool wh] w fun e w' => e = .returned (.slice none 0 0) ∧ Below w.heap.size w w' := by
  have cg := hid (good_any c pg m ao L cap P D _ (h.keep (Below.alloc (Below.refl _ _) (Nat.le_refl _) (.cells #[.int .i64 c, .int .i64 pg, .int .u64 (m : Int)] 122))) hL)
  rw [hg] at cg
  clear h hg
  go_enter Tryz.func118, Tryz.ntmps118
  go_wp2_with (go_at_call 108; refine cg.out.mono ?_; rintro e w1 ⟨rfl, hb1⟩)
  go_ret
  exact ⟨rfl, gt (Below.alloc (Below.refl _ _) (Nat.le_refl _) _) hb1⟩

set_option maxHeartbeats 4000000 in
theorem bytes_yes (c pg : Int) (m : Nat) (ao : Option Addr) (L cap : Nat) (P : Nat → Int) (D : Nat → List Nat) (wh : Bool) (w : World) (h : Recs w ao L P D) (hd : ∀ j, j < L → ∀ x ∈ D j, x < 256) (hg : goodL c pg L P D = true) (hT : Tab w) :
    Calls Tryz.prog 118 #[.agg #[.int .i64 c, .int .i64 pg, .int .u64 (m : Int)], .slice ao L cap, .bool wh] w fun e w' => ∃ v, e = .returned v ∧ w'.ownsRow w.heap.size 5 1 v (128 + L * 640) (bs (bytesN c pg m wh L P D)) ∧ Below w.heap.size w w' := by
  obtain ⟨hcp, hLc, hall⟩ := goodL_all hg
  have hL : L ≤ 4000 := by omega
  have A0 : Below w.heap.size w (w.alloc (.cells #[.int .i64 c, .int .i64 pg, .int .u64 (m : Int)] 122)) := Below.alloc (Below.refl _ _) (Nat.le_refl _) _
  have cg := hid (good_any c pg m ao L cap P D _ (h.keep A0) (by omega))
  rw [hg] at cg
  have q0 := hid (HB.new 122 w c pg m)
  obtain ⟨c', rfl⟩ : ∃ k : Nat, c = (k : Int) := ⟨c.toNat, by omega⟩
  obtain ⟨p', rfl⟩ : ∃ k : Nat, pg = (k : Int) := ⟨pg.toNat, by omega⟩
  obtain ⟨T, hTv⟩ : ∃ T, T = bytesN c' p' m wh L P D := ⟨_, rfl⟩
  have hT0 : Hid (headN c' p' m wh ++ recsN P D m 0 L = T) := hid (by rw [hTv]; rfl)
  rw [← hTv]
  have hc4 : c' ≤ 4000 := by omega
  have hp4 : p' ≤ 4000 := by omega
  have hall' := hid hall
  have h' := hid h
  have hd' := hid hd
  have hT' := hid hT
  have hA0 := hid A0
  obtain ⟨K, hw640, hK⟩ : ∃ K : Nat, (L : Int) * 640 = (K : Int) ∧ K = L * 640 := ⟨L * 640, by omega, rfl⟩
  have hK' := hid hK
  have hKb : K ≤ 2560000 := by omega
  clear hK
  clear h hd hT hall hTv A0 hg hcp hLc
  obtain ⟨B, hB⟩ : ∃ B, B = w.heap.size + 1 := ⟨_, rfl⟩
  have hB' := hid hB
  clear hB
  go_enter Tryz.func118, Tryz.ntmps118
  go_wp2_with (first
    | (go_at_call 108; refine cg.out.mono ?_; rintro e w1 ⟨rfl, hb1⟩; have Q1 := hid (q0.out.keep hb1); have B1 := hid (gt hA0.out hb1); clear hb1; obtain ⟨a0, a1, a2, _, _, _⟩ := Q1.out.cells)
    | (go_at_call 119; refine (head_yes c' p' m wh _ hc4 hp4 (hT'.out.keep B1.out)).mono ?_; rintro e w2 ⟨g2, rfl, ho2, hb2⟩; have hBs : B ≤ w1.heap.size := (by have := Q1.out.lt; have := hB'.out; omega); have hBs2 : B ≤ w2.heap.size := Nat.le_trans hBs hb2.size; have Q2 := hid (Q1.out.keep hb2); have B2 := hid (gt B1.out hb2); have O2 := hid (own_base ho2 hBs); clear hb2 ho2 a0 a1 a2)
    | (go_at_call 148; refine (grow_any B g2 128 K _ _ O2.out (by omega) hBs2).mono ?_; rintro e w3 ⟨v3, rfl, ho3, hb3⟩; have Q3 := hid (Q2.out.under hb3 (by have := hB'.out; omega)); have B3 := hid (B2.out.trans (hb3.mono (by have := hB'.out; omega))); have O3 := hid ho3; have hBs3 : B ≤ w3.heap.size := Nat.le_trans hBs2 hb3.size; clear hb3 ho3))
  go_loopw [7, 23] (fun o cc W => ∃ (i : Nat) (ys : List Nat), i ≤ L ∧ cc = .int .i64 (i : Int) ∧ Hid (ys ++ recsN P D m i (L - i) = T) ∧ Hid (W.ownsRow B 5 1 o (128 + i * 640) (bs ys)) ∧ Hid (HB 122 W w.heap.size c' p' m) ∧ Hid (Below w.heap.size w W)) (fun _ cc _ => L - (intOf cc).toNat)
  case atStart => exact ⟨0, _, by omega, rfl, hT0, O3, Q3, B3⟩
  case round =>
    obtain ⟨i, ys, hi, rfl, E, O, Q, BW⟩ := hrel
    clear Q1 Q2 Q3 O2 O3 B1 B2 B3
    by_cases hiL : i < L
    · obtain ⟨b0, off, rfl, hc⟩ := h'.out (by omega)
      obtain ⟨a, n, c1, k0, k1, rd⟩ := hc i hiL
      obtain ⟨hp, hdl⟩ := hall'.out i hiL
      obtain ⟨p, hpv⟩ : ∃ p : Nat, P i = (p : Int) := ⟨(P i).toNat, by omega⟩
      have hn : n = 512 := by rw [← rd.1]; exact hdl
      subst hn
      have k0' := keep_old BW.out k0
      have k1' := keep_old BW.out k1
      rw [hpv] at k0' hp
      have rd' := hid (rd.keep BW.out)
      have hp1 : 1 ≤ p := by omega
      have hp2 : p ≤ 4000 := by omega
      have E2 := hid (recsN_step hiL E.out)
      have hpv' := hid hpv
      obtain ⟨a0, a1, a2, _, _, _⟩ := Q.out.cells
      have hlt := Q.out.lt
      have hne : ¬ w.heap.size = wr.heap.size := by omega
      have hBr : B ≤ wr.heap.size := by have := hB'.out; omega
      have hBr2 : w.heap.size ≤ B := by have := hB'.out; omega
      clear k0 k1 rd hc hpv hp hdl E
      go_wp2_with (first
        | (go_at_call 149; refine (rec_yes p m a c1 _ _ (hT'.out.keep (Below.alloc BW.out BW.out.size _)) (rd'.out.keep (Below.alloc (Below.refl _ _) (Nat.le_refl _) _)) (hd'.out i hiL) hp1 hp2).mono ?_; rintro e w5 ⟨g5, rfl, ho5, hb5⟩; have Q5 := hid (Q.out.keep2 hb5); have B5 := hid (gt2 BW.out hb5); have R5 := hid (rd_own ho5); have O5 := hid (row_later (O.out.alloc _) hb5); have hBr5 : B ≤ w5.heap.size := (by have := hb5.size; simp at this; omega); clear hb5 ho5 a0 a1 a2)
        | ((with_reducible refine here_op 32 ?_); refine wpList_append_rd rfl (.tmp 27) (.tmp 31) rfl B _ (128 + i * 640) ys rfl O5.out (some ⟨g5, 0, none⟩) 640 640 _ rfl R5.out (by omega) hBr5 ?_; intro v6 w6 ho6 hb6; have Q6 := hid (Q5.out.under hb6 (by have := hB'.out; omega)); have B6 := hid (B5.out.trans (hb6.mono hBr2)); have O6 := hid ho6; clear ho6 hb6))
      refine ⟨⟨i + 1, ys ++ recN p m (D i), by omega, by go_num, hid ?_, hid ?_, Q6, B6⟩, by simp [intOf]; omega⟩
      · have := E2.out
        rw [hpv'.out, Int.toNat_natCast] at this
        exact this
      · rw [show 128 + (i + 1) * 640 = 128 + i * 640 + 640 by omega]
        exact O6.out
    · obtain rfl : i = L := by omega
      have hy : ys = T := by rw [← E.out, Nat.sub_self]; simp [recsN]
      subst hy
      go_wp2
      go_ret
      exact ⟨_, rfl, own_base O.out (by have := hB'.out; omega), BW.out⟩

end Go.Proofs.YtokofpbhbjbnfaaGreatDoor.Jrn

/- What plain and Same return; no statement of the seat is proved here. -/
namespace Go.Proofs.YtokofpbhbjbnfaaGreatDoor.Jrn
open Go.RowKit

/-- Records' cells. -/
def rv : List (Int × Option Addr × Nat × Nat) → List Value
  | [] => []
  | r :: l => .int .i64 r.1 :: .slice r.2.1 r.2.2.1 r.2.2.2 :: rv l

theorem rv_length (l : List (Int × Option Addr × Nat × Nat)) : (rv l).length = l.length * 2 := by
  induction l with
  | nil => rfl
  | cons r l ih => simp [rv, ih]; omega

theorem rv_append (l m : List (Int × Option Addr × Nat × Nat)) : rv (l ++ m) = rv l ++ rv m := by
  induction l with
  | nil => rfl
  | cons r l ih => simp [rv, ih]

/-- These cells are those of the records from i on. -/
def Dat (W : World) (P : Nat → Int) (D : Nat → List Nat) : Nat → List (Int × Option Addr × Nat × Nat) → Prop
  | _, [] => True
  | i, r :: l => (r.1 = P i ∧ Rd W r.2.1 r.2.2.1 r.2.2.2 (D i)) ∧ Dat W P D (i + 1) l

theorem Dat.keep {W W' : World} {P : Nat → Int} {D : Nat → List Nat} {l : List (Int × Option Addr × Nat × Nat)} (hb : Below W.heap.size W W') : ∀ {i}, Dat W P D i l → Dat W' P D i l := by
  induction l with
  | nil => intro i _; trivial
  | cons r l ih =>
    intro i h
    exact ⟨⟨h.1.1, h.1.2.keep hb⟩, ih h.2⟩

theorem Dat.snoc {W : World} {P : Nat → Int} {D : Nat → List Nat} {l : List (Int × Option Addr × Nat × Nat)} {r : Int × Option Addr × Nat × Nat} : ∀ {i}, Dat W P D i l → (r.1 = P (i + l.length) ∧ Rd W r.2.1 r.2.2.1 r.2.2.2 (D (i + l.length))) → Dat W P D i (l ++ [r]) := by
  induction l with
  | nil => intro i _ h; exact ⟨h, trivial⟩
  | cons a l ih =>
    intro i h hr
    refine ⟨h.1, ih h.2 ?_⟩
    rw [show i + 1 + l.length = i + (a :: l).length by simp; omega]
    exact hr

theorem Dat.get {W : World} {P : Nat → Int} {D : Nat → List Nat} {l : List (Int × Option Addr × Nat × Nat)} : ∀ {i}, Dat W P D i l → ∀ j, j < l.length → ∃ a n c, (rv l)[j * 2]? = some (.int .i64 (P (i + j))) ∧ (rv l)[j * 2 + 1]? = some (.slice a n c) ∧ Rd W a n c (D (i + j)) := by
  induction l with
  | nil => intro i _ j h; simp at h
  | cons a l ih =>
    intro i h j hj
    cases j with
    | zero => exact ⟨_, _, _, by simp [rv, h.1.1], by simp [rv], h.1.2⟩
    | succ j =>
      obtain ⟨b, n, c, h1, h2, h3⟩ := ih h.2 j (by simpa using hj)
      rw [show i + 1 + j = i + (j + 1) by omega] at h1 h3
      refine ⟨b, n, c, ?_, ?_, h3⟩
      · rw [show (j + 1) * 2 = j * 2 + 1 + 1 by omega]; simpa [rv] using h1
      · rw [show (j + 1) * 2 + 1 = j * 2 + 1 + 1 + 1 by omega]; simpa [rv] using h2

theorem recs_rv {W : World} {B : Nat} {ao : Option Addr} {cap L : Nat} {P : Nat → Int} {D : Nat → List Nat} {t : TypeId} {l : List (Int × Option Addr × Nat × Nat)} (hl : l.length = L) (h : W.ownsRow B t 2 (.slice ao L cap) L (rv l)) (hd : Dat W P D 0 l) : Recs W ao L P D := by
  intro hL
  rcases h.2 with ⟨h', h0⟩ | ⟨g, cap', cur, h', hb, hg, hnc, hm, hs, ht⟩
  · omega
  · simp only [Value.slice.injEq, true_and] at h'
    obtain ⟨rfl, rfl⟩ := h'
    refine ⟨g, 0, rfl, fun i hi => ?_⟩
    obtain ⟨a, n, c, h1, h2, h3⟩ := hd.get i (by omega)
    rw [Nat.zero_add] at h1 h3
    refine ⟨a, n, c, ?_, ?_, h3⟩
    · rw [Nat.zero_add, h.cellAt (i * 2) (by omega), h1]
    · rw [Nat.zero_add, h.cellAt (i * 2 + 1) (by omega), h2]

theorem two_cells2 (w : World) (o : Obj) (a b : Value) (t : TypeId) : ∀ j u, [a, b][j]? = some u → ((w.alloc o).alloc (.cells #[a, b] t)).cell? ((⟨w.heap.size + 1, 0, none⟩ : Addr).add j) = some u := by
  have := two_cells (w.alloc o) a b t
  simpa using this

end Go.Proofs.YtokofpbhbjbnfaaGreatDoor.Jrn
