/- Lists of records in memory, and what records makes of seeds; no statement of the seat is proved here. -/
import Derived.Test.YtndlogjmnbgegaaDoorEa
import Derived.Test.YtndlogjmnbgegaaDoorOa
import Derived.Deep.DeepCutAuto
namespace Go.Proofs.YtndlogjmnbgegaaDoor
open Go.RowKit

/-- Records that can be read. -/
def Recs (W : World) (ao : Option Addr) (L : Nat) (P : Nat → Int) (D : Nat → List Nat) : Prop :=
  0 < L → ∃ b off, ao = some ⟨b, off, none⟩ ∧ ∀ i, i < L → ∃ a n c, W.cell? ⟨b, off + i * 2, none⟩ = some (.int .i64 (P i)) ∧ W.cell? ⟨b, off + i * 2 + 1, none⟩ = some (.slice a n c) ∧ Rd W a n c (D i)

theorem Recs.keep {W W' : World} {ao : Option Addr} {L : Nat} {P : Nat → Int} {D : Nat → List Nat} (h : Recs W ao L P D) (hb : Below W.heap.size W W') : Recs W' ao L P D := by
  intro hL
  obtain ⟨b, off, e, hc⟩ := h hL
  refine ⟨b, off, e, fun i hi => ?_⟩
  obtain ⟨a, n, c, h0, h1, h2⟩ := hc i hi
  exact ⟨a, n, c, keep_old hb h0, keep_old hb h1, h2.keep hb⟩

/-- The cells of records whose data are blocks of their own. -/
def recCells (P : Nat → Int) (D : Nat → List Nat) : Nat → List Nat → List Value
  | _, [] => []
  | i, g :: gs => .int .i64 (P i) :: .slice (some ⟨g, 0, none⟩) (D i).length (D i).length :: recCells P D (i + 1) gs

theorem recCells_length (P : Nat → Int) (D : Nat → List Nat) (gs : List Nat) : ∀ i, (recCells P D i gs).length = gs.length * 2 := by
  induction gs with
  | nil => intro i; rfl
  | cons g gs ih => intro i; simp [recCells, ih]; omega

theorem recCells_snoc (P : Nat → Int) (D : Nat → List Nat) (g : Nat) (gs : List Nat) : ∀ i, recCells P D i (gs ++ [g]) = recCells P D i gs ++ [.int .i64 (P (i + gs.length)), .slice (some ⟨g, 0, none⟩) (D (i + gs.length)).length (D (i + gs.length)).length] := by
  induction gs with
  | nil => intro i; rfl
  | cons h gs ih =>
    intro i
    simp only [List.cons_append, recCells, ih, List.length_cons]
    rw [show i + 1 + gs.length = i + (gs.length + 1) by omega]

theorem recCells_get (P : Nat → Int) (D : Nat → List Nat) (gs : List Nat) : ∀ i j, j < gs.length → (recCells P D i gs)[j * 2]? = some (.int .i64 (P (i + j))) ∧ (recCells P D i gs)[j * 2 + 1]? = some (.slice (some ⟨gs.getD j 0, 0, none⟩) (D (i + j)).length (D (i + j)).length) := by
  induction gs with
  | nil => intro i j h; simp at h
  | cons g gs ih =>
    intro i j h
    cases j with
    | zero => simp [recCells]
    | succ j =>
      have := ih (i + 1) j (by simpa using h)
      rw [show (j + 1) * 2 = j * 2 + 1 + 1 by omega]
      simp only [recCells, List.getElem?_cons_succ]
      rw [show i + 1 + j = i + (j + 1) by omega] at this
      simpa using this

/-- Each of these blocks holds its record's data. -/
def DataAt (W : World) (D : Nat → List Nat) : Nat → List Nat → Prop
  | _, [] => True
  | i, g :: gs => W.heap[g]? = some (.cells (bs (D i)).toArray 5 (0, 0)) ∧ DataAt W D (i + 1) gs

theorem DataAt.snoc {W : World} {D : Nat → List Nat} {g : Nat} {gs : List Nat} : ∀ {i}, DataAt W D i gs → W.heap[g]? = some (.cells (bs (D (i + gs.length))).toArray 5 (0, 0)) → DataAt W D i (gs ++ [g]) := by
  induction gs with
  | nil => intro i _ h; exact ⟨h, trivial⟩
  | cons a gs ih =>
    intro i h hg
    refine ⟨h.1, ih h.2 ?_⟩
    rw [show i + 1 + gs.length = i + (a :: gs).length by simp; omega]
    exact hg

theorem DataAt.move {W W' : World} {D : Nat → List Nat} {gs : List Nat} (hm : ∀ (g : Nat) (C : Array Value), W.heap[g]? = some (Obj.cells C 5 (0, 0)) → W'.heap[g]? = some (Obj.cells C 5 (0, 0))) : ∀ {i}, DataAt W D i gs → DataAt W' D i gs := by
  induction gs with
  | nil => intro i _; trivial
  | cons a gs ih =>
    intro i h
    exact ⟨hm _ _ h.1, ih h.2⟩

theorem DataAt.get {W : World} {D : Nat → List Nat} {gs : List Nat} : ∀ {i}, DataAt W D i gs → ∀ j, j < gs.length → W.heap[gs.getD j 0]? = some (.cells (bs (D (i + j))).toArray 5 (0, 0)) := by
  induction gs with
  | nil => intro i _ j h; simp at h
  | cons a gs ih =>
    intro i h j hj
    cases j with
    | zero => simpa using h.1
    | succ j =>
      have := ih h.2 j (by simpa using hj)
      rw [show i + 1 + j = i + (j + 1) by omega] at this
      simpa using this

theorem rd_block {W : World} {g n : Nat} {xs : List Nat} (h : W.heap[g]? = some (.cells (bs xs).toArray 5 (0, 0))) (hn : xs.length = n) : Rd W (some ⟨g, 0, none⟩) n n xs := by
  refine ⟨hn, Nat.le_refl _, fun h => (by cases h), fun _ => ⟨g, 0, rfl, fun t ht => ?_⟩⟩
  rw [Nat.zero_add]
  have := bs_get xs t (by omega)
  simpa [World.cell?, h] using this

theorem recs_own {W : World} {B : Nat} {ao : Option Addr} {cap L : Nat} {P : Nat → Int} {D : Nat → List Nat} {t : TypeId} {gs : List Nat} (hl : gs.length = L) (h : W.ownsRow B t 2 (.slice ao L cap) L (recCells P D 0 gs)) (hd : DataAt W D 0 gs) : Recs W ao L P D := by
  intro hL
  rcases h.2 with ⟨h', h0⟩ | ⟨g, cap', cur, h', hb, hg, hnc, hm, hs, ht⟩
  · omega
  · simp only [Value.slice.injEq, true_and] at h'
    obtain ⟨rfl, rfl⟩ := h'
    refine ⟨g, 0, rfl, fun i hi => ⟨some ⟨gs.getD i 0, 0, none⟩, (D i).length, (D i).length, ?_, ?_, ?_⟩⟩
    · have := (recCells_get P D gs 0 i (by omega)).1
      rw [Nat.zero_add, h.cellAt (i * 2) (by omega), this, Nat.zero_add]
    · have := (recCells_get P D gs 0 i (by omega)).2
      rw [Nat.zero_add, h.cellAt (i * 2 + 1) (by omega), this, Nat.zero_add]
    · have := hd.get i (by omega)
      rw [Nat.zero_add] at this
      exact rd_block this rfl

theorem Tryd.info32 : (Tryd.prog.info? 32).map (fun i => (i.zero, i.size, i.bytes)) = some (some (.agg #[.int .i64 0, .slice none 0 0]), 2, 32) := by kernel_rfl
theorem Tryd.info35 : (Tryd.prog.info? 35).map (fun i => (i.zero, i.size, i.bytes)) = some (some (.agg #[.int .i64 0, .slice none 0 0]), 2, 32) := by kernel_rfl

/-- A box with a seed in it. -/
def SB (W : World) (q : Nat) (p : Int) (s : Nat) (l : Bool) : Prop := W.heap[q]? = some (.cells #[.int .i64 p, .int .u8 (s : Int), .bool l] 66 (0, 0))
theorem SB.cells {W : World} {q : Nat} {p : Int} {s : Nat} {l : Bool} (h : SB W q p s l) : W.cell? ⟨q, 0, none⟩ = some (.int .i64 p) ∧ W.cell? ⟨q, 1, none⟩ = some (.int .u8 (s : Int)) ∧ W.cell? ⟨q, 2, none⟩ = some (.bool l) := by
  unfold SB at h
  simp [World.cell?, h]
theorem SB.lt {W : World} {q : Nat} {p : Int} {s : Nat} {l : Bool} (h : SB W q p s l) : q < W.heap.size := lt_of_block h

/-- A seed's data. -/
def seedN (x : Int × Nat × Bool) : Nat := if x.2.2 then 3 else 512
def seedD (x : Int × Nat × Bool) : List Nat := List.replicate (seedN x) x.2.1
theorem seedD_length (x : Int × Nat × Bool) : (seedD x).length = seedN x := by simp [seedD]

theorem fill_step (i n s : Nat) (hi : i < n) : (List.replicate i s ++ List.replicate (n - i) 0).set i s = List.replicate (i + 1) s ++ List.replicate (n - (i + 1)) 0 := by
  rw [List.set_append_right _ _ (by simp)]
  simp only [List.length_replicate, Nat.sub_self]
  rw [show n - i = (n - (i + 1)) + 1 by omega, List.replicate_succ, List.set_cons_zero, List.replicate_succ', List.append_assoc]
  rfl

theorem row_later {w w' : World} {base : Nat} {e : TypeId} {size : Nat} {v : Value} {n : Nat} {xs : List Value} (h : w.ownsRow base e size v n xs) (hb : Below w.heap.size w w') : w'.ownsRow base e size v n xs := by
  obtain ⟨hl, h | ⟨g, cap, cur, rfl, hb', hg, rest⟩⟩ := h
  · exact ⟨hl, .inl h⟩
  · exact ⟨hl, .inr ⟨g, cap, cur, rfl, hb', by rw [hb.block g (lt_of_block hg)]; exact hg, rest⟩⟩

theorem row_form {w : World} {base : Nat} {e : TypeId} {size : Nat} {v : Value} {n : Nat} {xs : List Value} (h : w.ownsRow base e size v n xs) : ∃ ao cap, v = .slice ao n cap := by
  obtain ⟨hl, ⟨rfl, rfl⟩ | ⟨g, cap, cur, rfl, _⟩⟩ := h
  · exact ⟨_, _, rfl⟩
  · exact ⟨_, _, rfl⟩

theorem own_block {w : World} {B g n : Nat} {xs : List Nat} (h : w.ownsRow B 5 1 (.slice (some ⟨g, 0, none⟩) n n) n (bs xs)) : w.heap[g]? = some (.cells (bs xs).toArray 5 (0, 0)) := by
  obtain ⟨hl, ⟨h', _⟩ | ⟨g', cap, cur, h', hb', hg, hnc, hm, hs, ht⟩⟩ := h
  · cases h'
  · simp only [Value.slice.injEq, Option.some.injEq, Addr.mk.injEq, and_true, true_and] at h'
    obtain ⟨rfl, rfl⟩ := h'
    have : cur.toList = bs xs := by
      rw [← ht]
      exact (List.take_of_length_le (by simp [hs])).symm
    rw [hg, ← this]

/-- Where a row of records grows, blocks of bytes stay. -/
theorem data_grown {w w' : World} {base : Nat} {e : TypeId} (he : e ≠ 5) {size : Nat} {v : Value} {n : Nat} {xs : List Value} (h : w.ownsRow base e size v n xs) (hg : w.grownBy w' v.ownBlock) : ∀ (g : Nat) (C : Array Value), w.heap[g]? = some (Obj.cells C 5 (0, 0)) → w'.heap[g]? = some (Obj.cells C 5 (0, 0)) := by
  intro g C hc
  rw [hg.block g (lt_of_block hc) ?_]
  · exact hc
  · intro hv
    obtain ⟨hl, ⟨rfl, rfl⟩ | ⟨g', cap, cur, rfl, hb', hg', rest⟩⟩ := h
    · cases hv
    · simp only [Value.ownBlock, Option.some.injEq] at hv
      subst hv
      rw [hc] at hg'
      simp only [Option.some.injEq, Obj.cells.injEq] at hg'
      exact he hg'.2.1.symm

theorem below_grown {w w' : World} {B base : Nat} {e : TypeId} {size : Nat} {v : Value} {n : Nat} {xs : List Value} (h : w.ownsRow base e size v n xs) (hg : w.grownBy w' v.ownBlock) (hB : B ≤ base) (hB2 : B ≤ w.heap.size) : Below B w w' :=
  (Below.refl B w).grown hg hB2 fun k hk => Nat.le_trans hB (h.lt k hk).1

theorem two_cells (w : World) (a b : Value) (t : TypeId) : ∀ j u, [a, b][j]? = some u → (w.alloc (.cells #[a, b] t)).cell? ((⟨w.heap.size, 0, none⟩ : Addr).add j) = some u := by
  intro j u hu
  rw [Addr.add_lit]
  match j, hu with
  | 0, hu => simp at hu; subst hu; simp
  | 1, hu => simp at hu; subst hu; simp
  | j + 2, hu => simp at hu

set_option maxHeartbeats 4000000 in
theorem records_any (lo : Option Addr) (L C : Nat) (X : Nat → Int × Nat × Bool) (w : World) (h : Seeds w lo L X) (hL : L ≤ 20) :
    Calls Tryd.prog 9 #[.slice lo L C] w fun e w' => ∃ ao cap, e = .returned (.slice ao L cap) ∧ Recs w' ao L (fun i => (X i).1) (fun i => seedD (X i)) ∧ Below w.heap.size w w' := by
  have h' := hid h
  obtain ⟨i32, hi32, hz0, hz1, hz2⟩ := info_parts Tryd.info32
  have HI := hid hi32; have HZ0 := hid hz0; have HZ1 := hid hz1; have HZ2 := hid hz2
  have hmk := fun (n : Nat) (hn : n ≤ 1000) => make_any n n (Nat.le_refl _) (by omega)
  have hmk' := hid hmk
  clear h hi32 hz0 hz1 hz2 hmk
  go_enter Tryd.func9, Tryd.ntmps9
  go_wp2
  go_loopw [3, 11] (fun o c W => ∃ (i : Nat) (gs : List Nat) (ao : Option Addr) (cap : Nat), i ≤ L ∧ c = .int .i64 (i : Int) ∧ o = .slice ao i cap ∧ gs.length = i ∧ Hid (W.ownsRow w.heap.size 32 2 (.slice ao i cap) i (recCells (fun i => (X i).1) (fun i => seedD (X i)) 0 gs)) ∧ Hid (DataAt W (fun i => seedD (X i)) 0 gs) ∧ Hid (Below w.heap.size w W)) (fun _ c _ => L - (intOf c).toNat)
  case atStart => exact ⟨0, [], none, 0, by omega, rfl, rfl, rfl, hid (World.ownsRow_nil _ _ _ _), hid trivial, hid (Below.refl _ _)⟩
  case round =>
    obtain ⟨i, gs, ao, cap, hi, rfl, rfl, hgl, O, DA, B⟩ := hrel
    by_cases hiL : i < L
    · obtain ⟨b, off, rfl, hc⟩ := h'.out (by omega)
      obtain ⟨c0, c1, c2, hx1, hx2⟩ := hc i hiL
      obtain ⟨p, hp⟩ : ∃ p, p = (X i).1 := ⟨_, rfl⟩
      obtain ⟨s, hs⟩ : ∃ s, s = (X i).2.1 := ⟨_, rfl⟩
      obtain ⟨l, hl⟩ : ∃ l, l = (X i).2.2 := ⟨_, rfl⟩
      have k0 := keep_old B.out c0
      have k1 := keep_old B.out c1
      have k2 := keep_old B.out c2
      rw [← hp] at k0
      rw [← hs] at k1
      rw [← hl] at k2
      have hp' := hid hp; have hs' := hid hs; have hl' := hid hl
      have hs256 : s < 256 := by rw [hs]; exact hx1
      clear hc c0 c1 c2 hx1 hx2 hp hs hl
      obtain ⟨N, hN⟩ : ∃ N, N = seedN (X i) := ⟨_, rfl⟩
      have hN2 : (l = true ∧ N = 3) ∨ (l = false ∧ N = 512) := by
        rw [hN, hl'.out]
        unfold seedN
        cases (X i).2.2 <;> simp
      have hN' := hid hN
      clear hN
      go_upto_region 6 with fail
      obtain ⟨W1, hW1⟩ : ∃ W1, W1 = wr.alloc (.cells #[.int .i64 p, .int .u8 (s : Int), .bool l] 66) := ⟨_, rfl⟩
      rw [← hW1]
      have A1 : Hid (Below wr.heap.size wr W1) := hid (by rw [hW1]; exact Below.alloc (Below.refl _ _) (Nat.le_refl _) _)
      have S1 : Hid (SB W1 wr.heap.size p s l) := hid (by rw [hW1]; exact heap_alloc_new wr _)
      have hqB := B.out.size
      have hq1 : wr.heap.size < W1.heap.size := S1.out.lt
      clear hW1
      obtain ⟨a0, a1, a2⟩ := S1.out.cells
      go_upto_if 16 with fail
      go_cut [6] (fun s6 W => s6 = .int .i64 (N : Int) ∧ W = W1)
      case first =>
        rcases hN2 with ⟨rfl, rfl⟩ | ⟨rfl, rfl⟩
        · go_wp2
          go_meet
          case rel => exact ⟨rfl, rfl⟩
        · go_wp2
          go_meet
          case rel => exact ⟨rfl, rfl⟩
      case rest =>
        obtain ⟨rfl, rfl⟩ := hcut
        have hNb : N ≤ 1000 := by omega
        have hmk := hmk'.out N hNb
        obtain ⟨wq, hwq⟩ : ∃ x, x = wr := ⟨_, rfl⟩
        subst hwq
        have hNp : 0 < N := by omega
        clear hN2 k0 k1 k2
        go_wp2
        go_loopw [21] (fun c W => ∃ j : Nat, j ≤ N ∧ c = .int .i64 (j : Int) ∧ Hid (W.ownsRow wc.heap.size 5 1 (.slice (some ⟨wc.heap.size, 0, none⟩) N N) N (bs (List.replicate j s ++ List.replicate (N - j) 0))) ∧ Hid (Below wc.heap.size wc W)) (fun c _ => N - (intOf c).toNat)
        case atStart => exact ⟨0, by omega, rfl, hid (by simpa using own_zeros wc N hNb), hid (Below.alloc (Below.refl _ _) (Nat.le_refl _) _)⟩
        case round =>
          obtain ⟨j, hj, rfl, O2, B2⟩ := hrel
          have a1' := keep_old B2.out a1
          by_cases hjN : j < N
          · have cj : wr.cell? ⟨wc.heap.size, j, none⟩ = some (.int .u8 0) := by
              rw [O2.out.cellAt j (by omega), bs_get _ _ (by simp; omega)]
              simp only [List.getD]
              rw [List.getElem?_append_right (by simp), List.length_replicate, Nat.sub_self, List.getElem?_replicate, if_pos (by omega)]
              rfl
            have fj := O2.out.frozenAt j
            go_wp2
            refine ⟨⟨j + 1, by omega, by go_num, hid ?_, hid (Below.setCell B2.out (Nat.le_refl _) _)⟩, by simp [intOf]; omega⟩
            rw [← fill_step j N s hjN]
            exact own_store O2.out j s
          · obtain rfl : j = N := by omega
            have a0' := keep_old B2.out a0
            have hqr := B2.out.size
            have hne1 : ¬ wq.heap.size = wr.heap.size := by omega
            have hB3 : Hid (Below wq.heap.size wq wr) := hid (A1.out.trans (B2.out.mono (by omega)))
            have O3 := hid (row_later O.out hB3.out)
            have D3 := hid (DA.out.move (fun g C hc => by rw [hB3.out.block g (lt_of_block hc)]; exact hc))
            have K3 := hid (own_block O2.out)
            clear a0 a1 a2 a1'
            go_wp2_with ((with_reducible refine here_op 36 ?_); refine wpList_append_own _ rfl (.tmp 30) (.tmp 35) 27 rfl w.heap.size 32 i32 (.agg #[.int .i64 0, .slice none 0 0]) 2 32 Tryd.underlying27 HI.out HZ0.out HZ1.out HZ2.out rfl (by decide) (.slice ao i cap) i _ rfl (O3.out.alloc _) ⟨wr.heap.size, 0, none⟩ 1 1 [.int .i64 p, .slice (some ⟨wc.heap.size, 0, none⟩) j j] rfl rfl (two_cells wr _ _ 32) (by intro u hu; simp at hu; rcases hu with rfl | rfl <;> rfl) (by unfold maxLen; omega) (by omega) (by simp; omega) ?_; intro v5 w5 ho5 hg5 hnil5; obtain ⟨ao5, cap5, rfl⟩ := row_form ho5)
            refine ⟨⟨i + 1, gs ++ [wc.heap.size], ao5, cap5, by omega, by go_num, rfl, by simp [hgl], hid ?_, hid (DataAt.snoc (D3.out.move fun g C hc => data_grown (by decide) (O3.out.alloc _) hg5 g C (by rw [Below.heap_alloc _ _ _ (lt_of_block hc)]; exact hc)) ?_), hid ?_⟩, by simp [intOf]; omega⟩
            · rw [recCells_snoc, hgl, Nat.zero_add, seedD_length, ← hN'.out, ← hp'.out]
              exact ho5
            · have hd : seedD (X i) = List.replicate j s := by unfold seedD; rw [← hN'.out, ← hs'.out]
              simp only [Nat.zero_add, hgl, hd]
              refine data_grown (by decide) (O3.out.alloc _) hg5 _ _ ?_
              rw [Below.heap_alloc _ _ _ (lt_of_block K3.out), K3.out]
              simp
            · exact (Below.alloc (B.out.trans (hB3.out.mono hqB)) (by omega) _).trans (below_grown (O3.out.alloc _) hg5 (Nat.le_refl _) (by simp; omega))
    · obtain rfl : i = L := by omega
      go_wp2
      go_ret
      exact ⟨ao, cap, rfl, recs_own hgl O.out DA.out, B.out⟩

end Go.Proofs.YtndlogjmnbgegaaDoor
