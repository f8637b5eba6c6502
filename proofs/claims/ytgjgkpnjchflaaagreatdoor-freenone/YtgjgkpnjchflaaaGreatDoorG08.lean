/- What Bytes returns; no statement of the seat is proved here. -/
import Derived.Test.YtgjgkpnjchflaaaGreatDoorG07
import Derived.Test.YtgjgkpnjchflaaaGreatDoorG04
import Derived.Test.YtgjgkpnjchflaaaGreatDoorG06
namespace Go.Proofs.YtgjgkpnjchflaaaGreatDoor.Jrn
open Go.RowKit

/-- The bytes of the records from i on, k of them. -/
def recsN (P : Nat → Int) (D : Nat → List Nat) (n : Nat) : Nat → Nat → List Nat
  | _, 0 => []
  | i, k + 1 => recN (P i).toNat n (D i) ++ recsN P D n (i + 1) k

def bytesN (c pg : Int) (n : Nat) (wh : Bool) (L : Nat) (P : Nat → Int) (D : Nat → List Nat) : List Nat := headN c.toNat pg.toNat n wh ++ recsN P D n 0 L

theorem recsN_bytes (P : Nat → Int) (D : Nat → List Nat) (n : Nat) (k : Nat) : ∀ i, (∀ j, j < i + k → ∀ x ∈ D j, x < 256) → ∀ x ∈ recsN P D n i k, x < 256 := by
  induction k with
  | zero => intro i _ x h; cases h
  | succ k ih =>
    intro i hd
    exact app_bytes (recN_bytes _ _ (hd i (by omega))) (ih (i + 1) (fun j hj => hd j (by omega)))

theorem bytesN_bytes (c pg : Int) (n : Nat) (wh : Bool) (L : Nat) (P : Nat → Int) (D : Nat → List Nat) (hd : ∀ j, j < L → ∀ x ∈ D j, x < 256) : ∀ x ∈ bytesN c pg n wh L P D, x < 256 :=
  app_bytes (headN_bytes _ _ _ _) (recsN_bytes P D n L 0 (by simpa using hd))

theorem goodFrom_all {P : Nat → Int} {D : Nat → List Nat} {pg : Int} (k : Nat) : ∀ {last i}, goodFrom P D pg last i k = true → ∀ j, i ≤ j → j < i + k → (1 ≤ P j ∧ P j ≤ 4000) ∧ (D j).length = 512 := by
  induction k with
  | zero => intro last i _ j h1 h2; omega
  | succ k ih =>
    intro last i h j h1 h2
    simp only [goodFrom, Bool.and_eq_true] at h
    rcases Nat.eq_or_lt_of_le h1 with rfl | h3
    · exact (rgood_iff _ _).1 h.1.1.1
    · exact ih h.2 j (by omega) (by omega)

theorem goodL_all {c pg : Int} {L : Nat} {P : Nat → Int} {D : Nat → List Nat} (h : goodL c pg L P D = true) : ((0 ≤ c ∧ c ≤ 4000) ∧ 0 ≤ pg ∧ pg ≤ 4000) ∧ (L : Int) = c ∧ ∀ j, j < L → (1 ≤ P j ∧ P j ≤ 4000) ∧ (D j).length = 512 := by
  simp only [goodL, Bool.and_eq_true, decide_eq_true_eq] at h
  exact ⟨(hgood_iff _ _).1 h.1.1, h.1.2, fun j hj => goodFrom_all L h.2 j (by omega) (by omega)⟩

theorem recsN_length {P : Nat → Int} {D : Nat → List Nat} {n : Nat} (k : Nat) : ∀ i, (∀ j, i ≤ j → j < i + k → (D j).length = 512) → (recsN P D n i k).length = k * 640 := by
  induction k with
  | zero => intro i _; rfl
  | succ k ih =>
    intro i h
    simp only [recsN, List.length_append, recN_length, h i (by omega) (by omega)]
    rw [ih (i + 1) (fun j h1 h2 => h j (by omega) (by omega))]
    omega

theorem recsN_step {P : Nat → Int} {D : Nat → List Nat} {n i L : Nat} (hi : i < L) {ys T : List Nat} (e : ys ++ recsN P D n i (L - i) = T) : (ys ++ recN (P i).toNat n (D i)) ++ recsN P D n (i + 1) (L - (i + 1)) = T := by
  rw [← e, show L - i = (L - (i + 1)) + 1 by omega]
  simp [recsN]

set_option maxHeartbeats 1000000 in
theorem bytes_no (c pg : Int) (m : Nat) (ao : Option Addr) (L cap : Nat) (P : Nat → Int) (D : Nat → List Nat) (wh : Bool) (w : World) (h : Recs w ao L P D) (hL : L ≤ 100000) (hg : goodL c pg L P D = false) :
    Calls Tryz.prog 118 #[.agg #[.int .i64 c, .int .i64 pg, .int .u64 (m : Int)], .slice ao L cap, .bool wh] w fun e w' => e = .returned (.slice none 0 0) ∧ Below w.heap.size w w' := by
  have cg := hid (good_any c pg m ao L cap P D _ (h.keep (Below.alloc (Below.refl _ _) (Nat.le_refl _) (.cells #[.int .i64 c, .int .i64 pg, .int .u64 (m : Int)] 140))) hL)
  rw [hg] at cg
  clear h hg
  go_enter Tryz.func118, Tryz.ntmps118
  go_wp2_with (go_at_call 108; refine cg.out.mono ?_; rintro e w1 ⟨rfl, hb1⟩)
  go_ret
  exact ⟨rfl, gt (Below.alloc (Below.refl _ _) (Nat.le_refl _) _) hb1⟩

set_option maxHeartbeats 4000000 in
theorem bytes_yes (c pg : Int) (m : Nat) (ao : Option Addr) (L cap : Nat) (P : Nat → Int) (D : Nat → List Nat) (wh : Bool) (w : World) (h : Recs w ao L P D) (hd : ∀ j, j < L → ∀ x ∈ D j, x < 256) (hg : goodL c pg L P D = true) (hT : Tab w) :
    Calls Tryz.prog 118 #[.agg #[.int .i64 c, .int .i64 pg, .int .u64 (m : Int)], .slice ao L cap, .bool wh] w fun e w' => ∃ v, e = .returned v ∧ w'.ownsRow w.heap.size 5 1 v (128 + L * 640) (bs (bytesN c pg m wh L P D)) ∧ Below w.heap.size w w' := by
  obtain ⟨hcp, hLc, hall⟩ := goodL_all hg
  have hL : L ≤ 4000 := by omega
  have A0 : Below w.heap.size w (w.alloc (.cells #[.int .i64 c, .int .i64 pg, .int .u64 (m : Int)] 140)) := Below.alloc (Below.refl _ _) (Nat.le_refl _) _
  have cg := hid (good_any c pg m ao L cap P D _ (h.keep A0) (by omega))
  rw [hg] at cg
  have q0 := hid (HB.new 140 w c pg m)
  obtain ⟨c', rfl⟩ : ∃ k : Nat, c = (k : Int) := ⟨c.toNat, by omega⟩
  obtain ⟨p', rfl⟩ : ∃ k : Nat, pg = (k : Int) := ⟨pg.toNat, by omega⟩
  obtain ⟨T, hTv⟩ : ∃ T, T = bytesN c' p' m wh L P D := ⟨_, rfl⟩
  have hT0 : Hid (headN c' p' m wh ++ recsN P D m 0 L = T) := hid (by rw [hTv]; rfl)
  rw [← hTv]
  have hc4 : c' ≤ 4000 := by omega
  have hp4 : p' ≤ 4000 := by omega
  have hall' := hid hall
  have h' := hid h
  have hd' := hid hd
  have hT' := hid hT
  have hA0 := hid A0
  obtain ⟨K, hw640, hK⟩ : ∃ K : Nat, (L : Int) * 640 = (K : Int) ∧ K = L * 640 := ⟨L * 640, by omega, rfl⟩
  have hK' := hid hK
  have hKb : K ≤ 2560000 := by omega
  clear hK
  clear h hd hT hall hTv A0 hg hcp hLc
  obtain ⟨B, hB⟩ : ∃ B, B = w.heap.size + 1 := ⟨_, rfl⟩
  have hB' := hid hB
  clear hB
  go_enter Tryz.func118, Tryz.ntmps118
  go_wp2_with (first
    | (go_at_call 108; refine cg.out.mono ?_; rintro e w1 ⟨rfl, hb1⟩; have Q1 := hid (q0.out.keep hb1); have B1 := hid (gt hA0.out hb1); clear hb1; obtain ⟨a0, a1, a2, _, _, _⟩ := Q1.out.cells)
    | (go_at_call 119; refine (head_yes c' p' m wh _ hc4 hp4 (hT'.out.keep B1.out)).mono ?_; rintro e w2 ⟨g2, rfl, ho2, hb2⟩; have hBs : B ≤ w1.heap.size := (by have := Q1.out.lt; have := hB'.out; omega); have hBs2 : B ≤ w2.heap.size := Nat.le_trans hBs hb2.size; have Q2 := hid (Q1.out.keep hb2); have B2 := hid (gt B1.out hb2); have O2 := hid (own_base ho2 hBs); clear hb2 ho2 a0 a1 a2)
    | (go_at_call 162; refine (grow_any B g2 128 K _ _ O2.out (by omega) hBs2).mono ?_; rintro e w3 ⟨v3, rfl, ho3, hb3⟩; have Q3 := hid (Q2.out.under hb3 (by have := hB'.out; omega)); have B3 := hid (B2.out.trans (hb3.mono (by have := hB'.out; omega))); have O3 := hid ho3; have hBs3 : B ≤ w3.heap.size := Nat.le_trans hBs2 hb3.size; clear hb3 ho3))
  go_loopw [7, 23] (fun o cc W => ∃ (i : Nat) (ys : List Nat), i ≤ L ∧ cc = .int .i64 (i : Int) ∧ Hid (ys ++ recsN P D m i (L - i) = T) ∧ Hid (W.ownsRow B 5 1 o (128 + i * 640) (bs ys)) ∧ Hid (HB 140 W w.heap.size c' p' m) ∧ Hid (Below w.heap.size w W)) (fun _ cc _ => L - (intOf cc).toNat)
  case atStart => exact ⟨0, _, by omega, rfl, hT0, O3, Q3, B3⟩
  case round =>
    obtain ⟨i, ys, hi, rfl, E, O, Q, BW⟩ := hrel
    clear Q1 Q2 Q3 O2 O3 B1 B2 B3
    by_cases hiL : i < L
    · obtain ⟨b0, off, rfl, hc⟩ := h'.out (by omega)
      obtain ⟨a, n, c1, k0, k1, rd⟩ := hc i hiL
      obtain ⟨hp, hdl⟩ := hall'.out i hiL
      obtain ⟨p, hpv⟩ : ∃ p : Nat, P i = (p : Int) := ⟨(P i).toNat, by omega⟩
      have hn : n = 512 := by rw [← rd.1]; exact hdl
      subst hn
      have k0' := keep_old BW.out k0
      have k1' := keep_old BW.out k1
      rw [hpv] at k0' hp
      have rd' := hid (rd.keep BW.out)
      have hp1 : 1 ≤ p := by omega
      have hp2 : p ≤ 4000 := by omega
      have E2 := hid (recsN_step hiL E.out)
      have hpv' := hid hpv
      obtain ⟨a0, a1, a2, _, _, _⟩ := Q.out.cells
      have hlt := Q.out.lt
      have hne : ¬ w.heap.size = wr.heap.size := by omega
      have hBr : B ≤ wr.heap.size := by have := hB'.out; omega
      have hBr2 : w.heap.size ≤ B := by have := hB'.out; omega
      clear k0 k1 rd hc hpv hp hdl E
      go_wp2_with (first
        | (go_at_call 163; refine (rec_yes p m a c1 _ _ (hT'.out.keep (Below.alloc BW.out BW.out.size _)) (rd'.out.keep (Below.alloc (Below.refl _ _) (Nat.le_refl _) _)) (hd'.out i hiL) hp1 hp2).mono ?_; rintro e w5 ⟨g5, rfl, ho5, hb5⟩; have Q5 := hid (Q.out.keep2 hb5); have B5 := hid (gt2 BW.out hb5); have R5 := hid (rd_own ho5); have O5 := hid (row_later (O.out.alloc _) hb5); have hBr5 : B ≤ w5.heap.size := (by have := hb5.size; simp at this; omega); clear hb5 ho5 a0 a1 a2)
        | ((with_reducible refine here_op 32 ?_); refine wpList_append_rd rfl (.tmp 27) (.tmp 31) rfl B _ (128 + i * 640) ys rfl O5.out (some ⟨g5, 0, none⟩) 640 640 _ rfl R5.out (by omega) hBr5 ?_; intro v6 w6 ho6 hb6; have Q6 := hid (Q5.out.under hb6 (by have := hB'.out; omega)); have B6 := hid (B5.out.trans (hb6.mono hBr2)); have O6 := hid ho6; clear ho6 hb6))
      refine ⟨⟨i + 1, ys ++ recN p m (D i), by omega, by go_num, hid ?_, hid ?_, Q6, B6⟩, by simp [intOf]; omega⟩
      · have := E2.out
        rw [hpv'.out, Int.toNat_natCast] at this
        exact this
      · rw [show 128 + (i + 1) * 640 = 128 + i * 640 + 640 by omega]
        exact O6.out
    · obtain rfl : i = L := by omega
      have hy : ys = T := by rw [← E.out, Nat.sub_self]; simp [recsN]
      subst hy
      go_wp2
      go_ret
      exact ⟨_, rfl, own_base O.out (by have := hB'.out; omega), BW.out⟩

end Go.Proofs.YtgjgkpnjchflaaaGreatDoor.Jrn

/- What plain and Same return; no statement of the seat is proved here. -/
namespace Go.Proofs.YtgjgkpnjchflaaaGreatDoor.Jrn
open Go.RowKit

/-- Records' cells. -/
def rv : List (Int × Option Addr × Nat × Nat) → List Value
  | [] => []
  | r :: l => .int .i64 r.1 :: .slice r.2.1 r.2.2.1 r.2.2.2 :: rv l

theorem rv_length (l : List (Int × Option Addr × Nat × Nat)) : (rv l).length = l.length * 2 := by
  induction l with
  | nil => rfl
  | cons r l ih => simp [rv, ih]; omega

theorem rv_append (l m : List (Int × Option Addr × Nat × Nat)) : rv (l ++ m) = rv l ++ rv m := by
  induction l with
  | nil => rfl
  | cons r l ih => simp [rv, ih]

/-- These cells are those of the records from i on. -/
def Dat (W : World) (P : Nat → Int) (D : Nat → List Nat) : Nat → List (Int × Option Addr × Nat × Nat) → Prop
  | _, [] => True
  | i, r :: l => (r.1 = P i ∧ Rd W r.2.1 r.2.2.1 r.2.2.2 (D i)) ∧ Dat W P D (i + 1) l

theorem Dat.keep {W W' : World} {P : Nat → Int} {D : Nat → List Nat} {l : List (Int × Option Addr × Nat × Nat)} (hb : Below W.heap.size W W') : ∀ {i}, Dat W P D i l → Dat W' P D i l := by
  induction l with
  | nil => intro i _; trivial
  | cons r l ih =>
    intro i h
    exact ⟨⟨h.1.1, h.1.2.keep hb⟩, ih h.2⟩

theorem Dat.snoc {W : World} {P : Nat → Int} {D : Nat → List Nat} {l : List (Int × Option Addr × Nat × Nat)} {r : Int × Option Addr × Nat × Nat} : ∀ {i}, Dat W P D i l → (r.1 = P (i + l.length) ∧ Rd W r.2.1 r.2.2.1 r.2.2.2 (D (i + l.length))) → Dat W P D i (l ++ [r]) := by
  induction l with
  | nil => intro i _ h; exact ⟨h, trivial⟩
  | cons a l ih =>
    intro i h hr
    refine ⟨h.1, ih h.2 ?_⟩
    rw [show i + 1 + l.length = i + (a :: l).length by simp; omega]
    exact hr

theorem Dat.get {W : World} {P : Nat → Int} {D : Nat → List Nat} {l : List (Int × Option Addr × Nat × Nat)} : ∀ {i}, Dat W P D i l → ∀ j, j < l.length → ∃ a n c, (rv l)[j * 2]? = some (.int .i64 (P (i + j))) ∧ (rv l)[j * 2 + 1]? = some (.slice a n c) ∧ Rd W a n c (D (i + j)) := by
  induction l with
  | nil => intro i _ j h; simp at h
  | cons a l ih =>
    intro i h j hj
    cases j with
    | zero => exact ⟨_, _, _, by simp [rv, h.1.1], by simp [rv], h.1.2⟩
    | succ j =>
      obtain ⟨b, n, c, h1, h2, h3⟩ := ih h.2 j (by simpa using hj)
      rw [show i + 1 + j = i + (j + 1) by omega] at h1 h3
      refine ⟨b, n, c, ?_, ?_, h3⟩
      · rw [show (j + 1) * 2 = j * 2 + 1 + 1 by omega]; simpa [rv] using h1
      · rw [show (j + 1) * 2 + 1 = j * 2 + 1 + 1 + 1 by omega]; simpa [rv] using h2

theorem recs_rv {W : World} {B : Nat} {ao : Option Addr} {cap L : Nat} {P : Nat → Int} {D : Nat → List Nat} {t : TypeId} {l : List (Int × Option Addr × Nat × Nat)} (hl : l.length = L) (h : W.ownsRow B t 2 (.slice ao L cap) L (rv l)) (hd : Dat W P D 0 l) : Recs W ao L P D := by
  intro hL
  rcases h.2 with ⟨h', h0⟩ | ⟨g, cap', cur, h', hb, hg, hnc, hm, hs, ht⟩
  · omega
  · simp only [Value.slice.injEq, true_and] at h'
    obtain ⟨rfl, rfl⟩ := h'
    refine ⟨g, 0, rfl, fun i hi => ?_⟩
    obtain ⟨a, n, c, h1, h2, h3⟩ := hd.get i (by omega)
    rw [Nat.zero_add] at h1 h3
    refine ⟨a, n, c, ?_, ?_, h3⟩
    · rw [Nat.zero_add, h.cellAt (i * 2) (by omega), h1]
    · rw [Nat.zero_add, h.cellAt (i * 2 + 1) (by omega), h2]

theorem two_cells2 (w : World) (o : Obj) (a b : Value) (t : TypeId) : ∀ j u, [a, b][j]? = some u → ((w.alloc o).alloc (.cells #[a, b] t)).cell? ((⟨w.heap.size + 1, 0, none⟩ : Addr).add j) = some u := by
  have := two_cells (w.alloc o) a b t
  simpa using this

end Go.Proofs.YtgjgkpnjchflaaaGreatDoor.Jrn

/- What Parse returns; no statement of the seat is proved here. -/
namespace Go.Proofs.YtgjgkpnjchflaaaGreatDoor.Jrn
open Go.RowKit

/-- The records that begin at place 128 + i * 640. -/
def pP (xs : List Nat) (i : Nat) : Int := (rP (xs.drop (128 + i * 640)) : Nat)
def pD (xs : List Nat) (i : Nat) : List Nat := rD (xs.drop (128 + i * 640))
/-- Are there k records from i on? -/
def allR (xs : List Nat) (n : Nat) : Nat → Nat → Bool
  | _, 0 => true
  | i, k + 1 => isRec (xs.drop (128 + i * 640)) n && allR xs n (i + 1) k

/-- What Parse answers: the head, how many records, the error. -/
def rdJ (xs : List Nat) : (Nat × Nat × Nat) × Nat × Int :=
  if (rdH xs).2 ≠ 0 then ((0, 0, 0), 0, (rdH xs).2)
  else if xs.length < (1 + hC xs * 5) * 128 then ((0, 0, 0), 0, 9)
  else if allR xs (hN xs) 0 (hC xs) && goodL (hC xs) (hP xs) (hC xs) (pP xs) (pD xs) then ((hC xs, hP xs, hN xs), hC xs, 0)
  else ((0, 0, 0), 0, 9)

/-- A row of records that is being filled: where it lies, what is in it. -/
def RowIs (W : World) (g : Nat) (l : List (Int × Option Addr × Nat × Nat)) : Prop := W.heap[g]? = some (.cells (rv l).toArray 168 (0, 0))

theorem RowIs.lt {W : World} {g : Nat} {l : List (Int × Option Addr × Nat × Nat)} (h : RowIs W g l) : g < W.heap.size := lt_of_block h
theorem RowIs.keep {W W' : World} {g : Nat} {l : List (Int × Option Addr × Nat × Nat)} (h : RowIs W g l) (hb : Below W.heap.size W W') : RowIs W' g l := by
  unfold RowIs; rw [hb.block g h.lt]; exact h
theorem RowIs.cellAt {W : World} {g : Nat} {l : List (Int × Option Addr × Nat × Nat)} (h : RowIs W g l) (j : Nat) : W.cell? ⟨g, j, none⟩ = (rv l)[j]? := by
  unfold RowIs at h
  simp [World.cell?, h]
theorem RowIs.frozenAt {W : World} {g : Nat} {l : List (Int × Option Addr × Nat × Nat)} (h : RowIs W g l) (j : Nat) : W.frozen? ⟨g, j, none⟩ = false := by
  unfold RowIs at h
  simp [World.frozen?, h]

def zr : Int × Option Addr × Nat × Nat := (0, none, 0, 0)

theorem rv_get (l : List (Int × Option Addr × Nat × Nat)) (r : Int × Option Addr × Nat × Nat) (m : List (Int × Option Addr × Nat × Nat)) : (rv (l ++ r :: m))[l.length * 2]? = some (.int .i64 r.1) ∧ (rv (l ++ r :: m))[l.length * 2 + 1]? = some (.slice r.2.1 r.2.2.1 r.2.2.2) := by
  rw [rv_append]
  constructor
  · rw [List.getElem?_append_right (by rw [rv_length]; omega), rv_length, Nat.sub_self]; rfl
  · rw [List.getElem?_append_right (by rw [rv_length]; omega), rv_length, show l.length * 2 + 1 - l.length * 2 = 1 by omega]; rfl

theorem rv_set (l : List (Int × Option Addr × Nat × Nat)) (r : Int × Option Addr × Nat × Nat) (m : List (Int × Option Addr × Nat × Nat)) (p : Int) (a : Option Addr) (n c : Nat) : ((rv (l ++ r :: m)).set (l.length * 2) (.int .i64 p)).set (l.length * 2 + 1) (.slice a n c) = rv (l ++ (p, a, n, c) :: m) := by
  rw [rv_append, rv_append, List.set_append_right _ _ (by rw [rv_length]; omega), rv_length, Nat.sub_self, List.set_append_right _ _ (by rw [rv_length]; omega), rv_length, show l.length * 2 + 1 - l.length * 2 = 1 by omega]
  rfl

theorem RowIs.set {W : World} {g : Nat} {l : List (Int × Option Addr × Nat × Nat)} {r : Int × Option Addr × Nat × Nat} {m : List (Int × Option Addr × Nat × Nat)} (h : RowIs W g (l ++ r :: m)) (p : Int) (a : Option Addr) (n c : Nat) :
    RowIs ((W.setCell ⟨g, l.length * 2, none⟩ (.int .i64 p)).setCell ⟨g, l.length * 2 + 1, none⟩ (.slice a n c)) g (l ++ (p, a, n, c) :: m) := by
  have h1 := heap_setCell_same W g (l.length * 2) _ 168 (.int .i64 p) h
  have h2 := heap_setCell_same _ g (l.length * 2 + 1) _ 168 (.slice a n c) h1
  unfold RowIs
  rw [h2, ← rv_set l r m p a n c]
  simp

/-- Bytes that can be read lie in no row of records. -/
theorem rd_ne_row {W : World} {ao : Option Addr} {n cap : Nat} {xs : List Nat} {g : Nat} {l : List (Int × Option Addr × Nat × Nat)} (h : Rd W ao n cap xs) (hy : RowIs W g l) : 0 < n → ∀ b off, ao = some ⟨b, off, none⟩ → b ≠ g := by
  intro hn b off e
  subst e
  obtain ⟨b', off', e', hc⟩ := h.2.2.2 hn
  cases e'
  intro hbq
  subst hbq
  have h0 := hc 0 hn
  rw [hy.cellAt] at h0
  have : ∀ (l : List (Int × Option Addr × Nat × Nat)) (j : Nat) (z : Int), (rv l)[j]? ≠ some (.int .u8 z) := by
    intro l
    induction l with
    | nil => intro j z h; simp [rv] at h
    | cons r l ih =>
      intro j z h
      match j, h with
      | 0, h => simp [rv] at h
      | 1, h => simp [rv] at h
      | j + 2, h => exact ih j z (by simpa [rv] using h)
  exact this _ _ _ h0

theorem rd_set0 {W : World} {g i : Nat} {v : Value} {ao : Option Addr} {n cap : Nat} {xs : List Nat} (h : Rd W ao n cap xs) (hne : 0 < n → ∀ b off, ao = some ⟨b, off, none⟩ → b ≠ g) : Rd (W.setCell ⟨g, i, none⟩ v) ao n cap xs := by
  by_cases hn : 0 < n
  · exact rd_set h (hne hn)
  · exact ⟨h.1, h.2.1, h.2.2.1, fun h => absurd h hn⟩

theorem Dat.set {W : World} {P : Nat → Int} {D : Nat → List Nat} {g i j : Nat} {v u : Value} {L : List (Int × Option Addr × Nat × Nat)} (hr : RowIs W g L) {l : List (Int × Option Addr × Nat × Nat)} : ∀ {k}, Dat W P D k l → Dat ((W.setCell ⟨g, i, none⟩ v).setCell ⟨g, j, none⟩ u) P D k l := by
  induction l with
  | nil => intro k _; trivial
  | cons r l ih =>
    intro k h
    have hne := rd_ne_row h.1.2 hr
    exact ⟨⟨h.1.1, rd_set0 (rd_set0 h.1.2 hne) hne⟩, ih h.2⟩

theorem recs_row {W : World} {g L : Nat} {P : Nat → Int} {D : Nat → List Nat} {l : List (Int × Option Addr × Nat × Nat)} (hl : l.length = L) (h : RowIs W g l) (hd : Dat W P D 0 l) : Recs W (some ⟨g, 0, none⟩) L P D := by
  intro hL
  refine ⟨g, 0, rfl, fun i hi => ?_⟩
  obtain ⟨a, n, c, h1, h2, h3⟩ := hd.get i (by omega)
  rw [Nat.zero_add] at h1 h3
  refine ⟨a, n, c, ?_, ?_, h3⟩
  · rw [Nat.zero_add, h.cellAt, h1]
  · rw [Nat.zero_add, h.cellAt, h2]

theorem rv_zero (n : Nat) : ∀ i, i < n * 2 → (rv (List.replicate n zr))[i]? = some (if i % 2 = 0 then .int .i64 0 else .slice none 0 0) := by
  induction n with
  | zero => intro i h; omega
  | succ n ih =>
    intro i h
    match i, h with
    | 0, _ => rfl
    | 1, _ => rfl
    | i + 2, h =>
      have := ih i (by omega)
      rw [show (i + 2) % 2 = i % 2 by omega]
      simpa [List.replicate_succ, rv] using this

theorem made_rv (n : Nat) : madeCells (Value.agg #[.int .i64 0, .slice none 0 0]).cells (n * 2) = (rv (List.replicate n zr)).toArray := by
  apply Array.ext'
  apply List.ext_getElem?
  intro i
  by_cases h : i < n * 2
  · rw [show ((rv (List.replicate n zr)).toArray.toList)[i]? = (rv (List.replicate n zr))[i]? from rfl, rv_zero n i h]
    simp only [madeCells, Array.toList_map, Array.toList_range, List.getElem?_map, List.getElem?_range h, Option.map_some, Value.cells]
    rcases Nat.mod_two_eq_zero_or_one i with h2 | h2 <;> simp [h2]
  · rw [List.getElem?_eq_none (by simp [size_madeCells]; omega), List.getElem?_eq_none (by simp [rv_length]; omega)]

theorem make27 (n : Nat) (hn : n ≤ 100000) (w : World) : (Instr.makeSlice 136 (.int .i64 (n : Int)) (.int .i64 (n : Int))).run Tryz.prog w = .ok (.slice (some ⟨w.heap.size, 0, none⟩) n n) (w.alloc (.cells (rv (List.replicate n zr)).toArray 168)) := by
  obtain ⟨i, hi, hz0, hz1, hz2⟩ := info_parts Tryz.info168
  have hr := run_make (P := Tryz.prog) w 136 168 i _ Tryz.underlying136 hi hz0 .i64 .i64 n n (by omega) (by omega) (by rw [hz2]; omega) (by omega)
  rw [hr, hz1, Int.toNat_natCast, made_rv]

theorem HB.ne_row {t : TypeId} (ht : t ≠ 168) {W : World} {q g : Nat} {c p : Int} {n : Nat} {l : List (Int × Option Addr × Nat × Nat)} (h : HB t W q c p n) (hr : RowIs W g l) : q ≠ g := by
  intro e
  subst e
  unfold HB at h
  unfold RowIs at hr
  rw [h] at hr
  simp only [Option.some.injEq, Obj.cells.injEq] at hr
  exact ht hr.2.1

theorem results_cell_tmp2 {fn : Func} {p u v : Tmp} {ty : TypeId} (h : fn.results = #[.cell p ty, .tmp u, .tmp v]) (tmps : Array Value) (P : Program) (w : World) :
    (results fn tmps).run P w = ((asAddr (tmps.getD p undef)).run P w).andThen fun a w₁ => ((loadVar ty a).run P w₁).andThen fun x w₂ => .ok (.tuple #[x, tmps.getD u undef, tmps.getD v undef]) w₂ := by
  simp only [results, h]
  simp [Sem.run_bind, Result.andThen]

theorem ret_head3 {fn : Func} {a u v : Tmp} {t : TypeId} (h : fn.results = #[.cell a t, .tmp u, .tmp v]) (ha : ∀ W, (isAgg t).run Tryz.prog W = .ok true W) (hs : ∀ W, (Go.sizeOf t).run Tryz.prog W = .ok 3 W) {tmps : Array Value} {W : World} {q : Nat} {c p : Int} {n : Nat}
    (hp : tmps.getD a undef = .pointer (some ⟨q, 0, none⟩)) (hb : HB t W q c p n) : (results fn tmps).run Tryz.prog W = .ok (.tuple #[.agg #[.int .i64 c, .int .i64 p, .int .u64 (n : Int)], tmps.getD u undef, tmps.getD v undef]) W := by
  rw [results_cell_tmp2 h, hp]
  simp [asAddr, load_head ha hs hb]

theorem recs_none (W : World) (P : Nat → Int) (D : Nat → List Nat) : Recs W none 0 P D := fun h => by omega

/-- What Parse answers, in memory. -/
def JIs (xs : List Nat) (w : World) (e : Ending) (w' : World) : Prop :=
  ∃ ao cap, e = .returned (.tuple #[.agg #[.int .i64 ((rdJ xs).1.1 : Int), .int .i64 ((rdJ xs).1.2.1 : Int), .int .u64 ((rdJ xs).1.2.2 : Int)], .slice ao (rdJ xs).2.1 cap, .int .i64 (rdJ xs).2.2]) ∧ Recs w' ao (rdJ xs).2.1 (pP xs) (pD xs) ∧ Below w.heap.size w w'

set_option maxHeartbeats 1000000 in
theorem parse_err (ao : Option Addr) (n cap : Nat) (xs : List Nat) (w : World) (h : Rd w ao n cap xs) (hx : ∀ x ∈ xs, x < 256) (hn2 : n ≤ 140737488355328) (hT : Tab w) (he : (rdH xs).2 ≠ 0) :
    Calls Tryz.prog 80 #[.slice ao n cap] w (JIs xs w) := by
  have eJ : rdJ xs = ((0, 0, 0), 0, (rdH xs).2) := by unfold rdJ; rw [if_pos he]
  unfold JIs
  rw [eJ]
  have A0 : Below w.heap.size w (w.alloc (.cells #[.int .i64 0, .int .i64 0, .int .u64 0] 140)) := Below.alloc (Below.refl _ _) (Nat.le_refl _) _
  have c := hid (rhead_all ao n cap xs _ (h.keep A0) hx hn2 (hT.keep A0))
  have z0 := hid (HB.new 140 w 0 0 0)
  generalize rdH xs = r at *
  obtain ⟨⟨c1, p1, n1⟩, er⟩ := r
  simp only at c he ⊢
  have hne : (er != 0) = true := by simp [he]
  have hne2 : (er == 0) = false := by simp [he]
  have A0' := hid A0
  clear he h hx hT A0 eJ
  go_enter Tryz.func80, Tryz.ntmps80
  go_wp2_with (go_at_call 105; refine c.out.mono ?_; rintro e w1 ⟨rfl, hb1⟩; have z1 := hid (z0.out.keep hb1); have B1 := hid (gt A0'.out hb1); clear hb1; obtain ⟨q0, q1, q2, f0, f1, f2⟩ := z1.out.cells; have hlt := z1.out.lt; have hne1 : ¬ w.heap.size = w1.heap.size := (by omega))
  (try simp only [Exit.inBlock, Exit.then])
  refine bodyPost_ret (ret_head3 rfl agg24 size24 rfl ((HB.set z1.out 0 0 0).keep (Below.alloc (Below.refl _ _) (Nat.le_refl _) _))) rfl ?_
  exact ⟨none, 0, rfl, recs_none _ _ _, Below.alloc (box_set B1.out) (by simp; exact B1.out.size) _⟩

set_option maxHeartbeats 1000000 in
theorem parse_short (ao : Option Addr) (n cap : Nat) (xs : List Nat) (w : World) (h : Rd w ao n cap xs) (hx : ∀ x ∈ xs, x < 256) (hn2 : n ≤ 140737488355328) (hT : Tab w) (he : (rdH xs).2 = 0) (hc4 : hC xs ≤ 4000) (hl : xs.length < (1 + hC xs * 5) * 128) :
    Calls Tryz.prog 80 #[.slice ao n cap] w (JIs xs w) := by
  have eJ : rdJ xs = ((0, 0, 0), 0, 9) := by unfold rdJ; rw [if_neg (by simp [he]), if_pos hl]
  have eH : rdH xs = ((hC xs, hP xs, hN xs), 0) := by
    have hh := (rdH_err xs).1 he
    unfold hotN at hh
    simp only [Bool.and_eq_true, decide_eq_true_eq] at hh
    unfold rdH
    rw [if_neg (by omega), if_pos hh.2]
  unfold JIs
  rw [eJ]
  have A0 : Below w.heap.size w (w.alloc (.cells #[.int .i64 0, .int .i64 0, .int .u64 0] 140)) := Below.alloc (Below.refl _ _) (Nat.le_refl _) _
  have c := hid (rhead_all ao n cap xs _ (h.keep A0) hx hn2 (hT.keep A0))
  rw [eH] at c
  simp only at c
  have hn := h.1
  generalize hC xs = C at *
  generalize hP xs = P at *
  generalize hN xs = M at *
  have z0 := hid (HB.new 140 w 0 0 0)
  have A0' := hid A0
  have cs := hid (sectors_any (C : Int))
  obtain ⟨K, hK⟩ : ∃ K : Nat, secN (C : Int) = (K : Int) ∧ K = 1 + C * 5 := ⟨1 + C * 5, by unfold secN; omega, rfl⟩
  rw [hK.1] at cs
  have hKb : K ≤ 20001 := by omega
  have hlt : (n : Int) < (K : Int) * 128 := by omega
  clear h hx hT A0 eJ eH hK hl he
  go_enter Tryz.func80, Tryz.ntmps80
  go_wp2_with (first
    | (go_at_call 105; refine c.out.mono ?_; rintro e w1 ⟨rfl, hb1⟩; have z1 := hid (z0.out.keep hb1); have B1 := hid (gt A0'.out hb1); clear hb1; obtain ⟨q0, q1, q2, f0, f1, f2⟩ := z1.out.cells; have hlt := z1.out.lt; have hne1 : ¬ w.heap.size = w1.heap.size := (by omega))
    | (go_at_call 106; refine (cs.out _).mono ?_; rintro e w2 ⟨rfl, hw2⟩; obtain rfl := hw2.symm))
  (try simp only [Exit.inBlock, Exit.then])
  refine bodyPost_ret (ret_head3 rfl agg24 size24 rfl ((HB.set z1.out 0 0 0).keep (Below.alloc (Below.refl _ _) (Nat.le_refl _) _))) rfl ?_
  exact ⟨none, 0, rfl, recs_none _ _ _, Below.alloc (box_set B1.out) (by simp; exact B1.out.size) _⟩

theorem box_set' {w W : World} {a b c : Value} {B : Nat} (h : Below B w W) (hB : B ≤ w.heap.size) : Below B w (((W.setCell ⟨w.heap.size, 0, none⟩ a).setCell ⟨w.heap.size, 1, none⟩ b).setCell ⟨w.heap.size, 2, none⟩ c) :=
  Below.setCell (Below.setCell (Below.setCell h hB _) hB _) hB _

theorem allR_step {xs : List Nat} {M i C J : Nat} {A : Bool} (hi : i < C) (hJ : J = 128 + i * 640) (h : allR xs M i (C - i) = A) : (isRec (xs.drop J) M && allR xs M (i + 1) (C - (i + 1))) = A := by
  rw [show C - i = (C - (i + 1)) + 1 by omega] at h
  rw [hJ]
  exact h
theorem rep_step {i C : Nat} (h : i < C) : List.replicate (C - i) zr = zr :: List.replicate (C - (i + 1)) zr := by
  rw [show C - i = (C - (i + 1)) + 1 by omega, List.replicate_succ]
theorem row_get0 {i : Nat} {l m : List (Int × Option Addr × Nat × Nat)} (h : i = l.length) : (rv (l ++ zr :: m))[i * 2]? = some (.int .i64 0) := by rw [h]; exact (rv_get l zr m).1
theorem row_get1 {i : Nat} {l m : List (Int × Option Addr × Nat × Nat)} (h : i = l.length) : (rv (l ++ zr :: m))[i * 2 + 1]? = some (.slice none 0 0) := by rw [h]; exact (rv_get l zr m).2

/-- A record is stored in its place in the row. -/
theorem row_step {w w5 : World} {g q i C M : Nat} {P : Nat} {l m : List (Int × Option Addr × Nat × Nat)} {p : Int} {a : Option Addr} {n c : Nat} (hll : l.length = i) (R : RowIs w5 g (l ++ zr :: m)) (z : HB 140 w5 w.heap.size 0 0 0) (y : HB 140 w5 q C P M) (B : Below w.heap.size w w5) (hg : w.heap.size ≤ g) :
    RowIs ((w5.setCell ⟨g, i * 2, none⟩ (.int .i64 p)).setCell ⟨g, i * 2 + 1, none⟩ (.slice a n c)) g ((l ++ [(p, a, n, c)]) ++ m) ∧
    HB 140 ((w5.setCell ⟨g, i * 2, none⟩ (.int .i64 p)).setCell ⟨g, i * 2 + 1, none⟩ (.slice a n c)) w.heap.size 0 0 0 ∧
    HB 140 ((w5.setCell ⟨g, i * 2, none⟩ (.int .i64 p)).setCell ⟨g, i * 2 + 1, none⟩ (.slice a n c)) q C P M ∧
    Below w.heap.size w ((w5.setCell ⟨g, i * 2, none⟩ (.int .i64 p)).setCell ⟨g, i * 2 + 1, none⟩ (.slice a n c)) ∧
    (∀ P' D', Dat w5 P' D' 0 l → (p = P' i ∧ Rd w5 a n c (D' i)) → Dat ((w5.setCell ⟨g, i * 2, none⟩ (.int .i64 p)).setCell ⟨g, i * 2 + 1, none⟩ (.slice a n c)) P' D' 0 (l ++ [(p, a, n, c)])) := by
  have e : (l ++ [(p, a, n, c)]) ++ m = l ++ (p, a, n, c) :: m := by simp
  have h1 := R.set p a n c
  rw [hll] at h1
  refine ⟨by rw [e]; exact h1, ?_, ?_, Below.setCell (Below.setCell B hg _) hg _, fun P' D' hd hr => ?_⟩
  · have hne := z.ne_row (by decide) R
    exact (z.grown (grow_set _ _ _ _) hne).grown (grow_set _ _ _ _) hne
  · have hne := y.ne_row (by decide) R
    exact (y.grown (grow_set _ _ _ _) hne).grown (grow_set _ _ _ _) hne
  · refine (hd.set R).snoc ⟨by rw [hll, Nat.zero_add]; exact hr.1, ?_⟩
    rw [hll, Nat.zero_add]
    have hne := rd_ne_row hr.2 R
    exact rd_set0 (rd_set0 hr.2 hne) hne

theorem HB.kind {t : TypeId} {W : World} {q : Nat} {c p : Int} {n : Nat} (h : HB t W q c p n) (j : Nat) (v : Value) (hv : W.cell? ⟨q, j, none⟩ = some v) : (∃ z, v = .int .i64 z) ∨ ∃ z, v = .int .u64 z := by
  rw [World.cell?] at hv
  unfold HB at h
  simp only [h] at hv
  match j, hv with
  | 0, hv => simp at hv; exact Or.inl ⟨_, hv.symm⟩
  | 1, hv => simp at hv; exact Or.inl ⟨_, hv.symm⟩
  | 2, hv => simp at hv; exact Or.inr ⟨_, hv.symm⟩
  | j + 3, hv => simp at hv

/-- A store into a box of a head turns no records. -/
theorem Recs.box {t : TypeId} {W : World} {q i : Nat} {c p : Int} {n : Nat} {v : Value} {ao : Option Addr} {L : Nat} {P : Nat → Int} {D : Nat → List Nat} (hq : HB t W q c p n) (h : Recs W ao L P D) : Recs (W.setCell ⟨q, i, none⟩ v) ao L P D := by
  intro hL
  obtain ⟨b, off, e, hc⟩ := h hL
  refine ⟨b, off, e, fun j hj => ?_⟩
  obtain ⟨a, k, c, h0, h1, h2⟩ := hc j hj
  have hb : b ≠ q := by
    rintro rfl
    rcases hq.kind _ _ h1 with ⟨z, hz⟩ | ⟨z, hz⟩ <;> cases hz
  refine ⟨a, k, c, grow_cell (grow_set _ _ _ _) h0 hb, grow_cell (grow_set _ _ _ _) h1 hb, rd_set0 h2 fun hk b' off' e' => ?_⟩
  subst e'
  obtain ⟨b2, off2, e2, hc2⟩ := h2.2.2.2 hk
  cases e2
  rintro rfl
  rcases hq.kind _ _ (hc2 0 hk) with ⟨z, hz⟩ | ⟨z, hz⟩ <;> cases hz

theorem Recs.box3 {t : TypeId} {W : World} {q : Nat} {c p : Int} {n : Nat} {ao : Option Addr} {L : Nat} {P : Nat → Int} {D : Nat → List Nat} (hq : HB t W q c p n) (h : Recs W ao L P D) (c' p' : Int) (n' : Nat) : Recs (((W.setCell ⟨q, 0, none⟩ (.int .i64 c')).setCell ⟨q, 1, none⟩ (.int .i64 p')).setCell ⟨q, 2, none⟩ (.int .u64 (n' : Int))) ao L P D := by
  have h1 : HB t (W.setCell ⟨q, 0, none⟩ (.int .i64 c')) q c' p n := by
    unfold HB
    rw [heap_setCell_same W q 0 _ t (.int .i64 c') hq]
    simp
  have h2 : HB t ((W.setCell ⟨q, 0, none⟩ (.int .i64 c')).setCell ⟨q, 1, none⟩ (.int .i64 p')) q c' p' n := by
    unfold HB
    rw [heap_setCell_same _ q 1 _ t (.int .i64 p') h1]
    simp
  exact Recs.box h2 (Recs.box h1 (Recs.box hq h))

set_option maxHeartbeats 8000000 in
theorem parse_ok (ao : Option Addr) (n cap : Nat) (xs : List Nat) (w : World) (h : Rd w ao n cap xs) (hx : ∀ x ∈ xs, x < 256) (hn2 : n ≤ 140737488355328) (hT : Tab w) (he : (rdH xs).2 = 0) (hc4 : hC xs ≤ 4000) (hl : (1 + hC xs * 5) * 128 ≤ xs.length) :
    Calls Tryz.prog 80 #[.slice ao n cap] w (JIs xs w) := by
  have eJ : rdJ xs = if allR xs (hN xs) 0 (hC xs) && goodL (hC xs) (hP xs) (hC xs) (pP xs) (pD xs) then ((hC xs, hP xs, hN xs), hC xs, 0) else ((0, 0, 0), 0, 9) := by unfold rdJ; rw [if_neg (by simp [he]), if_neg (by omega)]
  have eH : rdH xs = ((hC xs, hP xs, hN xs), 0) := by
    have hh := (rdH_err xs).1 he
    unfold hotN at hh
    simp only [Bool.and_eq_true, decide_eq_true_eq] at hh
    unfold rdH
    rw [if_neg (by omega), if_pos hh.2]
  have A0 : Below w.heap.size w (w.alloc (.cells #[.int .i64 0, .int .i64 0, .int .u64 0] 140)) := Below.alloc (Below.refl _ _) (Nat.le_refl _) _
  have c := hid (rhead_all ao n cap xs _ (h.keep A0) hx hn2 (hT.keep A0))
  rw [eH] at c
  simp only at c
  have hn := h.1
  generalize hC xs = C at *
  generalize hP xs = P at *
  generalize hN xs = M at *
  obtain ⟨b0, o0, rfl, _⟩ := h.2.2.2 (by omega)
  have hcap := h.2.1
  have z0 := hid (HB.new 140 w 0 0 0)
  have A0' := hid A0
  have cs := hid (sectors_any (C : Int))
  obtain ⟨K, hK⟩ : ∃ K : Nat, secN (C : Int) = (K : Int) ∧ K = 1 + C * 5 := ⟨1 + C * 5, by unfold secN; omega, rfl⟩
  rw [hK.1] at cs
  have hKb : K ≤ 20001 := by omega
  have hnlt : ¬ (n : Int) < (K : Int) * 128 := by omega
  have hnC : Hid (128 + C * 640 ≤ n) := hid (by omega)
  have hmk := make27 C (by omega)
  have hT' := hid hT
  have h' := hid h
  have hx' := hid hx
  obtain ⟨Z, hZ⟩ : ∃ Z, Z = rv (List.replicate C zr) := ⟨_, rfl⟩
  rw [← hZ] at hmk
  have hZ' := hid hZ
  have eJ' := hid eJ
  clear h hx hT A0 eJ eH hK hl he hZ
  go_enter Tryz.func80, Tryz.ntmps80
  go_wp2_with (first
    | (go_at_call 105; refine c.out.mono ?_; rintro e w1 ⟨rfl, hb1⟩; have z1 := hid (z0.out.keep hb1); have B1 := hid (gt A0'.out hb1); clear hb1; obtain ⟨q0, q1, q2, f0, f1, f2⟩ := z1.out.cells; have hlt := z1.out.lt; have hne1 : ¬ w.heap.size = w1.heap.size := (by omega))
    | (go_at_call 106; refine (cs.out _).mono ?_; rintro e w2 ⟨rfl, hw2⟩; obtain rfl := hw2.symm))
  obtain ⟨W3, hW3⟩ : ∃ W3, W3 = (w1.alloc (.cells #[.int .i64 (C : Int), .int .i64 (P : Int), .int .u64 (M : Int)] 140)).alloc (.cells Z.toArray 168) := ⟨_, rfl⟩
  rw [← hW3]
  have A3 : Below w1.heap.size w1 W3 := by rw [hW3]; exact Below.alloc (Below.alloc (Below.refl _ _) (Nat.le_refl _) _) (by simp) _
  have z3 := hid (z1.out.keep A3)
  have y3 : Hid (HB 140 W3 w1.heap.size C P M) := hid (by rw [hW3]; exact (HB.new 140 w1 C P M).keep (Below.alloc (Below.refl _ _) (Nat.le_refl _) _))
  have R3 : Hid (RowIs W3 (w1.heap.size + 1) ([] ++ List.replicate (C - 0) zr)) := hid (by
    rw [hW3, hZ'.out, Nat.sub_zero, List.nil_append]
    have := heap_alloc_new (w1.alloc (.cells #[.int .i64 (C : Int), .int .i64 (P : Int), .int .u64 (M : Int)] 140)) (.cells (rv (List.replicate C zr)).toArray 168)
    unfold RowIs
    rw [← this]
    simp)
  have B3 := hid (gt B1.out A3)
  obtain ⟨A, hA⟩ : ∃ A, A = allR xs M 0 C := ⟨_, rfl⟩
  have hA' := hid hA
  have E3 : Hid (allR xs M 0 (C - 0) = A) := hid (by rw [hA, Nat.sub_zero])
  rw [← hA] at eJ'
  have hgw : w.heap.size ≤ w1.heap.size + 1 := by omega
  clear hW3 A3 hA q0 q1 q2 f0 f1 f2 hmk hZ' hne1 hlt hnlt
  generalize w1.heap.size = q at *
  obtain ⟨g, hg⟩ : ∃ g, g = q + 1 := ⟨_, rfl⟩
  rw [← hg] at R3 hgw ⊢
  clear hg
  go_loopw [6, 31] (fun s6 cc W => ∃ (i : Nat) (l : List (Int × Option Addr × Nat × Nat)), i ≤ C ∧ s6 = .int .i64 0 ∧ cc = .int .i64 (i : Int) ∧ l.length = i ∧ Hid (RowIs W g (l ++ List.replicate (C - i) zr)) ∧ Hid (Dat W (pP xs) (pD xs) 0 l) ∧ Hid (allR xs M i (C - i) = A) ∧ Hid (HB 140 W w.heap.size 0 0 0) ∧ Hid (HB 140 W q C P M) ∧ Hid (Below w.heap.size w W)) (fun _ cc _ => C - (intOf cc).toNat)
  case atStart => exact ⟨0, [], by omega, rfl, rfl, rfl, R3, hid trivial, E3, z3, y3, B3⟩
  case round =>
    obtain ⟨i, l, hi, rfl, rfl, hll, R, DA, E, z, y, B⟩ := hrel
    clear R3 E3 z3 y3 B3
    by_cases hiC : i < C
    · obtain ⟨I6, hI6, hI62⟩ : ∃ I6 : Nat, (i : Int) * 640 = (I6 : Int) ∧ I6 = i * 640 := ⟨i * 640, by omega, rfl⟩
      obtain ⟨J, hJ, hJ2⟩ : ∃ J : Nat, (128 : Int) + (I6 : Int) = (J : Int) ∧ J = 128 + i * 640 := ⟨128 + i * 640, by omega, rfl⟩
      have hI6b : I6 ≤ 2560000 := by omega
      have hI6w : IntKind.i64.wrap (I6 : Int) = (I6 : Int) := by rw [IntKind.wrap_i64]; omega
      have hJw : IntKind.i64.wrap (J : Int) = (J : Int) := by rw [IntKind.wrap_i64]; omega
      have hncI : (n : Int) ≤ (cap : Int) := by omega
      clear hI62
      have hJn : J + 640 ≤ n := by have := hnC.out; omega
      have hJc : (J : Int) ≤ (cap : Int) := by omega
      have hJl : (J : Int) ≤ (n : Int) := by omega
      have hJne : ¬ cap = J := by omega
      have rj := hid ((h'.out.from_ J (by omega)).2 hJne)
      have xj := hid (drop_bytes hx'.out J)
      have hJ2' := hid hJ2
      have hJlen : (xs.drop J).length = n - J := by simp; omega
      have RR : Hid (RowIs wr g (l ++ zr :: List.replicate (C - (i + 1)) zr)) := hid (rep_step hiC ▸ R.out)
      obtain ⟨y0, y1, y2, _, _, _⟩ := y.out.cells
      have hri : Hid (i = l.length) := hid hll.symm
      have E' := hid (allR_step hiC hJ2 E.out)
      clear E R hJ2
      cases hR : isRec (xs.drop J) M with
      | true =>
        have eR : Hid (rdR (xs.drop J) M = ((rP (xs.drop J), rD (xs.drop J)), 0)) := hid (by unfold rdR; rw [if_neg (by omega), if_pos hR])
        have E2 : Hid (allR xs M (i + 1) (C - (i + 1)) = A) := hid (by rw [← E'.out, hR, Bool.true_and])
        clear hR E'
        go_upto_region 10 with fail
        go_region_with (go_at_call 107; refine (rrec_all (some ⟨b0, o0 + J, none⟩) (n - J) (cap - J) (xs.drop J) M _ (rj.out.keep B.out.drew) xj.out (by omega) (hT'.out.keep B.out.drew)).mono ?_; rw [eR.out]; rintro e w5 ⟨a5, c5, rfl, r5, hb5⟩; replace hb5 := undrew hb5; have z5 := hid (z.out.keep hb5); have y5 := hid (y.out.keep hb5); have RR5 := hid (RR.out.keep hb5); have D5 := hid (DA.out.keep hb5); have B5 := hid (gt B.out hb5); have r5' := hid r5; have c0 := RR5.out.cellAt (i * 2); have c1 := RR5.out.cellAt (i * 2 + 1); rw [row_get0 hri.out] at c0; rw [row_get1 hri.out] at c1; have f0 := RR5.out.frozenAt (i * 2); have f1 := RR5.out.frozenAt (i * 2 + 1); clear hb5 r5 y0 y1 y2)
        have RS := hid (row_step (p := ((rP (xs.drop J) : Nat) : Int)) (a := a5) (n := (rD (xs.drop J)).length) (c := c5) hll RR5.out z5.out y5.out B5.out hgw)
        go_wp2
        refine ⟨⟨i + 1, l ++ [(((rP (xs.drop J) : Nat) : Int), a5, (rD (xs.drop J)).length, c5)], by omega, rfl, by go_num, by simp [hll], hid RS.out.1, hid (RS.out.2.2.2.2 _ _ D5.out ⟨?_, ?_⟩), E2, hid RS.out.2.1, hid RS.out.2.2.1, hid RS.out.2.2.2.1⟩, by simp [intOf]; omega⟩
        · unfold pP; rw [← hJ2'.out]
        · unfold pD; rw [← hJ2'.out]; exact r5'.out
      | false =>
        have eR : Hid (rdR (xs.drop J) M = ((0, []), 9)) := hid (by unfold rdR; rw [if_neg (by omega), if_neg (by rw [hR]; simp)])
        have hAf : A = false := by rw [← E'.out, hR, Bool.false_and]
        have eJ2 : Hid (rdJ xs = ((0, 0, 0), 0, 9)) := hid (by rw [eJ'.out, hAf, Bool.false_and]; rfl)
        clear hR E'
        go_upto_region 10 with fail
        go_region_with (go_at_call 107; refine (rrec_all (some ⟨b0, o0 + J, none⟩) (n - J) (cap - J) (xs.drop J) M _ (rj.out.keep B.out.drew) xj.out (by omega) (hT'.out.keep B.out.drew)).mono ?_; rw [eR.out]; rintro e w5 ⟨a5, c5, rfl, r5, hb5⟩; replace hb5 := undrew hb5; have z5 := hid (z.out.keep hb5); have y5 := hid (y.out.keep hb5); have RR5 := hid (RR.out.keep hb5); have D5 := hid (DA.out.keep hb5); have B5 := hid (gt B.out hb5); have r5' := hid r5; have c0 := RR5.out.cellAt (i * 2); have c1 := RR5.out.cellAt (i * 2 + 1); rw [row_get0 hri.out] at c0; rw [row_get1 hri.out] at c1; have f0 := RR5.out.frozenAt (i * 2); have f1 := RR5.out.frozenAt (i * 2 + 1); clear hb5 r5 y0 y1 y2)
        have RS := hid (row_step (p := 0) (a := a5) (n := 0) (c := c5) hll RR5.out z5.out y5.out B5.out hgw)
        obtain ⟨W6, hW6⟩ : ∃ W6, W6 = (w5.setCell ⟨g, i * 2, none⟩ (.int .i64 0)).setCell ⟨g, i * 2 + 1, none⟩ (.slice a5 0 c5) := ⟨_, rfl⟩
        rw [← hW6] at RS
        have z6 := hid RS.out.2.1
        have B6 := hid RS.out.2.2.2.1
        obtain ⟨q0, q1, q2, f0, f1, f2⟩ := z6.out.cells
        have hW6' := hid hW6
        clear hW6 c0 c1 RS
        rw [← hW6'.out]
        go_wp2
        (try simp only [Exit.inBlock, Exit.then])
        refine bodyPost_ret (ret_head3 rfl agg24 size24 rfl (HB.set z6.out 0 0 0)) rfl ?_
        unfold JIs
        rw [eJ2.out]
        exact ⟨none, 0, rfl, recs_none _ _ _, box_set B6.out⟩
    · obtain rfl : i = C := by omega
      have RC : Hid (Recs wr (some ⟨g, 0, none⟩) i (pP xs) (pD xs)) := hid (by
        have := R.out
        rw [Nat.sub_self, List.replicate_zero, List.append_nil] at this
        exact recs_row hll this DA.out)
      have hAt : A = true := by rw [← E.out, Nat.sub_self]; rfl
      have cg := hid (good_any (i : Int) (P : Int) M (some ⟨g, 0, none⟩) i i (pP xs) (pD xs) wr RC.out (by omega))
      obtain ⟨y0, y1, y2, _, _, _⟩ := y.out.cells
      have eJ2 := eJ'
      rw [hAt, Bool.true_and] at eJ2
      cases hG : goodL (i : Int) (P : Int) i (pP xs) (pD xs) with
      | false =>
        rw [hG] at cg
        have eJ3 : Hid (rdJ xs = ((0, 0, 0), 0, 9)) := hid (by rw [eJ2.out, hG]; rfl)
        clear hG eJ2 eJ'
        go_wp2_with (go_at_call 108; refine cg.out.mono ?_; rintro e w6 ⟨rfl, hb6⟩; have z6 := hid (z.out.keep hb6); have B6 := hid (gt B.out hb6); clear hb6 y0 y1 y2; obtain ⟨q0, q1, q2, f0, f1, f2⟩ := z6.out.cells)
        (try simp only [Exit.inBlock, Exit.then])
        refine bodyPost_ret (ret_head3 rfl agg24 size24 rfl (HB.set z6.out 0 0 0)) rfl ?_
        unfold JIs
        rw [eJ3.out]
        exact ⟨none, 0, rfl, recs_none _ _ _, box_set B6.out⟩
      | true =>
        rw [hG] at cg
        have eJ3 : Hid (rdJ xs = ((i, P, M), i, 0)) := hid (by rw [eJ2.out, hG]; rfl)
        clear hG eJ2 eJ'
        go_wp2_with (go_at_call 108; refine cg.out.mono ?_; rintro e w6 ⟨rfl, hb6⟩; have z6 := hid (z.out.keep hb6); have y6 := hid (y.out.keep hb6); have B6 := hid (gt B.out hb6); have R6 := hid (RC.out.keep hb6); clear hb6 y0 y1 y2; obtain ⟨q0, q1, q2, f0, f1, f2⟩ := z6.out.cells; obtain ⟨y0, y1, y2, _, _, _⟩ := y6.out.cells)
        (try simp only [Exit.inBlock, Exit.then])
        refine bodyPost_ret (ret_head3 rfl agg24 size24 rfl (HB.set z6.out i P M)) rfl ?_
        unfold JIs
        rw [eJ3.out]
        exact ⟨some ⟨g, 0, none⟩, i, rfl, Recs.box3 z6.out R6.out i P M, box_set B6.out⟩

theorem parse_any (ao : Option Addr) (n cap : Nat) (xs : List Nat) (w : World) (h : Rd w ao n cap xs) (hx : ∀ x ∈ xs, x < 256) (hn2 : n ≤ 140737488355328) (hT : Tab w) : Calls Tryz.prog 80 #[.slice ao n cap] w (JIs xs w) := by
  by_cases he : (rdH xs).2 = 0
  · have hc4 : hC xs ≤ 4000 := by
      have hh := (rdH_err xs).1 he
      unfold hotN isHead at hh
      simp only [Bool.and_eq_true, decide_eq_true_eq] at hh
      exact hh.2.1.2
    by_cases hl : xs.length < (1 + hC xs * 5) * 128
    · exact parse_short ao n cap xs w h hx hn2 hT he hc4 hl
    · exact parse_ok ao n cap xs w h hx hn2 hT he hc4 (by omega)
  · exact parse_err ao n cap xs w h hx hn2 hT he

end Go.Proofs.YtgjgkpnjchflaaaGreatDoor.Jrn
