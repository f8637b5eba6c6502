/- What read returns; no statement of the seat is proved here. -/
import Derived.Test.YtbpcekhfjkodcaaCc
import Derived.Test.YtbpcekhfjkodcaaBc
namespace Go.Proofs.Ytbpcekhfjkodcaa
open Go.RowKit

def nrm (a : C) : C := ⟨a.k, a.c, a.l, none, 0, 0, a.x, a.b⟩
def rdC (leaf : Bool) (o : Option (List Nat)) : C × Option (List Nat) := if leaf then rdL o else rdA o
/-- The cells that are read, up to the first that may not be. -/
def rdCs (leaf : Bool) : Nat → Option (List Nat) → List C
  | 0, _ => []
  | k + 1, o => if (rdC leaf o).2.isSome then (rdC leaf o).1 :: rdCs leaf k (rdC leaf o).2 else []
def r1 (xs : List Nat) : Nat × Option (List Nat) := numO 1 (some xs)
def r2 (xs : List Nat) : Nat × Option (List Nat) := numO 2 (r1 xs).2
def r3 (xs : List Nat) : Nat × Option (List Nat) := numO 4 (r2 xs).2
def rnL (xs : List Nat) : Bool := (((r1 xs).1 % 256 : Nat) : Int) == 1
def rnC (xs : List Nat) : List C := rdCs (rnL xs) (r2 xs).1 (r3 xs).2

/-- A cell whose bytes lie in a block of bytes. -/
structure Ck5 (W : World) (a : C) : Prop where
  ok : Cok W a
  t5 : 0 < a.n → ∀ b o, a.o = some ⟨b, o, none⟩ → T5 W b
theorem Ck5.five {W W' : World} {a : C} (h : Ck5 W a) (k : Five W W') : Ck5 W' a := ⟨{ h.ok with rd := h.ok.rd.five h.t5 k }, fun hn b o e => (h.t5 hn b o e).five k⟩

theorem own_grown {W W' : World} {B p n : Nat} {v : Value} {xs : List Value} {C : Array Value} {m : Nat × Nat} (h : W.ownsRow B 57 5 v n xs) (hp : W.heap[p]? = some (.cells C 102 m)) (hg : W.grownBy W' (some p)) : W'.ownsRow B 57 5 v n xs := by
  refine ⟨h.1, ?_⟩
  rcases h.2 with h1 | ⟨g, cap, cur, e, hb, hgg, h2⟩
  · exact Or.inl h1
  · refine Or.inr ⟨g, cap, cur, e, hb, ?_, h2⟩
    rw [hg.block g (lt_of_block hgg) (by intro e; cases e; rw [hp] at hgg; simp only [Option.some.injEq, Obj.cells.injEq] at hgg; exact absurd hgg.2.1 (by decide))]
    exact hgg
theorem five_own {W W' : World} {B n : Nat} {v : Value} {xs : List Value} (h : W.ownsRow B 57 5 v n xs) (hg : W.grownBy W' v.ownBlock) : Five W W' := by
  intro b C m hx
  rw [hg.block b (lt_of_block hx) ?_]
  · exact hx
  · intro hv
    obtain ⟨hl, ⟨rfl, rfl⟩ | ⟨g', cap, cur, rfl, hb', hg', rest⟩⟩ := h
    · simp [Value.ownBlock] at hv
    · simp [Value.ownBlock] at hv
      subst hv
      rw [hx] at hg'
      simp only [Option.some.injEq, Obj.cells.injEq] at hg'
      exact absurd hg'.2.1 (by decide)
theorem NB.grown {t : TypeId} {W W' : World} {q p : Nat} {leaf : Bool} {r : Int} {co : Option Addr} {cn cc : Nat} (h : NB t W q leaf r co cn cc) (hg : W.grownBy W' (some p)) (hne : q ≠ p) : NB t W' q leaf r co cn cc := by
  unfold NB; rw [hg.block q h.lt (by simpa using hne)]; exact h
theorem NB.under {t : TypeId} {W W' : World} {q B : Nat} {leaf : Bool} {r : Int} {co : Option Addr} {cn cc : Nat} (h : NB t W q leaf r co cn cc) (hb : Below B W W') (hq : q < B) : NB t W' q leaf r co cn cc := by
  unfold NB; rw [hb.block q hq]; exact h
theorem RX.under {W W' : World} {q p B : Nat} (h : RX W q p) (hb : Below B W W') (hq : q < B) : RX W' q p := by
  unfold RX; rw [hb.block q hq]; exact h
theorem NB.set1 {t : TypeId} {W : World} {q : Nat} {leaf : Bool} {r : Int} {co : Option Addr} {cn cc : Nat} (h : NB t W q leaf r co cn cc) (r' : Int) : NB t (W.setCell ⟨q, 1, none⟩ (.int .i64 r')) q leaf r' co cn cc := by
  have h1 := heap_setCell_same W q 1 _ t (.int .i64 r') h
  unfold NB
  rw [h1]; simp
theorem Try.info57 : (Try.prog.info? 57).map (fun i => (i.zero, i.size, i.bytes)) = some (some (.agg #[.int .i64 0, .int .i64 0, .int .i64 0, .slice none 0 0, .int .i64 0]), 5, 56) := by kernel_rfl

/-- One cell that is read: both ways. -/
def IsCell (leaf : Bool) (p : Nat) (o : Option (List Nat)) (W : World) (e : Ending) (w' : World) : Prop :=
  ∃ a : C, e = .returned (.agg #[.int .i64 (a).k, .int .i64 (a).c, .int .i64 (a).l, .slice (a).o (a).n (a).m, .int .i64 (a).x]) ∧ nrm a = (rdC leaf o).1 ∧ Ck5 w' a ∧ Src w' p (rdC leaf o).2 ∧ W.grownBy w' (some p)

theorem zagI {W : World} {p : Nat} {o : Option (List Nat)} (h : Src W p o) : I64 (zagN (varO 18446744073709551615 o).1) := zag_in _ (varO_lt h _).1

theorem by_num {o : Option (List Nat)} (h : ∀ xs, o = some xs → ∀ x ∈ xs, x < 256) (s : Nat) : ∀ xs, (numO s o).2 = some xs → ∀ x ∈ xs, x < 256 := by
  intro ys hy
  cases o with
  | none => simp [numO] at hy
  | some xs =>
    simp only [numO] at hy
    split at hy
    · simp only [Option.some.injEq] at hy; subst hy; exact drop_by (h xs rfl) s
    · simp at hy
theorem var_lt' {o : Option (List Nat)} (h : ∀ xs, o = some xs → ∀ x ∈ xs, x < 256) (most : Nat) : (varO most o).1 < 18446744073709551616 := by
  cases o with
  | none => simp [varO]
  | some xs =>
    have hb := (asm_bound 8 0 xs (h xs rfl) (by omega) (by simp)).1
    simp only [varO]
    split
    · simp
    · exact hb
theorem src_by {W : World} {p : Nat} {o : Option (List Nat)} (h : Src W p o) : ∀ xs, o = some xs → ∀ x ∈ xs, x < 256 := by
  intro xs e
  subst e
  exact h.2

theorem cell_above (p : Nat) (o : Option (List Nat)) (W : World) (h : Src W p o) : Calls Try.prog 55 #[.agg #[.func (.func 51) #[.pointer (some ⟨p, 0, none⟩)] #[], .func (.func 52) #[.pointer (some ⟨p, 0, none⟩)] #[], .func (.func 53) #[.pointer (some ⟨p, 0, none⟩)] #[]]] W (IsCell false p o W) := by
  refine (above_src p o W h).mono fun e w' ⟨he, hs, hg⟩ => ⟨(rdA o).1, he, rfl, ?_, hs, hg⟩
  have h1 := numO_lt h 4
  have h2 := var_lt' (by_num (src_by h) 4) 18446744073709551615
  exact ⟨{ rd := Rd.nil _, by8 := by simp [rdA], kI := zag_in _ h2, cI := ⟨by simp only [rdA]; omega, by simp only [rdA]; simp at h1; omega⟩, lI := ⟨by simp [rdA], by simp [rdA]⟩, xI := ⟨by simp [rdA], by simp [rdA]⟩, nB := by simp [rdA, big] }, fun hn => by simp [rdA] at hn⟩

theorem cell_leaf (p : Nat) (o : Option (List Nat)) (W : World) (h : Src W p o) : Calls Try.prog 56 #[.agg #[.func (.func 51) #[.pointer (some ⟨p, 0, none⟩)] #[], .func (.func 52) #[.pointer (some ⟨p, 0, none⟩)] #[], .func (.func 53) #[.pointer (some ⟨p, 0, none⟩)] #[]]] W (IsCell true p o W) := by
  refine (inleaf_src p o W h).mono fun e w' ⟨ao, n, m, he, hr, h8, h5, hs, hg⟩ => ?_
  have h1 := (varO_lt h 18446744073709551615).1
  have h2 : (rl2 o).1 ≤ 20000 := by
    unfold rl2
    cases h2 : (rl1 o).2 with
    | none => simp [varO]
    | some ys =>
      simp only [varO]
      split
      · simp
      · simp only; omega
  have h3 : (rl4 o).1 ≤ 4294967296 := by
    unfold rl4
    split
    · have hby : ∀ xs, (rl3 o).2 = some xs → ∀ x ∈ xs, x < 256 := by
        intro xs e
        unfold rl3 at e
        have hv : ∀ ys, (rl2 o).2 = some ys → ∀ x ∈ ys, x < 256 := by
          intro ys e2
          unfold rl2 at e2
          have hv1 : ∀ zs, (rl1 o).2 = some zs → ∀ x ∈ zs, x < 256 := by
            intro zs e3
            unfold rl1 at e3
            cases o with
            | none => simp [varO] at e3
            | some us =>
              simp only [varO] at e3
              split at e3
              · simp at e3
              · simp only [Option.some.injEq] at e3; subst e3; exact drop_by h.2 _
          cases h4 : (rl1 o).2 with
          | none => rw [h4] at e2; simp [varO] at e2
          | some us =>
            rw [h4] at e2
            simp only [varO] at e2
            split at e2
            · simp at e2
            · simp only [Option.some.injEq] at e2; subst e2; exact drop_by (hv1 us h4) _
        cases h4 : (rl2 o).2 with
        | none => rw [h4] at e; simp [bytesO] at e
        | some us =>
          rw [h4] at e
          simp only [bytesO] at e
          split at e
          · simp only [Option.some.injEq] at e; subst e; exact drop_by (hv us h4) _
          · simp at e
      cases h4 : (rl3 o).2 with
      | none => simp [numO]
      | some us =>
        simp only [numO]
        split
        · rename_i hl
          have := psum_bound us 4 (hby us h4) hl
          simp at this ⊢
          omega
        · simp
    · simp
  have h4 : (rdL o).1.b.length ≤ 96 := by
    simp only [rdL, rl3]
    have := locN_le ((rl2 o).1 : Nat)
    cases (rl2 o).2 with
    | none => simp [bytesO]
    | some us =>
      simp only [bytesO]
      split
      · simp; omega
      · simp
  refine ⟨⟨(rdL o).1.k, 0, (rdL o).1.l, ao, n, m, (rdL o).1.x, (rdL o).1.b⟩, he, rfl, ⟨{ rd := hr, by8 := h8, kI := zag_in _ h1, cI := ⟨by simp, by simp⟩, lI := ⟨by simp only [rdL]; omega, by simp only [rdL]; omega⟩, xI := ⟨by simp only [rdL]; omega, by simp only [rdL]; omega⟩, nB := ?_ }, h5⟩, hs, hg⟩
  have := hr.1
  simp only [big]
  omega

set_option maxHeartbeats 8000000 in
set_option maxRecDepth 20000 in
theorem read_true (ao : Option Addr) (cap : Nat) (xs : List Nat) (w : World) (h : Rd w ao 512 cap xs) (hx : ∀ x ∈ xs, x < 256) (hL : rnL xs = true) :
    Calls Try.prog 30 #[.slice ao 512 cap] w fun e w' => ∃ co cn cc cs, e = .returned (.agg #[.bool true, .int .i64 ((r3 xs).1 : Nat), .slice co cn cc]) ∧ Cs w' co cn cc cs ∧ cs.map nrm = rnC xs ∧ Below w.heap.size w w' := by
  have q2n := hid (NB.new 24 w false 0 none 0 0)
  have B0 : Hid (Below w.heap.size w (w.alloc (.cells #[.bool false, .int .i64 0, .slice none 0 0] 24))) := hid (ext1 _)
  have c50 := hid (read_ok ao 512 cap xs _ (h.keep B0.out) (by omega))
  have cb := hid (fun p W (hs : Src W p (some xs)) => byte_src p (some xs) W hs)
  have c2 := hid (fun p W (hs : Src W p (r1 xs).2) => num_src p 2 (r1 xs).2 W hs (by omega) (by omega))
  have c3 := hid (fun p W (hs : Src W p (r2 xs).2) => link_src p (r2 xs).2 W hs)
  have cn := hid (fun p o W hs => cell_leaf p o W hs)
  have ce := hid (fun p o W hs => err_src p o W hs)
  have hx' := hid hx
  change Hid (∀ p W, Src W p (some xs) → Calls Try.prog 54 #[.pointer (some ⟨p, 0, none⟩)] W fun e w' => e = .returned (.int .u8 ((((r1 xs).1 % 256 : Nat)) : Int)) ∧ Src w' p (r1 xs).2 ∧ W.grownBy w' (some p)) at cb
  change Hid (∀ p W, Src W p (r1 xs).2 → Calls Try.prog 51 #[.pointer (some ⟨p, 0, none⟩), .int .i64 ((2 : Nat) : Int), .bool false] W fun e w' => e = .returned (.int .u64 ((r2 xs).1 : Nat)) ∧ Src w' p (r2 xs).2 ∧ W.grownBy w' (some p)) at c2
  change Hid (∀ p W, Src W p (r2 xs).2 → Calls Try.prog 57 #[.agg #[.func (.func 51) #[.pointer (some ⟨p, 0, none⟩)] #[], .func (.func 52) #[.pointer (some ⟨p, 0, none⟩)] #[], .func (.func 53) #[.pointer (some ⟨p, 0, none⟩)] #[]]] W fun e w' => e = .returned (.int .i64 ((r3 xs).1 : Nat)) ∧ Src w' p (r3 xs).2 ∧ W.grownBy w' (some p)) at c3
  have hK : (r2 xs).1 ≤ 65535 := by
    unfold r2
    have hby : ∀ ys, (r1 xs).2 = some ys → ∀ x ∈ ys, x < 256 := by_num (o := some xs) (fun ys e => by simp only [Option.some.injEq] at e; subst e; exact hx) 1
    cases h4 : (r1 xs).2 with
    | none => simp [numO]
    | some us =>
      simp only [numO]
      split
      · rename_i hl
        have := psum_bound us 2 (hby us h4) hl
        simp at this ⊢
        omega
      · simp
  have hC : Hid (rnC xs = rdCs true (r2 xs).1 (r3 xs).2) := hid (by unfold rnC; rw [hL])
  unfold rnL at hL
  generalize (r1 xs).1 % 256 = LB at *
  generalize r1 xs = R1 at *
  obtain ⟨v1, o1⟩ := R1
  generalize r3 xs = R3 at *
  obtain ⟨v3, o3⟩ := R3
  generalize r2 xs = R2 at *
  obtain ⟨K, o2⟩ := R2
  generalize rnC xs = RC at *
  simp only at *
  obtain ⟨i57, hi57, hz0, hz1, hz2⟩ := info_parts Try.info57
  have HI := hid hi57; have HZ0 := hid hz0; have HZ1 := hid hz1; have HZ2 := hid hz2
  clear h hi57 hz0 hz1 hz2 hx
  go_enter Try.func30, Try.ntmps30
  go_wp2_with (first
    | (go_at_call 50; refine c50.out.mono ?_; rintro e w1 ⟨p, rfl, hp, hs, hb⟩; have S1 := hid (show Src w1 p (some xs) from ⟨hs, hx'.out⟩); have B1 := hid (gt B0.out hb); have Q1 := hid (q2n.out.keep hb); have hp' := hid (show w.heap.size < p from (by simp at hp; omega)); have hpl := hid (S1.out.lt); clear hs hb hp)
    | (go_at_call 54; refine (cb.out p _ (S1.out.keep (ext1 _))).mono ?_; rintro e w2 ⟨rfl, hs, hg⟩; have S2 := hid hs; have G2 := hid (grow_trans (grow_below (show Below w1.heap.size w1 _ from ext1 (.cells #[.func (.func 51) #[.pointer (some ⟨p, 0, none⟩)] #[], .func (.func 52) #[.pointer (some ⟨p, 0, none⟩)] #[], .func (.func 53) #[.pointer (some ⟨p, 0, none⟩)] #[]] 83))) hg); have X2 := hid ((RX.new w1 p).grown hg (by have := hpl.out; omega)); have Q2 := hid ((Q1.out.keep (ext1 (.cells #[.func (.func 51) #[.pointer (some ⟨p, 0, none⟩)] #[], .func (.func 52) #[.pointer (some ⟨p, 0, none⟩)] #[], .func (.func 53) #[.pointer (some ⟨p, 0, none⟩)] #[]] 83))).grown hg (by have := hp'.out; omega)); clear hs hg; obtain ⟨q4, hq4⟩ : ∃ q4, q4 = w1.heap.size := ⟨_, rfl⟩; rw [← hq4] at X2 ⊢; replace hq4 := hid hq4; obtain ⟨k0, k1, k2⟩ := X2.out.cells; have k5 := X2.out.lt; obtain ⟨q5, hq5⟩ : ∃ q5, q5 = w2.heap.size := ⟨_, rfl⟩)
    | (go_at_call 51; rw [← hq5]; have E5 : Below w2.heap.size w2 (w2.alloc (.cells #[.bool true, .int .i64 0, .slice none 0 0] 24)) := ext1 _; have N5 := hid (NB.new 24 w2 true 0 none 0 0); rw [← hq5] at N5; refine (c2.out p _ (S2.out.keep E5)).mono ?_; rintro e w3 ⟨rfl, hs, hg⟩; have S3 := hid hs; have X3 := hid ((X2.out.keep E5).grown hg (by have := hq4.out; have := hpl.out; omega)); have Q3 := hid ((Q2.out.keep E5).grown hg (by have := hp'.out; omega)); have N3 := hid (N5.out.grown hg (by have h1 := S2.out.lt; omega)); have G3 := hid (grow_trans (grow_trans G2.out (grow_below E5)) hg); have h5p := hid (show p < q5 from (by have h1 := S2.out.lt; omega)); have h54 := hid (show q4 < q5 from (by omega)); clear hs hg E5 N5 k0 k1 k2 k5; obtain ⟨k0, k1, k2⟩ := X3.out.cells; replace hq5 := hid hq5)
    | (go_at_call 57; refine (c3.out p _ S3.out).mono ?_; rintro e w4 ⟨rfl, hs, hg⟩; have S4 := hid hs; have X4 := hid (X3.out.grown hg (by have := hq4.out; have := hpl.out; omega)); have Q4 := hid (Q3.out.grown hg (by have := hp'.out; omega)); have N4 := hid (N3.out.grown hg (by have := h5p.out; omega)); have G4 := hid (grow_trans G3.out hg); clear hs hg k0 k1 k2; obtain ⟨n0, n1, n2⟩ := N4.out.cells; have nf := N4.out.fz 1))
  obtain ⟨w5, hw5⟩ : ∃ w5, w5 = w4.setCell ⟨q5, 1, none⟩ (.int .i64 (v3 : Int)) := ⟨_, rfl⟩
  rw [← hw5]
  obtain ⟨B, hB⟩ : ∃ B, B = w5.heap.size := ⟨_, rfl⟩
  have hqB : Hid (q5 < B) := hid (by rw [hB, hw5]; simpa using N4.out.lt)
  have N5 := hid (show NB 24 w5 q5 true (v3 : Int) none 0 0 by rw [hw5]; exact N4.out.set1 _)
  have Q5 := hid (show NB 24 w5 w.heap.size false 0 none 0 0 by rw [hw5]; unfold NB; rw [heap_setCell_other _ _ _ _ (by have := h5p.out; have := hp'.out; simp; omega)]; exact Q4.out)
  have S5' := hid (show Src w5 p o3 by rw [hw5]; exact S4.out.five (five_set N4.out (by decide)) (heap_setCell_other _ _ _ _ (by have := h5p.out; simp; omega)))
  have W5 := hid (show Below w.heap.size w w5 by rw [hw5]; exact below_set (below_grown B1.out G4.out (by have := hp'.out; omega) (Nat.le_refl _)) (by have := h5p.out; have := hp'.out; simp; omega) _)
  replace hB := hid hB
  clear hw5 n0 n1 n2 nf cb c2 c3 c50 S1 S2 S3 S4 X2 X3 X4 Q1 Q2 Q3 Q4 N3 N4 G2 G3 G4 B1 B0 q2n
  go_loopw [35] (fun c W => ∃ (i : Nat) (l : List C) (o : Option (List Nat)) (co : Option Addr) (cc : Nat), i ≤ K ∧ c = .int .u64 (i : Int) ∧ l.length = i ∧ Hid (l.map nrm ++ rdCs true (K - i) o = RC ∧ (∀ a ∈ l, Ck5 W a) ∧ Src W p o ∧ NB 24 W q5 true (v3 : Int) co i cc ∧ NB 24 W w.heap.size false 0 none 0 0 ∧ W.ownsRow B 57 5 (.slice co i cc) i (cv l) ∧ Below w.heap.size w W ∧ B ≤ W.heap.size)) (fun c _ => K - (intOf c).toNat)
  case atStart => exact ⟨0, [], o3, none, 0, by omega, rfl, rfl, hid ⟨by rw [hC.out]; simp, by simp, S5'.out, N5.out, Q5.out, World.ownsRow_nil _ _ _ _, W5.out, by rw [hB.out]; exact Nat.le_refl _⟩⟩
  case round =>
    obtain ⟨i, l, o, co, cc, hi, rfl, hll, HH⟩ := hrel
    obtain ⟨hE, hA, hS, hN, hQ, hO, hW, hBW⟩ := HH.out
    have A := hid hA; have S := hid hS; have N := hid hN; have Q := hid hQ; have O := hid hO; have BW := hid hW
    replace hE := hid hE
    replace hBW := hid hBW
    clear hA hS hN hQ hO hW HH S5' N5 Q5 W5
    by_cases hik : i < K
    · obtain ⟨CB', hcb⟩ := S.out.block
      have hcb' := hid hcb
      have cN := hid (cn.out p o wr S.out)
      have hEs := hE.out
      rw [show K - i = (K - (i + 1)) + 1 by omega] at hEs
      simp only [rdCs] at hEs
      obtain ⟨oc, hoc⟩ : ∃ oc, oc = (rdC true o).2 := ⟨_, rfl⟩
      rw [← hoc] at hEs
      clear hcb
      cases hso : oc.isSome with
      | false =>
        rw [hso] at hEs
        simp only [Bool.false_eq_true, if_false, List.append_nil] at hEs
        have hEs' := hid hEs
        have hso' := hid hso
        have hoc' := hid hoc
        clear hEs hso hoc hE
        go_wp2_with (first
          | (go_at_call 56; refine cN.out.mono ?_; rintro e y1 ⟨a, rfl, hna, hka, hs, hg⟩; have K5 := hid hka; have F1 := hid (S.out.grown5 hg); have S1 := hid hs; have G1 := hid hg; have NA := hid hna; clear hka hs hg hna)
          | (go_at_call 58; refine (ce.out p _ _ (S1.out.keep (ext1 _))).mono ?_; rintro e y2 ⟨⟨z, hz, rfl⟩, hw2⟩; obtain rfl := hw2; have hz0 : z ≠ 0 := (fun e => by have h1 := hz.1 e; rw [← hoc'.out, hso'.out] at h1; cases h1); have hz2 : (z == 0) = false := (by simpa using hz0); have hz3 : (z != 0) = true := (by simpa using hz0); clear hz hz0; have NE := hid ((N.out.grown G1.out (by have := h5p.out; omega)).keep (ext1 (.cells #[.int .i64 a.k, .int .i64 a.c, .int .i64 a.l, .slice a.o a.n a.m, .int .i64 a.x] 57))); have QE := hid ((Q.out.grown G1.out (by have := hp'.out; omega)).keep (ext1 (.cells #[.int .i64 a.k, .int .i64 a.c, .int .i64 a.l, .slice a.o a.n a.m, .int .i64 a.x] 57))); obtain ⟨u0, u1, u2⟩ := NE.out.cells; obtain ⟨v0, v1', v2⟩ := QE.out.cells; have f0 := QE.out.fz 0; have f1 := QE.out.fz 1; have f2 := QE.out.fz 2))
        (try simp only [Exit.inBlock, Exit.then])
        refine bodyPost_ret (ret_node1 (a := 2) (t := 24) (by kernel_rfl) (by kernel_rfl) (by kernel_rfl) rfl (QE.out.set3 true (v3 : Int) co i cc)) rfl ?_
        have eb : Below w.heap.size w (y1.alloc (.cells #[.int .i64 a.k, .int .i64 a.c, .int .i64 a.l, .slice a.o a.n a.m, .int .i64 a.x] 57)) := Below.alloc (below_grown BW.out G1.out (by have := hp'.out; omega) (Nat.le_refl _)) (by have h1 := BW.out.size; have h2 := G1.out.size; omega) _
        have F2 : Five wr (((( y1.alloc (.cells #[.int .i64 a.k, .int .i64 a.c, .int .i64 a.l, .slice a.o a.n a.m, .int .i64 a.x] 57)).setCell ⟨w.heap.size, 0, none⟩ (.bool true)).setCell ⟨w.heap.size, 1, none⟩ (.int .i64 (v3 : Int))).setCell ⟨w.heap.size, 2, none⟩ (.slice co i cc)) := by
          refine F1.out.trans ((five_below (ext1 (.cells #[.int .i64 a.k, .int .i64 a.c, .int .i64 a.l, .slice a.o a.n a.m, .int .i64 a.x] 57))).trans ?_)
          have n1 := QE.out
          have n2 := heap_setCell_same _ w.heap.size 0 _ 24 (.bool true) n1
          have n3 := heap_setCell_same _ w.heap.size 1 _ 24 (.int .i64 (v3 : Int)) n2
          exact ((five_set n1 (by decide)).trans (five_set n2 (by decide))).trans (five_set n3 (by decide))
        refine ⟨co, i, cc, l, rfl, cs_own (B := B) (t := 57) hll ?_ (fun a ha => ((A.out a ha).five F2).ok), hEs'.out, below_set (below_set (below_set eb (by simp) _) (by simp) _) (by simp) _⟩
        have hwB : w.heap.size < B := by have h1 := hqB.out; have h2 := h5p.out; have h3 := hp'.out; omega
        exact ownsRow_setCell_below (ownsRow_setCell_below (ownsRow_setCell_below ((own_grown O.out hcb'.out G1.out).alloc _) (by simpa using hwB) _) (by simpa using hwB) _) (by simpa using hwB) _
      | true =>
        rw [hso] at hEs
        simp only [if_true] at hEs
        have hEs' := hid hEs
        have hso' := hid hso
        have hoc' := hid hoc
        have hcl : (cv l).length = i * 5 := by rw [cv_length, hll]
        clear hEs hso hoc hE
        go_wp2_with (first
          | (go_at_call 56; refine cN.out.mono ?_; rintro e y1 ⟨a, rfl, hna, hka, hs, hg⟩; have K5 := hid hka; have F1 := hid (S.out.grown5 hg); have S1 := hid hs; have G1 := hid hg; have NA := hid hna; have O1 := hid (own_grown O.out hcb'.out hg); have N1 := hid (N.out.grown hg (by have := h5p.out; omega)); have Q1 := hid (Q.out.grown hg (by have := hp'.out; omega)); have hy1 := hid hg.size; clear hka hs hg hna)
          | (go_at_call 58; refine (ce.out p _ _ (S1.out.keep (ext1 _))).mono ?_; rintro e y2 ⟨⟨z, hz, rfl⟩, hw2⟩; obtain rfl := hw2; obtain rfl : z = 0 := hz.2 (by rw [← hoc'.out]; exact hso'.out); clear hz; obtain ⟨u0, u1, u2⟩ := N1.out.cells; have hlt5 := N1.out.lt)
          | ((with_reducible refine here_op 46 ?_); refine wpList_append_own _ rfl (.tmp 43) (.tmp 45) 22 rfl B 57 i57 (.agg #[.int .i64 0, .int .i64 0, .int .i64 0, .slice none 0 0, .int .i64 0]) 5 56 Try.underlying22 HI.out HZ0.out HZ1.out HZ2.out rfl (by decide) (.slice co i cc) i (cv l) rfl ((O1.out.alloc _).alloc _) ⟨y1.heap.size + 1, 0, none⟩ 1 1 (cv [a]) rfl rfl (five_cells2 y1 _ a 57) (cv_one a) (by unfold maxLen; omega) (by omega) (by have h1 := hBW.out; have h2 := hy1.out; simp; omega) ?_; intro v6 w6 ho6 hg6 hnil6; obtain ⟨ao6, cap6, rfl⟩ := row_form ho6; have O6 := hid ho6; have F6 := hid (five_own ((O1.out.alloc _).alloc _) hg6); have G6 := hid (below_own ((O1.out.alloc _).alloc _) hg6 (Nat.le_refl _) (by have h1 := hBW.out; have h2 := hy1.out; simp; omega)); have N6 := hid (show NB 24 w6 q5 true (v3 : Int) co i cc from (by unfold NB; rw [G6.out.block q5 hqB.out]; exact (N1.out.keep (ext1 _)).keep (ext1 _))); have c6 := N6.out.cells.2.2; have f6 := N6.out.fz 2; clear ho6 hg6 hnil6))
        have hEA : Below y1.heap.size y1 ((y1.alloc (.cells #[.int .i64 a.k, .int .i64 a.c, .int .i64 a.l, .slice a.o a.n a.m, .int .i64 a.x] 57)).alloc (.cells #[.int .i64 a.k, .int .i64 a.c, .int .i64 a.l, .slice a.o a.n a.m, .int .i64 a.x] 57)) := gt (ext1 _) (ext1 _)
        have F7 : Five y1 (w6.setCell ⟨q5, 2, none⟩ (.slice ao6 (i + 1) cap6)) := ((five_below hEA).trans F6.out).trans (five_set N6.out (by decide))
        have hwB : w.heap.size < B := by have h1 := hqB.out; have h2 := h5p.out; have h3 := hp'.out; omega
        have hq5w : w.heap.size < q5 := by have h2 := h5p.out; have h3 := hp'.out; omega
        refine ⟨⟨i + 1, l ++ [a], oc, ao6, cap6, by omega, by go_num, by simp [hll], hid ⟨?_, ?_, ?_, N6.out.set ao6 (i + 1) cap6, ?_, ?_, ?_, ?_⟩⟩, by simp [intOf]; omega⟩
        · rw [List.map_append, List.append_assoc]
          rw [show [a].map nrm = [nrm a] from rfl, NA.out]
          exact hEs'.out
        · intro b hb
          rcases List.mem_append.1 hb with hb | hb
          · exact (A.out b hb).five (F1.out.trans F7)
          · simp at hb; subst hb; exact K5.out.five F7
        · rw [hoc'.out]
          refine S1.out.five F7 ?_
          rw [heap_setCell_other _ _ _ _ (by have := h5p.out; simp; omega), G6.out.block p (by have := h5p.out; have := hqB.out; omega), hEA.block p S1.out.lt]
        · unfold NB
          rw [heap_setCell_other _ _ _ _ (by simp; omega), G6.out.block _ hwB]
          exact (Q1.out.keep (ext1 _)).keep (ext1 _)
        · rw [cv_append]
          exact ownsRow_setCell_below O6.out (by simpa using hqB.out) _
        · refine below_set (Below.trans (Below.trans (below_grown BW.out G1.out (by have := hp'.out; omega) (Nat.le_refl _)) (hEA.mono (by have h1 := BW.out.size; have h2 := hy1.out; omega))) (G6.out.mono (by omega))) (by simp; omega) _
        · have h1 := G6.out.size
          have h2 := hBW.out
          have h3 := hy1.out
          simp at h1 ⊢
          omega
    · obtain rfl : i = K := by omega
      have hEs := hE.out
      rw [Nat.sub_self] at hEs
      simp only [rdCs, List.append_nil] at hEs
      have hEs' := hid hEs
      clear hEs hE
      obtain ⟨u0, u1, u2⟩ := N.out.cells
      obtain ⟨v0, v1', v2⟩ := Q.out.cells
      have f0 := Q.out.fz 0; have f1 := Q.out.fz 1; have f2 := Q.out.fz 2
      go_wp2
      (try simp only [Exit.inBlock, Exit.then])
      refine bodyPost_ret (ret_node1 (a := 2) (t := 24) (by kernel_rfl) (by kernel_rfl) (by kernel_rfl) rfl (Q.out.set3 true (v3 : Int) co i cc)) rfl ?_
      have F2 : Five wr (((wr.setCell ⟨w.heap.size, 0, none⟩ (.bool true)).setCell ⟨w.heap.size, 1, none⟩ (.int .i64 (v3 : Int))).setCell ⟨w.heap.size, 2, none⟩ (.slice co i cc)) := by
        have n1 := Q.out
        have n2 := heap_setCell_same _ w.heap.size 0 _ 24 (.bool true) n1
        have n3 := heap_setCell_same _ w.heap.size 1 _ 24 (.int .i64 (v3 : Int)) n2
        exact ((five_set n1 (by decide)).trans (five_set n2 (by decide))).trans (five_set n3 (by decide))
      refine ⟨co, i, cc, l, rfl, cs_own (B := B) (t := 57) hll ?_ (fun a ha => ((A.out a ha).five F2).ok), hEs'.out, below_set (below_set (below_set BW.out (by simp) _) (by simp) _) (by simp) _⟩
      have hwB : w.heap.size < B := by have h1 := hqB.out; have h2 := h5p.out; have h3 := hp'.out; omega
      exact ownsRow_setCell_below (ownsRow_setCell_below (ownsRow_setCell_below O.out (by simpa using hwB) _) (by simpa using hwB) _) (by simpa using hwB) _

set_option maxHeartbeats 8000000 in
set_option maxRecDepth 20000 in
theorem read_false (ao : Option Addr) (cap : Nat) (xs : List Nat) (w : World) (h : Rd w ao 512 cap xs) (hx : ∀ x ∈ xs, x < 256) (hL : rnL xs = false) :
    Calls Try.prog 30 #[.slice ao 512 cap] w fun e w' => ∃ co cn cc cs, e = .returned (.agg #[.bool false, .int .i64 ((r3 xs).1 : Nat), .slice co cn cc]) ∧ Cs w' co cn cc cs ∧ cs.map nrm = rnC xs ∧ Below w.heap.size w w' := by
  have q2n := hid (NB.new 24 w false 0 none 0 0)
  have B0 : Hid (Below w.heap.size w (w.alloc (.cells #[.bool false, .int .i64 0, .slice none 0 0] 24))) := hid (ext1 _)
  have c50 := hid (read_ok ao 512 cap xs _ (h.keep B0.out) (by omega))
  have cb := hid (fun p W (hs : Src W p (some xs)) => byte_src p (some xs) W hs)
  have c2 := hid (fun p W (hs : Src W p (r1 xs).2) => num_src p 2 (r1 xs).2 W hs (by omega) (by omega))
  have c3 := hid (fun p W (hs : Src W p (r2 xs).2) => link_src p (r2 xs).2 W hs)
  have cn := hid (fun p o W hs => cell_above p o W hs)
  have ce := hid (fun p o W hs => err_src p o W hs)
  have hx' := hid hx
  change Hid (∀ p W, Src W p (some xs) → Calls Try.prog 54 #[.pointer (some ⟨p, 0, none⟩)] W fun e w' => e = .returned (.int .u8 ((((r1 xs).1 % 256 : Nat)) : Int)) ∧ Src w' p (r1 xs).2 ∧ W.grownBy w' (some p)) at cb
  change Hid (∀ p W, Src W p (r1 xs).2 → Calls Try.prog 51 #[.pointer (some ⟨p, 0, none⟩), .int .i64 ((2 : Nat) : Int), .bool false] W fun e w' => e = .returned (.int .u64 ((r2 xs).1 : Nat)) ∧ Src w' p (r2 xs).2 ∧ W.grownBy w' (some p)) at c2
  change Hid (∀ p W, Src W p (r2 xs).2 → Calls Try.prog 57 #[.agg #[.func (.func 51) #[.pointer (some ⟨p, 0, none⟩)] #[], .func (.func 52) #[.pointer (some ⟨p, 0, none⟩)] #[], .func (.func 53) #[.pointer (some ⟨p, 0, none⟩)] #[]]] W fun e w' => e = .returned (.int .i64 ((r3 xs).1 : Nat)) ∧ Src w' p (r3 xs).2 ∧ W.grownBy w' (some p)) at c3
  have hK : (r2 xs).1 ≤ 65535 := by
    unfold r2
    have hby : ∀ ys, (r1 xs).2 = some ys → ∀ x ∈ ys, x < 256 := by_num (o := some xs) (fun ys e => by simp only [Option.some.injEq] at e; subst e; exact hx) 1
    cases h4 : (r1 xs).2 with
    | none => simp [numO]
    | some us =>
      simp only [numO]
      split
      · rename_i hl
        have := psum_bound us 2 (hby us h4) hl
        simp at this ⊢
        omega
      · simp
  have hC : Hid (rnC xs = rdCs false (r2 xs).1 (r3 xs).2) := hid (by unfold rnC; rw [hL])
  unfold rnL at hL
  generalize (r1 xs).1 % 256 = LB at *
  generalize r1 xs = R1 at *
  obtain ⟨v1, o1⟩ := R1
  generalize r3 xs = R3 at *
  obtain ⟨v3, o3⟩ := R3
  generalize r2 xs = R2 at *
  obtain ⟨K, o2⟩ := R2
  generalize rnC xs = RC at *
  simp only at *
  obtain ⟨i57, hi57, hz0, hz1, hz2⟩ := info_parts Try.info57
  have HI := hid hi57; have HZ0 := hid hz0; have HZ1 := hid hz1; have HZ2 := hid hz2
  clear h hi57 hz0 hz1 hz2 hx
  go_enter Try.func30, Try.ntmps30
  go_wp2_with (first
    | (go_at_call 50; refine c50.out.mono ?_; rintro e w1 ⟨p, rfl, hp, hs, hb⟩; have S1 := hid (show Src w1 p (some xs) from ⟨hs, hx'.out⟩); have B1 := hid (gt B0.out hb); have Q1 := hid (q2n.out.keep hb); have hp' := hid (show w.heap.size < p from (by simp at hp; omega)); have hpl := hid (S1.out.lt); clear hs hb hp)
    | (go_at_call 54; refine (cb.out p _ (S1.out.keep (ext1 _))).mono ?_; rintro e w2 ⟨rfl, hs, hg⟩; have S2 := hid hs; have G2 := hid (grow_trans (grow_below (show Below w1.heap.size w1 _ from ext1 (.cells #[.func (.func 51) #[.pointer (some ⟨p, 0, none⟩)] #[], .func (.func 52) #[.pointer (some ⟨p, 0, none⟩)] #[], .func (.func 53) #[.pointer (some ⟨p, 0, none⟩)] #[]] 83))) hg); have X2 := hid ((RX.new w1 p).grown hg (by have := hpl.out; omega)); have Q2 := hid ((Q1.out.keep (ext1 (.cells #[.func (.func 51) #[.pointer (some ⟨p, 0, none⟩)] #[], .func (.func 52) #[.pointer (some ⟨p, 0, none⟩)] #[], .func (.func 53) #[.pointer (some ⟨p, 0, none⟩)] #[]] 83))).grown hg (by have := hp'.out; omega)); clear hs hg; obtain ⟨q4, hq4⟩ : ∃ q4, q4 = w1.heap.size := ⟨_, rfl⟩; rw [← hq4] at X2 ⊢; replace hq4 := hid hq4; obtain ⟨k0, k1, k2⟩ := X2.out.cells; have k5 := X2.out.lt; obtain ⟨q5, hq5⟩ : ∃ q5, q5 = w2.heap.size := ⟨_, rfl⟩)
    | (go_at_call 51; rw [← hq5]; have E5 : Below w2.heap.size w2 (w2.alloc (.cells #[.bool false, .int .i64 0, .slice none 0 0] 24)) := ext1 _; have N5 := hid (NB.new 24 w2 false 0 none 0 0); rw [← hq5] at N5; refine (c2.out p _ (S2.out.keep E5)).mono ?_; rintro e w3 ⟨rfl, hs, hg⟩; have S3 := hid hs; have X3 := hid ((X2.out.keep E5).grown hg (by have := hq4.out; have := hpl.out; omega)); have Q3 := hid ((Q2.out.keep E5).grown hg (by have := hp'.out; omega)); have N3 := hid (N5.out.grown hg (by have h1 := S2.out.lt; omega)); have G3 := hid (grow_trans (grow_trans G2.out (grow_below E5)) hg); have h5p := hid (show p < q5 from (by have h1 := S2.out.lt; omega)); have h54 := hid (show q4 < q5 from (by omega)); clear hs hg E5 N5 k0 k1 k2 k5; obtain ⟨k0, k1, k2⟩ := X3.out.cells; replace hq5 := hid hq5)
    | (go_at_call 57; refine (c3.out p _ S3.out).mono ?_; rintro e w4 ⟨rfl, hs, hg⟩; have S4 := hid hs; have X4 := hid (X3.out.grown hg (by have := hq4.out; have := hpl.out; omega)); have Q4 := hid (Q3.out.grown hg (by have := hp'.out; omega)); have N4 := hid (N3.out.grown hg (by have := h5p.out; omega)); have G4 := hid (grow_trans G3.out hg); clear hs hg k0 k1 k2; obtain ⟨n0, n1, n2⟩ := N4.out.cells; have nf := N4.out.fz 1))
  obtain ⟨w5, hw5⟩ : ∃ w5, w5 = w4.setCell ⟨q5, 1, none⟩ (.int .i64 (v3 : Int)) := ⟨_, rfl⟩
  rw [← hw5]
  obtain ⟨B, hB⟩ : ∃ B, B = w5.heap.size := ⟨_, rfl⟩
  have hqB : Hid (q5 < B) := hid (by rw [hB, hw5]; simpa using N4.out.lt)
  have N5 := hid (show NB 24 w5 q5 false (v3 : Int) none 0 0 by rw [hw5]; exact N4.out.set1 _)
  have Q5 := hid (show NB 24 w5 w.heap.size false 0 none 0 0 by rw [hw5]; unfold NB; rw [heap_setCell_other _ _ _ _ (by have := h5p.out; have := hp'.out; simp; omega)]; exact Q4.out)
  have S5' := hid (show Src w5 p o3 by rw [hw5]; exact S4.out.five (five_set N4.out (by decide)) (heap_setCell_other _ _ _ _ (by have := h5p.out; simp; omega)))
  have W5 := hid (show Below w.heap.size w w5 by rw [hw5]; exact below_set (below_grown B1.out G4.out (by have := hp'.out; omega) (Nat.le_refl _)) (by have := h5p.out; have := hp'.out; simp; omega) _)
  replace hB := hid hB
  clear hw5 n0 n1 n2 nf cb c2 c3 c50 S1 S2 S3 S4 X2 X3 X4 Q1 Q2 Q3 Q4 N3 N4 G2 G3 G4 B1 B0 q2n
  go_loopw [35] (fun c W => ∃ (i : Nat) (l : List C) (o : Option (List Nat)) (co : Option Addr) (cc : Nat), i ≤ K ∧ c = .int .u64 (i : Int) ∧ l.length = i ∧ Hid (l.map nrm ++ rdCs false (K - i) o = RC ∧ (∀ a ∈ l, Ck5 W a) ∧ Src W p o ∧ NB 24 W q5 false (v3 : Int) co i cc ∧ NB 24 W w.heap.size false 0 none 0 0 ∧ W.ownsRow B 57 5 (.slice co i cc) i (cv l) ∧ Below w.heap.size w W ∧ B ≤ W.heap.size)) (fun c _ => K - (intOf c).toNat)
  case atStart => exact ⟨0, [], o3, none, 0, by omega, rfl, rfl, hid ⟨by rw [hC.out]; simp, by simp, S5'.out, N5.out, Q5.out, World.ownsRow_nil _ _ _ _, W5.out, by rw [hB.out]; exact Nat.le_refl _⟩⟩
  case round =>
    obtain ⟨i, l, o, co, cc, hi, rfl, hll, HH⟩ := hrel
    obtain ⟨hE, hA, hS, hN, hQ, hO, hW, hBW⟩ := HH.out
    have A := hid hA; have S := hid hS; have N := hid hN; have Q := hid hQ; have O := hid hO; have BW := hid hW
    replace hE := hid hE
    replace hBW := hid hBW
    clear hA hS hN hQ hO hW HH S5' N5 Q5 W5
    by_cases hik : i < K
    · obtain ⟨CB', hcb⟩ := S.out.block
      have hcb' := hid hcb
      have cN := hid (cn.out p o wr S.out)
      have hEs := hE.out
      rw [show K - i = (K - (i + 1)) + 1 by omega] at hEs
      simp only [rdCs] at hEs
      obtain ⟨oc, hoc⟩ : ∃ oc, oc = (rdC false o).2 := ⟨_, rfl⟩
      rw [← hoc] at hEs
      clear hcb
      cases hso : oc.isSome with
      | false =>
        rw [hso] at hEs
        simp only [Bool.false_eq_true, if_false, List.append_nil] at hEs
        have hEs' := hid hEs
        have hso' := hid hso
        have hoc' := hid hoc
        clear hEs hso hoc hE
        go_wp2_with (first
          | (go_at_call 55; refine cN.out.mono ?_; rintro e y1 ⟨a, rfl, hna, hka, hs, hg⟩; have K5 := hid hka; have F1 := hid (S.out.grown5 hg); have S1 := hid hs; have G1 := hid hg; have NA := hid hna; clear hka hs hg hna)
          | (go_at_call 58; refine (ce.out p _ _ (S1.out.keep (ext1 _))).mono ?_; rintro e y2 ⟨⟨z, hz, rfl⟩, hw2⟩; obtain rfl := hw2; have hz0 : z ≠ 0 := (fun e => by have h1 := hz.1 e; rw [← hoc'.out, hso'.out] at h1; cases h1); have hz2 : (z == 0) = false := (by simpa using hz0); have hz3 : (z != 0) = true := (by simpa using hz0); clear hz hz0; have NE := hid ((N.out.grown G1.out (by have := h5p.out; omega)).keep (ext1 (.cells #[.int .i64 a.k, .int .i64 a.c, .int .i64 a.l, .slice a.o a.n a.m, .int .i64 a.x] 57))); have QE := hid ((Q.out.grown G1.out (by have := hp'.out; omega)).keep (ext1 (.cells #[.int .i64 a.k, .int .i64 a.c, .int .i64 a.l, .slice a.o a.n a.m, .int .i64 a.x] 57))); obtain ⟨u0, u1, u2⟩ := NE.out.cells; obtain ⟨v0, v1', v2⟩ := QE.out.cells; have f0 := QE.out.fz 0; have f1 := QE.out.fz 1; have f2 := QE.out.fz 2))
        (try simp only [Exit.inBlock, Exit.then])
        refine bodyPost_ret (ret_node1 (a := 2) (t := 24) (by kernel_rfl) (by kernel_rfl) (by kernel_rfl) rfl (QE.out.set3 false (v3 : Int) co i cc)) rfl ?_
        have eb : Below w.heap.size w (y1.alloc (.cells #[.int .i64 a.k, .int .i64 a.c, .int .i64 a.l, .slice a.o a.n a.m, .int .i64 a.x] 57)) := Below.alloc (below_grown BW.out G1.out (by have := hp'.out; omega) (Nat.le_refl _)) (by have h1 := BW.out.size; have h2 := G1.out.size; omega) _
        have F2 : Five wr (((( y1.alloc (.cells #[.int .i64 a.k, .int .i64 a.c, .int .i64 a.l, .slice a.o a.n a.m, .int .i64 a.x] 57)).setCell ⟨w.heap.size, 0, none⟩ (.bool false)).setCell ⟨w.heap.size, 1, none⟩ (.int .i64 (v3 : Int))).setCell ⟨w.heap.size, 2, none⟩ (.slice co i cc)) := by
          refine F1.out.trans ((five_below (ext1 (.cells #[.int .i64 a.k, .int .i64 a.c, .int .i64 a.l, .slice a.o a.n a.m, .int .i64 a.x] 57))).trans ?_)
          have n1 := QE.out
          have n2 := heap_setCell_same _ w.heap.size 0 _ 24 (.bool false) n1
          have n3 := heap_setCell_same _ w.heap.size 1 _ 24 (.int .i64 (v3 : Int)) n2
          exact ((five_set n1 (by decide)).trans (five_set n2 (by decide))).trans (five_set n3 (by decide))
        refine ⟨co, i, cc, l, rfl, cs_own (B := B) (t := 57) hll ?_ (fun a ha => ((A.out a ha).five F2).ok), hEs'.out, below_set (below_set (below_set eb (by simp) _) (by simp) _) (by simp) _⟩
        have hwB : w.heap.size < B := by have h1 := hqB.out; have h2 := h5p.out; have h3 := hp'.out; omega
        exact ownsRow_setCell_below (ownsRow_setCell_below (ownsRow_setCell_below ((own_grown O.out hcb'.out G1.out).alloc _) (by simpa using hwB) _) (by simpa using hwB) _) (by simpa using hwB) _
      | true =>
        rw [hso] at hEs
        simp only [if_true] at hEs
        have hEs' := hid hEs
        have hso' := hid hso
        have hoc' := hid hoc
        have hcl : (cv l).length = i * 5 := by rw [cv_length, hll]
        clear hEs hso hoc hE
        go_wp2_with (first
          | (go_at_call 55; refine cN.out.mono ?_; rintro e y1 ⟨a, rfl, hna, hka, hs, hg⟩; have K5 := hid hka; have F1 := hid (S.out.grown5 hg); have S1 := hid hs; have G1 := hid hg; have NA := hid hna; have O1 := hid (own_grown O.out hcb'.out hg); have N1 := hid (N.out.grown hg (by have := h5p.out; omega)); have Q1 := hid (Q.out.grown hg (by have := hp'.out; omega)); have hy1 := hid hg.size; clear hka hs hg hna)
          | (go_at_call 58; refine (ce.out p _ _ (S1.out.keep (ext1 _))).mono ?_; rintro e y2 ⟨⟨z, hz, rfl⟩, hw2⟩; obtain rfl := hw2; obtain rfl : z = 0 := hz.2 (by rw [← hoc'.out]; exact hso'.out); clear hz; obtain ⟨u0, u1, u2⟩ := N1.out.cells; have hlt5 := N1.out.lt)
          | ((with_reducible refine here_op 46 ?_); refine wpList_append_own _ rfl (.tmp 43) (.tmp 45) 22 rfl B 57 i57 (.agg #[.int .i64 0, .int .i64 0, .int .i64 0, .slice none 0 0, .int .i64 0]) 5 56 Try.underlying22 HI.out HZ0.out HZ1.out HZ2.out rfl (by decide) (.slice co i cc) i (cv l) rfl ((O1.out.alloc _).alloc _) ⟨y1.heap.size + 1, 0, none⟩ 1 1 (cv [a]) rfl rfl (five_cells2 y1 _ a 57) (cv_one a) (by unfold maxLen; omega) (by omega) (by have h1 := hBW.out; have h2 := hy1.out; simp; omega) ?_; intro v6 w6 ho6 hg6 hnil6; obtain ⟨ao6, cap6, rfl⟩ := row_form ho6; have O6 := hid ho6; have F6 := hid (five_own ((O1.out.alloc _).alloc _) hg6); have G6 := hid (below_own ((O1.out.alloc _).alloc _) hg6 (Nat.le_refl _) (by have h1 := hBW.out; have h2 := hy1.out; simp; omega)); have N6 := hid (show NB 24 w6 q5 false (v3 : Int) co i cc from (by unfold NB; rw [G6.out.block q5 hqB.out]; exact (N1.out.keep (ext1 _)).keep (ext1 _))); have c6 := N6.out.cells.2.2; have f6 := N6.out.fz 2; clear ho6 hg6 hnil6))
        have hEA : Below y1.heap.size y1 ((y1.alloc (.cells #[.int .i64 a.k, .int .i64 a.c, .int .i64 a.l, .slice a.o a.n a.m, .int .i64 a.x] 57)).alloc (.cells #[.int .i64 a.k, .int .i64 a.c, .int .i64 a.l, .slice a.o a.n a.m, .int .i64 a.x] 57)) := gt (ext1 _) (ext1 _)
        have F7 : Five y1 (w6.setCell ⟨q5, 2, none⟩ (.slice ao6 (i + 1) cap6)) := ((five_below hEA).trans F6.out).trans (five_set N6.out (by decide))
        have hwB : w.heap.size < B := by have h1 := hqB.out; have h2 := h5p.out; have h3 := hp'.out; omega
        have hq5w : w.heap.size < q5 := by have h2 := h5p.out; have h3 := hp'.out; omega
        refine ⟨⟨i + 1, l ++ [a], oc, ao6, cap6, by omega, by go_num, by simp [hll], hid ⟨?_, ?_, ?_, N6.out.set ao6 (i + 1) cap6, ?_, ?_, ?_, ?_⟩⟩, by simp [intOf]; omega⟩
        · rw [List.map_append, List.append_assoc]
          rw [show [a].map nrm = [nrm a] from rfl, NA.out]
          exact hEs'.out
        · intro b hb
          rcases List.mem_append.1 hb with hb | hb
          · exact (A.out b hb).five (F1.out.trans F7)
          · simp at hb; subst hb; exact K5.out.five F7
        · rw [hoc'.out]
          refine S1.out.five F7 ?_
          rw [heap_setCell_other _ _ _ _ (by have := h5p.out; simp; omega), G6.out.block p (by have := h5p.out; have := hqB.out; omega), hEA.block p S1.out.lt]
        · unfold NB
          rw [heap_setCell_other _ _ _ _ (by simp; omega), G6.out.block _ hwB]
          exact (Q1.out.keep (ext1 _)).keep (ext1 _)
        · rw [cv_append]
          exact ownsRow_setCell_below O6.out (by simpa using hqB.out) _
        · refine below_set (Below.trans (Below.trans (below_grown BW.out G1.out (by have := hp'.out; omega) (Nat.le_refl _)) (hEA.mono (by have h1 := BW.out.size; have h2 := hy1.out; omega))) (G6.out.mono (by omega))) (by simp; omega) _
        · have h1 := G6.out.size
          have h2 := hBW.out
          have h3 := hy1.out
          simp at h1 ⊢
          omega
    · obtain rfl : i = K := by omega
      have hEs := hE.out
      rw [Nat.sub_self] at hEs
      simp only [rdCs, List.append_nil] at hEs
      have hEs' := hid hEs
      clear hEs hE
      obtain ⟨u0, u1, u2⟩ := N.out.cells
      obtain ⟨v0, v1', v2⟩ := Q.out.cells
      have f0 := Q.out.fz 0; have f1 := Q.out.fz 1; have f2 := Q.out.fz 2
      go_wp2
      (try simp only [Exit.inBlock, Exit.then])
      refine bodyPost_ret (ret_node1 (a := 2) (t := 24) (by kernel_rfl) (by kernel_rfl) (by kernel_rfl) rfl (Q.out.set3 false (v3 : Int) co i cc)) rfl ?_
      have F2 : Five wr (((wr.setCell ⟨w.heap.size, 0, none⟩ (.bool false)).setCell ⟨w.heap.size, 1, none⟩ (.int .i64 (v3 : Int))).setCell ⟨w.heap.size, 2, none⟩ (.slice co i cc)) := by
        have n1 := Q.out
        have n2 := heap_setCell_same _ w.heap.size 0 _ 24 (.bool false) n1
        have n3 := heap_setCell_same _ w.heap.size 1 _ 24 (.int .i64 (v3 : Int)) n2
        exact ((five_set n1 (by decide)).trans (five_set n2 (by decide))).trans (five_set n3 (by decide))
      refine ⟨co, i, cc, l, rfl, cs_own (B := B) (t := 57) hll ?_ (fun a ha => ((A.out a ha).five F2).ok), hEs'.out, below_set (below_set (below_set BW.out (by simp) _) (by simp) _) (by simp) _⟩
      have hwB : w.heap.size < B := by have h1 := hqB.out; have h2 := h5p.out; have h3 := hp'.out; omega
      exact ownsRow_setCell_below (ownsRow_setCell_below (ownsRow_setCell_below O.out (by simpa using hwB) _) (by simpa using hwB) _) (by simpa using hwB) _

end Go.Proofs.Ytbpcekhfjkodcaa
