/- The document's cache: how it lies in memory; rows that are appended; no statement of the seat is proved here. -/
import Derived.Test.YtebjjibgkjgpgaaFa
namespace Go.Proofs.Ytebjjibgkjgpgaa
open Go.RowKit Go.Maps

/-- Where a row's bytes lie. -/
structure RB where
  bo : Option Addr
  bc : Nat

def rv (p : Row × RB) : List Value := [.int .i64 p.1.page, .slice p.2.bo 512 p.2.bc, .int .i64 (p.1.pins : Int), .bool p.1.dirty]
def rvs (l : List (Row × RB)) : List Value := (l.map rv).flatten
theorem rvs_cons (p : Row × RB) (l : List (Row × RB)) : rvs (p :: l) = rv p ++ rvs l := rfl
theorem rvs_append (l l' : List (Row × RB)) : rvs (l ++ l') = rvs l ++ rvs l' := by simp [rvs]
theorem rvs_one (p : Row × RB) : rvs [p] = rv p := by simp [rvs]
theorem rvs_length (l : List (Row × RB)) : (rvs l).length = l.length * 4 := by
  induction l with
  | nil => rfl
  | cons p l ih => rw [rvs_cons, List.length_append, ih, List.length_cons]; simp [rv]; omega
theorem rvs_get (l : List (Row × RB)) (i j : Nat) (hi : i < l.length) (hj : j < 4) : (rvs l)[i * 4 + j]? = (rv l[i])[j]? := by
  induction l generalizing i with
  | nil => simp at hi
  | cons p l ih =>
    rw [rvs_cons]
    cases i with
    | zero => rw [Nat.zero_mul, Nat.zero_add, List.getElem?_append_left (by simp [rv]; omega)]; rfl
    | succ i =>
      rw [List.getElem?_append_right (by simp [rv]; omega), show (i + 1) * 4 + j - (rv p).length = i * 4 + j by simp [rv]; omega, ih i (by simpa using hi)]
      rfl
theorem rvs_take (l : List (Row × RB)) (n : Nat) : (rvs l).take (n * 4) = rvs (l.take n) := by
  induction l generalizing n with
  | nil => simp [rvs]
  | cons p l ih =>
    cases n with
    | zero => simp [rvs]
    | succ n => rw [List.take_succ_cons, rvs_cons, rvs_cons, ← ih n, List.take_append, List.take_of_length_le (by simp [rv]; omega)]; congr 2; simp [rv]; omega
theorem rvs_drop (l : List (Row × RB)) (n : Nat) : (rvs l).drop (n * 4) = rvs (l.drop n) := by
  induction l generalizing n with
  | nil => simp [rvs]
  | cons p l ih =>
    cases n with
    | zero => simp
    | succ n => rw [List.drop_succ_cons, ← ih n, rvs_cons, List.drop_append, List.drop_of_length_le (by simp [rv]; omega), List.nil_append]; congr 1; simp [rv]; omega
theorem rv_one (p : Row × RB) : ∀ u ∈ rv p, u.oneCell' = true := by
  intro u hu
  simp only [rv, List.mem_cons, List.not_mem_nil, or_false] at hu
  rcases hu with rfl | rfl | rfl | rfl <;> rfl
theorem rvs_ones (l : List (Row × RB)) : ∀ u ∈ rvs l, u.oneCell' = true := by
  intro u hu
  obtain ⟨x, hx, hux⟩ := List.mem_flatten.1 hu
  obtain ⟨p, _, rfl⟩ := List.mem_map.1 hx
  exact rv_one p u hux

def zrow : Value := .agg #[.int .i64 0, .slice none 0 0, .int .i64 0, .bool false]
theorem info81 : (Try.prog.info? 81).map (fun i => (i.zero, i.size, i.bytes)) = some (some zrow, 4, 48) := by kernel_rfl
theorem Try.u61 : Try.prog.underlying 61 = some (.slice 81) := by kernel_rfl

/-- What can be read of a slice of rows. -/
structure Src4 (w : World) (ao : Option Addr) (m c : Nat) (ps : List (Row × RB)) : Prop where
  len : ps.length = m
  no : ao = none → m = 0 ∧ c = 0
  at_ : ∀ ad, ao = some ad → ∀ j u, (rvs ps)[j]? = some u → w.cell? (ad.add j) = some u

theorem app4 (ty : TypeId) (w : World) (v : Value) (n : Nat) (xs : List (Row × RB)) (hown : w.ownsRow 0 81 4 v n (rvs xs)) (ao : Option Addr) (m c : Nat) (ys : List (Row × RB)) (hs : Src4 w ao m c ys) (hb : n + m ≤ 1000000) :
    ∃ ao' c' w', (Builtin.append_ #[61, 61] ty #[v, .slice ao m c]).run Try.prog w = .ok (.slice ao' (n + m) c') w' ∧ w'.ownsRow 0 81 4 (.slice ao' (n + m) c') (n + m) (rvs (xs ++ ys)) ∧ w.grownBy w' v.ownBlock ∧ ∀ a, ao' = some a → (v.ownBlock = some a.block ∨ a.block = w.heap.size) := by
  obtain ⟨i, hi, hz0, hz1, hz2⟩ := info_parts info81
  have hgen : ∃ v' w', (Builtin.append_ #[61, 61] ty #[v, .slice ao m c]).run Try.prog w = .ok v' w' ∧ w'.ownsRow 0 81 4 v' (n + m) (rvs (xs ++ ys)) ∧ w.grownBy w' v.ownBlock ∧ (v'.ownBlock = v.ownBlock ∨ v'.ownBlock = some w.heap.size) := by
    cases ao with
    | none =>
      obtain ⟨rfl, rfl⟩ := hs.no rfl
      obtain rfl : ys = [] := List.eq_nil_of_length_eq_zero hs.len
      exact ⟨v, w, run_append_owned_none (P := Try.prog) (w := w) 0 61 ty 81 i 4 Try.u61 hi v n (rvs xs) hown, by simpa using hown, ⟨rfl, rfl, rfl, Nat.le_refl _, fun _ _ _ => rfl⟩, Or.inl rfl⟩
    | some ad =>
      obtain ⟨v', w', h1, h2, h3, _, h5⟩ := run_append_own_at (P := Try.prog) w 0 61 ty 81 i zrow 4 48 Try.u61 hi hz0 hz1 hz2 rfl (by decide) v n (rvs xs) hown ad m c (rvs ys) (by rw [rvs_length, hs.len]) (hs.at_ ad rfl) (rvs_ones ys) (by unfold maxLen; omega) (by omega) (Nat.zero_le _)
      exact ⟨v', w', h1, by rw [rvs_append]; exact h2, h3, h5⟩
  obtain ⟨v', w', h1, h2, h3, h4⟩ := hgen
  rcases h2.2 with ⟨rfl, hz⟩ | ⟨g, cap, cur, rfl, hh⟩
  · exact ⟨none, 0, w', by rw [hz]; exact h1, by rw [hz] at h2 ⊢; exact h2, h3, fun a ha => by cases ha⟩
  · refine ⟨_, cap, w', h1, h2, h3, fun a ha => ?_⟩
    cases ha
    rcases h4 with h4 | h4
    · exact Or.inl h4.symm
    · right; simpa [Value.ownBlock] using h4

structure RParts where
  ao : Option Addr
  cap : Nat
  ps : List (Row × RB)

def hdR (room : Nat) (ao : Option Addr) (n cap hit miss : Nat) : List Value := [.int .i64 (room : Int), .slice ao n cap, .int .i64 (hit : Int), .int .i64 (miss : Int)]

/-- The document's cache in memory. -/
structure RP (w : World) (m : Nat) (R : RParts) (s : CS) : Prop where
  hd : w.heap[m]? = some (.cells (hdR s.room R.ao R.ps.length R.cap s.hit s.miss).toArray 63 (0, 0))
  row : w.ownsRow 0 81 4 (.slice R.ao R.ps.length R.cap) R.ps.length (rvs R.ps)
  by_ : ∀ p ∈ R.ps, w.ownsRow 0 5 1 (.slice p.2.bo 512 p.2.bc) 512 (bs p.1.bytes)
  ls : s.l = R.ps.map Prod.fst

def RParts.S (R : RParts) (m : Nat) : Nat → Prop := fun k => k = m ∨ ∃ a, R.ao = some a ∧ a.block = k
/-- All that is read. -/
def RParts.T (R : RParts) (m : Nat) : Nat → Prop := fun k => R.S m k ∨ ∃ p ∈ R.ps, ∃ a, p.2.bo = some a ∧ a.block = k

theorem row4_stay {w w' : World} {n cap : Nat} {e : TypeId} {sz : Nat} {ao : Option Addr} {xs : List Value} (h : w.ownsRow 0 e sz (.slice ao n cap) n xs) (hb : ∀ a, ao = some a → w'.heap[a.block]? = w.heap[a.block]?) : w'.ownsRow 0 e sz (.slice ao n cap) n xs := by
  refine ⟨h.1, ?_⟩
  rcases h.2 with hn | ⟨g, cap', cur, hv, hb', hg, hr⟩
  · exact .inl hn
  · simp only [Value.slice.injEq, true_and] at hv
    obtain ⟨rfl, rfl⟩ := hv
    exact .inr ⟨g, cap, cur, rfl, hb', (hb _ rfl).trans hg, hr⟩
theorem row4_blk {w : World} {n cap : Nat} {e : TypeId} {sz : Nat} {ao : Option Addr} {xs : List Value} (h : w.ownsRow 0 e sz (.slice ao n cap) n xs) {a : Addr} (ha : ao = some a) : ∃ cur, w.heap[a.block]? = some (.cells cur e (0, 0)) ∧ a = ⟨a.block, 0, none⟩ ∧ n ≤ cap := by
  rcases h.2 with ⟨hn, _⟩ | ⟨g, cap', cur, hv, _, hg, hnc, _⟩
  · simp only [Value.slice.injEq] at hn; rw [hn.1] at ha; cases ha
  · simp only [Value.slice.injEq] at hv; obtain ⟨h1, _, rfl⟩ := hv; rw [h1] at ha; cases ha; exact ⟨cur, hg, rfl, hnc⟩
theorem row4_lt {w : World} {n cap : Nat} {e : TypeId} {sz : Nat} {ao : Option Addr} {xs : List Value} (h : w.ownsRow 0 e sz (.slice ao n cap) n xs) {a : Addr} (ha : ao = some a) : a.block < w.heap.size := by
  obtain ⟨cur, hg, _⟩ := row4_blk h ha
  exact (Array.getElem?_eq_some_iff.1 hg).1

theorem RP.mlt {w : World} {m : Nat} {R : RParts} {s : CS} (h : RP w m R s) : m < w.heap.size := (Array.getElem?_eq_some_iff.1 h.hd).1
theorem RP.lt {w : World} {m : Nat} {R : RParts} {s : CS} (h : RP w m R s) {k : Nat} (hk : R.T m k) : k < w.heap.size := by
  rcases hk with (rfl | ⟨a, ha, rfl⟩) | ⟨p, hp, a, ha, rfl⟩
  · exact h.mlt
  · exact row4_lt h.row ha
  · exact row4_lt (h.by_ p hp) ha
theorem RP.stay {w w' : World} {m : Nat} {R : RParts} {s : CS} (h : RP w m R s) (hb : ∀ k, k < w.heap.size → R.T m k → w'.heap[k]? = w.heap[k]?) : RP w' m R s :=
  ⟨(hb m h.mlt (Or.inl (Or.inl rfl))).trans h.hd, row4_stay h.row (fun a ha => hb _ (row4_lt h.row ha) (Or.inl (Or.inr ⟨a, ha, rfl⟩))), fun p hp => row4_stay (h.by_ p hp) (fun a ha => hb _ (row4_lt (h.by_ p hp) ha) (Or.inr ⟨p, hp, a, ha, rfl⟩)), h.ls⟩
theorem RP.later {w w' : World} {m : Nat} {R : RParts} {s : CS} (h : RP w m R s) (hb : Below w.heap.size w w') : RP w' m R s := h.stay (fun k hk _ => hb.block k hk)
theorem RP.len {w : World} {m : Nat} {R : RParts} {s : CS} (h : RP w m R s) : s.l.length = R.ps.length := by rw [h.ls]; simp

/-- What a block of the document's cache holds. -/
theorem RP.kind {w : World} {m : Nat} {R : RParts} {s : CS} (h : RP w m R s) {k : Nat} (hk : R.T m k) : ∃ cur t, w.heap[k]? = some (.cells cur t (0, 0)) ∧ (t = 63 ∨ t = 81 ∨ t = 5) := by
  rcases hk with (rfl | ⟨a, ha, rfl⟩) | ⟨p, hp, a, ha, rfl⟩
  · exact ⟨_, 63, h.hd, Or.inl rfl⟩
  · obtain ⟨cur, hg, _⟩ := row4_blk h.row ha; exact ⟨cur, 81, hg, Or.inr (Or.inl rfl)⟩
  · obtain ⟨cur, hg, _⟩ := row4_blk (h.by_ p hp) ha; exact ⟨cur, 5, hg, Or.inr (Or.inr rfl)⟩
theorem CP.kind {w : World} {c : Nat} {C : Parts} {s : CS} (h : CP w c C s) {k : Nat} (hk : C.S c k) : (∃ es cl, w.heap[k]? = some (.map es cl)) ∨ ∃ cur t, w.heap[k]? = some (.cells cur t (0, 0)) ∧ (t = 52 ∨ t = 69) := by
  rcases hk with rfl | rfl | hk
  · exact Or.inr ⟨_, 52, h.hd, Or.inl rfl⟩
  · exact Or.inl h.mp.obj
  · exact Or.inr ⟨_, 69, (h.rg.en k hk).blk, Or.inr rfl⟩
/-- A cache and the document's lie apart. -/
theorem apart {w : World} {c m : Nat} {C : Parts} {R : RParts} {s s' : CS} (h : CP w c C s) (h' : RP w m R s') {k : Nat} (hk : C.S c k) (hk' : R.T m k) : False := by
  obtain ⟨cur, t, h1, h2⟩ := h'.kind hk'
  rcases h.kind hk with ⟨es, cl, h3⟩ | ⟨cur', t', h3, h4⟩
  · rw [h3] at h1; cases h1
  · rw [h3] at h1; cases h1
    rcases h2 with h | h | h <;> rcases h4 with h' | h' <;> rw [h] at h' <;> exact absurd h' (by decide)
theorem RP.beside {w w' : World} {c m : Nat} {C : Parts} {R : RParts} {s s' : CS} (h' : RP w m R s') (h : CP w c C s) (hf : Fr (C.S c) w w') : RP w' m R s' :=
  h'.stay (fun k hk hT => hf.blk k hk (fun hS => apart h h' hS hT))
theorem CP.beside {w w' : World} {c m : Nat} {C : Parts} {R : RParts} {s s' : CS} (h : CP w c C s) (h' : RP w m R s') (hf : Fr (R.S m) w w') : CP w' c C s :=
  h.stay (fun k hk hS => hf.blk k hk (fun hT => apart h h' hS (Or.inl hT)))

theorem RP.c0 {w : World} {m : Nat} {R : RParts} {s : CS} (h : RP w m R s) : w.cell? ⟨m, 0, none⟩ = some (.int .i64 (s.room : Int)) := hd_cell h.hd 0
theorem RP.c1 {w : World} {m : Nat} {R : RParts} {s : CS} (h : RP w m R s) : w.cell? ⟨m, 1, none⟩ = some (.slice R.ao R.ps.length R.cap) := hd_cell h.hd 1
theorem RP.c2 {w : World} {m : Nat} {R : RParts} {s : CS} (h : RP w m R s) : w.cell? ⟨m, 2, none⟩ = some (.int .i64 (s.hit : Int)) := hd_cell h.hd 2
theorem RP.c3 {w : World} {m : Nat} {R : RParts} {s : CS} (h : RP w m R s) : w.cell? ⟨m, 3, none⟩ = some (.int .i64 (s.miss : Int)) := hd_cell h.hd 3

/-- The four cells of a row. -/
theorem RP.cells {w : World} {m : Nat} {R : RParts} {s : CS} (h : RP w m R s) {i : Nat} (hi : i < R.ps.length) : ∃ g, R.ao = some ⟨g, 0, none⟩ ∧ R.ps.length ≤ R.cap ∧ g ≠ m ∧ g < w.heap.size ∧
    w.cell? ⟨g, i * 4, none⟩ = some (.int .i64 R.ps[i].1.page) ∧ w.cell? ⟨g, i * 4 + 1, none⟩ = some (.slice R.ps[i].2.bo 512 R.ps[i].2.bc) ∧ w.cell? ⟨g, i * 4 + 2, none⟩ = some (.int .i64 (R.ps[i].1.pins : Int)) ∧ w.cell? ⟨g, i * 4 + 3, none⟩ = some (.bool R.ps[i].1.dirty) ∧ ∀ j, w.frozen? ⟨g, j, none⟩ = false := by
  have hrow := h.row
  rcases hrow.2 with ⟨hv, hz⟩ | ⟨g, cap', cur, hv, _, hg, hnc, _⟩
  · omega
  · simp only [Value.slice.injEq] at hv
    obtain ⟨h1, _, h2⟩ := hv
    rw [h1] at hrow
    have hc : ∀ j, j < 4 → w.cell? ⟨g, i * 4 + j, none⟩ = (rv R.ps[i])[j]? := fun j hj => by
      rw [hrow.cellAt (i * 4 + j) (by omega), rvs_get _ _ _ hi hj]
    refine ⟨g, h1, by rw [h2]; exact hnc, fun h0 => ?_, (Array.getElem?_eq_some_iff.1 hg).1, by have q := hc 0 (by omega); rw [Nat.add_zero] at q; exact q, hc 1 (by omega), hc 2 (by omega), hc 3 (by omega), fun j => by simp [World.frozen?, hg]⟩
    rw [h0, h.hd] at hg
    simp at hg

end Go.Proofs.Ytebjjibgkjgpgaa
