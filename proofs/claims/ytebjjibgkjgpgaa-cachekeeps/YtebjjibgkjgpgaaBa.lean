/- A page that is kept: how it lies in memory, and rings of them; no statement of the seat is proved here. -/
import Derived.Test.YtebjjibgkjgpgaaAb
namespace Go.Proofs.Ytebjjibgkjgpgaa
open Go.RowKit Go.Maps

structure Row where
  page : Int
  bytes : List Nat
  pins : Nat
  dirty : Bool

structure Ent where
  row : Row
  bef : Option Nat
  aft : Option Nat

def ptr : Option Nat → Value
  | none => .pointer none
  | some b => .pointer (some ⟨b, 0, none⟩)
theorem ptr_some (b : Nat) : ptr (some b) = .pointer (some ⟨b, 0, none⟩) := rfl

def tailE (e : Ent) : List Value := [.int .i64 (e.row.pins : Int), .bool e.row.dirty, ptr e.bef, ptr e.aft]
def cellsE (e : Ent) : List Value := .int .i64 e.row.page :: (bs e.row.bytes ++ tailE e)

theorem cellsE_length {e : Ent} (h : e.row.bytes.length = 512) : (cellsE e).length = 517 := by simp [cellsE, tailE, bs_length, h]

theorem cellsE_at {e : Ent} (h : e.row.bytes.length = 512) (j : Nat) : (cellsE e)[513 + j]? = (tailE e)[j]? := by
  have e1 : 513 + j = (512 + j) + 1 := by omega
  rw [cellsE, e1, List.getElem?_cons_succ, List.getElem?_append_right (by rw [bs_length, h]; omega), bs_length, h, Nat.add_sub_cancel_left]

theorem cellsE_byte {e : Ent} (h : e.row.bytes.length = 512) (t : Nat) (ht : t < 512) : (cellsE e)[1 + t]? = some (.int .u8 ((e.row.bytes.getD t 0 : Nat) : Int)) := by
  rw [cellsE, Nat.add_comm 1 t, List.getElem?_cons_succ, List.getElem?_append_left (by rw [bs_length, h]; exact ht), bs_get _ _ (by omega)]

theorem cellsE_set {e : Ent} (h : e.row.bytes.length = 512) (j : Nat) (v : Value) : (cellsE e).set (513 + j) v = .int .i64 e.row.page :: (bs e.row.bytes ++ (tailE e).set j v) := by
  have e1 : 513 + j = (512 + j) + 1 := by omega
  rw [cellsE, e1, List.set_cons_succ, List.set_append_right _ _ (by rw [bs_length, h]; omega), bs_length, h, Nat.add_sub_cancel_left]

/-- A page's block. -/
structure EntAt (w : World) (b : Nat) (e : Ent) : Prop where
  blk : w.heap[b]? = some (.cells (cellsE e).toArray 69 (0, 0))
  len : e.row.bytes.length = 512

theorem EntAt.lt {w : World} {b : Nat} {e : Ent} (h : EntAt w b e) : b < w.heap.size := (Array.getElem?_eq_some_iff.1 h.blk).1
theorem EntAt.stay {w w' : World} {b : Nat} {e : Ent} (h : EntAt w b e) (hb : w'.heap[b]? = w.heap[b]?) : EntAt w' b e := ⟨hb.trans h.blk, h.len⟩
theorem EntAt.later {w w' : World} {b : Nat} {e : Ent} (h : EntAt w b e) (hb : Below w.heap.size w w') : EntAt w' b e := h.stay (hb.block b h.lt)
theorem EntAt.cellAt {w : World} {b : Nat} {e : Ent} (h : EntAt w b e) (i : Nat) : w.cell? ⟨b, i, none⟩ = (cellsE e)[i]? := by
  simp [World.cell?, h.blk]
theorem EntAt.page {w : World} {b : Nat} {e : Ent} (h : EntAt w b e) : w.cell? ⟨b, 0, none⟩ = some (.int .i64 e.row.page) := by rw [h.cellAt]; rfl
theorem EntAt.pins {w : World} {b : Nat} {e : Ent} (h : EntAt w b e) : w.cell? ⟨b, 513, none⟩ = some (.int .i64 (e.row.pins : Int)) := by rw [h.cellAt]; exact cellsE_at h.len 0
theorem EntAt.dirty {w : World} {b : Nat} {e : Ent} (h : EntAt w b e) : w.cell? ⟨b, 514, none⟩ = some (.bool e.row.dirty) := by rw [h.cellAt]; exact cellsE_at h.len 1
theorem EntAt.bef {w : World} {b : Nat} {e : Ent} (h : EntAt w b e) : w.cell? ⟨b, 515, none⟩ = some (ptr e.bef) := by rw [h.cellAt]; exact cellsE_at h.len 2
theorem EntAt.aft {w : World} {b : Nat} {e : Ent} (h : EntAt w b e) : w.cell? ⟨b, 516, none⟩ = some (ptr e.aft) := by rw [h.cellAt]; exact cellsE_at h.len 3
theorem EntAt.frozen {w : World} {b : Nat} {e : Ent} (h : EntAt w b e) (i : Nat) : w.frozen? ⟨b, i, none⟩ = false := by simp [World.frozen?, h.blk]
theorem EntAt.rd {w : World} {b : Nat} {e : Ent} (h : EntAt w b e) : Rd w (some ⟨b, 1, none⟩) 512 512 e.row.bytes :=
  ⟨h.len, Nat.le_refl _, fun h => (by cases h), fun _ => ⟨b, 1, rfl, fun t ht => by rw [h.cellAt]; exact cellsE_byte h.len t ht⟩⟩

theorem blk_set {w : World} {b i : Nat} {v : Value} {cs : List Value} {t : TypeId} (h : w.heap[b]? = some (.cells cs.toArray t (0, 0))) : (w.setCell ⟨b, i, none⟩ v).heap[b]? = some (.cells (cs.set i v).toArray t (0, 0)) := by
  have hgl : b < w.heap.size := (Array.getElem?_eq_some_iff.1 h).1
  simp [World.setCell, Array.getElem?_modify, h]

def Ent.wPins (e : Ent) (n : Nat) : Ent := { e with row := { e.row with pins := n } }
def Ent.wDirty (e : Ent) (d : Bool) : Ent := { e with row := { e.row with dirty := d } }
def Ent.wBef (e : Ent) (b : Nat) : Ent := { e with bef := some b }
def Ent.wAft (e : Ent) (b : Nat) : Ent := { e with aft := some b }
def Ent.wBytes (e : Ent) (x : List Nat) : Ent := { e with row := { e.row with bytes := x } }

theorem EntAt.setPins {w : World} {b : Nat} {e : Ent} (h : EntAt w b e) (n : Nat) : EntAt (w.setCell ⟨b, 513, none⟩ (.int .i64 (n : Int))) b (e.wPins n) :=
  ⟨by rw [blk_set h.blk, cellsE_set h.len 0]; rfl, h.len⟩
theorem EntAt.setDirty {w : World} {b : Nat} {e : Ent} (h : EntAt w b e) (d : Bool) : EntAt (w.setCell ⟨b, 514, none⟩ (.bool d)) b (e.wDirty d) :=
  ⟨by rw [blk_set h.blk, cellsE_set h.len 1]; rfl, h.len⟩
theorem EntAt.setBef {w : World} {b : Nat} {e : Ent} (h : EntAt w b e) (q : Nat) : EntAt (w.setCell ⟨b, 515, none⟩ (.pointer (some ⟨q, 0, none⟩))) b (e.wBef q) :=
  ⟨by rw [blk_set h.blk, cellsE_set h.len 2]; rfl, h.len⟩
theorem EntAt.setAft {w : World} {b : Nat} {e : Ent} (h : EntAt w b e) (q : Nat) : EntAt (w.setCell ⟨b, 516, none⟩ (.pointer (some ⟨q, 0, none⟩))) b (e.wAft q) :=
  ⟨by rw [blk_set h.blk, cellsE_set h.len 3]; rfl, h.len⟩
theorem EntAt.setOther {w : World} {b : Nat} {e : Ent} (h : EntAt w b e) {k i : Nat} (hk : b ≠ k) (v : Value) : EntAt (w.setCell ⟨k, i, none⟩ v) b e := h.stay (set_heap w k i b v hk)

/-- One block's page turns. -/
def upd (E : Nat → Ent) (k : Nat) (x : Ent) : Nat → Ent := fun b => if b = k then x else E b
theorem upd_same (E : Nat → Ent) (k : Nat) (x : Ent) : upd E k x k = x := by simp [upd]
theorem upd_other (E : Nat → Ent) {k b : Nat} (x : Ent) (h : b ≠ k) : upd E k x b = E b := by simp [upd, h]

def Chain (E : Nat → Ent) : List Nat → Prop
  | x :: y :: l => (E x).aft = some y ∧ (E y).bef = some x ∧ Chain E (y :: l)
  | _ => True

theorem Chain.split {E : Nat → Ent} : ∀ {A : List Nat} {p : Nat} {C : List Nat}, Chain E (A ++ p :: C) ↔ Chain E (A ++ [p]) ∧ Chain E (p :: C)
  | [], p, C => by simp [Chain]
  | [a], p, C => by
    show (E a).aft = some p ∧ (E p).bef = some a ∧ Chain E (p :: C) ↔ ((E a).aft = some p ∧ (E p).bef = some a ∧ Chain E [p]) ∧ Chain E (p :: C)
    simp [Chain, and_assoc]
  | a :: b :: A, p, C => by
    have ih := Chain.split (E := E) (A := b :: A) (p := p) (C := C)
    simp only [List.cons_append] at ih
    simp only [List.cons_append, Chain, and_assoc]
    rw [ih]

/-- What a chain asks: what comes behind all but the last, and what comes ahead of all but the first. -/
theorem Chain.stay {E E' : Nat → Ent} : ∀ {l : List Nat}, Chain E l → (∀ x ∈ l.dropLast, (E' x).aft = (E x).aft) → (∀ x ∈ l.tail, (E' x).bef = (E x).bef) → Chain E' l
  | [], _, _, _ => trivial
  | [_], _, _, _ => trivial
  | x :: y :: l, h, ha, hb => by
    obtain ⟨h1, h2, h3⟩ := h
    refine ⟨(ha x (by simp [List.dropLast])).trans h1, (hb y (by simp)).trans h2, Chain.stay h3 (fun z hz => ha z ?_) (fun z hz => hb z ?_)⟩
    · simp only [List.dropLast]; exact List.mem_cons_of_mem _ hz
    · simp only [List.tail_cons] at hz ⊢; exact List.mem_cons_of_mem _ hz

theorem Chain.ends {E : Nat → Ent} {A : List Nat} {p e q : Nat} {B : List Nat} (h : Chain E (A ++ p :: e :: q :: B)) : (E e).bef = some p ∧ (E e).aft = some q ∧ Chain E (A ++ [p]) ∧ Chain E (q :: B) := by
  obtain ⟨h1, h2⟩ := Chain.split.1 h
  exact ⟨h2.2.1, h2.2.2.1, h1, h2.2.2.2.2⟩

/-- The ring's last one, as the head names it. -/
theorem last_form (h : Nat) (xs : List Nat) : ∃ A p, h :: xs = A ++ [p] ∧ p ∈ h :: xs := by
  refine ⟨(h :: xs).dropLast, (h :: xs).getLast (by simp), (List.dropLast_concat_getLast (by simp)).symm, List.getLast_mem _⟩
theorem first_form (ys : List Nat) (h : Nat) : ∃ q B, ys ++ [h] = q :: B ∧ q ∈ h :: ys := by
  cases ys with
  | nil => exact ⟨h, [], rfl, by simp⟩
  | cons y ys => exact ⟨y, ys ++ [h], rfl, by simp⟩

def cut2 (E : Nat → Ent) (p q : Nat) : Nat → Ent := upd (upd E p ((E p).wAft q)) q ((upd E p ((E p).wAft q) q).wBef p)
theorem cut2_row (E : Nat → Ent) (p q b : Nat) : (cut2 E p q b).row = (E b).row := by
  unfold cut2 upd; split <;> (try split) <;> simp_all [Ent.wAft, Ent.wBef]
theorem cut2_aft (E : Nat → Ent) {p q b : Nat} (h : b ≠ p) : (cut2 E p q b).aft = (E b).aft := by
  unfold cut2 upd; split <;> simp_all [Ent.wBef]
theorem cut2_bef (E : Nat → Ent) {p q b : Nat} (h : b ≠ q) : (cut2 E p q b).bef = (E b).bef := by
  unfold cut2 upd; simp only [h, if_false]; split <;> simp_all [Ent.wAft]
theorem cut2_paft (E : Nat → Ent) (p q : Nat) : (cut2 E p q p).aft = some q := by
  unfold cut2 upd; split <;> simp_all [Ent.wAft, Ent.wBef]
theorem cut2_qbef (E : Nat → Ent) (p q : Nat) : (cut2 E p q q).bef = some p := by
  unfold cut2 upd; simp [Ent.wBef]
theorem cut2_else (E : Nat → Ent) {p q b : Nat} (h1 : b ≠ p) (h2 : b ≠ q) : cut2 E p q b = E b := by simp [cut2, upd, h1, h2]

theorem nodup_last {A : List Nat} {p : Nat} (h : (A ++ [p]).Nodup) : p ∉ A := by
  intro hp
  have := List.nodup_append.1 h
  exact this.2.2 p hp p (by simp) rfl

/-- Two neighbours are made such. -/
theorem Chain.join {E : Nat → Ent} {A : List Nat} {p q : Nat} {B : List Nat} (h1 : Chain E (A ++ [p])) (h2 : Chain E (q :: B))
    (hA : p ∉ A) (hB : q ∉ B) (hq : q ∉ (A ++ [p]).tail) (hp : p ∉ (q :: B).dropLast) : Chain (cut2 E p q) (A ++ p :: q :: B) := by
  rw [Chain.split]
  refine ⟨h1.stay (fun x hx => cut2_aft E ?_) (fun x hx => cut2_bef E ?_), cut2_paft E p q, cut2_qbef E p q, h2.stay (fun x hx => cut2_aft E ?_) (fun x hx => cut2_bef E ?_)⟩
  · rintro rfl; rw [List.dropLast_concat] at hx; exact hA hx
  · rintro rfl; exact hq hx
  · rintro rfl; exact hp hx
  · rintro rfl; exact hB hx

theorem Chain.cut {E : Nat → Ent} {h e : Nat} {xs ys : List Nat} (hc : Chain E (h :: (xs ++ e :: ys) ++ [h])) (nd : (h :: (xs ++ e :: ys)).Nodup) :
    ∃ p q, (E e).bef = some p ∧ (E e).aft = some q ∧ p ∈ h :: xs ∧ q ∈ h :: ys ∧ Chain (cut2 E p q) (h :: (xs ++ ys) ++ [h]) := by
  obtain ⟨A, p, e1, hp⟩ := last_form h xs
  obtain ⟨q, B, e2, hq⟩ := first_form ys h
  have e3 : h :: (xs ++ e :: ys) ++ [h] = A ++ p :: e :: q :: B := by
    have : h :: (xs ++ e :: ys) ++ [h] = (h :: xs) ++ e :: (ys ++ [h]) := by simp
    rw [this, e1, e2]; simp
  rw [e3] at hc
  obtain ⟨h1, h2, h3, h4⟩ := hc.ends
  refine ⟨p, q, h1, h2, hp, hq, ?_⟩
  have e4 : h :: (xs ++ ys) ++ [h] = A ++ p :: q :: B := by
    have : h :: (xs ++ ys) ++ [h] = (h :: xs) ++ (ys ++ [h]) := by simp
    rw [this, e1, e2]; simp
  rw [e4]
  have nd1 : (h :: xs).Nodup := (List.nodup_cons.1 nd).imp (fun hn => by simp at hn; simp [hn]) (fun hn => (List.nodup_append.1 hn).1) |> fun h => List.nodup_cons.2 h
  have hx : ∀ x ∈ h :: xs, x ∉ ys := by
    intro x hx hy
    have n2 := List.nodup_cons.1 nd
    rcases List.mem_cons.1 hx with rfl | hx
    · exact n2.1 (by simp [hy])
    · exact (List.nodup_append.1 n2.2).2.2 x hx x (by simp [hy]) rfl
  have hn : h ∉ ys := hx h (by simp)
  have ndy : ys.Nodup := (List.nodup_cons.1 (List.nodup_append.1 (List.nodup_cons.1 nd).2).2.1).2
  have ndq : (q :: B).Nodup := by
    rw [← e2]
    exact List.nodup_append.2 ⟨ndy, by simp, fun a ha b hb => by simp at hb; subst hb; rintro rfl; exact hn ha⟩
  refine h3.join h4 (nodup_last (e1 ▸ nd1)) (List.nodup_cons.1 ndq).1 ?_ ?_
  · rw [← e1]
    intro hq2
    simp only [List.tail_cons] at hq2
    rcases List.mem_cons.1 hq with rfl | hq
    · exact (List.nodup_cons.1 nd1).1 hq2
    · exact hx q (by simp [hq2]) hq
  · rw [← e2, List.dropLast_concat]
    exact hx p hp

def lnk (E : Nat → Ent) (e z h : Nat) : Nat → Ent := upd E e (((E e).wBef z).wAft h)

/-- One more at the ring's end. -/
theorem Chain.add {E : Nat → Ent} {h e : Nat} {ks : List Nat} (hc : Chain E (h :: ks ++ [h])) (nd : (h :: ks).Nodup) (he : e ∉ h :: ks) :
    ∃ z, (E h).bef = some z ∧ z ∈ h :: ks ∧ ∀ E', (∀ b, b ≠ e → E' b = E b) → (E' e).bef = some z → (E' e).aft = some h → Chain (fun b => if b = e then E' e else upd (upd E' z ((E' z).wAft e)) h ((upd E' z ((E' z).wAft e) h).wBef e) b) (h :: (ks ++ [e]) ++ [h]) := by
  obtain ⟨A, z, e1, hz⟩ := last_form h ks
  have e2 : h :: ks ++ [h] = A ++ z :: [h] := by rw [e1]; simp
  have hc' := hc
  rw [e2] at hc
  obtain ⟨h1, h2⟩ := Chain.split.1 hc
  refine ⟨z, h2.2.1, hz, fun E' ho hb ha => ?_⟩
  have hne : ∀ x ∈ h :: ks, x ≠ e := fun x hx hxe => he (hxe ▸ hx)
  have hze := hne z hz
  have hhe := hne h (by simp)
  have e3 : h :: (ks ++ [e]) ++ [h] = A ++ z :: [e, h] := by
    have : h :: (ks ++ [e]) ++ [h] = (h :: ks) ++ [e, h] := by simp
    rw [this, e1]; simp
  rw [e3, Chain.split]
  have hzA : z ∉ A := nodup_last (e1 ▸ nd)
  refine ⟨h1.stay (fun x hx => ?_) (fun x hx => ?_), ?_, ?_, ?_, ?_, trivial⟩
  · rw [List.dropLast_concat] at hx
    have hxm : x ∈ h :: ks := by rw [e1]; exact List.mem_append_left _ hx
    have hxz : x ≠ z := by rintro rfl; exact hzA hx
    simp only [hne x hxm, if_false, upd]
    split
    · rename_i hxh; subst hxh; simp [Ent.wBef, hxz, ho x (hne x hxm)]
    · simp [ho x (hne x hxm)]
  · rw [← e1, List.tail_cons] at hx
    have hxm : x ∈ h :: ks := List.mem_cons_of_mem _ hx
    have hxh : x ≠ h := by rintro rfl; exact (List.nodup_cons.1 nd).1 hx
    simp only [hne x hxm, if_false, upd, hxh]
    split
    · rename_i hxz; subst hxz; simp [Ent.wAft, ho x (hne x hxm)]
    · simp [ho x (hne x hxm)]
  · simp only [hze, if_false, upd]
    split
    · rename_i hzh; simp [Ent.wBef, Ent.wAft, hzh]
    · simp [Ent.wAft]
  · simp [hb]
  · simp [ha]
  · simp [hhe, upd, Ent.wBef]

end Go.Proofs.Ytebjjibgkjgpgaa
