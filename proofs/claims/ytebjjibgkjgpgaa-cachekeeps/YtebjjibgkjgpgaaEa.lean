/- What each call of a cache does: those that look one page up; no statement of the seat is proved here. -/
import Derived.Test.YtebjjibgkjgpgaaDe
namespace Go.Proofs.Ytebjjibgkjgpgaa
open Go.RowKit Go.Maps

def nulls : Value := .slice none 0 0

set_option maxRecDepth 20000 in
set_option maxHeartbeats 1000000 in
/-- slices.Clone of bytes. -/
theorem clone_any (b o n cap : Nat) (xs : List Nat) (w : World) (hr : Rd w (some ⟨b, o, none⟩) n cap xs) (hn : n ≤ 1000000) :
    Calls Try.prog 53 #[.slice (some ⟨b, o, none⟩) n cap] w fun e w' => ∃ ao cap', e = .returned (.slice ao n cap') ∧ w'.ownsRow w.heap.size 5 1 (.slice ao n cap') n (bs xs) ∧ Below w.heap.size w w' := by
  have hb0 : Below w.heap.size w (w.alloc (.cells #[] 5)) := (Below.refl _ w).alloc (Nat.le_refl _) _
  have hr0 := hid (hr.keep hb0)
  have ho0 : (w.alloc (.cells #[] 5)).ownsRow w.heap.size 5 1 (.slice (some ⟨w.heap.size, 0, none⟩) 0 0) 0 (bs []) := World.ownsRow_made w #[] 0 (Nat.le_refl _) (by decide) rfl
  have HO := hid ho0; have HB := hid hb0
  have hnil : (binOp .eql 38 (.slice (some ⟨b, o, none⟩) n cap) (.slice none 0 0)).run Try.prog w = .ok (.bool false) w := by
    have h2 : ∀ d : Nat, (Op.equalIn (d + 1) 38 (.slice (some ⟨b, o, none⟩) n cap) (.slice none 0 0)).run Try.prog w = .ok false w := fun d => by simp [Op.equalIn, run_underlying Try.underlying38]
    simp only [binOp]
    simp [Op.equal, Op.maxDepth, h2 9999]
  clear hr ho0 hb0
  go_enter Try.func53, Try.ntmps53
  go_wp2_with ((with_reducible refine here_op 7 ?_); refine wpList_append_rd rfl (.tmp 5) (.tmp 6) rfl w.heap.size _ 0 [] rfl HO.out _ n cap xs rfl hr0.out (by omega) (by simp) ?_; intro v' w2 ho2 hb2; have HO2 := hid ho2; have HB2 := hid hb2; clear ho2 hb2)
  go_ret
  obtain ⟨ao, cap', e1, _, _⟩ := rd_owned HO2.out
  subst e1
  simp only [Nat.zero_add, List.nil_append] at HO2 ⊢
  exact ⟨ao, cap', rfl, HO2.out, HB.out.trans HB2.out⟩

/-! ### the model -/

def CS.find (s : CS) (k : Int) : Option Row := s.l.find? (fun r => r.page == k)
def CS.others (s : CS) (k : Int) : List Row := s.l.filter (fun r => r.page != k)
def CS.upd (s : CS) (k : Int) (f : Row → Row) : CS := { s with l := s.l.map (fun r => if r.page = k then f r else r) }

theorem CP.find {w : World} {c : Nat} {C : Parts} {s : CS} (h : CP w c C s) (k : Int) : s.find k = (lk C.ks C.E k).map (fun b => (C.E b).row) := by
  unfold CS.find lk
  rw [h.ls, List.find?_map]
  rfl
theorem CP.find_some {w : World} {c : Nat} {C : Parts} {s : CS} (h : CP w c C s) {k : Int} {b : Nat} (hb : lk C.ks C.E k = some b) : s.find k = some (C.E b).row := by rw [h.find, hb]; rfl
theorem CP.find_none {w : World} {c : Nat} {C : Parts} {s : CS} (h : CP w c C s) {k : Int} (hb : lk C.ks C.E k = none) : s.find k = none := by rw [h.find, hb]; rfl

/-- What one page's turning does to the rows. -/
theorem rows_upd {w : World} {c : Nat} {C : Parts} {s : CS} (h : CP w c C s) {k : Int} {e : Nat} (he : lk C.ks C.E k = some e) (f : Row → Row) (x : Ent) (hx : x.row = f (C.E e).row) : rowsOf C.ks (Ytebjjibgkjgpgaa.upd C.E e x) = (s.upd k f).l := by
  have h1 := (lk_iff h.pn).1 he
  unfold CS.upd rowsOf
  rw [h.ls, List.map_map]
  refine List.map_congr_left (fun b hb => ?_)
  simp only [Function.comp]
  unfold Ytebjjibgkjgpgaa.upd
  by_cases hbe : b = e
  · subst hbe; rw [if_pos rfl, if_pos h1.2]; exact hx
  · rw [if_neg hbe, if_neg ?_]
    intro hp
    have := (lk_iff h.pn).2 ⟨hb, hp⟩
    rw [he] at this
    cases this
    exact hbe rfl

def CS.pinsOf (s : CS) (k : Int) : Nat := match s.find k with | some r => r.pins | none => 0
def CS.peek (s : CS) (k : Int) : Option (List Nat) := (s.find k).map Row.bytes

set_option maxHeartbeats 1000000 in
theorem pins_call (c : Nat) (C : Parts) (s : CS) (k : Int) (w : World) (h : CP w c C s) (hk : (Lit.int .i64 k).wf = true) :
    Calls Try.prog 15 #[.pointer (some ⟨c, 0, none⟩), .int .i64 k] w fun e w' => e = .returned (.int .i64 (s.pinsOf k : Int)) ∧ w' = w := by
  cases ho : lk C.ks C.E k with
  | none =>
    have k1 := hid (find_at c C s k w h hk none ho)
    have e1 : s.pinsOf k = 0 := by unfold CS.pinsOf; rw [h.find_none ho]
    rw [e1]
    clear h e1
    go_enter Try.func15, Try.ntmps15
    go_wp2_with (go_at_call 47; refine k1.out.mono ?_; rintro e w1 ⟨rfl, rfl⟩; simp only [ptr, lkE])
    go_ret
    exact ⟨rfl, rfl⟩
  | some b =>
    have k1 := hid (find_at c C s k w h hk (some b) ho)
    have e1 : s.pinsOf k = (C.E b).row.pins := by unfold CS.pinsOf; rw [h.find_some ho]
    have c1 := (h.rg.en b (List.mem_cons_of_mem _ ((lk_iff h.pn).1 ho).1)).pins
    rw [e1]
    clear h e1
    go_enter Try.func15, Try.ntmps15
    go_wp2_with (go_at_call 47; refine k1.out.mono ?_; rintro e w1 ⟨rfl, rfl⟩; simp only [ptr, lkE])
    go_ret
    exact ⟨rfl, rfl⟩

/-- What a call that tells bytes answers. -/
def Bytes (o : Option (List Nat)) (B : Nat) (w' : World) (e : Ending) : Prop :=
  match o with
  | none => e = .returned (.tuple #[.slice none 0 0, .bool false])
  | some x => x.length = 512 ∧ ∃ ao cap, e = .returned (.tuple #[.slice ao 512 cap, .bool true]) ∧ w'.ownsRow B 5 1 (.slice ao 512 cap) 512 (bs x)

set_option maxHeartbeats 1000000 in
theorem peek_call (c : Nat) (C : Parts) (s : CS) (k : Int) (w : World) (h : CP w c C s) (hk : (Lit.int .i64 k).wf = true) :
    Calls Try.prog 18 #[.pointer (some ⟨c, 0, none⟩), .int .i64 k] w fun e w' => Bytes (s.peek k) w.heap.size w' e ∧ Below w.heap.size w w' := by
  cases ho : lk C.ks C.E k with
  | none =>
    have k1 := hid (find_at c C s k w h hk none ho)
    have e1 : s.peek k = none := by unfold CS.peek; rw [h.find_none ho]; rfl
    rw [e1]
    clear h e1
    go_enter Try.func18, Try.ntmps18
    go_wp2_with (go_at_call 47; refine k1.out.mono ?_; rintro e w1 ⟨rfl, rfl⟩; simp only [ptr, lkE])
    go_ret2
    exact ⟨rfl, Below.refl _ _⟩
  | some b =>
    have k1 := hid (find_at c C s k w h hk (some b) ho)
    have e1 : s.peek k = some (C.E b).row.bytes := by unfold CS.peek; rw [h.find_some ho]; rfl
    have hen := h.rg.en b (List.mem_cons_of_mem _ ((lk_iff h.pn).1 ho).1)
    have k2 := hid (clone_any b 1 512 512 _ w hen.rd (by omega))
    have hl := hid hen.len
    rw [e1]
    clear h e1 hen
    go_enter Try.func18, Try.ntmps18
    go_wp2_with (first | (go_at_call 47; refine k1.out.mono ?_; rintro e w1 ⟨rfl, h0⟩; obtain rfl := h0.symm; simp only [ptr, lkE]) | (go_at_call 53; refine k2.out.mono ?_; rintro e w2 ⟨ao, cap, rfl, h2, h3⟩; have H2 := hid h2; have H3 := hid h3; clear h2 h3))
    go_ret2
    exact ⟨⟨hl.out, ao, cap, rfl, H2.out⟩, H3.out⟩

end Go.Proofs.Ytebjjibgkjgpgaa
