/- Which pages may go; a page turns; a copy of bytes; no statement of the seat is proved here. -/
import Derived.Test.YtokofpbhbjbnfaaGreatDoorG26
import Derived.Test.YtokofpbhbjbnfaaGreatDoorG00
namespace Go.Proofs.YtokofpbhbjbnfaaGreatDoor.Cch
open Go.RowKit Go.Maps

def p56 (r : Row) : Bool := decide (r.pins = 0)
def p52 (k : Int) (r : Row) : Bool := decide (r.page ≠ k) && (decide (r.pins = 0) && !r.dirty)

set_option maxHeartbeats 1000000 in
theorem which52_same (e eb : Nat) (w : World) (hc : w.cell? ⟨eb, 0, none⟩ = some (.pointer (some ⟨e, 0, none⟩))) :
    Calls Tryz.prog 125 #[.pointer (some ⟨e, 0, none⟩), .pointer (some ⟨eb, 0, none⟩)] w fun r w' => r = .returned (.bool false) ∧ w' = w := by
  have h1 := ptr_eq w e
  go_enter Tryz.func125, Tryz.ntmps125
  go_wp2
  go_ret
  exact ⟨rfl, rfl⟩
set_option maxHeartbeats 1000000 in
theorem which52_else (b e eb : Nat) (x y : Ent) (w : World) (hb : EntAt w b x) (he : EntAt w e y) (hne : b ≠ e) (hc : w.cell? ⟨eb, 0, none⟩ = some (.pointer (some ⟨e, 0, none⟩))) :
    Calls Tryz.prog 125 #[.pointer (some ⟨b, 0, none⟩), .pointer (some ⟨eb, 0, none⟩)] w fun r w' => r = .returned (.bool (decide (x.row.pins = 0) && !x.row.dirty)) ∧ w' = w := by
  have h1 := ptr_ne hb he hne
  have c1 := hb.pins; have c2 := hb.dirty
  clear hb he
  rcases Nat.eq_zero_or_pos x.row.pins with hz | hz
  · rw [hz] at c1 ⊢
    simp only [Int.ofNat_zero] at c1
    cases hd : x.row.dirty
    · rw [hd] at c2
      go_enter Tryz.func125, Tryz.ntmps125
      go_wp2
      go_ret
      exact ⟨rfl, rfl⟩
    · rw [hd] at c2
      go_enter Tryz.func125, Tryz.ntmps125
      go_wp2
      go_ret
      exact ⟨rfl, rfl⟩
  · have h2 : ¬ x.row.pins = 0 := by omega
    have h3 : ¬ (x.row.pins : Int) = 0 := by omega
    have e1 : (decide (x.row.pins = 0) && !x.row.dirty) = false := by simp [h2]
    rw [e1]
    go_enter Tryz.func125, Tryz.ntmps125
    go_wp2
    go_ret
    exact ⟨rfl, rfl⟩

/-! ### a page turns in its place -/

theorem chain_upd {E : Nat → Ent} {e : Nat} {x : Ent} (hb : x.bef = (E e).bef) (ha : x.aft = (E e).aft) {l : List Nat} (h : Chain E l) : Chain (upd E e x) l := by
  refine h.stay (fun b _ => ?_) (fun b _ => ?_)
  · unfold upd; split
    · rename_i h1; rw [h1]; exact ha
    · rfl
  · unfold upd; split
    · rename_i h1; rw [h1]; exact hb
    · rfl

theorem CP.turn {w w' : World} {c e : Nat} {C : Parts} {s : CS} (h : CP w c C s) (he : e ∈ C.ks) {x : Ent} (hx : EntAt w' e x) (hb : x.bef = (C.E e).bef) (ha : x.aft = (C.E e).aft) (hp : x.row.page = (C.E e).row.page)
    (hblk : ∀ k, k < w.heap.size → C.S c k → k ≠ e → w'.heap[k]? = w.heap[k]?) : CP w' c { C with E := upd C.E e x } { s with l := rowsOf C.ks (upd C.E e x) } := by
  have hch : e ≠ c := fun h0 => h.nc (h0 ▸ List.mem_cons_of_mem _ he)
  have hcm : C.m ≠ e := fun h0 => h.nm (h0 ▸ List.mem_cons_of_mem _ he)
  have hpg : ∀ b, ((upd C.E e x) b).row.page = (C.E b).row.page := fun b => by
    unfold upd; split
    · rename_i h1; rw [h1]; exact hp
    · rfl
  have hpo : pagesOf C.ks (upd C.E e x) = pagesOf C.ks C.E := List.map_congr_left (fun b _ => hpg b)
  refine CP.mk' ((hblk c h.clt (Or.inl rfl) hch.symm).trans h.hd) ?_ ⟨fun b hb => ?_, chain_upd hb ha h.rg.ch, h.rg.nd⟩ rfl (by show (pagesOf C.ks (upd C.E e x)).Nodup; rw [hpo]; exact h.pn) ?_ h.rm
  · refine MapAt.imp (h.mp.stay (hblk _ h.mp.lt (Or.inr (Or.inl rfl)) hcm)) rfl (fun k _ => ?_)
    show lk C.ks C.E k = lk C.ks (upd C.E e x) k
    unfold lk
    congr 1
    funext b
    rw [hpg b]
  · by_cases hbe : b = e
    · subst hbe; show EntAt w' b (upd C.E b x b); rw [upd_same]; exact hx
    · show EntAt w' b (upd C.E e x b)
      rw [upd_other _ _ hbe]
      exact (h.rg.en b hb).stay (hblk b (h.rg.en b hb).lt (Or.inr (Or.inr hb)) hbe)
  · intro r hr
    obtain ⟨b, hb, rfl⟩ := List.mem_map.1 hr
    have := h.wf (C.E b).row (by rw [h.ls]; exact List.mem_map.2 ⟨b, hb, rfl⟩)
    rw [hpg b]
    exact this

/-- The head's counters turn. -/
theorem CP.hits {w w' : World} {c : Nat} {C : Parts} {s : CS} (h : CP w c C s) (hit miss : Nat) (hd : w'.heap[c]? = some (.cells (hdC C.m C.h s.room hit miss).toArray 113 (0, 0))) (hblk : ∀ k, k < w.heap.size → C.S c k → k ≠ c → w'.heap[k]? = w.heap[k]?) :
    CP w' c C { s with hit := hit, miss := miss } :=
  ⟨hd, h.mp.stay (hblk _ h.mp.lt (Or.inr (Or.inl rfl)) h.mc), h.rg.stay (fun b hb => hblk b (h.rg.en b hb).lt (Or.inr (Or.inr hb)) (fun h0 => h.nc (h0 ▸ hb))), h.ls, h.pg, h.wf, h.rm⟩

theorem EntAt.copy {w : World} {e : Nat} {x : Ent} (h : EntAt w e x) {b : List Nat} (hb : b.length = 512) :
    EntAt (w.setRow e ((cellsE x).take 1 ++ (bs b ++ (cellsE x).drop (1 + (bs b).length))).toArray) e (x.wBytes b) ∧ ∀ k, k ≠ e → (w.setRow e ((cellsE x).take 1 ++ (bs b ++ (cellsE x).drop (1 + (bs b).length))).toArray).heap[k]? = w.heap[k]? := by
  have e1 : (cellsE x).take 1 ++ (bs b ++ (cellsE x).drop (1 + (bs b).length)) = cellsE (x.wBytes b) := by
    have e2 : (cellsE x).drop (1 + (bs b).length) = tailE x := by
      rw [bs_length, hb, Nat.add_comm, cellsE, List.drop_succ_cons, List.drop_append_of_le_length (by rw [bs_length, h.len]; exact Nat.le_refl _), List.drop_of_length_le (by rw [bs_length, h.len]; exact Nat.le_refl _), List.nil_append]
    rw [e2]
    rfl
  rw [e1]
  refine ⟨⟨?_, hb⟩, fun k hk => ?_⟩
  · exact setRow_heap _ _ _ _ _ _ h.blk
  · exact setRow_other _ _ _ _ hk

end Go.Proofs.YtokofpbhbjbnfaaGreatDoor.Cch

/- What each call of a cache does: those that look one page up; no statement of the seat is proved here. -/
namespace Go.Proofs.YtokofpbhbjbnfaaGreatDoor.Cch
open Go.RowKit Go.Maps

def nulls : Value := .slice none 0 0

set_option maxRecDepth 20000 in
set_option maxHeartbeats 1000000 in
/-- slices.Clone of bytes. -/
theorem clone_any (b o n cap : Nat) (xs : List Nat) (w : World) (hr : Rd w (some ⟨b, o, none⟩) n cap xs) (hn : n ≤ 1000000) :
    Calls Tryz.prog 69 #[.slice (some ⟨b, o, none⟩) n cap] w fun e w' => ∃ ao cap', e = .returned (.slice ao n cap') ∧ w'.ownsRow w.heap.size 5 1 (.slice ao n cap') n (bs xs) ∧ Below w.heap.size w w' := by
  have hb0 : Below w.heap.size w (w.alloc (.cells #[] 5)) := (Below.refl _ w).alloc (Nat.le_refl _) _
  have hr0 := hid (hr.keep hb0)
  have ho0 : (w.alloc (.cells #[] 5)).ownsRow w.heap.size 5 1 (.slice (some ⟨w.heap.size, 0, none⟩) 0 0) 0 (bs []) := World.ownsRow_made w #[] 0 (Nat.le_refl _) (by decide) rfl
  have HO := hid ho0; have HB := hid hb0
  have hnil : (binOp .eql 60 (.slice (some ⟨b, o, none⟩) n cap) (.slice none 0 0)).run Tryz.prog w = .ok (.bool false) w := by
    have h2 : ∀ d : Nat, (Op.equalIn (d + 1) 60 (.slice (some ⟨b, o, none⟩) n cap) (.slice none 0 0)).run Tryz.prog w = .ok false w := fun d => by simp [Op.equalIn, run_underlying Tryz.underlying60]
    simp only [binOp]
    simp [Op.equal, Op.maxDepth, h2 9999]
  clear hr ho0 hb0
  go_enter Tryz.func69, Tryz.ntmps69
  go_wp2_with ((with_reducible refine here_op 7 ?_); refine wpList_append_rd rfl (.tmp 5) (.tmp 6) rfl w.heap.size _ 0 [] rfl HO.out _ n cap xs rfl hr0.out (by omega) (by simp) ?_; intro v' w2 ho2 hb2; have HO2 := hid ho2; have HB2 := hid hb2; clear ho2 hb2)
  go_ret
  obtain ⟨ao, cap', e1, _, _⟩ := rd_owned HO2.out
  subst e1
  simp only [Nat.zero_add, List.nil_append] at HO2 ⊢
  exact ⟨ao, cap', rfl, HO2.out, HB.out.trans HB2.out⟩

/-! ### the model -/

def CS.find (s : CS) (k : Int) : Option Row := s.l.find? (fun r => r.page == k)
def CS.others (s : CS) (k : Int) : List Row := s.l.filter (fun r => r.page != k)
def CS.upd (s : CS) (k : Int) (f : Row → Row) : CS := { s with l := s.l.map (fun r => if r.page = k then f r else r) }

theorem CP.find {w : World} {c : Nat} {C : Parts} {s : CS} (h : CP w c C s) (k : Int) : s.find k = (lk C.ks C.E k).map (fun b => (C.E b).row) := by
  unfold CS.find lk
  rw [h.ls, List.find?_map]
  rfl
theorem CP.find_some {w : World} {c : Nat} {C : Parts} {s : CS} (h : CP w c C s) {k : Int} {b : Nat} (hb : lk C.ks C.E k = some b) : s.find k = some (C.E b).row := by rw [h.find, hb]; rfl
theorem CP.find_none {w : World} {c : Nat} {C : Parts} {s : CS} (h : CP w c C s) {k : Int} (hb : lk C.ks C.E k = none) : s.find k = none := by rw [h.find, hb]; rfl

/-- What one page's turning does to the rows. -/
theorem rows_upd {w : World} {c : Nat} {C : Parts} {s : CS} (h : CP w c C s) {k : Int} {e : Nat} (he : lk C.ks C.E k = some e) (f : Row → Row) (x : Ent) (hx : x.row = f (C.E e).row) : rowsOf C.ks (YtokofpbhbjbnfaaGreatDoor.Cch.upd C.E e x) = (s.upd k f).l := by
  have h1 := (lk_iff h.pn).1 he
  unfold CS.upd rowsOf
  rw [h.ls, List.map_map]
  refine List.map_congr_left (fun b hb => ?_)
  simp only [Function.comp]
  unfold YtokofpbhbjbnfaaGreatDoor.Cch.upd
  by_cases hbe : b = e
  · subst hbe; rw [if_pos rfl, if_pos h1.2]; exact hx
  · rw [if_neg hbe, if_neg ?_]
    intro hp
    have := (lk_iff h.pn).2 ⟨hb, hp⟩
    rw [he] at this
    cases this
    exact hbe rfl

def CS.pinsOf (s : CS) (k : Int) : Nat := match s.find k with | some r => r.pins | none => 0
def CS.peek (s : CS) (k : Int) : Option (List Nat) := (s.find k).map Row.bytes

/-- What a call that tells bytes answers. -/
def Bytes (o : Option (List Nat)) (B : Nat) (w' : World) (e : Ending) : Prop :=
  match o with
  | none => e = .returned (.tuple #[.slice none 0 0, .bool false])
  | some x => x.length = 512 ∧ ∃ ao cap, e = .returned (.tuple #[.slice ao 512 cap, .bool true]) ∧ w'.ownsRow B 5 1 (.slice ao 512 cap) 512 (bs x)

end Go.Proofs.YtokofpbhbjbnfaaGreatDoor.Cch

/- What each call of a cache does: pins and marks; no statement of the seat is proved here. -/
namespace Go.Proofs.YtokofpbhbjbnfaaGreatDoor.Cch
open Go.RowKit Go.Maps

/-- What a call on a cache leaves. -/
structure Step (w w' : World) (c : Nat) (C C' : Parts) (s' : CS) : Prop where
  cp : CP w' c C' s'
  fr : Fr (C.S c) w w'
  gr : ∀ k, C'.S c k → C.S c k ∨ w.heap.size ≤ k

theorem Step.same {w : World} {c : Nat} {C : Parts} {s : CS} (h : CP w c C s) : Step w w c C C s := ⟨h, Fr.refl _ w, fun _ h => Or.inl h⟩

def CS.pin (s : CS) (k : Int) : CS × Int := match s.find k with | none => (s, 5) | some _ => (s.upd k (fun r => { r with pins := r.pins + 1 }), 0)
def CS.free (s : CS) (k : Int) : CS × Int := match s.find k with | none => (s, 5) | some r => if r.pins = 0 then (s, 6) else (s.upd k (fun r => { r with pins := r.pins - 1 }), 0)
def CS.mark (s : CS) (k : Int) (d : Bool) : CS × Int := match s.find k with | none => (s, 5) | some _ => (s.upd k (fun r => { r with dirty := d }), 0)
def CS.drop (s : CS) (k : Int) : CS × Int := match s.find k with | none => (s, 5) | some r => if r.pins = 0 then ({ s with l := s.others k }, 0) else (s, 6)

theorem others_of {w : World} {c : Nat} {C : Parts} {s : CS} (h : CP w c C s) {k : Int} {e : Nat} (he : lk C.ks C.E k = some e) {xs ys : List Nat} (hks : C.ks = xs ++ e :: ys) : s.others k = rowsOf (xs ++ ys) C.E := by
  have h1 := (lk_iff h.pn).1 he
  have hpn := h.pn
  rw [hks] at hpn
  simp only [pagesOf, List.map_append, List.map_cons] at hpn
  have n1 := List.nodup_append.1 hpn
  have n2 := List.nodup_cons.1 n1.2.1
  have ex : ∀ x ∈ xs, ((C.E x).row.page != k) = true := fun x hx => by
    have := n1.2.2 _ (List.mem_map.2 ⟨x, hx, rfl⟩) (C.E e).row.page (by simp)
    rw [h1.2] at this
    simpa using this
  have ey : ∀ x ∈ ys, ((C.E x).row.page != k) = true := fun x hx => by
    have : (C.E x).row.page ≠ k := fun h0 => n2.1 (List.mem_map.2 ⟨x, hx, by rw [h0, h1.2]⟩)
    simpa using this
  unfold CS.others
  rw [h.ls, hks]
  simp only [rowsOf, List.map_append, List.map_cons, List.filter_append, List.filter_cons, h1.2, bne_self_eq_false, if_false, Bool.false_eq_true]
  congr 1
  · refine List.filter_eq_self.2 (fun r hr => ?_)
    obtain ⟨x, hx, rfl⟩ := List.mem_map.1 hr
    exact ex x hx
  · refine List.filter_eq_self.2 (fun r hr => ?_)
    obtain ⟨x, hx, rfl⟩ := List.mem_map.1 hr
    exact ey x hx
theorem others_none {w : World} {c : Nat} {C : Parts} {s : CS} (h : CP w c C s) {k : Int} (he : lk C.ks C.E k = none) : s.others k = s.l := by
  refine List.filter_eq_self.2 (fun r hr => ?_)
  rw [h.ls] at hr
  obtain ⟨x, hx, rfl⟩ := List.mem_map.1 hr
  simpa using lk_none he x hx

theorem step_turn {w : World} {c e i : Nat} {C : Parts} {s : CS} (h : CP w c C s) {k : Int} (he : lk C.ks C.E k = some e) {v : Value} {x : Ent} {f : Row → Row} (hx : EntAt (w.setCell ⟨e, i, none⟩ v) e x) (hb : x.bef = (C.E e).bef) (ha : x.aft = (C.E e).aft) (hp : x.row.page = (C.E e).row.page) (hf : x.row = f (C.E e).row) :
    ∃ C', Step w (w.setCell ⟨e, i, none⟩ v) c C C' (s.upd k f) := by
  have hm := ((lk_iff h.pn).1 he).1
  have h1 := h.turn hm hx hb ha hp (fun k _ _ hk => set_heap w e i k v hk)
  rw [rows_upd h he f x hf] at h1
  exact ⟨_, h1, (Fr.refl _ w).set (Or.inl (Or.inr (Or.inr (List.mem_cons_of_mem _ hm)))) _, fun _ h => Or.inl h⟩

set_option maxHeartbeats 1000000 in
theorem drop_call (c : Nat) (C : Parts) (s : CS) (k : Int) (w : World) (h : CP w c C s) (hk : (Lit.int .i64 k).wf = true) :
    Calls Tryz.prog 94 #[.pointer (some ⟨c, 0, none⟩), .int .i64 k] w fun e w' => e = .returned (.int .i64 (s.drop k).2) ∧ ∃ C', Step w w' c C C' (s.drop k).1 := by
  cases ho : lk C.ks C.E k with
  | none =>
    have k1 := hid (find_at c C s k w h hk none ho)
    have e1 : s.drop k = (s, 5) := by unfold CS.drop; rw [h.find_none ho]
    rw [e1]
    have HH := hid h
    clear h e1
    go_enter Tryz.func94, Tryz.ntmps94
    go_wp2_with (go_at_call 120; refine k1.out.mono ?_; rintro e w1 ⟨rfl, h0⟩; obtain rfl := h0.symm; simp only [ptr, lkE])
    go_ret
    exact ⟨rfl, _, Step.same HH.out⟩
  | some b =>
    have k1 := hid (find_at c C s k w h hk (some b) ho)
    have hm := ((lk_iff h.pn).1 ho).1
    have hen := h.rg.en b (List.mem_cons_of_mem _ hm)
    have c1 := hen.pins
    rcases Nat.eq_zero_or_pos (C.E b).row.pins with hz | hz
    · obtain ⟨xs, ys, hks, _⟩ := h.idx ho
      have e1 : s.drop k = ({ s with l := rowsOf (xs ++ ys) C.E }, 0) := by unfold CS.drop; rw [h.find_some ho]; simp [hz, others_of h ho hks]
      rw [hz] at c1
      simp only [Int.ofNat_zero] at c1
      have k2 := hid (remove_cp c b xs ys C s w h hks)
      rw [e1]
      have HKS := hid hks
      clear h e1 hen hks
      go_enter Tryz.func94, Tryz.ntmps94
      go_wp2_with (first | (go_at_call 120; refine k1.out.mono ?_; rintro e w1 ⟨rfl, h0⟩; obtain rfl := h0.symm; simp only [ptr, lkE]) | (go_at_call 121; refine k2.out.mono ?_; rintro e w2 ⟨rfl, C2, h2, h3⟩; have H2 := hid h2; have H3 := hid h3; clear h2 h3))
      go_ret
      refine ⟨rfl, C2, H2.out, H3.out.fr, fun j hj => Or.inl ?_⟩
      rcases hj with rfl | rfl | hj
      · exact Or.inl rfl
      · exact Or.inr (Or.inl H3.out.m)
      · refine Or.inr (Or.inr ?_)
        rw [H3.out.h, H3.out.ks] at hj
        rw [HKS.out]
        simp only [List.mem_cons, List.mem_append] at hj ⊢
        rcases hj with h | h | h <;> simp [h]
    · have e1 : s.drop k = (s, 6) := by unfold CS.drop; rw [h.find_some ho]; simp only; rw [if_neg (by omega)]
      have hz1 : 0 < (C.E b).row.pins := hz
      rw [e1]
      have HH := hid h
      clear h e1 hen
      go_enter Tryz.func94, Tryz.ntmps94
      go_wp2_with (go_at_call 120; refine k1.out.mono ?_; rintro e w1 ⟨rfl, h0⟩; obtain rfl := h0.symm; simp only [ptr, lkE])
      go_ret
      exact ⟨rfl, _, Step.same HH.out⟩

end Go.Proofs.YtokofpbhbjbnfaaGreatDoor.Cch

/- What each call of a cache does: what is told of all pages; Clear; Get. No statement of the seat is proved here. -/
namespace Go.Proofs.YtokofpbhbjbnfaaGreatDoor.Cch
open Go.RowKit Go.Maps

def rise (l : List Int) : List Int := l.mergeSort (fun x y => decide (x ≤ y))
theorem rise_length (l : List Int) : (rise l).length = l.length := List.length_mergeSort l

theorem sort_row (B n cap : Nat) (ao : Option Addr) (l : List Int) (w : World) (h : w.ownsRow B 3 1 (.slice ao n cap) n (ints l)) (hn : n ≤ 1000000) :
    Calls Tryz.prog 112 #[.slice ao n cap] w fun e w' => e = .returned (.tuple #[]) ∧ w'.ownsRow B 3 1 (.slice ao n cap) n (ints (rise l)) ∧ Fr (fun k => ∃ a, ao = some a ∧ a.block = k) w w' := by
  have hl : l.length = n := by have := h.1; simpa [ints] using this
  rcases h.2 with ⟨hv, hz⟩ | ⟨g, cap', cur, hv, hB, hg, hnc, hm, hcs, htake⟩
  · simp only [Value.slice.injEq] at hv
    obtain ⟨rfl, rfl, rfl⟩ := hv
    obtain rfl : l = [] := List.eq_nil_of_length_eq_zero hl
    refine (AnyM.slices_Sort_int_none Tryz.sortA none 0 w).mono ?_
    rintro e w' ⟨rfl, rfl⟩
    exact ⟨rfl, by rw [show rise [] = [] by simp [rise]]; exact h, Fr.refl _ _⟩
  · simp only [Value.slice.injEq, true_and] at hv
    obtain ⟨rfl, rfl⟩ := hv
    have hgl : g < w.heap.size := (Array.getElem?_eq_some_iff.1 hg).1
    have hcell : ∀ j, j < l.length → cur[j]? = some (.int .i64 (l.toArray)[j]!) := fun j hj => by
      have h1 : (cur.toList.take (n * 1))[j]? = (ints l)[j]? := by rw [htake]
      rw [List.getElem?_take_of_lt (by omega), Array.getElem?_toList] at h1
      rw [h1]
      simp [ints, hj]
    have hH : Sort.Holds (Value.int .i64) w g 0 l.toArray := fun j hj => by
      simp at hj
      rw [Nat.zero_add]
      exact ⟨by simp only [World.cell?, hg]; exact hcell j hj, by simp [World.frozen?, hg]⟩
    have hk := AnyM.slices_Sort_int Tryz.sortA g 0 cap l w hH hgl (by omega)
    rw [hl] at hk
    refine hk.mono ?_
    rintro e w' ⟨rfl, k, os, rfl⟩
    obtain ⟨d, hd⟩ : ∃ d, d = rise l := ⟨_, rfl⟩
    rw [show (l.mergeSort fun x y => decide (x ≤ y)) = d from hd.symm, ← hd]
    have hdl : d.length = n := by rw [hd, rise_length, hl]
    have hblk : (Sort.grow (Sort.putRow (Value.int .i64) (Sort.ahead w k) g 0 d.toArray) os).heap[g]? = some (.cells (Sort.putCells (Value.int .i64) 0 d.toArray cur) 3 (0, 0)) := by
      simp only [Sort.grow, Sort.putRow, Sort.mapBlock, Sort.heap_ahead]
      rw [Array.getElem?_append_left (by simpa using hgl), Array.getElem?_modify, if_pos rfl, hg]
      rfl
    refine ⟨rfl, ⟨by simp [ints, hdl], .inr ⟨g, cap, _, rfl, hB, hblk, hnc, hm, ?_, ?_⟩⟩, rfl, rfl, rfl, ?_, fun j hj hS => ?_⟩
    · simp [Sort.putCells, hcs]
    · refine List.ext_getElem? fun j => ?_
      rcases Nat.lt_or_ge j n with hj | hj
      · rw [List.getElem?_take_of_lt (by omega), Array.getElem?_toList]
        have hjc : j < cur.size := by omega
        simp [Sort.putCells, ints, hjc, hdl, hj]
      · rw [List.getElem?_eq_none (by simp; omega), List.getElem?_eq_none (by simp [ints, hdl]; omega)]
    · simp [Sort.grow]
    · have hne : g ≠ j := fun h0 => hS ⟨_, rfl, h0⟩
      simp only [Sort.grow, Sort.putRow, Sort.mapBlock, Sort.heap_ahead]
      rw [Array.getElem?_append_left (by simpa using hj), Array.getElem?_modify, if_neg hne]

set_option maxHeartbeats 1000000 in
theorem len_call (c : Nat) (C : Parts) (s : CS) (w : World) (h : CP w c C s) :
    Calls Tryz.prog 57 #[.pointer (some ⟨c, 0, none⟩)] w fun e w' => e = .returned (.int .i64 (s.l.length : Int)) ∧ w' = w := by
  have k1 := hid (made_yes c s.room w h.c0 h.rm.1)
  have c1 := h.c1
  have hl := h.mp.len 3
  have e1 : s.l.length = C.ks.length := by rw [h.ls]; simp
  rw [e1]
  clear h e1
  go_enter Tryz.func57, Tryz.ntmps57
  go_wp2_with (go_at_call 87; refine k1.out.mono ?_; rintro e w1 ⟨rfl, h0⟩; obtain rfl := h0.symm)
  go_ret
  exact ⟨rfl, rfl⟩

/-- A list of numbers is told, in a row of its own. -/
def Told (l : List Int) (w : World) (e : Ending) (w' : World) : Prop := ∃ ao cap, e = .returned (.slice ao l.length cap) ∧ w'.ownsRow w.heap.size 3 1 (.slice ao l.length cap) l.length (ints l) ∧ Below w.heap.size w w'

theorem row_slice {w : World} {B n : Nat} {v : Value} {xs : List Value} (h : w.ownsRow B 3 1 v n xs) : ∃ ao cap, v = .slice ao n cap := by
  rcases h.2 with ⟨rfl, rfl⟩ | ⟨g, cap, cur, rfl, _⟩
  · exact ⟨_, _, rfl⟩
  · exact ⟨_, _, rfl⟩

theorem told_true (l : List Row) : told (fun _ => true) l = l.map Row.page := by
  have : l.filter (fun _ => true) = l := List.filter_eq_self.2 (fun _ _ => rfl)
  rw [told, this]
def CS.dirt (s : CS) : List Int := rise (told Row.dirty s.l)

theorem own_ge {w : World} {B n cap : Nat} {ao : Option Addr} {xs : List Value} {e : TypeId} (h : w.ownsRow B e 1 (.slice ao n cap) n xs) : ∀ a, ao = some a → B ≤ a.block := by
  intro a ha
  rcases h.2 with ⟨hv, _⟩ | ⟨g, cap', cur, hv, hB, _⟩
  · simp only [Value.slice.injEq] at hv; rw [hv.1] at ha; cases ha
  · simp only [Value.slice.injEq] at hv; rw [hv.1] at ha; cases ha; exact hB

def CS.clear (s : CS) : CS := { s with l := shedL p56 s.l.length s.l }
def CS.cleared (s : CS) : Nat := s.l.length - (shedL p56 s.l.length s.l).length

set_option maxHeartbeats 1000000 in
theorem shed_none (c f : Nat) (m : Int) (lb : Array Value) (w : World) (hm : m ≤ 0) :
    Calls Tryz.prog 124 #[.pointer (some ⟨c, 0, none⟩), .int .i64 m, .func (.func f) #[] lb] w fun e w' => e = .returned (.int .i64 0) ∧ Below w.heap.size w w' := by
  go_enter Tryz.func124, Tryz.ntmps124
  go_wp2
  go_ret
  exact ⟨rfl, (by repeat (first | with_reducible exact Below.refl _ _ | with_reducible assumption | with_reducible refine Below.drew ?_ | with_reducible refine below_drewN ?_ _ | with_reducible refine Below.alloc ?_ (by simp <;> omega) _ | with_reducible refine Below.setCell ?_ (by simp <;> omega) _))⟩

theorem step_of_shed {w w' : World} {c : Nat} {C C' : Parts} {s : CS} (h : CP w' c C' s) (hm : C'.m = C.m) (hh : C'.h = C.h) (hs : ∀ b ∈ C'.ks, b ∈ C.ks) (hf : Fr (C.S c) w w') : Step w w' c C C' s := by
  refine ⟨h, hf, fun k hk => Or.inl ?_⟩
  rcases hk with rfl | rfl | hk
  · exact Or.inl rfl
  · exact Or.inr (Or.inl hm)
  · refine Or.inr (Or.inr ?_)
    rcases List.mem_cons.1 hk with rfl | hk
    · rw [hh]; simp
    · exact List.mem_cons_of_mem _ (hs k hk)

theorem own_base {w : World} {B B' n : Nat} {v : Value} {xs : List Value} {e : TypeId} (h : w.ownsRow B e 1 v n xs) (hb : B' ≤ B) : w.ownsRow B' e 1 v n xs := by
  refine ⟨h.1, ?_⟩
  rcases h.2 with hn | ⟨g, cap, cur, rfl, hB, hr⟩
  · exact .inl hn
  · exact .inr ⟨g, cap, cur, rfl, Nat.le_trans hb hB, hr⟩

def CS.get (s : CS) (k : Int) : CS := match s.find k with | none => { s with miss := s.miss + 1 } | some r => { s with l := s.others k ++ [r], hit := s.hit + 1 }

theorem hd_set3 {w : World} {c m h room hit miss : Nat} (hd : w.heap[c]? = some (.cells (hdC m h room hit miss).toArray 113 (0, 0))) (x : Nat) : (w.setCell ⟨c, 3, none⟩ (.int .i64 (x : Int))).heap[c]? = some (.cells (hdC m h room x miss).toArray 113 (0, 0)) := by rw [blk_set hd]; rfl
theorem hd_set4 {w : World} {c m h room hit miss : Nat} (hd : w.heap[c]? = some (.cells (hdC m h room hit miss).toArray 113 (0, 0))) (x : Nat) : (w.setCell ⟨c, 4, none⟩ (.int .i64 (x : Int))).heap[c]? = some (.cells (hdC m h room hit x).toArray 113 (0, 0)) := by rw [blk_set hd]; rfl

set_option maxHeartbeats 1000000 in
theorem get_call (c : Nat) (C : Parts) (s : CS) (k : Int) (w : World) (h : CP w c C s) (hk : (Lit.int .i64 k).wf = true) (hh : s.hit ≤ 1000000) (hm : s.miss ≤ 1000000) :
    Calls Tryz.prog 96 #[.pointer (some ⟨c, 0, none⟩), .int .i64 k] w fun e w' => Bytes (s.peek k) w.heap.size w' e ∧ ∃ C', Step w w' c C C' (s.get k) := by
  have k1 := hid (made_yes c s.room w h.c0 h.rm.1)
  have c1 := h.c1; have c3 := h.c3; have c4 := h.c4
  have f3 := hd_frozen h.hd 3; have f4 := hd_frozen h.hd 4
  have hl := h.mp.look hk
  cases ho : lk C.ks C.E k with
  | none =>
    rw [ho, show ptr none = .pointer none from rfl] at hl
    have e1 : s.peek k = none := by unfold CS.peek; rw [h.find_none ho]; rfl
    have e2 : s.get k = { s with miss := s.miss + 1 } := by unfold CS.get; rw [h.find_none ho]
    have hw : IntKind.i64.wrap ((s.miss : Int) + 1) = ((s.miss + 1 : Nat) : Int) := by rw [IntWalk.i64_in _ ⟨by omega, by omega⟩]; omega
    have hend : Hid (∃ C', Step w (w.setCell ⟨c, 4, none⟩ (.int .i64 ((s.miss + 1 : Nat) : Int))) c C C' { s with miss := s.miss + 1 }) :=
      hid ⟨C, h.hits s.hit (s.miss + 1) (hd_set4 h.hd _) (fun j _ _ hj => set_heap _ _ _ _ _ hj), (Fr.refl _ w).set (Or.inl (Or.inl rfl)) _, fun _ h => Or.inl h⟩
    rw [e1, e2]
    clear h e1 e2 ho hh hm
    go_enter Tryz.func96, Tryz.ntmps96
    go_wp2_with (go_at_call 87; refine k1.out.mono ?_; rintro e w1 ⟨rfl, h0⟩; obtain rfl := h0.symm)
    go_ret2
    exact ⟨rfl, hend.out⟩
  | some b =>
    rw [ho, show ptr (some b) = .pointer (some ⟨b, 0, none⟩) from rfl] at hl
    have e1 : s.peek k = some (C.E b).row.bytes := by unfold CS.peek; rw [h.find_some ho]; rfl
    obtain ⟨xs, ys, hks, _⟩ := h.idx ho
    have e2 : s.get k = { s with l := rowsOf (xs ++ ys ++ [b]) C.E, hit := s.hit + 1 } := by unfold CS.get; rw [h.find_some ho, others_of h ho hks]; simp [rowsOf]
    have hw : IntKind.i64.wrap ((s.hit : Int) + 1) = ((s.hit + 1 : Nat) : Int) := by rw [IntWalk.i64_in _ ⟨by omega, by omega⟩]; omega
    have h1 := h.hits (s.hit + 1) s.miss (hd_set3 h.hd _) (w' := w.setCell ⟨c, 3, none⟩ (.int .i64 ((s.hit + 1 : Nat) : Int))) (fun j _ _ hj => set_heap _ _ _ _ _ hj)
    have k2 := hid (use_cp c b xs ys C _ _ h1 hks)
    have hfr : Fr (C.S c) w (w.setCell ⟨c, 3, none⟩ (.int .i64 ((s.hit + 1 : Nat) : Int))) := (Fr.refl _ w).set (Or.inl (Or.inl rfl)) _
    have hlen := hid (h.rg.en b (by rw [hks]; simp)).len
    have HF := hid hfr; have HKS := hid hks
    have hsz : (w.setCell ⟨c, 3, none⟩ (.int .i64 ((s.hit + 1 : Nat) : Int))).heap.size = w.heap.size := by simp
    have HSZ := hid hsz
    rw [e1, e2]
    clear h e1 e2 ho hh hm h1 hfr hks hsz
    go_enter Tryz.func96, Tryz.ntmps96
    go_wp2_with (first | (go_at_call 87; refine k1.out.mono ?_; rintro e w1 ⟨rfl, h0⟩; obtain rfl := h0.symm) | (go_at_call 123; refine k2.out.mono ?_; rintro e w2 ⟨rfl, C2, g1, g2, g3, g4, g5, g6⟩; have k3 := hid (clone_any b 1 512 512 _ w2 (g1.rg.en b (by rw [g4]; simp)).rd (by omega)); rw [g5 b] at k3; have G1 := hid g1; have G2 := hid g2; have G3 := hid g3; have G4 := hid g4; have G6 := hid g6; clear g1 g2 g3 g4 g5 g6) | (go_at_call 69; refine k3.out.mono ?_; rintro e w3 ⟨ao, cap, rfl, h2, h3⟩; have H2 := hid h2; have H3 := hid h3; clear h2 h3))
    go_ret2
    have hle : w.heap.size ≤ w2.heap.size := by have := G6.out.size; rw [HSZ.out] at this; exact this
    refine ⟨⟨hlen.out, ao, cap, rfl, own_base H2.out hle⟩, C2, G1.out.later H3.out, (HF.out.trans G6.out (fun _ _ h => h)).trans (T := fun _ => False) (Fr.of_below H3.out) (fun _ _ h => h.elim), fun j hj => Or.inl ?_⟩
    rcases hj with rfl | rfl | hj
    · exact Or.inl rfl
    · exact Or.inr (Or.inl G2.out)
    · refine Or.inr (Or.inr ?_)
      rw [G3.out, G4.out] at hj
      rw [HKS.out]
      simp only [List.mem_cons, List.mem_append, List.not_mem_nil, or_false] at hj ⊢
      rcases hj with h | (h | h) | h <;> simp [h]

end Go.Proofs.YtokofpbhbjbnfaaGreatDoor.Cch
