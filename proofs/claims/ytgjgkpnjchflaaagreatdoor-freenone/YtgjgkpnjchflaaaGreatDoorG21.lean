/- What each call of a cache does: pins and marks; no statement of the seat is proved here. -/
import Derived.Test.YtgjgkpnjchflaaaGreatDoorG20
import Derived.Test.YtgjgkpnjchflaaaGreatDoorG01
namespace Go.Proofs.YtgjgkpnjchflaaaGreatDoor.Cch
open Go.RowKit Go.Maps

/-- What a call on a cache leaves. -/
structure Step (w w' : World) (c : Nat) (C C' : Parts) (s' : CS) : Prop where
  cp : CP w' c C' s'
  fr : Fr (C.S c) w w'
  gr : ∀ k, C'.S c k → C.S c k ∨ w.heap.size ≤ k

theorem Step.same {w : World} {c : Nat} {C : Parts} {s : CS} (h : CP w c C s) : Step w w c C C s := ⟨h, Fr.refl _ w, fun _ h => Or.inl h⟩

def CS.pin (s : CS) (k : Int) : CS × Int := match s.find k with | none => (s, 5) | some _ => (s.upd k (fun r => { r with pins := r.pins + 1 }), 0)
def CS.free (s : CS) (k : Int) : CS × Int := match s.find k with | none => (s, 5) | some r => if r.pins = 0 then (s, 6) else (s.upd k (fun r => { r with pins := r.pins - 1 }), 0)
def CS.mark (s : CS) (k : Int) (d : Bool) : CS × Int := match s.find k with | none => (s, 5) | some _ => (s.upd k (fun r => { r with dirty := d }), 0)
def CS.drop (s : CS) (k : Int) : CS × Int := match s.find k with | none => (s, 5) | some r => if r.pins = 0 then ({ s with l := s.others k }, 0) else (s, 6)

theorem others_of {w : World} {c : Nat} {C : Parts} {s : CS} (h : CP w c C s) {k : Int} {e : Nat} (he : lk C.ks C.E k = some e) {xs ys : List Nat} (hks : C.ks = xs ++ e :: ys) : s.others k = rowsOf (xs ++ ys) C.E := by
  have h1 := (lk_iff h.pn).1 he
  have hpn := h.pn
  rw [hks] at hpn
  simp only [pagesOf, List.map_append, List.map_cons] at hpn
  have n1 := List.nodup_append.1 hpn
  have n2 := List.nodup_cons.1 n1.2.1
  have ex : ∀ x ∈ xs, ((C.E x).row.page != k) = true := fun x hx => by
    have := n1.2.2 _ (List.mem_map.2 ⟨x, hx, rfl⟩) (C.E e).row.page (by simp)
    rw [h1.2] at this
    simpa using this
  have ey : ∀ x ∈ ys, ((C.E x).row.page != k) = true := fun x hx => by
    have : (C.E x).row.page ≠ k := fun h0 => n2.1 (List.mem_map.2 ⟨x, hx, by rw [h0, h1.2]⟩)
    simpa using this
  unfold CS.others
  rw [h.ls, hks]
  simp only [rowsOf, List.map_append, List.map_cons, List.filter_append, List.filter_cons, h1.2, bne_self_eq_false, if_false, Bool.false_eq_true]
  congr 1
  · refine List.filter_eq_self.2 (fun r hr => ?_)
    obtain ⟨x, hx, rfl⟩ := List.mem_map.1 hr
    exact ex x hx
  · refine List.filter_eq_self.2 (fun r hr => ?_)
    obtain ⟨x, hx, rfl⟩ := List.mem_map.1 hr
    exact ey x hx
theorem others_none {w : World} {c : Nat} {C : Parts} {s : CS} (h : CP w c C s) {k : Int} (he : lk C.ks C.E k = none) : s.others k = s.l := by
  refine List.filter_eq_self.2 (fun r hr => ?_)
  rw [h.ls] at hr
  obtain ⟨x, hx, rfl⟩ := List.mem_map.1 hr
  simpa using lk_none he x hx

theorem step_turn {w : World} {c e i : Nat} {C : Parts} {s : CS} (h : CP w c C s) {k : Int} (he : lk C.ks C.E k = some e) {v : Value} {x : Ent} {f : Row → Row} (hx : EntAt (w.setCell ⟨e, i, none⟩ v) e x) (hb : x.bef = (C.E e).bef) (ha : x.aft = (C.E e).aft) (hp : x.row.page = (C.E e).row.page) (hf : x.row = f (C.E e).row) :
    ∃ C', Step w (w.setCell ⟨e, i, none⟩ v) c C C' (s.upd k f) := by
  have hm := ((lk_iff h.pn).1 he).1
  have h1 := h.turn hm hx hb ha hp (fun k _ _ hk => set_heap w e i k v hk)
  rw [rows_upd h he f x hf] at h1
  exact ⟨_, h1, (Fr.refl _ w).set (Or.inl (Or.inr (Or.inr (List.mem_cons_of_mem _ hm)))) _, fun _ h => Or.inl h⟩

set_option maxHeartbeats 1000000 in
theorem drop_call (c : Nat) (C : Parts) (s : CS) (k : Int) (w : World) (h : CP w c C s) (hk : (Lit.int .i64 k).wf = true) :
    Calls Tryz.prog 92 #[.pointer (some ⟨c, 0, none⟩), .int .i64 k] w fun e w' => e = .returned (.int .i64 (s.drop k).2) ∧ ∃ C', Step w w' c C C' (s.drop k).1 := by
  cases ho : lk C.ks C.E k with
  | none =>
    have k1 := hid (find_at c C s k w h hk none ho)
    have e1 : s.drop k = (s, 5) := by unfold CS.drop; rw [h.find_none ho]
    rw [e1]
    have HH := hid h
    clear h e1
    go_enter Tryz.func92, Tryz.ntmps92
    go_wp2_with (go_at_call 120; refine k1.out.mono ?_; rintro e w1 ⟨rfl, h0⟩; obtain rfl := h0.symm; simp only [ptr, lkE])
    go_ret
    exact ⟨rfl, _, Step.same HH.out⟩
  | some b =>
    have k1 := hid (find_at c C s k w h hk (some b) ho)
    have hm := ((lk_iff h.pn).1 ho).1
    have hen := h.rg.en b (List.mem_cons_of_mem _ hm)
    have c1 := hen.pins
    rcases Nat.eq_zero_or_pos (C.E b).row.pins with hz | hz
    · obtain ⟨xs, ys, hks, _⟩ := h.idx ho
      have e1 : s.drop k = ({ s with l := rowsOf (xs ++ ys) C.E }, 0) := by unfold CS.drop; rw [h.find_some ho]; simp [hz, others_of h ho hks]
      rw [hz] at c1
      simp only [Int.ofNat_zero] at c1
      have k2 := hid (remove_cp c b xs ys C s w h hks)
      rw [e1]
      have HKS := hid hks
      clear h e1 hen hks
      go_enter Tryz.func92, Tryz.ntmps92
      go_wp2_with (first | (go_at_call 120; refine k1.out.mono ?_; rintro e w1 ⟨rfl, h0⟩; obtain rfl := h0.symm; simp only [ptr, lkE]) | (go_at_call 121; refine k2.out.mono ?_; rintro e w2 ⟨rfl, C2, h2, h3⟩; have H2 := hid h2; have H3 := hid h3; clear h2 h3))
      go_ret
      refine ⟨rfl, C2, H2.out, H3.out.fr, fun j hj => Or.inl ?_⟩
      rcases hj with rfl | rfl | hj
      · exact Or.inl rfl
      · exact Or.inr (Or.inl H3.out.m)
      · refine Or.inr (Or.inr ?_)
        rw [H3.out.h, H3.out.ks] at hj
        rw [HKS.out]
        simp only [List.mem_cons, List.mem_append] at hj ⊢
        rcases hj with h | h | h <;> simp [h]
    · have e1 : s.drop k = (s, 6) := by unfold CS.drop; rw [h.find_some ho]; simp only; rw [if_neg (by omega)]
      have hz1 : 0 < (C.E b).row.pins := hz
      rw [e1]
      have HH := hid h
      clear h e1 hen
      go_enter Tryz.func92, Tryz.ntmps92
      go_wp2_with (go_at_call 120; refine k1.out.mono ?_; rintro e w1 ⟨rfl, h0⟩; obtain rfl := h0.symm; simp only [ptr, lkE])
      go_ret
      exact ⟨rfl, _, Step.same HH.out⟩

end Go.Proofs.YtgjgkpnjchflaaaGreatDoor.Cch

/- What each call of a cache does: what is told of all pages; Clear; Get. No statement of the seat is proved here. -/
namespace Go.Proofs.YtgjgkpnjchflaaaGreatDoor.Cch
open Go.RowKit Go.Maps

def rise (l : List Int) : List Int := l.mergeSort (fun x y => decide (x ≤ y))
theorem rise_length (l : List Int) : (rise l).length = l.length := List.length_mergeSort l

theorem sort_row (B n cap : Nat) (ao : Option Addr) (l : List Int) (w : World) (h : w.ownsRow B 3 1 (.slice ao n cap) n (ints l)) (hn : n ≤ 1000000) :
    Calls Tryz.prog 59 #[.slice ao n cap] w fun e w' => e = .returned (.tuple #[]) ∧ w'.ownsRow B 3 1 (.slice ao n cap) n (ints (rise l)) ∧ Fr (fun k => ∃ a, ao = some a ∧ a.block = k) w w' := by
  have hl : l.length = n := by have := h.1; simpa [ints] using this
  rcases h.2 with ⟨hv, hz⟩ | ⟨g, cap', cur, hv, hB, hg, hnc, hm, hcs, htake⟩
  · simp only [Value.slice.injEq] at hv
    obtain ⟨rfl, rfl, rfl⟩ := hv
    obtain rfl : l = [] := List.eq_nil_of_length_eq_zero hl
    refine (AnyM.slices_Sort_int_none Tryz.sortA none 0 w).mono ?_
    rintro e w' ⟨rfl, rfl⟩
    exact ⟨rfl, by rw [show rise [] = [] by simp [rise]]; exact h, Fr.refl _ _⟩
  · simp only [Value.slice.injEq, true_and] at hv
    obtain ⟨rfl, rfl⟩ := hv
    have hgl : g < w.heap.size := (Array.getElem?_eq_some_iff.1 hg).1
    have hcell : ∀ j, j < l.length → cur[j]? = some (.int .i64 (l.toArray)[j]!) := fun j hj => by
      have h1 : (cur.toList.take (n * 1))[j]? = (ints l)[j]? := by rw [htake]
      rw [List.getElem?_take_of_lt (by omega), Array.getElem?_toList] at h1
      rw [h1]
      simp [ints, hj]
    have hH : Sort.Holds (Value.int .i64) w g 0 l.toArray := fun j hj => by
      simp at hj
      rw [Nat.zero_add]
      exact ⟨by simp only [World.cell?, hg]; exact hcell j hj, by simp [World.frozen?, hg]⟩
    have hk := AnyM.slices_Sort_int Tryz.sortA g 0 cap l w hH hgl (by omega)
    rw [hl] at hk
    refine hk.mono ?_
    rintro e w' ⟨rfl, k, os, rfl⟩
    obtain ⟨d, hd⟩ : ∃ d, d = rise l := ⟨_, rfl⟩
    rw [show (l.mergeSort fun x y => decide (x ≤ y)) = d from hd.symm, ← hd]
    have hdl : d.length = n := by rw [hd, rise_length, hl]
    have hblk : (Sort.grow (Sort.putRow (Value.int .i64) (Sort.ahead w k) g 0 d.toArray) os).heap[g]? = some (.cells (Sort.putCells (Value.int .i64) 0 d.toArray cur) 3 (0, 0)) := by
      simp only [Sort.grow, Sort.putRow, Sort.mapBlock, Sort.heap_ahead]
      rw [Array.getElem?_append_left (by simpa using hgl), Array.getElem?_modify, if_pos rfl, hg]
      rfl
    refine ⟨rfl, ⟨by simp [ints, hdl], .inr ⟨g, cap, _, rfl, hB, hblk, hnc, hm, ?_, ?_⟩⟩, rfl, rfl, rfl, ?_, fun j hj hS => ?_⟩
    · simp [Sort.putCells, hcs]
    · refine List.ext_getElem? fun j => ?_
      rcases Nat.lt_or_ge j n with hj | hj
      · rw [List.getElem?_take_of_lt (by omega), Array.getElem?_toList]
        have hjc : j < cur.size := by omega
        simp [Sort.putCells, ints, hjc, hdl, hj]
      · rw [List.getElem?_eq_none (by simp; omega), List.getElem?_eq_none (by simp [ints, hdl]; omega)]
    · simp [Sort.grow]
    · have hne : g ≠ j := fun h0 => hS ⟨_, rfl, h0⟩
      simp only [Sort.grow, Sort.putRow, Sort.mapBlock, Sort.heap_ahead]
      rw [Array.getElem?_append_left (by simpa using hj), Array.getElem?_modify, if_neg hne]

/-- A list of numbers is told, in a row of its own. -/
def Told (l : List Int) (w : World) (e : Ending) (w' : World) : Prop := ∃ ao cap, e = .returned (.slice ao l.length cap) ∧ w'.ownsRow w.heap.size 3 1 (.slice ao l.length cap) l.length (ints l) ∧ Below w.heap.size w w'

theorem row_slice {w : World} {B n : Nat} {v : Value} {xs : List Value} (h : w.ownsRow B 3 1 v n xs) : ∃ ao cap, v = .slice ao n cap := by
  rcases h.2 with ⟨rfl, rfl⟩ | ⟨g, cap, cur, rfl, _⟩
  · exact ⟨_, _, rfl⟩
  · exact ⟨_, _, rfl⟩

theorem told_true (l : List Row) : told (fun _ => true) l = l.map Row.page := by
  have : l.filter (fun _ => true) = l := List.filter_eq_self.2 (fun _ _ => rfl)
  rw [told, this]
def CS.dirt (s : CS) : List Int := rise (told Row.dirty s.l)

theorem own_ge {w : World} {B n cap : Nat} {ao : Option Addr} {xs : List Value} {e : TypeId} (h : w.ownsRow B e 1 (.slice ao n cap) n xs) : ∀ a, ao = some a → B ≤ a.block := by
  intro a ha
  rcases h.2 with ⟨hv, _⟩ | ⟨g, cap', cur, hv, hB, _⟩
  · simp only [Value.slice.injEq] at hv; rw [hv.1] at ha; cases ha
  · simp only [Value.slice.injEq] at hv; rw [hv.1] at ha; cases ha; exact hB

def CS.clear (s : CS) : CS := { s with l := shedL p56 s.l.length s.l }
def CS.cleared (s : CS) : Nat := s.l.length - (shedL p56 s.l.length s.l).length

set_option maxHeartbeats 1000000 in
theorem shed_none (c f : Nat) (m : Int) (lb : Array Value) (w : World) (hm : m ≤ 0) :
    Calls Tryz.prog 127 #[.pointer (some ⟨c, 0, none⟩), .int .i64 m, .func (.func f) #[] lb] w fun e w' => e = .returned (.int .i64 0) ∧ Below w.heap.size w w' := by
  go_enter Tryz.func127, Tryz.ntmps127
  go_wp2
  go_ret
  exact ⟨rfl, (by repeat (first | with_reducible exact Below.refl _ _ | with_reducible assumption | with_reducible refine Below.drew ?_ | with_reducible refine below_drewN ?_ _ | with_reducible refine Below.alloc ?_ (by simp <;> omega) _ | with_reducible refine Below.setCell ?_ (by simp <;> omega) _))⟩

theorem step_of_shed {w w' : World} {c : Nat} {C C' : Parts} {s : CS} (h : CP w' c C' s) (hm : C'.m = C.m) (hh : C'.h = C.h) (hs : ∀ b ∈ C'.ks, b ∈ C.ks) (hf : Fr (C.S c) w w') : Step w w' c C C' s := by
  refine ⟨h, hf, fun k hk => Or.inl ?_⟩
  rcases hk with rfl | rfl | hk
  · exact Or.inl rfl
  · exact Or.inr (Or.inl hm)
  · refine Or.inr (Or.inr ?_)
    rcases List.mem_cons.1 hk with rfl | hk
    · rw [hh]; simp
    · exact List.mem_cons_of_mem _ (hs k hk)

theorem own_base {w : World} {B B' n : Nat} {v : Value} {xs : List Value} {e : TypeId} (h : w.ownsRow B e 1 v n xs) (hb : B' ≤ B) : w.ownsRow B' e 1 v n xs := by
  refine ⟨h.1, ?_⟩
  rcases h.2 with hn | ⟨g, cap, cur, rfl, hB, hr⟩
  · exact .inl hn
  · exact .inr ⟨g, cap, cur, rfl, Nat.le_trans hb hB, hr⟩

def CS.get (s : CS) (k : Int) : CS := match s.find k with | none => { s with miss := s.miss + 1 } | some r => { s with l := s.others k ++ [r], hit := s.hit + 1 }

theorem hd_set3 {w : World} {c m h room hit miss : Nat} (hd : w.heap[c]? = some (.cells (hdC m h room hit miss).toArray 130 (0, 0))) (x : Nat) : (w.setCell ⟨c, 3, none⟩ (.int .i64 (x : Int))).heap[c]? = some (.cells (hdC m h room x miss).toArray 130 (0, 0)) := by rw [blk_set hd]; rfl
theorem hd_set4 {w : World} {c m h room hit miss : Nat} (hd : w.heap[c]? = some (.cells (hdC m h room hit miss).toArray 130 (0, 0))) (x : Nat) : (w.setCell ⟨c, 4, none⟩ (.int .i64 (x : Int))).heap[c]? = some (.cells (hdC m h room hit x).toArray 130 (0, 0)) := by rw [blk_set hd]; rfl

set_option maxHeartbeats 1000000 in
theorem get_call (c : Nat) (C : Parts) (s : CS) (k : Int) (w : World) (h : CP w c C s) (hk : (Lit.int .i64 k).wf = true) (hh : s.hit ≤ 1000000) (hm : s.miss ≤ 1000000) :
    Calls Tryz.prog 161 #[.pointer (some ⟨c, 0, none⟩), .int .i64 k] w fun e w' => Bytes (s.peek k) w.heap.size w' e ∧ ∃ C', Step w w' c C C' (s.get k) := by
  have k1 := hid (made_yes c s.room w h.c0 h.rm.1)
  have c1 := h.c1; have c3 := h.c3; have c4 := h.c4
  have f3 := hd_frozen h.hd 3; have f4 := hd_frozen h.hd 4
  have hl := h.mp.look hk
  cases ho : lk C.ks C.E k with
  | none =>
    rw [ho, show ptr none = .pointer none from rfl] at hl
    have e1 : s.peek k = none := by unfold CS.peek; rw [h.find_none ho]; rfl
    have e2 : s.get k = { s with miss := s.miss + 1 } := by unfold CS.get; rw [h.find_none ho]
    have hw : IntKind.i64.wrap ((s.miss : Int) + 1) = ((s.miss + 1 : Nat) : Int) := by rw [IntWalk.i64_in _ ⟨by omega, by omega⟩]; omega
    have hend : Hid (∃ C', Step w (w.setCell ⟨c, 4, none⟩ (.int .i64 ((s.miss + 1 : Nat) : Int))) c C C' { s with miss := s.miss + 1 }) :=
      hid ⟨C, h.hits s.hit (s.miss + 1) (hd_set4 h.hd _) (fun j _ _ hj => set_heap _ _ _ _ _ hj), (Fr.refl _ w).set (Or.inl (Or.inl rfl)) _, fun _ h => Or.inl h⟩
    rw [e1, e2]
    clear h e1 e2 ho hh hm
    go_enter Tryz.func161, Tryz.ntmps161
    go_wp2_with (go_at_call 124; refine k1.out.mono ?_; rintro e w1 ⟨rfl, h0⟩; obtain rfl := h0.symm)
    go_ret2
    exact ⟨rfl, hend.out⟩
  | some b =>
    rw [ho, show ptr (some b) = .pointer (some ⟨b, 0, none⟩) from rfl] at hl
    have e1 : s.peek k = some (C.E b).row.bytes := by unfold CS.peek; rw [h.find_some ho]; rfl
    obtain ⟨xs, ys, hks, _⟩ := h.idx ho
    have e2 : s.get k = { s with l := rowsOf (xs ++ ys ++ [b]) C.E, hit := s.hit + 1 } := by unfold CS.get; rw [h.find_some ho, others_of h ho hks]; simp [rowsOf]
    have hw : IntKind.i64.wrap ((s.hit : Int) + 1) = ((s.hit + 1 : Nat) : Int) := by rw [IntWalk.i64_in _ ⟨by omega, by omega⟩]; omega
    have h1 := h.hits (s.hit + 1) s.miss (hd_set3 h.hd _) (w' := w.setCell ⟨c, 3, none⟩ (.int .i64 ((s.hit + 1 : Nat) : Int))) (fun j _ _ hj => set_heap _ _ _ _ _ hj)
    have k2 := hid (use_cp c b xs ys C _ _ h1 hks)
    have hfr : Fr (C.S c) w (w.setCell ⟨c, 3, none⟩ (.int .i64 ((s.hit + 1 : Nat) : Int))) := (Fr.refl _ w).set (Or.inl (Or.inl rfl)) _
    have hlen := hid (h.rg.en b (by rw [hks]; simp)).len
    have HF := hid hfr; have HKS := hid hks
    have hsz : (w.setCell ⟨c, 3, none⟩ (.int .i64 ((s.hit + 1 : Nat) : Int))).heap.size = w.heap.size := by simp
    have HSZ := hid hsz
    rw [e1, e2]
    clear h e1 e2 ho hh hm h1 hfr hks hsz
    go_enter Tryz.func161, Tryz.ntmps161
    go_wp2_with (first | (go_at_call 124; refine k1.out.mono ?_; rintro e w1 ⟨rfl, h0⟩; obtain rfl := h0.symm) | (go_at_call 126; refine k2.out.mono ?_; rintro e w2 ⟨rfl, C2, g1, g2, g3, g4, g5, g6⟩; have k3 := hid (clone_any b 1 512 512 _ w2 (g1.rg.en b (by rw [g4]; simp)).rd (by omega)); rw [g5 b] at k3; have G1 := hid g1; have G2 := hid g2; have G3 := hid g3; have G4 := hid g4; have G6 := hid g6; clear g1 g2 g3 g4 g5 g6) | (go_at_call 113; refine k3.out.mono ?_; rintro e w3 ⟨ao, cap, rfl, h2, h3⟩; have H2 := hid h2; have H3 := hid h3; clear h2 h3))
    go_ret2
    have hle : w.heap.size ≤ w2.heap.size := by have := G6.out.size; rw [HSZ.out] at this; exact this
    refine ⟨⟨hlen.out, ao, cap, rfl, own_base H2.out hle⟩, C2, G1.out.later H3.out, (HF.out.trans G6.out (fun _ _ h => h)).trans (T := fun _ => False) (Fr.of_below H3.out) (fun _ _ h => h.elim), fun j hj => Or.inl ?_⟩
    rcases hj with rfl | rfl | hj
    · exact Or.inl rfl
    · exact Or.inr (Or.inl G2.out)
    · refine Or.inr (Or.inr ?_)
      rw [G3.out, G4.out] at hj
      rw [HKS.out]
      simp only [List.mem_cons, List.mem_append, List.not_mem_nil, or_false] at hj ⊢
      rcases hj with h | (h | h) | h <;> simp [h]

end Go.Proofs.YtgjgkpnjchflaaaGreatDoor.Cch
