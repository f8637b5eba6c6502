/- What each call of a cache does: what is told of all pages; Clear; Get. No statement of the seat is proved here. -/
import Derived.Test.YtebjjibgkjgpgaaEb
import Derived.Test.YtebjjibgkjgpgaaSh
namespace Go.Proofs.Ytebjjibgkjgpgaa
open Go.RowKit Go.Maps

def rise (l : List Int) : List Int := l.mergeSort (fun x y => decide (x ≤ y))
theorem rise_length (l : List Int) : (rise l).length = l.length := List.length_mergeSort l

theorem sort_row (B n cap : Nat) (ao : Option Addr) (l : List Int) (w : World) (h : w.ownsRow B 3 1 (.slice ao n cap) n (ints l)) (hn : n ≤ 1000000) :
    Calls Try.prog 45 #[.slice ao n cap] w fun e w' => e = .returned (.tuple #[]) ∧ w'.ownsRow B 3 1 (.slice ao n cap) n (ints (rise l)) ∧ Fr (fun k => ∃ a, ao = some a ∧ a.block = k) w w' := by
  have hl : l.length = n := by have := h.1; simpa [ints] using this
  rcases h.2 with ⟨hv, hz⟩ | ⟨g, cap', cur, hv, hB, hg, hnc, hm, hcs, htake⟩
  · simp only [Value.slice.injEq] at hv
    obtain ⟨rfl, rfl, rfl⟩ := hv
    obtain rfl : l = [] := List.eq_nil_of_length_eq_zero hl
    refine (AnyM.slices_Sort_int_none Try.sortA none 0 w).mono ?_
    rintro e w' ⟨rfl, rfl⟩
    exact ⟨rfl, by rw [show rise [] = [] by simp [rise]]; exact h, Fr.refl _ _⟩
  · simp only [Value.slice.injEq, true_and] at hv
    obtain ⟨rfl, rfl⟩ := hv
    have hgl : g < w.heap.size := (Array.getElem?_eq_some_iff.1 hg).1
    have hcell : ∀ j, j < l.length → cur[j]? = some (.int .i64 (l.toArray)[j]!) := fun j hj => by
      have h1 : (cur.toList.take (n * 1))[j]? = (ints l)[j]? := by rw [htake]
      rw [List.getElem?_take_of_lt (by omega), Array.getElem?_toList] at h1
      rw [h1]
      simp [ints, hj]
    have hH : Sort.Holds (Value.int .i64) w g 0 l.toArray := fun j hj => by
      simp at hj
      rw [Nat.zero_add]
      exact ⟨by simp only [World.cell?, hg]; exact hcell j hj, by simp [World.frozen?, hg]⟩
    have hk := AnyM.slices_Sort_int Try.sortA g 0 cap l w hH hgl (by omega)
    rw [hl] at hk
    refine hk.mono ?_
    rintro e w' ⟨rfl, k, os, rfl⟩
    obtain ⟨d, hd⟩ : ∃ d, d = rise l := ⟨_, rfl⟩
    rw [show (l.mergeSort fun x y => decide (x ≤ y)) = d from hd.symm, ← hd]
    have hdl : d.length = n := by rw [hd, rise_length, hl]
    have hblk : (Sort.grow (Sort.putRow (Value.int .i64) (Sort.ahead w k) g 0 d.toArray) os).heap[g]? = some (.cells (Sort.putCells (Value.int .i64) 0 d.toArray cur) 3 (0, 0)) := by
      simp only [Sort.grow, Sort.putRow, Sort.mapBlock, Sort.heap_ahead]
      rw [Array.getElem?_append_left (by simpa using hgl), Array.getElem?_modify, if_pos rfl, hg]
      rfl
    refine ⟨rfl, ⟨by simp [ints, hdl], .inr ⟨g, cap, _, rfl, hB, hblk, hnc, hm, ?_, ?_⟩⟩, rfl, rfl, rfl, ?_, fun j hj hS => ?_⟩
    · simp [Sort.putCells, hcs]
    · refine List.ext_getElem? fun j => ?_
      rcases Nat.lt_or_ge j n with hj | hj
      · rw [List.getElem?_take_of_lt (by omega), Array.getElem?_toList]
        have hjc : j < cur.size := by omega
        simp [Sort.putCells, ints, hjc, hdl, hj]
      · rw [List.getElem?_eq_none (by simp; omega), List.getElem?_eq_none (by simp [ints, hdl]; omega)]
    · simp [Sort.grow]
    · have hne : g ≠ j := fun h0 => hS ⟨_, rfl, h0⟩
      simp only [Sort.grow, Sort.putRow, Sort.mapBlock, Sort.heap_ahead]
      rw [Array.getElem?_append_left (by simpa using hj), Array.getElem?_modify, if_neg hne]

set_option maxHeartbeats 1000000 in
theorem len_call (c : Nat) (C : Parts) (s : CS) (w : World) (h : CP w c C s) :
    Calls Try.prog 19 #[.pointer (some ⟨c, 0, none⟩)] w fun e w' => e = .returned (.int .i64 (s.l.length : Int)) ∧ w' = w := by
  have k1 := hid (made_yes c s.room w h.c0 h.rm.1)
  have c1 := h.c1
  have hl := h.mp.len 3
  have e1 : s.l.length = C.ks.length := by rw [h.ls]; simp
  rw [e1]
  clear h e1
  go_enter Try.func19, Try.ntmps19
  go_wp2_with (go_at_call 48; refine k1.out.mono ?_; rintro e w1 ⟨rfl, h0⟩; obtain rfl := h0.symm)
  go_ret
  exact ⟨rfl, rfl⟩

set_option maxHeartbeats 1000000 in
theorem hits_call (c : Nat) (C : Parts) (s : CS) (w : World) (h : CP w c C s) :
    Calls Try.prog 24 #[.pointer (some ⟨c, 0, none⟩)] w fun e w' => e = .returned (.tuple #[.int .i64 (s.hit : Int), .int .i64 (s.miss : Int)]) ∧ w' = w.drew := by
  have k1 := hid (made_yes c s.room w h.c0 h.rm.1)
  have c3 := h.c3; have c4 := h.c4
  clear h
  go_enter Try.func24, Try.ntmps24
  go_wp2_with (go_at_call 48; refine k1.out.mono ?_; rintro e w1 ⟨rfl, h0⟩; obtain rfl := h0.symm)
  go_region
  go_wp2
  go_ret2
  exact ⟨rfl, rfl⟩

/-- A list of numbers is told, in a row of its own. -/
def Told (l : List Int) (w : World) (e : Ending) (w' : World) : Prop := ∃ ao cap, e = .returned (.slice ao l.length cap) ∧ w'.ownsRow w.heap.size 3 1 (.slice ao l.length cap) l.length (ints l) ∧ Below w.heap.size w w'

theorem row_slice {w : World} {B n : Nat} {v : Value} {xs : List Value} (h : w.ownsRow B 3 1 v n xs) : ∃ ao cap, v = .slice ao n cap := by
  rcases h.2 with ⟨rfl, rfl⟩ | ⟨g, cap, cur, rfl, _⟩
  · exact ⟨_, _, rfl⟩
  · exact ⟨_, _, rfl⟩

theorem told_true (l : List Row) : told (fun _ => true) l = l.map Row.page := by
  have : l.filter (fun _ => true) = l := List.filter_eq_self.2 (fun _ _ => rfl)
  rw [told, this]
def CS.dirt (s : CS) : List Int := rise (told Row.dirty s.l)

set_option maxHeartbeats 1000000 in
theorem order_call (c : Nat) (C : Parts) (s : CS) (w : World) (h : CP w c C s) (hlen : C.ks.length ≤ 1000000) :
    Calls Try.prog 14 #[.pointer (some ⟨c, 0, none⟩)] w fun e w' => Told (s.l.map Row.page) w e w' := by
  have k1 := hid (told46 c C s w h hlen)
  rw [told_true] at k1
  clear h
  go_enter Try.func14, Try.ntmps14
  go_wp2_with (go_at_call 43; refine k1.out.mono ?_; rintro e w1 ⟨v, rfl, h1, h2⟩; obtain ⟨ao, cap, rfl⟩ := row_slice h1; have H1 := hid h1; have H2 := hid h2; clear h1 h2)
  go_ret
  have e1 : (s.l.map Row.page).length = s.l.length := by simp
  have q := H1.out
  simp only [List.length_map] at q
  refine ⟨ao, cap, by rw [e1]; rfl, by rw [e1]; exact q, H2.out⟩

theorem own_ge {w : World} {B n cap : Nat} {ao : Option Addr} {xs : List Value} {e : TypeId} (h : w.ownsRow B e 1 (.slice ao n cap) n xs) : ∀ a, ao = some a → B ≤ a.block := by
  intro a ha
  rcases h.2 with ⟨hv, _⟩ | ⟨g, cap', cur, hv, hB, _⟩
  · simp only [Value.slice.injEq] at hv; rw [hv.1] at ha; cases ha
  · simp only [Value.slice.injEq] at hv; rw [hv.1] at ha; cases ha; exact hB

set_option maxHeartbeats 1000000 in
theorem dirty_call (c : Nat) (C : Parts) (s : CS) (w : World) (h : CP w c C s) (hlen : C.ks.length ≤ 1000000) :
    Calls Try.prog 13 #[.pointer (some ⟨c, 0, none⟩)] w fun e w' => Told s.dirt w e w' := by
  have k1 := hid (told44 c C s w h hlen)
  have hl : (told Row.dirty s.l).length ≤ 1000000 := by
    have e1 : s.l.length = C.ks.length := by rw [h.ls]; simp
    have : (told Row.dirty s.l).length ≤ s.l.length := by unfold told; rw [List.length_map]; exact List.length_filter_le _ _
    omega
  obtain ⟨n, hn⟩ : ∃ n, n = (told Row.dirty s.l).length := ⟨_, rfl⟩
  rw [← hn] at k1 hl
  have HN := hid hn
  clear h hn
  go_enter Try.func13, Try.ntmps13
  go_wp2_with (first | (go_at_call 43; refine k1.out.mono ?_; rintro e w1 ⟨v, rfl, h1, h2⟩; obtain ⟨ao, cap, rfl⟩ := row_slice h1; have H1 := hid h1; have H2 := hid h2; have k2 := hid (sort_row _ _ _ _ _ _ h1 hl); clear h1 h2) | (go_at_call 45; refine k2.out.mono ?_; rintro e w2 ⟨rfl, h3, h4⟩; have H3 := hid h3; have H4 := hid h4; clear h3 h4))
  go_ret
  have e1 : s.dirt.length = n := by unfold CS.dirt; rw [rise_length, HN.out]
  refine ⟨ao, cap, ?_, ?_, ?_⟩
  · rw [e1]; rfl
  · rw [e1]; exact H3.out
  · have hf : Fr (fun _ => False) w w2 := (Fr.of_below H2.out).trans H4.out (fun j hj hS => by
      obtain ⟨a, ha, rfl⟩ := hS
      have := own_ge H1.out a ha
      omega)
    exact hf.below

/-! ### Clear -/

def CS.clear (s : CS) : CS := { s with l := shedL p56 s.l.length s.l }
def CS.cleared (s : CS) : Nat := s.l.length - (shedL p56 s.l.length s.l).length

set_option maxHeartbeats 1000000 in
theorem shed_none (c f : Nat) (m : Int) (lb : Array Value) (w : World) (hm : m ≤ 0) :
    Calls Try.prog 51 #[.pointer (some ⟨c, 0, none⟩), .int .i64 m, .func (.func f) #[] lb] w fun e w' => e = .returned (.int .i64 0) ∧ Below w.heap.size w w' := by
  go_enter Try.func51, Try.ntmps51
  go_wp2
  go_ret
  exact ⟨rfl, (by repeat (first | with_reducible exact Below.refl _ _ | with_reducible assumption | with_reducible refine Below.drew ?_ | with_reducible refine below_drewN ?_ _ | with_reducible refine Below.alloc ?_ (by simp <;> omega) _ | with_reducible refine Below.setCell ?_ (by simp <;> omega) _))⟩

theorem step_of_shed {w w' : World} {c : Nat} {C C' : Parts} {s : CS} (h : CP w' c C' s) (hm : C'.m = C.m) (hh : C'.h = C.h) (hs : ∀ b ∈ C'.ks, b ∈ C.ks) (hf : Fr (C.S c) w w') : Step w w' c C C' s := by
  refine ⟨h, hf, fun k hk => Or.inl ?_⟩
  rcases hk with rfl | rfl | hk
  · exact Or.inl rfl
  · exact Or.inr (Or.inl hm)
  · refine Or.inr (Or.inr ?_)
    rcases List.mem_cons.1 hk with rfl | hk
    · rw [hh]; simp
    · exact List.mem_cons_of_mem _ (hs k hk)

set_option maxHeartbeats 1000000 in
theorem clear_call (c : Nat) (C : Parts) (s : CS) (w : World) (h : CP w c C s) (hlen : C.ks.length ≤ 1000000) :
    Calls Try.prog 29 #[.pointer (some ⟨c, 0, none⟩)] w fun e w' => e = .returned (.int .i64 (s.cleared : Int)) ∧ ∃ C', Step w w' c C C' s.clear := by
  have k1 := hid (len_call c C s w h)
  have e1 : s.l.length = C.ks.length := by rw [h.ls]; simp
  have k2 : Hid (Calls Try.prog 51 #[.pointer (some ⟨c, 0, none⟩), .int .i64 (s.l.length : Int), .func (.func 56) #[] #[]] w fun e w' => e = .returned (.int .i64 (s.cleared : Int)) ∧ ∃ C', Step w w' c C C' s.clear) := by
    rcases Nat.eq_zero_or_pos s.l.length with hz | hz
    · refine hid ((shed_none c _ _ _ w (by omega)).mono ?_)
      rintro e w' ⟨rfl, hb⟩
      have hn : s.l = [] := List.eq_nil_of_length_eq_zero hz
      have e2 : s.cleared = 0 := by unfold CS.cleared; omega
      have e3 : s.clear = s := by unfold CS.clear; rw [hn]; cases s; simp only at hn; subst hn; rfl
      rw [e2, e3]
      exact ⟨rfl, C, h.later hb, Fr.of_below hb, fun _ h => Or.inl h⟩
    · refine hid ((shed56 c s.l.length C s p56 w h hlen hz (by omega) (fun W k hk _ he => ?_)).mono ?_)
      · obtain ⟨y, h1, h2⟩ := he k (Nat.le_refl _) hk
        rw [← h2]
        exact which56 _ y W h1
      · rintro e w' ⟨rfl, C', h1, h2, h3, h4, h5⟩
        exact ⟨rfl, C', step_of_shed h1 h2 h3 h4 h5⟩
  clear h e1
  go_enter Try.func29, Try.ntmps29
  go_wp2_with (first | (go_at_call 19; refine k1.out.mono ?_; rintro e w1 ⟨rfl, h0⟩; obtain rfl := h0.symm) | (go_at_call 51; refine k2.out.mono ?_; rintro e w2 ⟨rfl, h3⟩; have H3 := hid h3; clear h3))
  go_ret
  exact ⟨rfl, H3.out⟩

/-! ### Get -/

theorem own_base {w : World} {B B' n : Nat} {v : Value} {xs : List Value} {e : TypeId} (h : w.ownsRow B e 1 v n xs) (hb : B' ≤ B) : w.ownsRow B' e 1 v n xs := by
  refine ⟨h.1, ?_⟩
  rcases h.2 with hn | ⟨g, cap, cur, rfl, hB, hr⟩
  · exact .inl hn
  · exact .inr ⟨g, cap, cur, rfl, Nat.le_trans hb hB, hr⟩

def CS.get (s : CS) (k : Int) : CS := match s.find k with | none => { s with miss := s.miss + 1 } | some r => { s with l := s.others k ++ [r], hit := s.hit + 1 }

theorem hd_set3 {w : World} {c m h room hit miss : Nat} (hd : w.heap[c]? = some (.cells (hdC m h room hit miss).toArray 52 (0, 0))) (x : Nat) : (w.setCell ⟨c, 3, none⟩ (.int .i64 (x : Int))).heap[c]? = some (.cells (hdC m h room x miss).toArray 52 (0, 0)) := by rw [blk_set hd]; rfl
theorem hd_set4 {w : World} {c m h room hit miss : Nat} (hd : w.heap[c]? = some (.cells (hdC m h room hit miss).toArray 52 (0, 0))) (x : Nat) : (w.setCell ⟨c, 4, none⟩ (.int .i64 (x : Int))).heap[c]? = some (.cells (hdC m h room hit x).toArray 52 (0, 0)) := by rw [blk_set hd]; rfl

set_option maxHeartbeats 1000000 in
theorem get_call (c : Nat) (C : Parts) (s : CS) (k : Int) (w : World) (h : CP w c C s) (hk : (Lit.int .i64 k).wf = true) (hh : s.hit ≤ 1000000) (hm : s.miss ≤ 1000000) :
    Calls Try.prog 23 #[.pointer (some ⟨c, 0, none⟩), .int .i64 k] w fun e w' => Bytes (s.peek k) w.heap.size w' e ∧ ∃ C', Step w w' c C C' (s.get k) := by
  have k1 := hid (made_yes c s.room w h.c0 h.rm.1)
  have c1 := h.c1; have c3 := h.c3; have c4 := h.c4
  have f3 := hd_frozen h.hd 3; have f4 := hd_frozen h.hd 4
  have hl := h.mp.look hk
  cases ho : lk C.ks C.E k with
  | none =>
    rw [ho, show ptr none = .pointer none from rfl] at hl
    have e1 : s.peek k = none := by unfold CS.peek; rw [h.find_none ho]; rfl
    have e2 : s.get k = { s with miss := s.miss + 1 } := by unfold CS.get; rw [h.find_none ho]
    have hw : IntKind.i64.wrap ((s.miss : Int) + 1) = ((s.miss + 1 : Nat) : Int) := by rw [IntWalk.i64_in _ ⟨by omega, by omega⟩]; omega
    have hend : Hid (∃ C', Step w (w.setCell ⟨c, 4, none⟩ (.int .i64 ((s.miss + 1 : Nat) : Int))) c C C' { s with miss := s.miss + 1 }) :=
      hid ⟨C, h.hits s.hit (s.miss + 1) (hd_set4 h.hd _) (fun j _ _ hj => set_heap _ _ _ _ _ hj), (Fr.refl _ w).set (Or.inl (Or.inl rfl)) _, fun _ h => Or.inl h⟩
    rw [e1, e2]
    clear h e1 e2 ho hh hm
    go_enter Try.func23, Try.ntmps23
    go_wp2_with (go_at_call 48; refine k1.out.mono ?_; rintro e w1 ⟨rfl, h0⟩; obtain rfl := h0.symm)
    go_ret2
    exact ⟨rfl, hend.out⟩
  | some b =>
    rw [ho, show ptr (some b) = .pointer (some ⟨b, 0, none⟩) from rfl] at hl
    have e1 : s.peek k = some (C.E b).row.bytes := by unfold CS.peek; rw [h.find_some ho]; rfl
    obtain ⟨xs, ys, hks, _⟩ := h.idx ho
    have e2 : s.get k = { s with l := rowsOf (xs ++ ys ++ [b]) C.E, hit := s.hit + 1 } := by unfold CS.get; rw [h.find_some ho, others_of h ho hks]; simp [rowsOf]
    have hw : IntKind.i64.wrap ((s.hit : Int) + 1) = ((s.hit + 1 : Nat) : Int) := by rw [IntWalk.i64_in _ ⟨by omega, by omega⟩]; omega
    have h1 := h.hits (s.hit + 1) s.miss (hd_set3 h.hd _) (w' := w.setCell ⟨c, 3, none⟩ (.int .i64 ((s.hit + 1 : Nat) : Int))) (fun j _ _ hj => set_heap _ _ _ _ _ hj)
    have k2 := hid (use_cp c b xs ys C _ _ h1 hks)
    have hfr : Fr (C.S c) w (w.setCell ⟨c, 3, none⟩ (.int .i64 ((s.hit + 1 : Nat) : Int))) := (Fr.refl _ w).set (Or.inl (Or.inl rfl)) _
    have hlen := hid (h.rg.en b (by rw [hks]; simp)).len
    have HF := hid hfr; have HKS := hid hks
    have hsz : (w.setCell ⟨c, 3, none⟩ (.int .i64 ((s.hit + 1 : Nat) : Int))).heap.size = w.heap.size := by simp
    have HSZ := hid hsz
    rw [e1, e2]
    clear h e1 e2 ho hh hm h1 hfr hks hsz
    go_enter Try.func23, Try.ntmps23
    go_wp2_with (first | (go_at_call 48; refine k1.out.mono ?_; rintro e w1 ⟨rfl, h0⟩; obtain rfl := h0.symm) | (go_at_call 50; refine k2.out.mono ?_; rintro e w2 ⟨rfl, C2, g1, g2, g3, g4, g5, g6⟩; have k3 := hid (clone_any b 1 512 512 _ w2 (g1.rg.en b (by rw [g4]; simp)).rd (by omega)); rw [g5 b] at k3; have G1 := hid g1; have G2 := hid g2; have G3 := hid g3; have G4 := hid g4; have G6 := hid g6; clear g1 g2 g3 g4 g5 g6) | (go_at_call 53; refine k3.out.mono ?_; rintro e w3 ⟨ao, cap, rfl, h2, h3⟩; have H2 := hid h2; have H3 := hid h3; clear h2 h3))
    go_ret2
    have hle : w.heap.size ≤ w2.heap.size := by have := G6.out.size; rw [HSZ.out] at this; exact this
    refine ⟨⟨hlen.out, ao, cap, rfl, own_base H2.out hle⟩, C2, G1.out.later H3.out, (HF.out.trans G6.out (fun _ _ h => h)).trans (T := fun _ => False) (Fr.of_below H3.out) (fun _ _ h => h.elim), fun j hj => Or.inl ?_⟩
    rcases hj with rfl | rfl | hj
    · exact Or.inl rfl
    · exact Or.inr (Or.inl G2.out)
    · refine Or.inr (Or.inr ?_)
      rw [G3.out, G4.out] at hj
      rw [HKS.out]
      simp only [List.mem_cons, List.mem_append, List.not_mem_nil, or_false] at hj ⊢
      rcases hj with h | (h | h) | h <;> simp [h]

end Go.Proofs.Ytebjjibgkjgpgaa
