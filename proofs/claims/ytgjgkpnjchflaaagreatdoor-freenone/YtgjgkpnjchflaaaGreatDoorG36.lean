/- What octet.Get returns; no statement of the seat is proved here. -/
import Derived.Test.YtgjgkpnjchflaaaGreatDoorG03
import Derived.OneCell
namespace Go.Proofs.YtgjgkpnjchflaaaGreatDoor.Jrn
open Go.RowKit

/-- The two cells of a teller: how many bytes it has told, and its bytes. -/
def Tell (w : World) (pa pb : Nat) (ao : Option Addr) (n cap k : Nat) (W : World) : Prop :=
  W.heap[pa]? = some (.cells #[.int .i64 (k : Int)] 3 (0, 0)) ∧ W.heap[pb]? = some (.cells #[.slice ao n cap] 79 (0, 0)) ∧ w.heap.size ≤ pa ∧ Below w.heap.size w W

set_option maxHeartbeats 400000 in
theorem teller_any (ao : Option Addr) (n cap : Nat) (w : World) : Calls Tryz.prog 142 #[.slice ao n cap] w fun e w' => e = .returned (.func (.func 175) #[] #[.pointer (some ⟨w.heap.size + 1, 0, none⟩), .pointer (some ⟨w.heap.size, 0, none⟩)]) ∧ Tell w (w.heap.size + 1) w.heap.size ao n cap 0 w' := by
  go_enter Tryz.func142, Tryz.ntmps142
  go_wp2
  go_ret
  refine ⟨rfl, ?_, ?_, by omega, Below.alloc (Below.alloc (Below.refl _ _) (Nat.le_refl _) _) (by simp) _⟩
  · have := heap_alloc_new (w.alloc (Obj.cells #[Value.slice ao n cap] 79)) (Obj.cells #[Value.int IntKind.i64 0] 3)
    simpa using this
  · rw [Below.heap_alloc _ _ _ (by simp)]
    exact heap_alloc_new w _

set_option maxHeartbeats 400000 in
theorem tell_more (w : World) (pa pb : Nat) (ao : Option Addr) (n cap : Nat) (xs : List Nat) (h : Rd w ao n cap xs) (hn : n ≤ 9223372036854775807) (k : Nat) (W : World) (hT : Tell w pa pb ao n cap k W) (hk : k < n) :
    Calls Tryz.prog 175 #[.pointer (some ⟨pa, 0, none⟩), .pointer (some ⟨pb, 0, none⟩)] W fun e w' => e = .returned (.tuple #[.int .u8 ((xs.getD k 0 : Nat) : Int), .bool true]) ∧ Tell w pa pb ao n cap (k + 1) w' := by
  obtain ⟨b, off, rfl, hc⟩ := h.2.2.2 (by omega)
  have hck := hc k hk
  have hbl : b < w.heap.size := lt_cell (w := w) hck
  obtain ⟨ha, hb, hp, hB⟩ := hT
  have ca := cell_of_one ha
  have cb := cell_of_one hb
  have fa := free_of_one ha
  have hne : ¬ b = pa := by omega
  have hne2 : ¬ pb = pa := by rintro rfl; rw [ha] at hb; simp at hb
  have hcW := keep_old hB hck
  generalize ((xs.getD k 0 : Nat) : Int) = X at *
  have hk' : ((k : Int) == (n : Int)) = false := by simp; omega
  have ha' := hid ha
  have hb' := hid hb
  have hB' := hid hB
  clear hc h hck ha hb hB
  go_enter Tryz.func175, Tryz.ntmps175
  go_wp2
  go_ret2
  refine ⟨rfl, ?_, ?_, hp, Below.setCell hB'.out hp _⟩
  · rw [one_setCell ha'.out]; simp
  · rw [heap_setCell_other W ⟨pa, 0, none⟩ pb _ (by simpa using hne2)]
    exact hb'.out

set_option maxHeartbeats 400000 in
theorem tell_end (w : World) (pa pb : Nat) (ao : Option Addr) (n cap : Nat) (W : World) (hT : Tell w pa pb ao n cap n W) :
    Calls Tryz.prog 175 #[.pointer (some ⟨pa, 0, none⟩), .pointer (some ⟨pb, 0, none⟩)] W fun e w' => e = .returned (.tuple #[.int .u8 0, .bool false]) ∧ Tell w pa pb ao n cap n w' := by
  have hT' := hid hT
  obtain ⟨ha, hb, hp, hB⟩ := hT
  have ca := cell_of_one ha
  have cb := cell_of_one hb
  clear ha hb hp hB
  go_enter Tryz.func175, Tryz.ntmps175
  go_wp2
  go_ret2
  exact ⟨rfl, hT'.out⟩

set_option maxHeartbeats 1000000 in
set_option maxRecDepth 20000 in
theorem gather_tell (pa pb : Nat) (xs : List Nat) (hx : ∀ x ∈ xs, x < 256) (s : Nat) (l : Bool) (hs : s ≤ xs.length) (h8 : s ≤ 8) (St : Nat → World → Prop)
    (hmore : ∀ k W, St k W → k < xs.length → Calls Tryz.prog 175 #[.pointer (some ⟨pa, 0, none⟩), .pointer (some ⟨pb, 0, none⟩)] W fun e w' => e = .returned (.tuple #[.int .u8 ((xs.getD k 0 : Nat) : Int), .bool true]) ∧ St (k + 1) w')
    (w : World) (h0 : St 0 w) :
    Calls Tryz.prog 141 #[.func (.func 175) #[] #[.pointer (some ⟨pa, 0, none⟩), .pointer (some ⟨pb, 0, none⟩)], .int .i64 s, .bool l] w fun e w' =>
      e = .returned (.int .u64 (psum xs s l s : Nat)) ∧ St s w' := by
  have hmore' := hid hmore
  have hx' := hid hx
  have h0' := hid h0
  clear hmore hx h0
  go_enter Tryz.func141, Tryz.ntmps141
  go_wp2
  go_loopw [7, 12] (fun a c W => ∃ (i : Nat), i ≤ s ∧ a = .int .u64 (psum xs s l i : Nat) ∧ c = .int .i64 (i : Int) ∧ St i W) (fun _ c _ => s - (intOf c).toNat)
  case atStart => exact ⟨0, by omega, rfl, rfl, h0'.out⟩
  case round =>
    obtain ⟨i, hi, rfl, rfl, hS⟩ := hrel
    have hS' := hid hS
    clear hS
    by_cases his : i < s
    · have c := hid (hmore'.out i wr hS'.out (by omega))
      obtain ⟨sh, q, csh, _, hshl, _⟩ := shift_named (xs.getD i 0) i s l his h8
      have hor := bits_or_u64_nat (psum xs s l i) (xs.getD i 0 * 2 ^ (8 * place l s i)) (psum_lt xs s l hx'.out hs h8 i (by omega)) (getD_term_lt xs s l hx'.out hs h8 i his)
      rw [psum_or xs s l hx'.out hs i his] at hor
      have hw : IntKind.u64.wrap ((xs.getD i 0 * 2 ^ (8 * place l s i) : Nat) : Int) = ((xs.getD i 0 * 2 ^ (8 * place l s i) : Nat) : Int) := by
        rw [IntKind.wrap_u64]; have := getD_term_lt xs s l hx'.out hs h8 i his; omega
      rw [hw] at hshl
      have hX2 := getD_lt hx'.out i (by omega)
      have csh' := hid csh
      clear hw csh
      generalize xs.getD i 0 * 2 ^ (8 * place l s i) = t at *
      obtain ⟨P1, hP1⟩ : ∃ P, P = psum xs s l (i + 1) := ⟨_, rfl⟩
      rw [← hP1] at hor
      generalize psum xs s l i = P0 at *
      generalize xs.getD i 0 = X at *
      have hP1' := hid hP1
      clear hP1
      go_wp2_with (first | (go_at_call 175; refine c.out.mono ?_; rintro e w1 ⟨rfl, hS1⟩) | (go_at_call 160; refine (csh'.out _).mono ?_; rintro e w2 ⟨rfl, hw2⟩; obtain rfl := hw2.symm))
      exact ⟨⟨i + 1, by omega, by rw [hP1'.out], by go_num, hS1⟩, by simp [intOf]; omega⟩
    · obtain rfl : i = s := by omega
      go_wp2
      go_ret
      exact ⟨rfl, hS'.out⟩

set_option maxHeartbeats 1000000 in
theorem get_any (ao : Option Addr) (n cap : Nat) (xs : List Nat) (s : Int) (l : Bool) (w : World) (h : Rd w ao n cap xs) (hx : ∀ x ∈ xs, x < 256) (hn : n ≤ 9223372036854775807) :
    Calls Tryz.prog 101 #[.slice ao n cap, .int .i64 s, .bool l] w fun e w' => e = .returned (.tuple #[.int .u64 ((getV xs s l).1 : Nat), .bool (getV xs s l).2]) ∧ Below w.heap.size w w' := by
  have hl := h.1
  subst hl
  have c27 := hid (sized_any s)
  have ct := hid (teller_any ao xs.length cap w)
  by_cases hs : 1 ≤ s ∧ s ≤ 8 ∧ s ≤ (xs.length : Int)
  · obtain ⟨k, rfl⟩ : ∃ k : Nat, s = (k : Int) := ⟨s.toNat, by omega⟩
    have ca := hid fun w1 h0 => gather_tell (w.heap.size + 1) w.heap.size xs hx k l (by omega) (by omega) (fun k W => Tell w (w.heap.size + 1) w.heap.size ao xs.length cap k W)
      (fun k W hT hk => tell_more w _ _ ao xs.length cap xs h hn k W hT hk) w1 h0
    rw [show (decide ((1 : Int) ≤ (k : Int)) && decide ((k : Int) ≤ 8)) = true by simp; omega] at c27
    unfold getV
    rw [if_pos hs, Int.toNat_natCast]
    simp only
    generalize psum xs k l k = R at *
    generalize w.heap.size + 1 = p1 at *
    have hle : ¬ (xs.length : Int) < (k : Int) := by omega
    clear hx h hn hs
    go_enter Tryz.func101, Tryz.ntmps101
    go_wp2_with (first | (go_at_call 140; refine (c27.out _).mono ?_; rintro e w3 ⟨rfl, hw3⟩; obtain rfl := hw3.symm) | (go_at_call 142; refine ct.out.mono ?_; rintro e w1 ⟨rfl, hT⟩; replace hT := hid hT) | (go_at_call 141; refine (ca.out _ hT.out).mono ?_; rintro e w2 ⟨rfl, hT2⟩; replace hT2 := hid hT2))
    go_ret2
    exact ⟨rfl, hT2.out.2.2.2⟩
  · unfold getV
    rw [if_neg hs]
    simp only
    by_cases hz : 1 ≤ s ∧ s ≤ 8
    · rw [show (decide (1 ≤ s) && decide (s ≤ 8)) = true by simp; omega] at c27
      have hle : (xs.length : Int) < s := by omega
      clear hx h hn hs
      go_enter Tryz.func101, Tryz.ntmps101
      go_wp2_with (go_at_call 140; refine (c27.out _).mono ?_; rintro e w3 ⟨rfl, hw3⟩; obtain rfl := hw3.symm)
      go_ret2
      exact ⟨rfl, Below.refl _ _⟩
    · rw [show (decide (1 ≤ s) && decide (s ≤ 8)) = false by simp; omega] at c27
      clear hx h hn hs
      go_enter Tryz.func101, Tryz.ntmps101
      go_wp2_with (go_at_call 140; refine (c27.out _).mono ?_; rintro e w3 ⟨rfl, hw3⟩; obtain rfl := hw3.symm)
      go_ret2
      exact ⟨rfl, Below.refl _ _⟩

end Go.Proofs.YtgjgkpnjchflaaaGreatDoor.Jrn

/- What is told of a page: its numbers; no statement of the seat is proved here. -/
namespace Go.Proofs.YtgjgkpnjchflaaaGreatDoor.Jrn
open Go.RowKit

/-- A page that is at hand: its number and its bytes. -/
def Pv2 (n : Int) (b o cap : Nat) : Value := .agg #[.int .i64 n, .slice (some ⟨b, o, none⟩) 512 cap]
theorem Rd.from {w : World} {b o n cap : Nat} {xs : List Nat} (h : Rd w (some ⟨b, o, none⟩) n cap xs) {i : Nat} (hi : i < n) : Rd w (some ⟨b, o + i, none⟩) (n - i) (cap - i) (xs.drop i) := by
  obtain ⟨hl, hc, hno, hat⟩ := h
  refine ⟨by rw [List.length_drop, hl], by omega, fun h => (by cases h), fun hp => ⟨b, o + i, rfl, fun t ht => ?_⟩⟩
  obtain ⟨b', off', e, hcell⟩ := hat (by omega)
  simp only [Option.some.injEq, Addr.mk.injEq, and_true] at e
  obtain ⟨rfl, rfl⟩ := e
  have := hcell (i + t) (by omega)
  rw [show o + i + t = o + (i + t) by omega, this]
  simp [List.getD, List.getElem?_drop]
/-- The number of four bytes (or eight) at a place. -/
def numAt (xs : List Nat) (i s : Nat) : Nat := psum (xs.drop i) s false s
theorem numAt_getV (xs : List Nat) (i s : Nat) (h1 : 1 ≤ s) (h8 : s ≤ 8) (hs : i + s ≤ xs.length) : getV (xs.drop i) (s : Int) false = (numAt xs i s, true) := by
  unfold getV numAt
  rw [if_pos ⟨by omega, by omega, by rw [List.length_drop]; omega⟩, Int.toNat_natCast]

set_option maxHeartbeats 1000000 in
theorem tell_any (num : Int) (b o cap : Nat) (xs : List Nat) (i s : Nat) (w : World) (h : Rd w (some ⟨b, o, none⟩) 512 cap xs) (hx : ∀ x ∈ xs, x < 256) (h1 : 1 ≤ s) (h8 : s ≤ 8) (hs : i + s ≤ 512) :
    Calls Tryz.prog 69 #[Pv2 num b o cap, .int .i64 (i : Int), .int .i64 (s : Int)] w fun e w' => e = .returned (.int .i64 (wrap64 (numAt xs i s : Int))) ∧ Below w.heap.size w w' := by
  have hl := h.1
  have hcp := h.2.1
  have hb2 : Below w.heap.size w (w.alloc (.cells #[.int .i64 num, .slice (some ⟨b, o, none⟩) 512 cap] 81)) := Below.alloc (Below.refl _ _) (Nat.le_refl _) _
  have cg := hid (fun w1 (hb1 : Below w.heap.size w w1) => get_any (some ⟨b, o + i, none⟩) (512 - i) (cap - i) (xs.drop i) (s : Int) false w1 ((h.from (by omega)).keep hb1) (fun x hx' => hx x (List.mem_of_mem_drop hx')) (by omega))
  rw [numAt_getV xs i s h1 h8 (by omega)] at cg
  have k1 : ¬ (512 : Int) < (i : Int) := by omega
  have k2 : ((512 : Int) - (i : Int)) = ((512 - i : Nat) : Int) := by omega
  have k3 : ((cap : Int) - (i : Int)) = ((cap - i : Nat) : Int) := by omega
  have HB2 := hid hb2
  clear h hx hb2
  generalize numAt xs i s = R at *
  unfold Pv2
  go_enter Tryz.func69, Tryz.ntmps69
  go_wp2_with (go_at_call 101; refine (cg.out _ HB2.out).mono ?_; rintro e w2 ⟨rfl, hT2⟩; replace hT2 := hid hT2)
  go_ret
  exact ⟨rfl, gt HB2.out hT2.out⟩

theorem numAt_lt (xs : List Nat) (i s : Nat) (hx : ∀ x ∈ xs, x < 256) (hs : i + s ≤ xs.length) : numAt xs i s < 2 ^ (8 * s) := by
  unfold numAt
  obtain ⟨q, hq, e⟩ := psum_big (xs.drop i) s (fun x h => hx x (List.mem_of_mem_drop h)) (by rw [List.length_drop]; omega) s (Nat.le_refl _)
  rw [e]; simpa using hq
theorem wrap_small (n : Nat) (h : n < 9223372036854775808) : wrap64 (n : Int) = (n : Int) := by
  unfold wrap64; omega

/-- A number of four bytes. -/
theorem tell4 (num : Int) (b o cap : Nat) (xs : List Nat) (i : Nat) (w : World) (h : Rd w (some ⟨b, o, none⟩) 512 cap xs) (hx : ∀ x ∈ xs, x < 256) (hs : i + 4 ≤ 512) :
    Calls Tryz.prog 69 #[Pv2 num b o cap, .int .i64 (i : Int), .int .i64 4] w fun e w' => e = .returned (.int .i64 (numAt xs i 4 : Int)) ∧ Below w.heap.size w w' := by
  have := tell_any num b o cap xs i 4 w h hx (by omega) (by omega) hs
  rw [wrap_small _ (Nat.lt_of_lt_of_le (numAt_lt xs i 4 hx (by rw [h.1]; omega)) (by decide))] at this
  exact this

set_option maxHeartbeats 1000000 in
theorem first_any (num : Int) (b o cap : Nat) (xs : List Nat) (w : World) (h : Rd w (some ⟨b, o, none⟩) 512 cap xs) (hx : ∀ x ∈ xs, x < 256) :
    Calls Tryz.prog 64 #[Pv2 num b o cap] w fun e w' => e = .returned (.int .i64 (numAt xs 8 4 : Int)) ∧ Below w.heap.size w w' := by
  have HB := hid (show Below w.heap.size w (w.alloc (.cells #[.int .i64 num, .slice (some ⟨b, o, none⟩) 512 cap] 83)) from Below.alloc (Below.refl _ _) (Nat.le_refl _) _)
  have c := hid (tell4 num b o cap xs 8 _ (h.keep HB.out) hx (by omega))
  clear h hx
  generalize numAt xs 8 4 = R at *
  unfold Pv2 at *
  go_enter Tryz.func64, Tryz.ntmps64
  go_wp2_with (go_at_call 69; refine c.out.mono ?_; rintro e w2 ⟨rfl, hT2⟩; replace hT2 := hid hT2)
  go_ret
  exact ⟨rfl, gt HB.out hT2.out⟩

set_option maxHeartbeats 1000000 in
theorem count_any (num : Int) (b o cap : Nat) (xs : List Nat) (w : World) (h : Rd w (some ⟨b, o, none⟩) 512 cap xs) (hx : ∀ x ∈ xs, x < 256) :
    Calls Tryz.prog 33 #[Pv2 num b o cap] w fun e w' => e = .returned (.int .i64 (numAt xs 12 4 : Int)) ∧ Below w.heap.size w w' := by
  have HB := hid (show Below w.heap.size w (w.alloc (.cells #[.int .i64 num, .slice (some ⟨b, o, none⟩) 512 cap] 83)) from Below.alloc (Below.refl _ _) (Nat.le_refl _) _)
  have c := hid (tell4 num b o cap xs 12 _ (h.keep HB.out) hx (by omega))
  clear h hx
  generalize numAt xs 12 4 = R at *
  unfold Pv2 at *
  go_enter Tryz.func33, Tryz.ntmps33
  go_wp2_with (go_at_call 69; refine c.out.mono ?_; rintro e w2 ⟨rfl, hT2⟩; replace hT2 := hid hT2)
  go_ret
  exact ⟨rfl, gt HB.out hT2.out⟩

set_option maxHeartbeats 1000000 in
theorem size_any (num : Int) (b o cap : Nat) (xs : List Nat) (w : World) (h : Rd w (some ⟨b, o, none⟩) 512 cap xs) (hx : ∀ x ∈ xs, x < 256) :
    Calls Tryz.prog 67 #[Pv2 num b o cap] w fun e w' => e = .returned (.int .i64 (numAt xs 4 4 : Int)) ∧ Below w.heap.size w w' := by
  have HB := hid (show Below w.heap.size w (w.alloc (.cells #[.int .i64 num, .slice (some ⟨b, o, none⟩) 512 cap] 118)) from Below.alloc (Below.refl _ _) (Nat.le_refl _) _)
  have c := hid (tell4 num b o cap xs 4 _ (h.keep HB.out) hx (by omega))
  clear h hx
  generalize numAt xs 4 4 = R at *
  unfold Pv2 at *
  go_enter Tryz.func67, Tryz.ntmps67
  go_wp2_with (go_at_call 69; refine c.out.mono ?_; rintro e w2 ⟨rfl, hT2⟩; replace hT2 := hid hT2)
  go_ret
  exact ⟨rfl, gt HB.out hT2.out⟩

set_option maxHeartbeats 1000000 in
theorem next_any (num : Int) (b o cap : Nat) (xs : List Nat) (w : World) (h : Rd w (some ⟨b, o, none⟩) 512 cap xs) (hx : ∀ x ∈ xs, x < 256) :
    Calls Tryz.prog 68 #[Pv2 num b o cap] w fun e w' => e = .returned (.int .i64 (numAt xs 0 4 : Int)) ∧ Below w.heap.size w w' := by
  have HB := hid (show Below w.heap.size w (w.alloc (.cells #[.int .i64 num, .slice (some ⟨b, o, none⟩) 512 cap] 118)) from Below.alloc (Below.refl _ _) (Nat.le_refl _) _)
  have c := hid (tell4 num b o cap xs 0 _ (h.keep HB.out) hx (by omega))
  clear h hx
  generalize numAt xs 0 4 = R at *
  unfold Pv2 at *
  go_enter Tryz.func68, Tryz.ntmps68
  go_wp2_with (go_at_call 69; refine c.out.mono ?_; rintro e w2 ⟨rfl, hT2⟩; replace hT2 := hid hT2)
  go_ret
  exact ⟨rfl, gt HB.out hT2.out⟩
end Go.Proofs.YtgjgkpnjchflaaaGreatDoor.Jrn
