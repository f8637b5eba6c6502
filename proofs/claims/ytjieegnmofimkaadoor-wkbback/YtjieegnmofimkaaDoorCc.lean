/- What octet.Get returns; no statement of the seat is proved here. -/
import Derived.Test.YtjieegnmofimkaaDoorCb
import Derived.OneCell
import Derived.Lib.BitFns
namespace Go.Proofs.YtjieegnmofimkaaDoor
open Go.RowKit

set_option maxRecDepth 100000 in
theorem getD_lt {xs : List Nat} (h : ∀ x ∈ xs, x < 256) (i : Nat) (hi : i < xs.length) : xs.getD i 0 < 256 := by
  rw [List.getD_eq_getElem?_getD, List.getElem?_eq_getElem hi]
  exact h _ (List.getElem_mem hi)

set_option maxRecDepth 100000 in
theorem drop_getD (xs : List Nat) (i : Nat) (hi : i < xs.length) : xs.drop i = xs.getD i 0 :: xs.drop (i + 1) := by
  rw [List.drop_eq_getElem_cons hi, List.getD_eq_getElem?_getD, List.getElem?_eq_getElem hi]
  rfl

/-- The number that the first i of s bytes make, in either order. -/
def psum (xs : List Nat) (s : Nat) (l : Bool) : Nat → Nat
  | 0 => 0
  | i + 1 => psum xs s l i + xs.getD i 0 * 2 ^ (8 * place l s i)

set_option maxRecDepth 100000 in
theorem psum_big (xs : List Nat) (s : Nat) (hx : ∀ x ∈ xs, x < 256) (hs : s ≤ xs.length) : ∀ i, i ≤ s → ∃ q, q < 2 ^ (8 * i) ∧ psum xs s false i = q * 2 ^ (8 * (s - i)) := by
  intro i
  induction i with
  | zero => intro _; exact ⟨0, by simp, by simp [psum]⟩
  | succ i ih =>
    intro hi
    obtain ⟨q, hq, e⟩ := ih (by omega)
    have hc := getD_lt hx i (by omega)
    refine ⟨q * 256 + xs.getD i 0, ?_, ?_⟩
    · rw [show 8 * (i + 1) = 8 * i + 8 by omega, Nat.pow_add]; omega
    · simp only [psum, e, place]
      rw [show 8 * (s - i) = 8 + 8 * (s - (i + 1)) by omega, Nat.pow_add, show s - 1 - i = s - (i + 1) by omega, Nat.add_mul, Nat.mul_assoc]
      rfl

set_option maxRecDepth 100000 in
theorem psum_little (xs : List Nat) (s : Nat) (hx : ∀ x ∈ xs, x < 256) (hs : s ≤ xs.length) : ∀ i, i ≤ s → psum xs s true i < 2 ^ (8 * i) := by
  intro i
  induction i with
  | zero => intro _; simp [psum]
  | succ i ih =>
    intro hi
    have h := ih (by omega)
    have hc := getD_lt hx i (by omega)
    simp only [psum, place, if_true]
    rw [show 8 * (i + 1) = 8 * i + 8 by omega, Nat.pow_add]
    have h2 : xs.getD i 0 * 2 ^ (8 * i) ≤ 255 * 2 ^ (8 * i) := Nat.mul_le_mul_right _ (by omega)
    omega

set_option maxRecDepth 100000 in
theorem psum_lt (xs : List Nat) (s : Nat) (l : Bool) (hx : ∀ x ∈ xs, x < 256) (hs : s ≤ xs.length) (h8 : s ≤ 8) (i : Nat) (hi : i ≤ s) : psum xs s l i < 18446744073709551616 := by
  cases l with
  | true =>
    have h := psum_little xs s hx hs i hi
    have hp : 2 ^ (8 * i) ≤ 2 ^ 64 := Nat.pow_le_pow_right (by omega) (by omega)
    omega
  | false =>
    obtain ⟨q, hq, e⟩ := psum_big xs s hx hs i hi
    have h1 : q * 2 ^ (8 * (s - i)) < 2 ^ (8 * i) * 2 ^ (8 * (s - i)) := Nat.mul_lt_mul_of_pos_right hq (Nat.pow_pos (by omega))
    rw [← Nat.pow_add, show 8 * i + 8 * (s - i) = 8 * s by omega] at h1
    have hp : 2 ^ (8 * s) ≤ 2 ^ 64 := Nat.pow_le_pow_right (by omega) (by omega)
    omega

set_option maxRecDepth 100000 in
theorem psum_or (xs : List Nat) (s : Nat) (l : Bool) (hx : ∀ x ∈ xs, x < 256) (hs : s ≤ xs.length) (i : Nat) (hi : i < s) :
    psum xs s l i ||| xs.getD i 0 * 2 ^ (8 * place l s i) = psum xs s l (i + 1) := by
  have hc := getD_lt hx i (by omega)
  cases l with
  | true =>
    have h := psum_little xs s hx hs i (by omega)
    simp only [psum, place, if_true]
    rw [Nat.or_comm, Nat.mul_comm, ← Nat.two_pow_add_eq_or_of_lt h, Nat.add_comm]
  | false =>
    obtain ⟨q, hq, e⟩ := psum_big xs s hx hs i (by omega)
    simp only [psum, e, place]
    have hlt : xs.getD i 0 * 2 ^ (8 * (s - 1 - i)) < 2 ^ (8 * (s - i)) := by
      rw [show 8 * (s - i) = 8 + 8 * (s - 1 - i) by omega, Nat.pow_add]
      exact Nat.mul_lt_mul_of_pos_right (by omega) (Nat.pow_pos (by omega))
    rw [if_neg (by simp), Nat.mul_comm q, ← Nat.two_pow_add_eq_or_of_lt hlt]

set_option maxRecDepth 100000 in
theorem getD_term_lt (xs : List Nat) (s : Nat) (l : Bool) (hx : ∀ x ∈ xs, x < 256) (hs : s ≤ xs.length) (h8 : s ≤ 8) (i : Nat) (hi : i < s) : xs.getD i 0 * 2 ^ (8 * place l s i) < 18446744073709551616 := by
  have := psum_lt xs s l hx hs h8 (i + 1) (by omega)
  simp only [psum] at this
  omega

/-- What Get answers. -/
def getV (xs : List Nat) (s : Int) (l : Bool) : Nat × Bool := if 1 ≤ s ∧ s ≤ 8 ∧ s ≤ (xs.length : Int) then (psum xs s.toNat l s.toNat, true) else (0, false)

set_option maxRecDepth 100000 in
theorem getV_lt (xs : List Nat) (s : Int) (l : Bool) (hx : ∀ x ∈ xs, x < 256) : (getV xs s l).1 < 18446744073709551616 := by
  unfold getV
  split
  · exact psum_lt xs s.toNat l hx (by omega) (by omega) s.toNat (Nat.le_refl _)
  · simp

/-- The two cells of a teller: how many bytes it has told, and its bytes. -/
def Tell (w : World) (pa pb : Nat) (ao : Option Addr) (n cap k : Nat) (W : World) : Prop :=
  W.heap[pa]? = some (.cells #[.int .i64 (k : Int)] 3 (0, 0)) ∧ W.heap[pb]? = some (.cells #[.slice ao n cap] 27 (0, 0)) ∧ w.heap.size ≤ pa ∧ Below w.heap.size w W

set_option maxRecDepth 100000 in
set_option maxHeartbeats 400000 in
theorem teller_any (ao : Option Addr) (n cap : Nat) (w : World) : Calls Tryd.prog 91 #[.slice ao n cap] w fun e w' => e = .returned (.func (.func 92) #[] #[.pointer (some ⟨w.heap.size + 1, 0, none⟩), .pointer (some ⟨w.heap.size, 0, none⟩)]) ∧ Tell w (w.heap.size + 1) w.heap.size ao n cap 0 w' := by
  go_enter Tryd.func91, Tryd.ntmps91
  go_wp2
  go_ret
  refine ⟨rfl, ?_, ?_, by omega, Below.alloc (Below.alloc (Below.refl _ _) (Nat.le_refl _) _) (by simp) _⟩
  · have := heap_alloc_new (w.alloc (Obj.cells #[Value.slice ao n cap] 27)) (Obj.cells #[Value.int IntKind.i64 0] 3)
    simpa using this
  · rw [Below.heap_alloc _ _ _ (by simp)]
    exact heap_alloc_new w _

set_option maxRecDepth 100000 in
set_option maxHeartbeats 400000 in
theorem tell_more (w : World) (pa pb : Nat) (ao : Option Addr) (n cap : Nat) (xs : List Nat) (h : Rd w ao n cap xs) (hn : n ≤ 9223372036854775807) (k : Nat) (W : World) (hT : Tell w pa pb ao n cap k W) (hk : k < n) :
    Calls Tryd.prog 92 #[.pointer (some ⟨pa, 0, none⟩), .pointer (some ⟨pb, 0, none⟩)] W fun e w' => e = .returned (.tuple #[.int .u8 ((xs.getD k 0 : Nat) : Int), .bool true]) ∧ Tell w pa pb ao n cap (k + 1) w' := by
  obtain ⟨b, off, rfl, hc⟩ := h.2.2.2 (by omega)
  have hck := hc k hk
  have hbl : b < w.heap.size := lt_cell (w := w) hck
  obtain ⟨ha, hb, hp, hB⟩ := hT
  have ca := cell_of_one ha
  have cb := cell_of_one hb
  have fa := free_of_one ha
  have hne : ¬ b = pa := by omega
  have hne2 : ¬ pb = pa := by rintro rfl; rw [ha] at hb; simp at hb
  have hcW := keep_old hB hck
  generalize ((xs.getD k 0 : Nat) : Int) = X at *
  have hk' : ((k : Int) == (n : Int)) = false := by simp; omega
  have ha' := hid ha
  have hb' := hid hb
  have hB' := hid hB
  clear hc h hck ha hb hB
  go_enter Tryd.func92, Tryd.ntmps92
  go_wp2
  go_ret2
  refine ⟨rfl, ?_, ?_, hp, Below.setCell hB'.out hp _⟩
  · rw [one_setCell ha'.out]; simp
  · rw [heap_setCell_other W ⟨pa, 0, none⟩ pb _ (by simpa using hne2)]
    exact hb'.out

set_option maxRecDepth 100000 in
set_option maxHeartbeats 400000 in
theorem tell_end (w : World) (pa pb : Nat) (ao : Option Addr) (n cap : Nat) (W : World) (hT : Tell w pa pb ao n cap n W) :
    Calls Tryd.prog 92 #[.pointer (some ⟨pa, 0, none⟩), .pointer (some ⟨pb, 0, none⟩)] W fun e w' => e = .returned (.tuple #[.int .u8 0, .bool false]) ∧ Tell w pa pb ao n cap n w' := by
  have hT' := hid hT
  obtain ⟨ha, hb, hp, hB⟩ := hT
  have ca := cell_of_one ha
  have cb := cell_of_one hb
  clear ha hb hp hB
  go_enter Tryd.func92, Tryd.ntmps92
  go_wp2
  go_ret2
  exact ⟨rfl, hT'.out⟩

set_option maxHeartbeats 1000000 in
set_option maxRecDepth 20000 in
theorem gather_tell (pa pb : Nat) (xs : List Nat) (hx : ∀ x ∈ xs, x < 256) (s : Nat) (l : Bool) (hs : s ≤ xs.length) (h8 : s ≤ 8) (St : Nat → World → Prop)
    (hmore : ∀ k W, St k W → k < xs.length → Calls Tryd.prog 92 #[.pointer (some ⟨pa, 0, none⟩), .pointer (some ⟨pb, 0, none⟩)] W fun e w' => e = .returned (.tuple #[.int .u8 ((xs.getD k 0 : Nat) : Int), .bool true]) ∧ St (k + 1) w')
    (w : World) (h0 : St 0 w) :
    Calls Tryd.prog 90 #[.func (.func 92) #[] #[.pointer (some ⟨pa, 0, none⟩), .pointer (some ⟨pb, 0, none⟩)], .int .i64 s, .bool l] w fun e w' =>
      e = .returned (.int .u64 (psum xs s l s : Nat)) ∧ St s w' := by
  have hmore' := hid hmore
  have hx' := hid hx
  have h0' := hid h0
  clear hmore hx h0
  go_enter Tryd.func90, Tryd.ntmps90
  go_wp2
  go_loopw [7, 12] (fun a c W => ∃ (i : Nat), i ≤ s ∧ a = .int .u64 (psum xs s l i : Nat) ∧ c = .int .i64 (i : Int) ∧ St i W) (fun _ c _ => s - (intOf c).toNat)
  case atStart => exact ⟨0, by omega, rfl, rfl, h0'.out⟩
  case round =>
    obtain ⟨i, hi, rfl, rfl, hS⟩ := hrel
    have hS' := hid hS
    clear hS
    by_cases his : i < s
    · have c := hid (hmore'.out i wr hS'.out (by omega))
      obtain ⟨sh, q, csh, _, hshl, _⟩ := shift_named (xs.getD i 0) i s l his h8
      have hor := bits_or_u64_nat (psum xs s l i) (xs.getD i 0 * 2 ^ (8 * place l s i)) (psum_lt xs s l hx'.out hs h8 i (by omega)) (getD_term_lt xs s l hx'.out hs h8 i his)
      rw [psum_or xs s l hx'.out hs i his] at hor
      have hw : IntKind.u64.wrap ((xs.getD i 0 * 2 ^ (8 * place l s i) : Nat) : Int) = ((xs.getD i 0 * 2 ^ (8 * place l s i) : Nat) : Int) := by
        rw [IntKind.wrap_u64]; have := getD_term_lt xs s l hx'.out hs h8 i his; omega
      rw [hw] at hshl
      have hX2 := getD_lt hx'.out i (by omega)
      have csh' := hid csh
      clear hw csh
      generalize xs.getD i 0 * 2 ^ (8 * place l s i) = t at *
      obtain ⟨P1, hP1⟩ : ∃ P, P = psum xs s l (i + 1) := ⟨_, rfl⟩
      rw [← hP1] at hor
      generalize psum xs s l i = P0 at *
      generalize xs.getD i 0 = X at *
      have hP1' := hid hP1
      clear hP1
      go_wp2_with (first | (go_at_call 92; refine c.out.mono ?_; rintro e w1 ⟨rfl, hS1⟩) | (go_at_call 48; refine (csh'.out _).mono ?_; rintro e w2 ⟨rfl, hw2⟩; obtain rfl := hw2.symm))
      exact ⟨⟨i + 1, by omega, by rw [hP1'.out], by go_num, hS1⟩, by simp [intOf]; omega⟩
    · obtain rfl : i = s := by omega
      go_wp2
      go_ret
      exact ⟨rfl, hS'.out⟩

set_option maxRecDepth 100000 in
set_option maxHeartbeats 1000000 in
theorem get_any (ao : Option Addr) (n cap : Nat) (xs : List Nat) (s : Int) (l : Bool) (w : World) (h : Rd w ao n cap xs) (hx : ∀ x ∈ xs, x < 256) (hn : n ≤ 9223372036854775807) :
    Calls Tryd.prog 88 #[.slice ao n cap, .int .i64 s, .bool l] w fun e w' => e = .returned (.tuple #[.int .u64 ((getV xs s l).1 : Nat), .bool (getV xs s l).2]) ∧ Below w.heap.size w w' := by
  have hl := h.1
  subst hl
  have c27 := hid (sized_any s)
  have ct := hid (teller_any ao xs.length cap w)
  by_cases hs : 1 ≤ s ∧ s ≤ 8 ∧ s ≤ (xs.length : Int)
  · obtain ⟨k, rfl⟩ : ∃ k : Nat, s = (k : Int) := ⟨s.toNat, by omega⟩
    have ca := hid fun w1 h0 => gather_tell (w.heap.size + 1) w.heap.size xs hx k l (by omega) (by omega) (fun k W => Tell w (w.heap.size + 1) w.heap.size ao xs.length cap k W)
      (fun k W hT hk => tell_more w _ _ ao xs.length cap xs h hn k W hT hk) w1 h0
    rw [show (decide ((1 : Int) ≤ (k : Int)) && decide ((k : Int) ≤ 8)) = true by simp; omega] at c27
    unfold getV
    rw [if_pos hs, Int.toNat_natCast]
    simp only
    generalize psum xs k l k = R at *
    generalize w.heap.size + 1 = p1 at *
    have hle : ¬ (xs.length : Int) < (k : Int) := by omega
    clear hx h hn hs
    go_enter Tryd.func88, Tryd.ntmps88
    go_wp2_with (first | (go_at_call 89; refine (c27.out _).mono ?_; rintro e w3 ⟨rfl, hw3⟩; obtain rfl := hw3.symm) | (go_at_call 91; refine ct.out.mono ?_; rintro e w1 ⟨rfl, hT⟩; replace hT := hid hT) | (go_at_call 90; refine (ca.out _ hT.out).mono ?_; rintro e w2 ⟨rfl, hT2⟩; replace hT2 := hid hT2))
    go_ret2
    exact ⟨rfl, hT2.out.2.2.2⟩
  · unfold getV
    rw [if_neg hs]
    simp only
    by_cases hz : 1 ≤ s ∧ s ≤ 8
    · rw [show (decide (1 ≤ s) && decide (s ≤ 8)) = true by simp; omega] at c27
      have hle : (xs.length : Int) < s := by omega
      clear hx h hn hs
      go_enter Tryd.func88, Tryd.ntmps88
      go_wp2_with (go_at_call 89; refine (c27.out _).mono ?_; rintro e w3 ⟨rfl, hw3⟩; obtain rfl := hw3.symm)
      go_ret2
      exact ⟨rfl, Below.refl _ _⟩
    · rw [show (decide (1 ≤ s) && decide (s ≤ 8)) = false by simp; omega] at c27
      clear hx h hn hs
      go_enter Tryd.func88, Tryd.ntmps88
      go_wp2_with (go_at_call 89; refine (c27.out _).mono ?_; rintro e w3 ⟨rfl, hw3⟩; obtain rfl := hw3.symm)
      go_ret2
      exact ⟨rfl, Below.refl _ _⟩

end Go.Proofs.YtjieegnmofimkaaDoor
