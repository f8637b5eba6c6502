/- What Parse of package wide returns for every string; no statement of the seat is proved here. -/
import Derived.Test.YtfjepmhlkelinaaRh
import Derived.Lib.OthersKept
namespace Go.Proofs.Ytfjepmhlkelinaa
open Go.RowKit

-- the number that the digits of l make behind n; none: a byte that is no digit, or 2^192 and more on the way
def pf : List UInt8 → Nat → Option Nat
  | [], n => some n
  | c :: l, n => if c.toNat < 48 ∨ 57 < c.toNat then none else if n * 10 + (c.toNat - 48) < 6277101735386680763835789423207666416102355444464034512896 then pf l (n * 10 + (c.toNat - 48)) else none

def parseL (l : List UInt8) : Option Nat :=
  match l with
  | [] => none
  | c :: r => if c = 48 then (if r = [] then some 0 else none) else pf (c :: r) 0

def answer : Option Nat → Value
  | some n => .tuple #[.agg #[.int .u64 (W0 (n)), .int .u64 (W1 (n)), .int .u64 (W2 (n))], .bool true]
  | none => .tuple #[.agg #[.int .u64 0, .int .u64 0, .int .u64 0], .bool false]

theorem iterPos_at {w : World} {k : Nat} {s : ByteArray} {p : Nat} (h : w.heap[k]? = some (.stringIter s p)) : w.iterPos k = p := by simp [World.iterPos, h]

theorem Has.iterAt {W : World} {b n : Nat} (h : Has W b n) (k : Nat) (hk : b < k) (s : ByteArray) (p : Nat) : Has (W.iterAt k s p) b n :=
  h.below (Lib.below_iterAt (Below.refl k W) (Nat.le_refl _) s p) hk

theorem iter_keep {W W' : World} {k : Nat} {s : ByteArray} {p : Nat} (h : W.heap[k]? = some (.stringIter s p)) (hb : Below W.heap.size W W') : W'.heap[k]? = some (.stringIter s p) := by
  rw [hb.block k (Array.getElem?_eq_some_iff.1 h).1]; exact h

theorem iter_set {W : World} {k : Nat} {s : ByteArray} {p : Nat} (h : W.heap[k]? = some (.stringIter s p)) (a : Addr) (v : Value) (ha : k ≠ a.block) : (W.setCell a v).heap[k]? = some (.stringIter s p) := by
  rw [Below.heap_setCell _ _ _ _ ha]; exact h

theorem iter_end {W : World} {k : Nat} {s : ByteArray} {p : Nat} (h : W.heap[k]? = some (.stringIter s p)) (o : Obj) (c : Nat) (hc : ¬ k = c) (u v x : Value) :
    ((((W.setCell ⟨c, 0, none⟩ u).setCell ⟨c, 1, none⟩ v).setCell ⟨c, 2, none⟩ x).alloc o).heap[k]? = some (.stringIter s p) :=
  iter_keep (iter_set (iter_set (iter_set h ⟨c, 0, none⟩ u hc) ⟨c, 1, none⟩ v hc) ⟨c, 2, none⟩ x hc) ((Below.refl _ _).alloc (Nat.le_refl _) _)

theorem has_end {W : World} {b n : Nat} (h : Has W b n) (o : Obj) (c : Nat) (hc : c ≠ b) (u v x : Value) :
    Has ((((W.setCell ⟨c, 0, none⟩ u).setCell ⟨c, 1, none⟩ v).setCell ⟨c, 2, none⟩ x).alloc o) b n :=
  (((h.far c 0 u hc).far c 1 v hc).far c 2 x hc).alloc o

theorem below_end {w W : World} (h : Below w.heap.size w W) (o : Obj) (c : Nat) (hc : w.heap.size ≤ c) (u v x : Value) :
    Below w.heap.size w ((((W.setCell ⟨c, 0, none⟩ u).setCell ⟨c, 1, none⟩ v).setCell ⟨c, 2, none⟩ x).alloc o) := by
  have g := ((h.setCell (p := ⟨c, 0, none⟩) hc u).setCell (p := ⟨c, 1, none⟩) hc v).setCell (p := ⟨c, 2, none⟩) hc x
  exact g.alloc g.size o

theorem pf_step (s : ByteArray) (pos n : Nat) (h : pos < s.size) : pf (s.data.toList.drop pos) n = (if s[pos].toNat < 48 ∨ 57 < s[pos].toNat then none else if n * 10 + (s[pos].toNat - 48) < 6277101735386680763835789423207666416102355444464034512896 then pf (s.data.toList.drop (pos + 1)) (n * 10 + (s[pos].toNat - 48)) else none) := by
  have h' : pos < s.data.toList.length := by simpa using h
  rw [List.drop_eq_getElem_cons h', pf]
  rfl

theorem pf_end (s : ByteArray) (pos n : Nat) (h : ¬ pos < s.size) : pf (s.data.toList.drop pos) n = some n := by
  rw [List.drop_eq_nil_of_le (by simpa using Nat.le_of_not_lt h)]; rfl

set_option maxHeartbeats 1000000 in
set_option maxRecDepth 100000 in
theorem parse_loop (s : ByteArray) (w : World) (R : Option Nat) (V : Value) (hV : Hid (V = answer R)) (hR : Hid (pf s.data.toList 0 = R)) (hne : s.toList.isEmpty = false) (h48 : (s.toList == [48]) = false) (hpos : 0 < s.size) (h0 : ((s[0].toNat : Int) == 48) = false) :
    Calls Try.prog 23 #[.string s] w fun e w' => e = .returned V ∧ Below w.heap.size w w' := by
  go_enter Try.func23, Try.ntmps23
  go_wp2
  go_loopw [6] (fun _ W => ∃ pos n : Nat, W.heap[w.heap.size + 1 + 1]? = some (.stringIter s pos) ∧ n < 6277101735386680763835789423207666416102355444464034512896 ∧ Has W w.heap.size 0 ∧ Has W (w.heap.size + 1) n ∧ Below w.heap.size w W ∧ Hid (pf (s.data.toList.drop pos) n = R)) (fun _ W => s.size - W.iterPos (w.heap.size + 1 + 1))
  case atStart =>
    refine ⟨0, 0, ?_, by omega, ?_, ?_, ?_, by rw [List.drop_zero]; exact hR⟩
    · have h := World.iter_heap ((w.alloc (Obj.cells #[Value.int IntKind.u64 0, Value.int IntKind.u64 0, Value.int IntKind.u64 0] 24)).alloc (Obj.cells #[Value.int IntKind.u64 0, Value.int IntKind.u64 0, Value.int IntKind.u64 0] 24)) s 0
      rw [World.size_alloc, World.size_alloc] at h
      exact h
    · exact ((Has.new w 0 _ 24 rfl).alloc _).alloc _
    · exact (Has.new _ 0 _ 24 (by simp)).alloc _
    · exact (((Below.refl _ w).alloc (Nat.le_refl _) _).alloc (by simp) _).alloc (by simp <;> omega) _
  case round =>
    obtain ⟨pos, n, hit, hn, hr, ha, hB, HR⟩ := hrel
    have hi0 := iterPos_at hit
    have HB := hid hB; have HA := hid ha; have HRr := hid hr; have HIT := hid hit; have HN := hid hn
    have la := ha.lt; have lr := hr.lt
    generalize h2 : w.heap.size + 1 + 1 = p2 at *
    generalize h1 : w.heap.size + 1 = p1 at *
    have P1 : Hid (w.heap.size + 1 = p1) := h1
    have P2 : Hid (p1 + 1 = p2) := h2
    have d12 : ¬ p1 = p2 := by omega
    have d21 : ¬ p2 = p1 := by omega
    have d02 : ¬ w.heap.size = p2 := by omega
    have d20 : ¬ p2 = w.heap.size := by omega
    clear h1 h2
    by_cases hp : pos < s.size
    · by_cases hasc : s[pos].toNat < 128
      · have hnx := fun ty => Lib.run_next_ascii_at (P := Try.prog) wr p2 s pos ty hit hp hasc
        have k1 := Lib.iterAt_heap wr p2 s pos (pos + 1) hit
        have k2 := ha.iterAt p2 (by have := P1.out; have := P2.out; omega) s (pos + 1)
        have k3 := hr.iterAt p2 (by have := P1.out; have := P2.out; omega) s (pos + 1)
        have k4 := Lib.below_iterAt hB (k := p2) (by have := P1.out; have := P2.out; omega) s (pos + 1)
        have k5 := Lib.iterAt_size wr p2 s (pos + 1)
        obtain ⟨Y1, hY1⟩ : ∃ Y1, wr.iterAt p2 s (pos + 1) = Y1 := ⟨_, rfl⟩
        rw [hY1] at hnx k1 k2 k3 k4 k5
        have K1 := hid k1; have K2 := hid k2; have K3 := hid k3; have K4 := hid k4
        have la1 := k2.lt; have lr1 := k3.lt
        obtain ⟨⟨a0, a1, a2⟩, fa⟩ := k2
        obtain ⟨⟨r0, r1, r2⟩, fr⟩ := k3
        have hst := pf_step s pos n hp
        generalize s[pos].toNat = c at *
        have HST := hid hst
        clear k1 k4 k5 hst hY1 ha hr hB hit hi0
        by_cases c1 : c < 48
        · have hlt : (c : Int) < 48 := by omega
          have hv := hV.out
          rw [← HR.out, HST.out, if_pos (Or.inl c1), answer] at hv
          subst hv
          clear hV HR HB HA HRr HIT
          go_wp2
          exact bodyPost_ret (v := .tuple #[.agg #[.int .u64 0, .int .u64 0, .int .u64 0], .bool false]) (by simp [results, Try.results23, go_sem, *]) rfl ⟨rfl, ((K4.out.setCell (by simp) _).setCell (by simp) _).setCell (by simp) _⟩
        · by_cases c2 : 57 < c
          · have hlt : ¬ (c : Int) < 48 := by omega
            have hgt : (57 : Int) < (c : Int) := by omega
            have hv := hV.out
            rw [← HR.out, HST.out, if_pos (Or.inr c2), answer] at hv
            subst hv
            clear hV HR HB HA HRr HIT
            go_wp2
            exact bodyPost_ret (v := .tuple #[.agg #[.int .u64 0, .int .u64 0, .int .u64 0], .bool false]) (by simp [results, Try.results23, go_sem, *]) rfl ⟨rfl, ((K4.out.setCell (by simp) _).setCell (by simp) _).setCell (by simp) _⟩
          · have hlt : ¬ (c : Int) < 48 := by omega
            have hgt : ¬ (57 : Int) < (c : Int) := by omega
            have hlo : (48 : Int) ≤ c := by omega
            have hhi : (c : Int) ≤ 57 := by omega
            have et : ((c : Int) - 48).toNat = c - 48 := by omega
            by_cases fit : n * 10 + (c - 48) < 6277101735386680763835789423207666416102355444464034512896
            · have pd := fun w => putd_any n HN.out ((c : Int) - 48) (by omega) w (by rw [et]; exact fit)
              rw [et] at pd
              have HF := hid fit
              have HR2 : Hid (pf (s.data.toList.drop (pos + 1)) (n * 10 + (c - 48)) = R) := by
                have := HST.out
                rw [if_neg (by omega), if_pos fit] at this
                rw [← this]; exact HR.out
              generalize n * 10 + (c - 48) = k at *
              have PD := hid pd
              clear pd fit HST HR et c1 c2
              go_wp2_with (go_at_call 34; refine (PD.out _).mono ?_; rintro e w2 ⟨rfl, hb2⟩; obtain ⟨bc2, bf2⟩ := bcell hb2; have hz2 : p1 < w2.heap.size := (by have := hb2.size; omega))
              have g2 := gt K4.out hb2
              refine ⟨⟨pos + 1, k, ?_, HF.out, ?_, ?_, ?_, HR2⟩, ?_⟩
              · exact iter_end (iter_keep K1.out hb2) _ p1 d21 _ _ _
              · exact has_end (K3.out.grown hb2) _ p1 (by have := P1.out; omega) _ _ _
              · exact ((K2.out.grown hb2).set k).alloc _
              · exact below_end g2 _ p1 (by have := P1.out; omega) _ _ _
              · rw [iterPos_at (iter_end (iter_keep K1.out hb2) _ p1 d21 _ _ _), iterPos_at HIT.out]
                omega
            · have pd := fun w => putd_over n HN.out ((c : Int) - 48) (by omega) w (by rw [et]; exact fit)
              have hv := hV.out
              have := HST.out
              rw [if_neg (by omega), if_neg fit] at this
              rw [← HR.out, this, answer] at hv
              subst hv
              have PD := hid pd
              clear pd fit HST HR et c1 c2 this hV
              go_wp2_with fail
              obtain ⟨k, PK⟩ := PD.out Y1
              refine PK.mono ?_; rintro e w2 ⟨rfl, hb2⟩; obtain ⟨bc2, bf2⟩ := bcell hb2; have hz2 : w.heap.size < w2.heap.size := (by have := hb2.size; omega)
              clear PK
              have g2 := gt K4.out hb2
              go_wp2
              exact bodyPost_ret (v := .tuple #[.agg #[.int .u64 0, .int .u64 0, .int .u64 0], .bool false]) (by simp [results, Try.results23, go_sem, *]) rfl ⟨rfl, below_end g2 _ w.heap.size (Nat.le_refl _) _ _ _⟩
      · have hnx := fun ty => Lib.run_next_any_at (P := Try.prog) wr p2 s pos ty hit hp
        have hst := pf_step s pos n hp
        rw [if_pos (Or.inr (by omega))] at hst
        have hd := (decode_high s pos hp (by omega)).1
        have hd' := decode_le s pos
        generalize (Utf8.decode s pos).2 = wd at *
        generalize (Utf8.decode s pos).1 = c at *
        have k1 := Lib.iterAt_heap wr p2 s pos (pos + wd) hit
        have k2 := ha.iterAt p2 (by have := P1.out; have := P2.out; omega) s (pos + wd)
        have k3 := hr.iterAt p2 (by have := P1.out; have := P2.out; omega) s (pos + wd)
        have k4 := Lib.below_iterAt hB (k := p2) (by have := P1.out; have := P2.out; omega) s (pos + wd)
        have k5 := Lib.iterAt_size wr p2 s (pos + wd)
        obtain ⟨Y1, hY1⟩ : ∃ Y1, wr.iterAt p2 s (pos + wd) = Y1 := ⟨_, rfl⟩
        rw [hY1] at hnx k1 k2 k3 k4 k5
        have K1 := hid k1; have K2 := hid k2; have K3 := hid k3; have K4 := hid k4
        have la1 := k2.lt; have lr1 := k3.lt
        obtain ⟨⟨a0, a1, a2⟩, fa⟩ := k2
        obtain ⟨⟨r0, r1, r2⟩, fr⟩ := k3
        have hlt : ¬ (c : Int) < 48 := by omega
        have hgt : (57 : Int) < (c : Int) := by omega
        clear k1 k4 k5 hY1 ha hr hB hit hi0
        have hv := hV.out
        rw [← HR.out, hst, answer] at hv
        subst hv
        clear hV HR HB HA HRr HIT
        go_wp2
        exact bodyPost_ret (v := .tuple #[.agg #[.int .u64 0, .int .u64 0, .int .u64 0], .bool false]) (by simp [results, Try.results23, go_sem, *]) rfl ⟨rfl, ((K4.out.setCell (by simp) _).setCell (by simp) _).setCell (by simp) _⟩
    · have hnx := fun ty => Lib.run_next_end_at (P := Try.prog) wr p2 s pos ty hit hp
      have hv := hV.out
      rw [← HR.out, pf_end s pos n hp, answer] at hv
      subst hv
      obtain ⟨⟨a0, a1, a2⟩, fa⟩ := ha
      obtain ⟨⟨r0, r1, r2⟩, fr⟩ := hr
      clear hB hit hn hi0 hV HR
      go_wp2
      exact bodyPost_ret (v := .tuple #[.agg #[.int .u64 (W0 (n)), .int .u64 (W1 (n)), .int .u64 (W2 (n))], .bool true]) (by simp [results, Try.results23, go_sem, *]) rfl ⟨rfl, ((HB.out.setCell (by simp) _).setCell (by simp) _).setCell (by simp) _⟩

set_option maxHeartbeats 400000 in
theorem parse_nought (s : ByteArray) (w : World) (h48 : (s.toList == [48]) = true) :
    Calls Try.prog 23 #[.string s] w fun e w' => e = .returned (.tuple #[.agg #[.int .u64 0, .int .u64 0, .int .u64 0], .bool true]) ∧ Below w.heap.size w w' := by
  go_enter Try.func23, Try.ntmps23
  go_wp2
  exact bodyPost_ret (v := .tuple #[.agg #[.int .u64 0, .int .u64 0, .int .u64 0], .bool true]) (by simp [results, Try.results23, go_sem]) rfl ⟨rfl, (by repeat (first | with_reducible exact Below.refl _ _ | with_reducible assumption | with_reducible refine Below.drew ?_ | with_reducible refine below_drewN ?_ _ | with_reducible refine Below.alloc ?_ (by simp <;> omega) _ | with_reducible refine Below.setCell ?_ (by simp <;> omega) _))⟩

set_option maxHeartbeats 400000 in
theorem parse_empty (s : ByteArray) (w : World) (h48 : (s.toList == [48]) = false) (he : s.toList.isEmpty = true) :
    Calls Try.prog 23 #[.string s] w fun e w' => e = .returned (.tuple #[.agg #[.int .u64 0, .int .u64 0, .int .u64 0], .bool false]) ∧ Below w.heap.size w w' := by
  go_enter Try.func23, Try.ntmps23
  go_wp2
  exact bodyPost_ret (v := .tuple #[.agg #[.int .u64 0, .int .u64 0, .int .u64 0], .bool false]) (by simp [results, Try.results23, go_sem]) rfl ⟨rfl, (by repeat (first | with_reducible exact Below.refl _ _ | with_reducible assumption | with_reducible refine Below.drew ?_ | with_reducible refine below_drewN ?_ _ | with_reducible refine Below.alloc ?_ (by simp <;> omega) _ | with_reducible refine Below.setCell ?_ (by simp <;> omega) _))⟩

set_option maxHeartbeats 400000 in
theorem parse_lead (s : ByteArray) (w : World) (h48 : (s.toList == [48]) = false) (he : s.toList.isEmpty = false) (hpos : 0 < s.size) (h0 : ((s[0].toNat : Int) == 48) = true) :
    Calls Try.prog 23 #[.string s] w fun e w' => e = .returned (.tuple #[.agg #[.int .u64 0, .int .u64 0, .int .u64 0], .bool false]) ∧ Below w.heap.size w w' := by
  go_enter Try.func23, Try.ntmps23
  go_wp2
  exact bodyPost_ret (v := .tuple #[.agg #[.int .u64 0, .int .u64 0, .int .u64 0], .bool false]) (by simp [results, Try.results23, go_sem]) rfl ⟨rfl, (by repeat (first | with_reducible exact Below.refl _ _ | with_reducible assumption | with_reducible refine Below.drew ?_ | with_reducible refine below_drewN ?_ _ | with_reducible refine Below.alloc ?_ (by simp <;> omega) _ | with_reducible refine Below.setCell ?_ (by simp <;> omega) _))⟩

theorem parse_any (s : ByteArray) (w : World) :
    Calls Try.prog 23 #[.string s] w fun e w' => e = .returned (answer (parseL s.data.toList)) ∧ Below w.heap.size w w' := by
  have e0 : s.toList = s.data.toList := ByteArray.toList_eq s
  have hz : s.size = s.data.toList.length := by simp
  cases hl : s.data.toList with
  | nil =>
    rw [parseL]
    exact parse_empty s w (by rw [e0, hl]; rfl) (by rw [e0, hl]; rfl)
  | cons c r =>
    have hpos : 0 < s.size := by rw [hz, hl]; simp
    have hc : s[0] = c := by
      have h1 : s[0] = s.data.toList[0]'(by rw [hl]; simp) := rfl
      rw [h1]
      simp only [hl, List.getElem_cons_zero]
    rw [parseL]
    by_cases h : c = 48
    · rw [if_pos h]
      subst h
      cases r with
      | nil =>
        rw [if_pos rfl, answer, W0_zero, W1_zero, W2_zero]
        exact parse_nought s w (by rw [e0, hl]; rfl)
      | cons c' r =>
        rw [if_neg (by simp), answer]
        exact parse_lead s w (by rw [e0, hl]; simp) (by rw [e0, hl]; rfl) hpos (by rw [hc]; rfl)
    · rw [if_neg h]
      have hn : c.toNat ≠ 48 := fun k => h (UInt8.toNat_inj.1 k)
      refine parse_loop s w _ _ rfl (by rw [hl]; exact rfl) (by rw [e0, hl]; rfl) (by rw [e0, hl]; simp [h]) hpos (by rw [hc]; simp; omega)

end Go.Proofs.Ytfjepmhlkelinaa
