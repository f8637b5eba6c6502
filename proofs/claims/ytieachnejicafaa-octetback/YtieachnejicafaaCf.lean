/- The law OctetBack, its first loop: the values are put one behind the other; no statement of the seat is proved here. -/
import Derived.Test.YtieachnejicafaaCe
import Derived.Test.YtieachnejicafaaBf
import Derived.Deep.DeepCutAuto
namespace Go.Proofs.Ytieachnejicafaa
open Go.RowKit

/-- The list of values, as it lies in memory: K, N, Z, B and the bytes X of each. -/
def Vals (w : World) (b off L : Nat) (K : Nat → Int) (N : Nat → Nat) (Z : Nat → Int) (B : Nat → Bool) (bo : Nat → Option Addr) (bn bc : Nat → Nat) (X : Nat → List Nat) : Prop :=
  ∀ i, i < L → w.cell? ⟨b, off + i * 5, none⟩ = some (.int .i64 (K i)) ∧ w.cell? ⟨b, off + i * 5 + 1, none⟩ = some (.int .u64 (N i : Int)) ∧ w.cell? ⟨b, off + i * 5 + 2, none⟩ = some (.int .i64 (Z i)) ∧ w.cell? ⟨b, off + i * 5 + 3, none⟩ = some (.bool (B i)) ∧
    w.cell? ⟨b, off + i * 5 + 4, none⟩ = some (.slice (bo i) (bn i) (bc i)) ∧ Rd w (bo i) (bn i) (bc i) (X i) ∧ (∀ x ∈ X i, x < 256) ∧ N i < 18446744073709551616 ∧ bn i ≤ 9223372036854775807

/-- The bytes of a value. -/
def encV (k : Int) (n : Nat) (l : Bool) (x : List Nat) : List Nat := if k = 0 then putN n 8 l else if k = 1 then varN n else varN x.length ++ x

def encs (E : Nat → List Nat) (i : Nat) : Nat → List Nat
  | 0 => []
  | k + 1 => E i ++ encs E (i + 1) k

theorem encs_step (E : Nat → List Nat) (i L : Nat) (h : i < L) (ys T : List Nat) (e : ys ++ encs E i (L - i) = T) : (ys ++ E i) ++ encs E (i + 1) (L - (i + 1)) = T := by
  rw [← e, show L - i = (L - (i + 1)) + 1 by omega]
  simp [encs]

theorem le_step {bn : Nat → Nat} {i : Nat} (h : ∀ j, j < i → bn j ≤ 100) (hi : bn i ≤ 100) : ∀ j, j < i + 1 → bn j ≤ 100 := by
  intro j hj
  by_cases hji : j < i
  · exact h j hji
  · obtain rfl : j = i := by omega
    exact hi

theorem app_bytes {a b : List Nat} (ha : ∀ x ∈ a, x < 256) (hb : ∀ x ∈ b, x < 256) : ∀ x ∈ a ++ b, x < 256 := by
  intro x h
  rcases List.mem_append.1 h with h | h
  · exact ha x h
  · exact hb x h

theorem encV_bytes (k : Int) (n : Nat) (l : Bool) (x : List Nat) (hx : ∀ y ∈ x, y < 256) : ∀ y ∈ encV k n l x, y < 256 := by
  unfold encV
  split
  · exact putN_bytes _ _ _
  · split
    · exact varN_bytes _
    · exact app_bytes (varN_bytes _) hx

theorem encs_bytes (E : Nat → List Nat) (i k : Nat) (h : ∀ j, j < i + k → ∀ y ∈ E j, y < 256) : ∀ y ∈ encs E i k, y < 256 := by
  induction k generalizing i with
  | zero => intro y hy; simp [encs] at hy
  | succ k ih => exact app_bytes (h i (by omega)) (ih (i + 1) (fun j hj => h j (by omega)))

theorem encV_length (k : Int) (n : Nat) (l : Bool) (x : List Nat) (h : x.length ≤ 100) : (encV k n l x).length ≤ 109 := by
  unfold encV
  have h1 := szN_le n
  have h2 := szN_le x.length
  split
  · rw [putN_length]; omega
  · split
    · rw [varN_length]; omega
    · rw [List.length_append, varN_length]; omega

set_option maxHeartbeats 2000000 in
set_option maxRecDepth 20000 in
theorem back_law (b off L C : Nat) (K : Nat → Int) (N : Nat → Nat) (Z : Nat → Int) (B : Nat → Bool) (bo : Nat → Option Addr) (bn bc : Nat → Nat) (X : Nat → List Nat) (w : World) (hV : Vals w b off L K N Z B bo bn bc X) (hL : 0 < L) (hL2 : L ≤ 30) :
    Calls Try.prog 4 #[.slice (some ⟨b, off, none⟩) L C] w fun e w' => e = .returned (.bool true) ∧ Below w.heap.size w w' := by
  have hV' := hid hV
  have lv := hid lives_any
  obtain ⟨E, hE0⟩ : ∃ E : Nat → List Nat, ∀ j, E j = encV (K j) (N j) (B j) (X j) := ⟨_, fun _ => rfl⟩
  have hE := hid hE0
  clear hV hE0
  go_enter Try.func4, Try.ntmps4
  go_wp2_with fail
  go_loopw [3, 16] (fun o c W => ∃ (i : Nat) (ys : List Nat) (oo : Option Addr) (oc : Nat), i ≤ L ∧ c = .int .i64 (i : Int) ∧ o = .slice oo ys.length oc ∧ (∀ j, j < i → bn j ≤ 100) ∧ ys.length ≤ 109 * i ∧ ys ++ encs E i (L - i) = encs E 0 L ∧
      W.ownsRow w.heap.size 5 1 o ys.length (bs ys) ∧ Below w.heap.size w W) (fun _ c _ => L - (intOf c).toNat)
  case atStart => exact ⟨0, [], none, 0, by omega, rfl, rfl, fun _ h => by omega, by simp, by simp, World.ownsRow_nil _ _ _ _, Below.refl _ _⟩
  case round =>
    obtain ⟨i, ys, oo, oc, hi, rfl, rfl, hle, hyl, he, ho, hb⟩ := hrel
    by_cases hiL : i < L
    · obtain ⟨v0, v1, v2, v3, v4, vr, vx, vn, vm⟩ := hV'.out i hiL
      have x0 := keep_old hb v0
      have x1 := keep_old hb v1
      have x2 := keep_old hb v2
      have x3 := keep_old hb v3
      have x4 := keep_old hb v4
      have he' := hid he
      have hb' := hid hb
      have vr' := hid vr
      have hle' := hid hle
      have hEi := hid (hE.out i)
      have hr0 : Rd wr oo ys.length oc ys := by
        obtain ⟨ao', cap', e, hr⟩ := rd_owned ho
        simp only [Value.slice.injEq, true_and] at e
        obtain ⟨rfl, rfl⟩ := e
        exact hr
      have hr0' := hid hr0
      have hbn0 := hid (rfl : bn i = bn i)
      clear he ho hb vr vx v0 v1 v2 v3 v4 hle hr0
      generalize K i = Ki at *
      generalize N i = Ni at *
      generalize Z i = Zi at *
      generalize B i = Bi at *
      generalize bo i = boi at *
      generalize hbni : bn i = bni at *
      replace hbni := hid hbni
      generalize bc i = bci at *
      by_cases h100 : 100 < bni
      · go_wp2_with (go_at_call 7; refine (lv.out _).mono ?_; rintro e w1 ⟨rfl, hb1⟩)
        go_ret
        exact ⟨rfl, gt (Below.alloc hb'.out hb'.out.size _) hb1⟩
      · have hXl : (X i).length = bni := vr'.out.1
        have hbn : Hid (bn i ≤ 100) := hid (by rw [hbni.out]; omega)
        have hE109 : Hid ((E i).length ≤ 109) := hid (by rw [hEi.out]; exact encV_length _ _ _ _ (by omega))
        have hXl' := hid hXl
        have hr1 : Hid (Rd (wr.alloc (.cells #[.int .i64 Ki, .int .u64 (Ni : Int), .int .i64 Zi, .bool Bi, .slice boi bni bci] 25)) oo ys.length oc ys) := hid (hr0'.out.keep (Below.alloc (Below.refl _ _) (Nat.le_refl _) _))
        have hb1 : Hid (Below w.heap.size w (wr.alloc (.cells #[.int .i64 Ki, .int .u64 (Ni : Int), .int .i64 Zi, .bool Bi, .slice boi bni bci] 25))) := hid (Below.alloc hb'.out hb'.out.size _)
        have rx1 : Hid (Rd (wr.alloc (.cells #[.int .i64 Ki, .int .u64 (Ni : Int), .int .i64 Zi, .bool Bi, .slice boi bni bci] 25)) boi bni bci (X i)) := hid (vr'.out.keep hb1.out)
        clear hXl
        by_cases hk0 : Ki = 0
        · subst hk0
          have hEp : Hid (E i = putN Ni 8 Bi) := hid (by rw [hEi.out]; simp [encV])
          have c12 := hid (put_any oo ys.length oc ys Ni 8 8 Bi (wr.alloc (.cells #[.int .i64 0, .int .u64 (Ni : Int), .int .i64 Zi, .bool Bi, .slice boi bni bci] 25)) hr1.out (by omega) (by omega) (by decide))
          go_wp2_with (go_at_call 12; refine c12.out.mono ?_; rintro e w2 ⟨rfl, ho2, hb2⟩)
          have e1 : ∀ o, (wr.alloc o).heap.size = wr.heap.size + 1 := fun o => by simp
          rw [e1] at ho2
          refine ⟨⟨i + 1, ys ++ E i, some ⟨wr.heap.size + 1, 0, none⟩, ys.length + 8, by omega, by go_num, ?oA, ?hA, ?lA, encs_step E i L hiL ys _ he'.out, ?wA, ?bA⟩, by simp [intOf]; omega⟩
          case oA => rw [List.length_append, hEp.out, putN_length]
          case hA => exact le_step hle'.out hbn.out
          case lA => rw [List.length_append]; have := hE109.out; omega
          case wA => rw [List.length_append, hEp.out, putN_length]; exact own_mono ho2 (by have := hb'.out.size; omega)
          case bA => exact gt hb1.out hb2
        · have hk0' : (Ki == 0) = false := by simpa using hk0
          by_cases hk1 : Ki = 1
          · subst hk1
            have hEp : Hid (E i = varN Ni) := hid (by rw [hEi.out]; simp [encV])
            have c14 := hid (var_any oo ys.length oc ys Ni (wr.alloc (.cells #[.int .i64 1, .int .u64 (Ni : Int), .int .i64 Zi, .bool Bi, .slice boi bni bci] 25)) hr1.out vn (by omega))
            go_wp2_with (go_at_call 14; refine c14.out.mono ?_; rintro e w2 ⟨rfl, ho2, hb2⟩)
            have e1 : ∀ o, (wr.alloc o).heap.size = wr.heap.size + 1 := fun o => by simp
            rw [e1] at ho2
            refine ⟨⟨i + 1, ys ++ E i, some ⟨wr.heap.size + 1, 0, none⟩, ys.length + szN Ni, by omega, by go_num, ?oB, ?hB, ?lB, encs_step E i L hiL ys _ he'.out, ?wB, ?bB⟩, by simp [intOf]; omega⟩
            case oB => rw [List.length_append, hEp.out, varN_length]
            case hB => exact le_step hle'.out hbn.out
            case lB => rw [List.length_append]; have := hE109.out; omega
            case wB => rw [List.length_append, hEp.out, varN_length]; exact own_mono ho2 (by have := hb'.out.size; omega)
            case bB => exact gt hb1.out hb2
          · have hk1' : (Ki == 1) = false := by simpa using hk1
            have hEp : Hid (E i = varN bni ++ X i) := hid (by rw [hEi.out]; unfold encV; rw [if_neg hk0, if_neg hk1, hXl'.out])
            have hk0'' := hid hk0
            have hk1'' := hid hk1
            clear hk0 hk1
            have c14 : Hid (∀ W, Rd W oo ys.length oc ys → Calls Try.prog 14 #[.slice oo ys.length oc, .int .u64 (bni : Int)] W fun e w' => e = .returned (.slice (some ⟨W.heap.size, 0, none⟩) (ys.length + szN bni) (ys.length + szN bni)) ∧ w'.ownsRow W.heap.size 5 1 (.slice (some ⟨W.heap.size, 0, none⟩) (ys.length + szN bni) (ys.length + szN bni)) (ys.length + szN bni) (bs (ys ++ varN bni)) ∧ Below W.heap.size W w') := hid fun W hW => var_any oo ys.length oc ys bni W hW (by omega) (by omega)
            have hw64 : IntKind.u64.wrap (bni : Int) = (bni : Int) := by rw [IntKind.wrap_u64]; omega
            have hS0 : (wr.alloc (.cells #[.int .i64 Ki, .int .u64 (Ni : Int), .int .i64 Zi, .bool Bi, .slice boi bni bci] 25)).drew.cell? ⟨wr.heap.size, 4, none⟩ = some (.slice boi bni bci) := by simp
            have hsz := hid (szN_le bni)
            go_wp2_with fail
            refine wp_region_held_drew (S := fun W => W.cell? ⟨wr.heap.size, 4, none⟩ = some (.slice boi bni bci)) (by kernel_rfl) (by assumption) (fun hHeld => ?_)
            refine wpAnyH_take (i := 0) (v := ?_) (op_at _ 0 _ rfl) (by kernel_rfl) (by kernel_rfl) (by kernel_rfl) (fun _ _ _ h => h) (Or.inl ⟨by rfl, ?_⟩) (by assumption) ?_
            rotate_left 1
            focus (intro w hSw; go_simp; first | done | with_reducible rfl)
            (try simp only [Act.put, List.setIfInBounds_toArray, List.set_cons_zero, List.set_cons_succ])
            refine wpAnyH_take (i := 1) (v := ?_) (op_at _ 1 _ rfl) (by kernel_rfl) (by kernel_rfl) (by kernel_rfl) (fun _ _ _ h => h) (Or.inl ⟨by rfl, ?_⟩) (by assumption) ?_
            rotate_left 1
            focus (intro w hSw; go_simp; first | done | with_reducible rfl)
            (try simp only [Act.put, List.setIfInBounds_toArray, List.set_cons_zero, List.set_cons_succ])
            refine wpAnyH_take (i := 2) (v := ?_) (op_at _ 2 _ rfl) (by kernel_rfl) (by kernel_rfl) (by kernel_rfl) (fun _ _ _ h => h) (Or.inl ⟨by rfl, ?_⟩) (by assumption) ?_
            rotate_left 1
            focus (intro w hSw; go_simp; first | done | with_reducible rfl)
            (try simp only [Act.put, List.setIfInBounds_toArray, List.set_cons_zero, List.set_cons_succ])
            refine wpAnyH_take (i := 3) (v := ?_) (op_at _ 3 _ rfl) (by kernel_rfl) (by kernel_rfl) (by kernel_rfl) (fun _ _ _ h => h) (Or.inl ⟨by rfl, ?_⟩) (by assumption) ?_
            rotate_left 1
            focus (intro w hSw; go_simp; first | done | with_reducible rfl)
            (try simp only [Act.put, List.setIfInBounds_toArray, List.set_cons_zero, List.set_cons_succ])
            refine wpAnyH_take (i := 4) (v := ?_) (op_at _ 4 _ rfl) (by kernel_rfl) (by kernel_rfl) (by kernel_rfl) (fun _ _ _ h => h) (Or.inl ⟨by rfl, ?_⟩) (by assumption) ?_
            rotate_left 1
            focus (intro w hSw; go_simp; first | done | with_reducible rfl)
            (try simp only [Act.put, List.setIfInBounds_toArray, List.set_cons_zero, List.set_cons_succ])
            refine wpAnyH_take (i := 6) (v := ?_) (op_at _ 6 _ rfl) (by kernel_rfl) (by kernel_rfl) (by kernel_rfl) (fun _ _ _ h => h) (Or.inl ⟨by rfl, ?_⟩) (by assumption) ?_
            rotate_left 1
            focus (intro w hSw; go_simp; first | done | with_reducible rfl)
            (try simp only [Act.put, List.setIfInBounds_toArray, List.set_cons_zero, List.set_cons_succ])
            refine wpAnyH_take (i := 7) (v := ?_) (op_at _ 7 _ rfl) (by kernel_rfl) (by kernel_rfl) (by kernel_rfl) (fun _ _ _ h => h) (Or.inl ⟨by rfl, ?_⟩) (by assumption) ?_
            rotate_left 1
            focus (intro w hSw; go_simp; first | done | with_reducible rfl)
            (try simp only [Act.put, List.setIfInBounds_toArray, List.set_cons_zero, List.set_cons_succ])
            refine wpAnyH_ready (rs := [5]) (by kernel_rfl) (by simp) ?_
            refine AllReadyH.cons (op_at _ 5 _ rfl) (fun K hK => ?_) AllReadyH.nil
            go_simp
            refine (c14.out _ (hr1.out.keep (Below.drew (Below.refl _ _)))).mono ?_; rintro e w2 ⟨rfl, ho2, hb2⟩; have hS2 : w2.cell? ⟨wr.heap.size, 4, none⟩ = some (.slice boi bni bci) := keep_old hb2 hS0; have rx2 := hid (rx1.out.keep (Below.trans (Below.drew (Below.refl _ _)) hb2)); replace ho2 := hid ho2; replace hb2 := hid hb2
            refine hK.out _ _ (by assumption) (fun hHeld => ?_)
            clear hK K
            (try simp only [Act.put, List.setIfInBounds_toArray, List.set_cons_zero, List.set_cons_succ])
            refine wpAnyH_ready (rs := [8]) (by kernel_rfl) (by simp) ?_
            refine AllReadyH.cons (op_at _ 8 _ rfl) (fun K hK => ?_) AllReadyH.nil
            refine step_append_rd rfl (.tmp 32) (.tmp 34) rfl (wr.heap.size + 1) _ (ys.length + szN bni) (ys ++ varN bni) rfl (own_mono ho2.out (by simp)) boi bni bci (X i) rfl rx2.out (by have := szN_le bni; omega) (by have := hb2.out.size; simp at this; omega) ?_; intro v3 w3 ho3 hb3; obtain ⟨ao3, cap3, rfl, hr3⟩ := rd_owned ho3; have hS3 : w3.cell? ⟨wr.heap.size, 4, none⟩ = some (.slice boi bni bci) := keep_cell hb3 hS2 (Nat.lt_succ_self _)
            refine hK.out _ _ (by assumption) (fun hHeld => ?_)
            clear hK K
            (try simp only [Act.put, List.setIfInBounds_toArray, List.set_cons_zero, List.set_cons_succ])
            refine wpAnyH_take (i := 9) (v := ?_) (op_at _ 9 _ rfl) (by kernel_rfl) (by kernel_rfl) (by kernel_rfl) (fun _ _ _ h => h) (Or.inl ⟨by rfl, ?_⟩) (by assumption) ?_
            rotate_left 1
            focus (intro w hSw; go_simp; first | done | with_reducible rfl)
            (try simp only [Act.put, List.setIfInBounds_toArray, List.set_cons_zero, List.set_cons_succ])
            refine wpAnyH_done (by kernel_rfl) ?_ _
            go_wp2
            refine ⟨⟨i + 1, ys ++ E i, ao3, cap3, by omega, by go_num, ?oC, ?hC, ?lC, encs_step E i L hiL ys _ he'.out, ?wC, ?bC⟩, by simp [intOf]; omega⟩
            case oC => rw [List.length_append, hEp.out, List.length_append, varN_length, hXl'.out, Nat.add_assoc]
            case hC => exact le_step hle'.out hbn.out
            case lC => rw [List.length_append]; have := hE109.out; omega
            case wC => rw [List.length_append, hEp.out, List.length_append, varN_length, hXl'.out, ← Nat.add_assoc, ← List.append_assoc]; exact own_mono ho3 (by have := hb'.out.size; omega)
            case bC => exact (gt (hb1.out.drew) hb2.out).trans (hb3.mono (by have := hb'.out.size; omega))
    · have hiL' : L = i := by omega
      subst hiL'
      rw [Nat.sub_self] at he
      simp only [encs, List.append_nil] at he
      have hr0 : Rd wr oo ys.length oc ys := by
        obtain ⟨ao', cap', e, hr⟩ := rd_owned ho
        simp only [Value.slice.injEq, true_and] at e
        obtain ⟨rfl, rfl⟩ := e
        exact hr
      have c18 := hid (read_ok oo ys.length oc ys wr hr0 (by omega))
      have he' := hid he
      have hb' := hid hb
      have hle' := hid hle
      clear he hb ho hr0 hle
      go_wp2_with (go_at_call 18; refine c18.out.mono ?_; rintro e w1 ⟨p, rfl, hp, hs1, hb1⟩)
      have hpw : w.heap.size ≤ p := Nat.le_trans hb'.out.size hp
      rw [he'.out] at hs1
      have hs1' := hid hs1
      have hb1' := hid (gt hb'.out hb1)
      clear hs1 hb1 c18
      go_loopw [55] (fun c W => ∃ (i : Nat), i ≤ L ∧ c = .int .i64 (i : Int) ∧ SrcAt W p (encs E i (L - i)) ∧ Below w.heap.size w W) (fun c _ => L - (intOf c).toNat)
      case atStart => exact ⟨0, by omega, rfl, by simpa using hs1'.out, hb1'.out⟩
      case round =>
      obtain ⟨i, hi, rfl, hs, hb⟩ := hrel
      have hbq := hid hb
      have hsq := hid hs
      by_cases hiL2 : i < L
      · obtain ⟨v0, v1, v2, v3, v4, vr, vx, vn, vm⟩ := hV'.out i hiL2
        have x0 := keep_old hb v0
        have x1 := keep_old hb v1
        have x2 := keep_old hb v2
        have x3 := keep_old hb v3
        have x4 := keep_old hb v4
        have vr' := hid vr
        have vx' := hid vx
        have hEi := hid (hE.out i)
        have hbn : bn i ≤ 100 := hle'.out i hiL2
        have hXl : (X i).length = bn i := vr.1
        have hpq : p < wr.heap.size := by obtain ⟨_, _, _, _, h, _⟩ := hs; exact lt_of_block h
        have hqp : Hid (wr.heap.size ≠ p) := hid (by omega)
        obtain ⟨R, hR⟩ : ∃ R, R = encs E (i + 1) (L - (i + 1)) := ⟨_, rfl⟩
        have hsE : SrcAt wr p (E i ++ R) := by
          rw [hR]
          rw [show L - i = (L - (i + 1)) + 1 by omega] at hs
          exact hs
        have hRb : ∀ x ∈ R, x < 256 := by
          rw [hR]
          exact encs_bytes E (i + 1) (L - (i + 1)) (fun j hj => by rw [hE.out j]; exact encV_bytes _ _ _ _ (hV'.out j (by omega)).2.2.2.2.2.2.1)
        have hR' := hid hR
        have hsE' := hid hsE
        have hRb' := hid hRb
        clear hs hb vr vx v0 v1 v2 v3 v4 hsE hRb hR hs1' hb1'
        have kb : ∀ (o : Obj), Below wr.heap.size wr (wr.alloc o).drew := fun o => (Below.alloc (Below.refl _ _) (Nat.le_refl _) _).drew
        replace kb := hid kb
        generalize K i = Ki at *
        generalize N i = Ni at *
        generalize Z i = Zi at *
        generalize B i = Bi at *
        generalize bo i = boi at *
        generalize bn i = bni at *
        generalize bc i = bci at *
        have hsA : Hid (SrcAt (wr.alloc (.cells #[.int .i64 Ki, .int .u64 (Ni : Int), .int .i64 Zi, .bool Bi, .slice boi bni bci] 25)).drew p (E i ++ R)) := hid (hsE'.out.keep (kb.out _))
        have hbA : Hid (Below w.heap.size w (wr.alloc (.cells #[.int .i64 Ki, .int .u64 (Ni : Int), .int .i64 Zi, .bool Bi, .slice boi bni bci] 25)).drew) := hid (gt hbq.out (kb.out _))
        have k1d : (wr.alloc (.cells #[.int .i64 Ki, .int .u64 (Ni : Int), .int .i64 Zi, .bool Bi, .slice boi bni bci] 25)).drew.cell? ⟨wr.heap.size, 1, none⟩ = some (.int .u64 (Ni : Int)) := by simp
        have k3d : (wr.alloc (.cells #[.int .i64 Ki, .int .u64 (Ni : Int), .int .i64 Zi, .bool Bi, .slice boi bni bci] 25)).drew.cell? ⟨wr.heap.size, 3, none⟩ = some (.bool Bi) := by simp
        have k4d : (wr.alloc (.cells #[.int .i64 Ki, .int .u64 (Ni : Int), .int .i64 Zi, .bool Bi, .slice boi bni bci] 25)).drew.cell? ⟨wr.heap.size, 4, none⟩ = some (.slice boi bni bci) := by simp
        by_cases hk0 : Ki = 0
        · subst hk0
          have hEp : E i = putN Ni 8 Bi := by rw [hEi.out]; simp [encV]
          rw [hEp] at hsA
          have c19 : Hid (∀ W, SrcAt W p (putN Ni 8 Bi ++ R) → Calls Try.prog 19 #[.pointer (some ⟨p, 0, none⟩), .int .i64 8, .bool Bi] W fun e w' => e = .returned (.int .u64 (Ni : Int)) ∧ SrcAt w' p R ∧ W.grownBy w' (some p)) := hid fun W hW => by
            have := num_ok p (putN Ni 8 Bi ++ R) Bi W hW (app_bytes (putN_bytes _ _ _) hRb'.out) (by rw [List.length_append, putN_length]; omega)
            rw [psum_put Ni vn Bi R, List.drop_append_of_le_length (by rw [putN_length]; exact Nat.le_refl _), List.drop_of_length_le (by rw [putN_length]; exact Nat.le_refl _)] at this
            exact this
          replace hEp := hid hEp
          go_wp2_with fail
          refine wp_region_held_drew (S := fun W => W.cell? ⟨wr.heap.size, 1, none⟩ = some (.int .u64 (Ni : Int)) ∧ W.cell? ⟨wr.heap.size, 3, none⟩ = some (.bool Bi)) (by kernel_rfl) (by exact ⟨by assumption, by assumption⟩) (fun hHeld => ?_)
          refine wpAnyH_take (i := 0) (v := ?_) (op_at _ 0 _ rfl) (by kernel_rfl) (by kernel_rfl) (by kernel_rfl) (fun _ _ _ h => h) (Or.inl ⟨by rfl, ?_⟩) (by assumption) ?_
          rotate_left 1
          focus (intro w hSw; go_simp; first | done | with_reducible rfl)
          (try simp only [Act.put, List.setIfInBounds_toArray, List.set_cons_zero, List.set_cons_succ])
          refine wpAnyH_take (i := 1) (v := ?_) (op_at _ 1 _ rfl) (by kernel_rfl) (by kernel_rfl) (by kernel_rfl) (fun _ _ _ h => h) (Or.inl ⟨by rfl, ?_⟩) (by assumption) ?_
          rotate_left 1
          focus (intro w hSw; go_simp; first | done | with_reducible rfl)
          (try simp only [Act.put, List.setIfInBounds_toArray, List.set_cons_zero, List.set_cons_succ])
          refine wpAnyH_take (i := 2) (v := ?_) (op_at _ 2 _ rfl) (by kernel_rfl) (by kernel_rfl) (by kernel_rfl) (fun _ _ _ h => h) (Or.inl ⟨by rfl, ?_⟩) (by assumption) ?_
          rotate_left 1
          focus (intro w hSw; go_simp; first | done | with_reducible rfl)
          (try simp only [Act.put, List.setIfInBounds_toArray, List.set_cons_zero, List.set_cons_succ])
          refine wpAnyH_take (i := 4) (v := ?_) (op_at _ 4 _ rfl) (by kernel_rfl) (by kernel_rfl) (by kernel_rfl) (fun _ _ _ h => h) (Or.inl ⟨by rfl, ?_⟩) (by assumption) ?_
          rotate_left 1
          focus (intro w hSw; go_simp; first | done | with_reducible rfl)
          (try simp only [Act.put, List.setIfInBounds_toArray, List.set_cons_zero, List.set_cons_succ])
          refine wpAnyH_take (i := 5) (v := ?_) (op_at _ 5 _ rfl) (by kernel_rfl) (by kernel_rfl) (by kernel_rfl) (fun _ _ _ h => h) (Or.inl ⟨by rfl, ?_⟩) (by assumption) ?_
          rotate_left 1
          focus (intro w hSw; go_simp; first | done | with_reducible rfl)
          (try simp only [Act.put, List.setIfInBounds_toArray, List.set_cons_zero, List.set_cons_succ])
          refine wpAnyH_ready (rs := [3]) (by kernel_rfl) (by simp) ?_
          refine AllReadyH.cons (op_at _ 3 _ rfl) (fun K hK => ?_) AllReadyH.nil
          go_simp
          refine (c19.out _ hsA.out).mono ?_; rintro e w2 ⟨rfl, hs2, hg2⟩; have k1w := grow_cell hg2 k1d hqp.out; have k3w := grow_cell hg2 k3d hqp.out; replace hs2 := hid hs2; replace hg2 := hid hg2
          refine hK.out _ _ (by exact ⟨by assumption, by assumption⟩) (fun hHeld => ?_)
          clear hK K
          (try simp only [Act.put, List.setIfInBounds_toArray, List.set_cons_zero, List.set_cons_succ])
          refine wpAnyH_take (i := 6) (v := ?_) (op_at _ 6 _ rfl) (by kernel_rfl) (by kernel_rfl) (by kernel_rfl) (fun _ _ _ h => h) (Or.inl ⟨by rfl, ?_⟩) (by assumption) ?_
          rotate_left 1
          focus (intro w hSw; go_simp; first | done | with_reducible rfl)
          (try simp only [Act.put, List.setIfInBounds_toArray, List.set_cons_zero, List.set_cons_succ])
          refine wpAnyH_take (i := 7) (v := ?_) (op_at _ 7 _ rfl) (by kernel_rfl) (by kernel_rfl) (by kernel_rfl) (fun _ _ _ h => h) (Or.inl ⟨by rfl, ?_⟩) (by assumption) ?_
          rotate_left 1
          focus (intro w hSw; go_simp; first | done | with_reducible rfl)
          (try simp only [Act.put, List.setIfInBounds_toArray, List.set_cons_zero, List.set_cons_succ])
          refine wpAnyH_done (by kernel_rfl) ?_ _
          go_wp2
          exact ⟨⟨i + 1, by omega, by go_num, (by rw [← hR'.out]; exact hs2.out), hbA.out.grown hg2.out (by have := hbq.out.size; simp; omega) (fun k hk => by cases hk; exact hpw)⟩, by simp [intOf]; omega⟩
        · have hk0' : (Ki == 0) = false := by simpa using hk0
          by_cases hk1 : Ki = 1
          · subst hk1
            have hEp : E i = varN Ni := by rw [hEi.out]; simp [encV]
            rw [hEp] at hsA
            have c20 : Hid (∀ W, SrcAt W p (varN Ni ++ R) → Calls Try.prog 20 #[.pointer (some ⟨p, 0, none⟩), .int .u64 18446744073709551615] W fun e w' => e = .returned (.int .u64 (Ni : Int)) ∧ SrcAt w' p R ∧ W.grownBy w' (some p)) := hid fun W hW => by
              have := var_ok p (varN Ni ++ R) Ni 18446744073709551615 W hW (app_bytes (varN_bytes _) hRb'.out) (asm_var Ni vn R) (by omega)
              rw [List.drop_append_of_le_length (by rw [varN_length]; exact Nat.le_refl _), List.drop_of_length_le (by rw [varN_length]; exact Nat.le_refl _)] at this
              simpa using this
            replace hEp := hid hEp
            go_wp2_with fail
            refine wp_region_held_drew (S := fun W => W.cell? ⟨wr.heap.size, 1, none⟩ = some (.int .u64 (Ni : Int)) ∧ W.cell? ⟨wr.heap.size, 3, none⟩ = some (.bool Bi)) (by kernel_rfl) (by exact ⟨by assumption, by assumption⟩) (fun hHeld => ?_)
            refine wpAnyH_take (i := 0) (v := ?_) (op_at _ 0 _ rfl) (by kernel_rfl) (by kernel_rfl) (by kernel_rfl) (fun _ _ _ h => h) (Or.inl ⟨by rfl, ?_⟩) (by assumption) ?_
            rotate_left 1
            focus (intro w hSw; go_simp; first | done | with_reducible rfl)
            (try simp only [Act.put, List.setIfInBounds_toArray, List.set_cons_zero, List.set_cons_succ])
            refine wpAnyH_take (i := 2) (v := ?_) (op_at _ 2 _ rfl) (by kernel_rfl) (by kernel_rfl) (by kernel_rfl) (fun _ _ _ h => h) (Or.inl ⟨by rfl, ?_⟩) (by assumption) ?_
            rotate_left 1
            focus (intro w hSw; go_simp; first | done | with_reducible rfl)
            (try simp only [Act.put, List.setIfInBounds_toArray, List.set_cons_zero, List.set_cons_succ])
            refine wpAnyH_take (i := 3) (v := ?_) (op_at _ 3 _ rfl) (by kernel_rfl) (by kernel_rfl) (by kernel_rfl) (fun _ _ _ h => h) (Or.inl ⟨by rfl, ?_⟩) (by assumption) ?_
            rotate_left 1
            focus (intro w hSw; go_simp; first | done | with_reducible rfl)
            (try simp only [Act.put, List.setIfInBounds_toArray, List.set_cons_zero, List.set_cons_succ])
            refine wpAnyH_ready (rs := [1]) (by kernel_rfl) (by simp) ?_
            refine AllReadyH.cons (op_at _ 1 _ rfl) (fun K hK => ?_) AllReadyH.nil
            go_simp
            refine (c20.out _ hsA.out).mono ?_; rintro e w2 ⟨rfl, hs2, hg2⟩; have k1w := grow_cell hg2 k1d hqp.out; have k3w := grow_cell hg2 k3d hqp.out; replace hs2 := hid hs2; replace hg2 := hid hg2
            refine hK.out _ _ (by exact ⟨by assumption, by assumption⟩) (fun hHeld => ?_)
            clear hK K
            (try simp only [Act.put, List.setIfInBounds_toArray, List.set_cons_zero, List.set_cons_succ])
            refine wpAnyH_take (i := 4) (v := ?_) (op_at _ 4 _ rfl) (by kernel_rfl) (by kernel_rfl) (by kernel_rfl) (fun _ _ _ h => h) (Or.inl ⟨by rfl, ?_⟩) (by assumption) ?_
            rotate_left 1
            focus (intro w hSw; go_simp; first | done | with_reducible rfl)
            (try simp only [Act.put, List.setIfInBounds_toArray, List.set_cons_zero, List.set_cons_succ])
            refine wpAnyH_take (i := 5) (v := ?_) (op_at _ 5 _ rfl) (by kernel_rfl) (by kernel_rfl) (by kernel_rfl) (fun _ _ _ h => h) (Or.inl ⟨by rfl, ?_⟩) (by assumption) ?_
            rotate_left 1
            focus (intro w hSw; go_simp; first | done | with_reducible rfl)
            (try simp only [Act.put, List.setIfInBounds_toArray, List.set_cons_zero, List.set_cons_succ])
            refine wpAnyH_done (by kernel_rfl) ?_ _
            go_wp2
            exact ⟨⟨i + 1, by omega, by go_num, (by rw [← hR'.out]; exact hs2.out), hbA.out.grown hg2.out (by have := hbq.out.size; simp; omega) (fun k hk => by cases hk; exact hpw)⟩, by simp [intOf]; omega⟩
          · have hk1' : (Ki == 1) = false := by simpa using hk1
            have hEp : E i = varN bni ++ X i := by rw [hEi.out]; unfold encV; rw [if_neg hk0, if_neg hk1, hXl]
            rw [hEp, List.append_assoc] at hsA
            obtain ⟨XS, hXS0⟩ : ∃ S, S = str (X i) := ⟨_, rfl⟩
            have hXb := vx'.out
            have c20 : Hid (∀ W, SrcAt W p (varN bni ++ (X i ++ R)) → Calls Try.prog 20 #[.pointer (some ⟨p, 0, none⟩), .int .u64 100] W fun e w' => e = .returned (.int .u64 (bni : Int)) ∧ SrcAt w' p (X i ++ R) ∧ W.grownBy w' (some p)) := hid fun W hW => by
              have := var_ok p (varN bni ++ (X i ++ R)) bni 100 W hW (app_bytes (varN_bytes _) (app_bytes hXb hRb'.out)) (asm_var bni (by omega) _) hbn
              rw [List.drop_append_of_le_length (by rw [varN_length]; exact Nat.le_refl _), List.drop_of_length_le (by rw [varN_length]; exact Nat.le_refl _)] at this
              simpa using this
            have c21 : Hid (∀ W, SrcAt W p (X i ++ R) → Calls Try.prog 21 #[.pointer (some ⟨p, 0, none⟩), .int .i64 (bni : Int)] W fun e w' => ∃ ao c, e = .returned (.slice ao bni c) ∧ Rd w' ao bni c (X i) ∧ SrcAt w' p R ∧ W.grownBy w' (some p)) := hid fun W hW => by
              have := bytes_ok p (X i ++ R) bni W hW (by rw [List.length_append]; omega) (by omega)
              rw [List.take_append_of_le_length (by omega), List.take_of_length_le (by omega), List.drop_append_of_le_length (by omega), List.drop_of_length_le (by omega)] at this
              simpa using this
            have KX : Hid (∀ W, Below w.heap.size w W → (convert 22 9 (.slice boi bni bci)).run Try.prog W = .ok (.string XS) W) := hid fun W hW => hXS0 ▸ conv_rd (vr'.out.keep hW) 22 9 5 Try.underlying22 Try.underlying5 Try.underlying9
            have kXd := KX.out _ hbA.out
            have hXS := hid hXS0
            have hw64 : IntKind.i64.wrap (bni : Int) = (bni : Int) := by rw [IntKind.wrap_i64]; omega
            replace hEp := hid hEp
            replace hXl := hid hXl
            replace hXb := hid hXb
            clear hk0 hk1 hXS0
            go_wp2_with fail
            refine wp_region_held_drew (S := fun W => W.cell? ⟨wr.heap.size, 4, none⟩ = some (.slice boi bni bci) ∧ (convert 22 9 (.slice boi bni bci)).run Try.prog W = .ok (.string XS) W) (by kernel_rfl) (by exact ⟨by assumption, by assumption⟩) (fun hHeld => ?_)
            refine wpAnyH_take (i := 0) (v := ?_) (op_at _ 0 _ rfl) (by kernel_rfl) (by kernel_rfl) (by kernel_rfl) (fun _ _ _ h => h) (Or.inl ⟨by rfl, ?_⟩) (by assumption) ?_
            rotate_left 1
            focus (intro w hSw; go_simp; first | done | with_reducible rfl)
            (try simp only [Act.put, List.setIfInBounds_toArray, List.set_cons_zero, List.set_cons_succ])
            refine wpAnyH_take (i := 1) (v := ?_) (op_at _ 1 _ rfl) (by kernel_rfl) (by kernel_rfl) (by kernel_rfl) (fun _ _ _ h => h) (Or.inl ⟨by rfl, ?_⟩) (by assumption) ?_
            rotate_left 1
            focus (intro w hSw; go_simp; first | done | with_reducible rfl)
            (try simp only [Act.put, List.setIfInBounds_toArray, List.set_cons_zero, List.set_cons_succ])
            refine wpAnyH_take (i := 6) (v := ?_) (op_at _ 6 _ rfl) (by kernel_rfl) (by kernel_rfl) (by kernel_rfl) (fun _ _ _ h => h) (Or.inl ⟨by rfl, ?_⟩) (by assumption) ?_
            rotate_left 1
            focus (intro w hSw; go_simp; first | done | with_reducible rfl)
            (try simp only [Act.put, List.setIfInBounds_toArray, List.set_cons_zero, List.set_cons_succ])
            refine wpAnyH_take (i := 7) (v := ?_) (op_at _ 7 _ rfl) (by kernel_rfl) (by kernel_rfl) (by kernel_rfl) (fun _ _ _ h => h) (Or.inl ⟨by rfl, ?_⟩) (by assumption) ?_
            rotate_left 1
            focus (intro w hSw; go_simp; first | done | with_reducible rfl)
            (try simp only [Act.put, List.setIfInBounds_toArray, List.set_cons_zero, List.set_cons_succ])
            refine wpAnyH_take (i := 8) (v := ?_) (op_at _ 8 _ rfl) (by kernel_rfl) (by kernel_rfl) (by kernel_rfl) (fun _ _ _ h => h) (Or.inl ⟨by rfl, ?_⟩) (by assumption) ?_
            rotate_left 1
            focus (intro w hSw; go_simp; first | done | with_reducible rfl)
            (try simp only [Act.put, List.setIfInBounds_toArray, List.set_cons_zero, List.set_cons_succ])
            refine wpAnyH_ready (rs := [2]) (by kernel_rfl) (by simp) ?_
            refine AllReadyH.cons (op_at _ 2 _ rfl) (fun K hK => ?_) AllReadyH.nil
            go_simp
            refine (c20.out _ hsA.out).mono ?_; rintro e w2 ⟨rfl, hs2, hg2⟩; have k4w := grow_cell hg2 k4d hqp.out; have hb2 := hid (hbA.out.grown hg2 (by have := hbq.out.size; simp; omega) (fun k hk => by cases hk; exact hpw)); have kXw := KX.out w2 hb2.out; replace hs2 := hid hs2; replace hg2 := hid hg2
            refine hK.out _ _ (by exact ⟨by assumption, by assumption⟩) (fun hHeld => ?_)
            clear hK K
            (try simp only [Act.put, List.setIfInBounds_toArray, List.set_cons_zero, List.set_cons_succ])
            refine wpAnyH_take (i := 3) (v := ?_) (op_at _ 3 _ rfl) (by kernel_rfl) (by kernel_rfl) (by kernel_rfl) (fun _ _ _ h => h) (Or.inl ⟨by rfl, ?_⟩) (by assumption) ?_
            rotate_left 1
            focus (intro w hSw; go_simp; first | done | with_reducible rfl)
            (try simp only [Act.put, List.setIfInBounds_toArray, List.set_cons_zero, List.set_cons_succ])
            refine wpAnyH_ready (rs := [4]) (by kernel_rfl) (by simp) ?_
            refine AllReadyH.cons (op_at _ 4 _ rfl) (fun K hK => ?_) AllReadyH.nil
            go_simp
            refine (c21.out _ hs2.out).mono ?_; rintro e w3 ⟨ao3, c3, rfl, hr3, hs3, hg3⟩; have k4y := grow_cell hg3 k4w hqp.out; have hb3 := hid (hb2.out.grown hg3 (by have := hb2.out.size; omega) (fun k hk => by cases hk; exact hpw)); have kXy := KX.out w3 hb3.out; have kR := conv_rd (P := Try.prog) hr3 22 9 5 Try.underlying22 Try.underlying5 Try.underlying9; rw [← hXS.out] at kR; replace hs3 := hid hs3; replace hr3 := hid hr3; replace hg3 := hid hg3
            refine hK.out _ _ (by exact ⟨by assumption, by assumption⟩) (fun hHeld => ?_)
            clear hK K
            (try simp only [Act.put, List.setIfInBounds_toArray, List.set_cons_zero, List.set_cons_succ])
            refine wpAnyH_ready (rs := [5]) (by kernel_rfl) (by simp) ?_
            refine AllReadyH.cons (op_at _ 5 _ rfl) (fun K hK => ?_) AllReadyH.nil
            go_simp
            refine hK.out _ _ (by exact ⟨by assumption, by assumption⟩) (fun hHeld => ?_)
            clear hK K
            (try simp only [Act.put, List.setIfInBounds_toArray, List.set_cons_zero, List.set_cons_succ])
            refine wpAnyH_take (i := 9) (v := ?_) (op_at _ 9 _ rfl) (by kernel_rfl) (by kernel_rfl) (by kernel_rfl) (fun _ _ _ h => h) (Or.inl ⟨by rfl, ?_⟩) (by assumption) ?_
            rotate_left 1
            focus (intro w hSw; go_simp; first | done | with_reducible rfl)
            (try simp only [Act.put, List.setIfInBounds_toArray, List.set_cons_zero, List.set_cons_succ])
            refine wpAnyH_take (i := 10) (v := ?_) (op_at _ 10 _ rfl) (by kernel_rfl) (by kernel_rfl) (by kernel_rfl) (fun _ _ _ h => h) (Or.inl ⟨by rfl, ?_⟩) (by assumption) ?_
            rotate_left 1
            focus (intro w hSw; go_simp; first | done | with_reducible rfl)
            (try simp only [Act.put, List.setIfInBounds_toArray, List.set_cons_zero, List.set_cons_succ])
            refine wpAnyH_done (by kernel_rfl) ?_ _
            go_wp2
            exact ⟨⟨i + 1, by omega, by go_num, (by rw [← hR'.out]; exact hs3.out), hb3.out⟩, by simp [intOf]; omega⟩
      · have hiL3 : L = i := by omega
        subst hiL3
        have hs0 : SrcAt wr p [] := by simpa [encs] using hsq.out
        have c22 := hid (end_ok p wr hs0)
        have c23 := hid (left_ok p wr hs0)
        clear hs hs0
        go_wp2_with (first | (go_at_call 22; refine c22.out.mono ?_; rintro e y1 ⟨rfl, rfl⟩) | (go_at_call 23; refine c23.out.mono ?_; rintro e y2 ⟨rfl, rfl⟩) | (go_at_call 7; refine (lv.out _).mono ?_; rintro e y3 ⟨rfl, hb3⟩))
        go_ret
        exact ⟨rfl, gt hbq.out hb3⟩

end Go.Proofs.Ytieachnejicafaa
