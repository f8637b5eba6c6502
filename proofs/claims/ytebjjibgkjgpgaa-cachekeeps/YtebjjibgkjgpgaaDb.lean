/- The row is gone along; no statement of the seat is proved here. -/
import Derived.Test.YtebjjibgkjgpgaaDa
import Derived.LaidEql
namespace Go.Proofs.Ytebjjibgkjgpgaa
open Go.RowKit Go.Maps

/-- The k-th page of the row; behind the last one the head. -/
def nx (ks : List Nat) (h k : Nat) : Nat := ks.getD k h
theorem nx_end (ks : List Nat) (h : Nat) : nx ks h ks.length = h := by simp [nx]
theorem nx_in {ks : List Nat} {h k : Nat} (hk : k < ks.length) : nx ks h k ∈ ks := by simp [nx, List.getElem?_eq_getElem hk]

open Classical in
noncomputable def leftOf (ks : List Nat) (h : Nat) (v : Value) : Nat :=
  if e : ∃ k, k ≤ ks.length ∧ v = .pointer (some ⟨nx ks h k, 0, none⟩) then ks.length - Classical.choose e else 0

theorem nx_inj {ks : List Nat} {h : Nat} (nd : (h :: ks).Nodup) {i j : Nat} (hi : i ≤ ks.length) (hj : j ≤ ks.length) (e : nx ks h i = nx ks h j) : i = j := by
  have n2 := List.nodup_cons.1 nd
  rcases Nat.lt_or_ge i ks.length with h1 | h1
  · rcases Nat.lt_or_ge j ks.length with h2 | h2
    · simp only [nx, List.getD, List.getElem?_eq_getElem h1, List.getElem?_eq_getElem h2, Option.getD_some] at e
      exact (List.getElem_inj n2.2).1 e
    · obtain rfl : j = ks.length := by omega
      rw [nx_end] at e
      exact absurd (e ▸ nx_in h1) n2.1
  · obtain rfl : i = ks.length := by omega
    rcases Nat.lt_or_ge j ks.length with h2 | h2
    · rw [nx_end] at e
      exact absurd (e.symm ▸ nx_in h2) n2.1
    · omega

theorem leftOf_eq {ks : List Nat} {h : Nat} (nd : (h :: ks).Nodup) {k : Nat} (hk : k ≤ ks.length) : leftOf ks h (.pointer (some ⟨nx ks h k, 0, none⟩)) = ks.length - k := by
  have hex : ∃ j, j ≤ ks.length ∧ Value.pointer (some ⟨nx ks h k, 0, none⟩) = .pointer (some ⟨nx ks h j, 0, none⟩) := ⟨k, hk, rfl⟩
  unfold leftOf
  rw [dif_pos hex]
  obtain ⟨j, hj⟩ : ∃ j, j = Classical.choose hex := ⟨_, rfl⟩
  have hs := Classical.choose_spec hex
  rw [← hj] at hs ⊢
  have e1 : nx ks h k = nx ks h j := by
    have := hs.2
    simp only [Value.pointer.injEq, Option.some.injEq, Addr.mk.injEq, and_true] at this
    exact this
  rw [nx_inj nd hk hs.1 e1]

theorem info69 : (Try.prog.info? 69).map (fun i => i.size) = some 517 := by kernel_rfl
theorem Try.u50 : Try.prog.underlying 50 = some (.pointer 69) := by kernel_rfl
theorem ptr_ne {W : World} {a b : Nat} {x y : Ent} (ha : EntAt W a x) (hb : EntAt W b y) (hne : a ≠ b) :
    (binOp .neq 50 (.pointer (some ⟨a, 0, none⟩)) (.pointer (some ⟨b, 0, none⟩))).run Try.prog W = .ok (.bool true) W := by
  have h1 := run_sameAddr_other (P := Try.prog) W (a := ⟨a, 0, none⟩) (b := ⟨b, 0, none⟩) (by intro e; cases e; exact hne rfl) ha.blk hb.blk
  obtain ⟨i, hi, hs⟩ : ∃ i, Try.prog.info? 69 = some i ∧ i.size = 517 := by
    have := info69
    cases h : Try.prog.info? 69 with
    | none => rw [h] at this; cases this
    | some i => rw [h] at this; exact ⟨i, rfl, by simpa using this⟩
  have h2 : ∀ d : Nat, (Op.equalIn (d + 1) 50 (.pointer (some ⟨a, 0, none⟩)) (.pointer (some ⟨b, 0, none⟩))).run Try.prog W = .ok false W := fun d => by
    simp [Op.equalIn, run_underlying Try.u50, sizeOf, typeInfo, hi, hs, h1]
  simp only [binOp]
  simp [Op.equal, Op.maxDepth, h2 9999]
theorem ptr_eq (W : World) (a : Nat) :
    (binOp .neq 50 (.pointer (some ⟨a, 0, none⟩)) (.pointer (some ⟨a, 0, none⟩))).run Try.prog W = .ok (.bool false) W := by
  obtain ⟨i, hi, _⟩ : ∃ i, Try.prog.info? 69 = some i ∧ i.size = 517 := by
    have := info69
    cases h : Try.prog.info? 69 with
    | none => rw [h] at this; cases this
    | some i => rw [h] at this; exact ⟨i, rfl, by simpa using this⟩
  have h2 : ∀ d : Nat, (Op.equalIn (d + 1) 50 (.pointer (some ⟨a, 0, none⟩)) (.pointer (some ⟨a, 0, none⟩))).run Try.prog W = .ok true W := fun d => by
    simp [Op.equalIn, run_underlying Try.u50, sizeOf, typeInfo, hi, run_sameAddr_same]
  simp only [binOp]
  simp [Op.equal, Op.maxDepth, h2 9999]

/-- What a world must say at the k-th round. -/
structure OnRow (Bn c h : Nat) (ks : List Nat) (k : Nat) (W : World) : Prop where
  box : W.cell? ⟨Bn, 0, none⟩ = some (.pointer (some ⟨c, 0, none⟩))
  hd : W.cell? ⟨c, 2, none⟩ = some (.pointer (some ⟨h, 0, none⟩))
  he : ∃ e, EntAt W h e
  ne : k < ks.length → ∃ e, EntAt W (nx ks h k) e
  first : k = 0 → W.cell? ⟨h, 516, none⟩ = some (.pointer (some ⟨nx ks h 0, 0, none⟩))
  next : k < ks.length → W.cell? ⟨nx ks h k, 516, none⟩ = some (.pointer (some ⟨nx ks h (k + 1), 0, none⟩))

attribute [local go_sem] Oper.semAt_some

set_option maxRecDepth 100000 in
set_option maxHeartbeats 1000000 in
theorem row1_in (m Bn c h l : Nat) (ks : List Nat) (nd : (h :: ks).Nodup) (J : Nat → World → Prop) (Jx : World → Prop) (hJ : ∀ k W, J k W → OnRow Bn c h ks k W)
    (hY : ∀ k W, k < ks.length → J k W → YieldAt Fence.wide (m - 1) Try.prog l #[.pointer (some ⟨nx ks h k, 0, none⟩)] W fun e W' => (e = .returned (.bool true) ∧ J (k + 1) W') ∨ (e = .returned (.bool false) ∧ Jx W'))
    (W : World) (h0 : J 0 W) :
    CallsIn Fence.wide m Try.prog 63 #[.func (.yield l) #[] #[], .pointer (some ⟨Bn, 0, none⟩)] W fun e W' => (∃ v, e = .returned v) ∧ (J ks.length W' ∨ Jx W') := by
  have q0 := hJ 0 W h0
  have b0 := q0.box; have d0 := q0.hd; have a0 := q0.first rfl
  have H0 := hid h0; have HJ := hid hJ; have HY := hid hY
  clear q0 h0 hJ hY
  refine callsIn_of_wp Try.func63 rfl trivial ?_ rfl
  simp only [Try.ntmps63, List.size_toArray, List.length_cons, List.length_nil, Nat.reduceAdd, Nat.reduceSub, Array.replicate_succ, Array.replicate_zero, List.push_toArray, List.append_toArray, List.nil_append, List.cons_append]
  gi_wp2
  gi_loopw [3] (fun p wr => ∃ k, k ≤ ks.length ∧ p = .pointer (some ⟨nx ks h k, 0, none⟩) ∧ J k wr) (fun p _ => leftOf ks h p)
  case atStart =>
    exact ⟨0, Nat.zero_le _, rfl, H0.out⟩
  case round =>
    obtain ⟨k, hk, rfl, hj⟩ := hrel
    have q := HJ.out k wr hj
    have b1 := q.box; have d1 := q.hd
    rcases Nat.lt_or_ge k ks.length with hlt | hge
    · have a1 := q.next hlt
      have hne : ¬ nx ks h k = h := fun e0 => (List.nodup_cons.1 nd).1 (e0 ▸ nx_in hlt)
      obtain ⟨fn, tmps, assign, body, hy, hR⟩ := HY.out k wr hlt hj
      have HJ' := hid hj
      replace hR := hid hR
      obtain ⟨e1, he1⟩ := q.ne hlt
      obtain ⟨e2, he2⟩ := q.he
      have hpn := ptr_ne he1 he2 hne
      clear q hj he1 he2
      gi_wp2
      refine ⟨fun h => (by cases h), hR.out.mono ?_⟩
      rintro e W3 (⟨rfl, hJ3⟩ | ⟨rfl, hJx3⟩)
      · replace hJ3 := hid hJ3
        gi_wp2
        go_roundw
        case rel => exact ⟨k + 1, by omega, rfl, hJ3.out⟩
        case measure => rw [leftOf_eq nd hk, leftOf_eq nd (show k + 1 ≤ ks.length by omega)]; omega
      · replace hJx3 := hid hJx3
        gi_wp2
        refine bodyPost_ret (results_none rfl _ _ _) rfl ?_
        exact ⟨⟨_, rfl⟩, .inr hJx3.out⟩
    · obtain rfl : k = ks.length := by omega
      have hpn := ptr_eq wr h
      have HJ' := hid hj
      clear q hj
      rw [nx_end]
      gi_wp2
      go_end0
      exact ⟨⟨_, rfl⟩, .inl HJ'.out⟩

end Go.Proofs.Ytebjjibgkjgpgaa
