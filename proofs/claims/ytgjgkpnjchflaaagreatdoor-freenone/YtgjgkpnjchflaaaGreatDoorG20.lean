/- A loop over an iterator whose rounds may turn what the iterator goes along: a law of mine over the kit's steps. No statement of the seat is proved here. -/
import Derived.Test.YtgjgkpnjchflaaaGreatDoorG19
import Derived.RangeFuncNested
import Derived.RangeFuncBound
import Derived.RangeFuncCalls
import Derived.RangeFuncLeaves
import Derived.Shelf.Abstract
import Derived.Shelf.RegionOpen
import Derived.OwnWalkIn
import Derived.TacticsInMore
import Derived.LoopNIn
import Derived.LoopIn
import Derived.LaidEql
import Derived.RangeFuncBox
import Derived.Maps.AppendAt
namespace Go.Proofs.YtgjgkpnjchflaaaGreatDoor.Cch
open Go.RowKit Go.Maps

/-- The loop's two blocks stay. -/
structure TwoKept (B : Nat) (W W' : World) : Prop where
  d : W'.heap[B]? = W.heap[B]?
  l : W'.heap[B + 1]? = W.heap[B + 1]?

def RPost (B : Nat) (I : World → Prop) (X : Code → World → Prop) (W : World) : Exit → Act → World → Prop
  | .normal, _, W' => TwoKept B W W' ∧ I W'
  | .ret, _, W' => TwoKept B W W' ∧ X .ret W'
  | .exit id, _, W' => TwoKept B W W' ∧ X (.exit id) W'
  | .goto t, _, W' => TwoKept B W W' ∧ X (.goto t) W'
  | _, _, _ => False

/-- The block that a loop lays for what its rounds put off, and its record. -/
def Mark (B : Nat) (W : World) : Prop := W.heap[B]? = some (.deferred (some []))
def Rec (B : Nat) (W : World) : Prop := ∃ r, W.heap[B + 1]? = some (.loop r)

theorem TwoKept.of {B : Nat} {W W' : World} (h : KeepsOthers W W') (m : Mark B W) (r : Rec B W) : TwoKept B W W' := by
  obtain ⟨r, hr⟩ := r
  exact ⟨(h.same _ _ m rfl).trans m.symm, (h.same _ _ hr rfl).trans hr.symm⟩

theorem put_other {W : World} {l j : Nat} {o : Obj} (h : j ≠ l) : (W.putObj l o).heap[j]? = W.heap[j]? := World.putObj_heap_other h

section
variable {n : Nat} {P : Program} {g : Operand} {ps : Array Tmp} {assign body : Code} {Q : Exit → Act → World → Prop} {a : Act} {w : World}

theorem range_nat {gf : Nat} {lb : Array Value} (hg : a.eval g = .func (.func gf) #[] lb) (eg : ∀ args w, (callFunc gf args).run P w = .ok (.enter gf args) w)
    (N : Nat) (xs : Nat → Value) (hps : ps.size = 1) (I : Nat → World → Prop) (X : Code → World → Prop)
    (hI : ∀ k W l o o', w.heap.size ≤ l → l ≤ w.heap.size + 1 → W.heap[l]? = some o → o.isCells = false → I k W → I k (W.putObj l o'))
    (hX : ∀ c W l o o', w.heap.size ≤ l → l ≤ w.heap.size + 1 → W.heap[l]? = some o → o.isCells = false → X c W → X c (W.putObj l o'))
    (h0 : ∀ W, Below w.heap.size w W → w.heap.size + 2 ≤ W.heap.size → I 0 W)
    (hseq : ∀ (l : Nat) (J : Nat → World → Prop) (Jx : World → Prop) (W : World), (∀ k W, J k W → I k W) →
      (∀ k W, k < N → J k W → YieldAt Fence.wide (n - 1 - 1) P l #[xs k] W fun e W' => (e = .returned (.bool true) ∧ J (k + 1) W') ∨ (e = .returned (.bool false) ∧ Jx W')) → J 0 W →
      CallsIn Fence.wide (n - 1) P gf (#[.func (.yield l) #[] #[]] ++ lb) W fun e W' => (∃ v, e = .returned v) ∧ (J N W' ∨ Jx W'))
    (a₁ : Nat → Act)
    (hassign : ∀ (l k : Nat) (W : World) (K : Act → World → Prop), K (a₁ k) W →
      assign.wpIn (Fence.wide.inRound l) (n - 1 - 1) P (Exit.then K (fun _ _ _ => False)) { tmps := (ps.zip #[xs k]).foldl (fun t (p, v) => t.setIfInBounds p v) a.tmps, defers := [] } W)
    (hbody : ∀ (l k : Nat) (W : World), k < N → I k W → Mark w.heap.size W → Rec w.heap.size W → body.wpIn (Fence.wide.inRound l) (n - 1 - 1) P (RPost w.heap.size (I (k + 1)) X W) (a₁ k) W)
    (hdone : ∀ W, I N W → Mark w.heap.size W → Q .normal { a with defers := { target := .collected w.heap.size, args := #[] } :: a.defers } W)
    (hstop : ∀ c W, X c W → Mark w.heap.size W → c.wpIn Fence.wide n P Q { a with defers := { target := .collected w.heap.size, args := #[] } :: a.defers } W) :
    (Code.rangeFunc g ps assign body).wpIn Fence.wide n P Q a w := by
  refine wpIn_rangeFunc fun fn hfn => ?_
  rw [show Fence.wide.round = none from rfl]
  obtain ⟨rc, hrc⟩ : ∃ rc : LoopState → Option Code → Loop, ∀ st pe, rc st pe = { state := st, pending := pe, fn := fn, tmps := a.tmps, params := ps, assign := assign, body := body, defers := w.heap.size } := ⟨_, fun _ _ => rfl⟩
  have hst : ∀ st pe, (rc st pe).state = st := fun st pe => by rw [hrc]
  have hpe : ∀ st pe, (rc st pe).pending = pe := fun st pe => by rw [hrc]
  have hpa : ∀ st pe, (rc st pe).params = ps := fun st pe => by rw [hrc]
  have hbusy : ∀ st pe st', ({ rc st pe with state := st' } : Loop) = rc st' pe := fun st pe st' => by rw [hrc, hrc]
  have hboth : ∀ st pe st' pe', ({ rc st pe with state := st', pending := pe' } : Loop) = rc st' pe' := fun st pe st' pe' => by rw [hrc, hrc]
  have hyield : ∀ (W : World) (k : Nat), W.heap[w.heap.size + 1]? = some (.loop (rc .ready none)) → (Instr.yield (w.heap.size + 1) #[xs k]).run P W = .ok (.round (w.heap.size + 1) fn ((ps.zip #[xs k]).foldl (fun t (p, v) => t.setIfInBounds p v) a.tmps) assign body) W := fun W k h => by
    have := run_yield (P := P) (args := #[xs k]) h (by rw [hpa]; simp [hps])
    rw [hrc] at this; exact this
  obtain ⟨W1, hW1⟩ : ∃ W1, W1 = (w.alloc (.deferred (some []))).alloc (.loop (rc .ready none)) := ⟨_, rfl⟩
  have hrec1 : W1.heap[w.heap.size + 1]? = some (.loop (rc .ready none)) := by
    have := World.alloc_heap_new (w.alloc (.deferred (some []))) (.loop (rc .ready none))
    rw [World.size_alloc] at this; rw [hW1]; exact this
  have hmark1 : Mark w.heap.size W1 := by
    show W1.heap[w.heap.size]? = _
    rw [hW1]; exact (Below.heap_alloc _ _ _ (by simp)).trans (World.alloc_heap_new w _)
  have hI1 : I 0 W1 := h0 W1 (by rw [hW1]; exact ((Below.refl _ w).alloc (Nat.le_refl _) _).alloc (by simp) _) (by rw [hW1]; simp)
  have hcall := hseq (w.heap.size + 1) (fun k W => I k W ∧ W.heap[w.heap.size + 1]? = some (.loop (rc .ready none)) ∧ Mark w.heap.size W)
    (fun W => ∃ c, X c W ∧ W.heap[w.heap.size + 1]? = some (.loop (rc .done (some c))) ∧ Mark w.heap.size W) W1 (fun k W h => h.1) ?_ ⟨hI1, hrec1, hmark1⟩
  · refine ⟨w.heap.size + 1, [{ target := .collected w.heap.size, args := #[] }], W1, { target := .fn (.func gf) lb, args := #[.func (.yield (w.heap.size + 1)) #[] #[]] }, W1, gf,
      #[.func (.yield (w.heap.size + 1)) #[] #[]] ++ lb, W1, by rw [hW1, hrc]; exact run_enterLoop_outer _ _ _ _ _, ?_, ?_, ?_, ?_, ?_⟩
    · simp only [resolve, hg]; simp [go_sem]
    · exact fun _ _ => trivial
    · simp [invoke, go_sem, eg]
    · intro h; cases h
    · refine hcall.mono ?_
      rintro e W2 ⟨⟨v, rfl⟩, ⟨hi, hl, hm⟩ | ⟨c, hx, hl, hm⟩⟩
      · refine ⟨none, _, by have := run_endLoop (P := P) hl (by rw [hst]; simp); rw [hpe] at this; exact this, hdone _ (hI _ _ _ _ _ (by omega) (Nat.le_refl _) hl rfl hi) ((put_other (by omega)).trans hm)⟩
      · exact ⟨some c, _, by have := run_endLoop (P := P) hl (by rw [hst]; simp); rw [hpe] at this; exact this, hstop _ _ (hX _ _ _ _ _ (by omega) (Nat.le_refl _) hl rfl hx) ((put_other (by omega)).trans hm)⟩
  · rintro k W hk ⟨hi, hl, hm⟩
    have hlt : w.heap.size + 1 < W.heap.size := (Array.getElem?_eq_some_iff.1 hl).1
    refine ⟨fn, _, assign, body, hyield W k hl, roundIn_of_wpIn hfn (hassign _ k W _ ⟨_, run_beginRound hl (hst _ _), ?_⟩)⟩
    rw [hbusy]
    have hl2 := World.putObj_heap_same (w := W) (h := hlt) (o := .loop (rc .busy none))
    obtain ⟨V, hV⟩ : ∃ V, V = W.putObj (w.heap.size + 1) (.loop (rc .busy none)) := ⟨_, rfl⟩
    rw [← hV] at hl2 ⊢
    have hiV : I k V := hV ▸ hI _ _ _ _ _ (by omega) (Nat.le_refl _) hl rfl hi
    have hmV : Mark w.heap.size V := by show V.heap[w.heap.size]? = _; rw [hV]; exact (put_other (by omega)).trans hm
    refine wpIn_mono (hbody _ k V hk hiV hmV ⟨_, hl2⟩) ?_
    have key : ∀ (jump : Option Code) (V' : World), TwoKept w.heap.size V V' → V'.heap[w.heap.size + 1]? = some (.loop (rc .busy none)) ∧ Mark w.heap.size V' := fun jump V' hk2 => ⟨hk2.l.trans hl2, hk2.d.trans hmV⟩
    have hsame : ∀ {V' : World} {o o' : Obj}, V'.heap[w.heap.size + 1]? = some o → (V'.putObj (w.heap.size + 1) o').heap[w.heap.size + 1]? = some o' := fun h => World.putObj_heap_same (Array.getElem?_eq_some_iff.1 h).1
    intro e a3 V' hp
    cases e with
    | normal =>
      obtain ⟨h1, h2⟩ := key none V' hp.1
      exact ⟨_, _, by have := run_endRound (P := P) none h1; rw [hboth] at this; exact this, Or.inl ⟨rfl, hI _ _ _ _ _ (by omega) (Nat.le_refl _) h1 rfl hp.2, hsame h1, (put_other (by omega)).trans h2⟩⟩
    | ret =>
      obtain ⟨h1, h2⟩ := key none V' hp.1
      exact ⟨_, _, by have := run_endRound (P := P) (some .ret) h1; rw [hboth] at this; exact this, Or.inr ⟨rfl, _, hX _ _ _ _ _ (by omega) (Nat.le_refl _) h1 rfl hp.2, hsame h1, (put_other (by omega)).trans h2⟩⟩
    | exit id =>
      obtain ⟨h1, h2⟩ := key none V' hp.1
      exact ⟨_, _, by have := run_endRound (P := P) (some (.exit id)) h1; rw [hboth] at this; exact this, Or.inr ⟨rfl, _, hX _ _ _ _ _ (by omega) (Nat.le_refl _) h1 rfl hp.2, hsame h1, (put_other (by omega)).trans h2⟩⟩
    | goto t =>
      obtain ⟨h1, h2⟩ := key none V' hp.1
      exact ⟨_, _, by have := run_endRound (P := P) (some (.goto t)) h1; rw [hboth] at this; exact this, Or.inr ⟨rfl, _, hX _ _ _ _ _ (by omega) (Nat.le_refl _) h1 rfl hp.2, hsame h1, (put_other (by omega)).trans h2⟩⟩
    | panic ch => exact hp.elim
    | outgrown => exact hp.elim
end

end Go.Proofs.YtgjgkpnjchflaaaGreatDoor.Cch

/- The row is gone along; no statement of the seat is proved here. -/
namespace Go.Proofs.YtgjgkpnjchflaaaGreatDoor.Cch
open Go.RowKit Go.Maps

/-- The k-th page of the row; behind the last one the head. -/
def nx (ks : List Nat) (h k : Nat) : Nat := ks.getD k h
theorem nx_end (ks : List Nat) (h : Nat) : nx ks h ks.length = h := by simp [nx]
theorem nx_in {ks : List Nat} {h k : Nat} (hk : k < ks.length) : nx ks h k ∈ ks := by simp [nx, List.getElem?_eq_getElem hk]

open Classical in
noncomputable def leftOf (ks : List Nat) (h : Nat) (v : Value) : Nat :=
  if e : ∃ k, k ≤ ks.length ∧ v = .pointer (some ⟨nx ks h k, 0, none⟩) then ks.length - Classical.choose e else 0

theorem nx_inj {ks : List Nat} {h : Nat} (nd : (h :: ks).Nodup) {i j : Nat} (hi : i ≤ ks.length) (hj : j ≤ ks.length) (e : nx ks h i = nx ks h j) : i = j := by
  have n2 := List.nodup_cons.1 nd
  rcases Nat.lt_or_ge i ks.length with h1 | h1
  · rcases Nat.lt_or_ge j ks.length with h2 | h2
    · simp only [nx, List.getD, List.getElem?_eq_getElem h1, List.getElem?_eq_getElem h2, Option.getD_some] at e
      exact (List.getElem_inj n2.2).1 e
    · obtain rfl : j = ks.length := by omega
      rw [nx_end] at e
      exact absurd (e ▸ nx_in h1) n2.1
  · obtain rfl : i = ks.length := by omega
    rcases Nat.lt_or_ge j ks.length with h2 | h2
    · rw [nx_end] at e
      exact absurd (e.symm ▸ nx_in h2) n2.1
    · omega

theorem leftOf_eq {ks : List Nat} {h : Nat} (nd : (h :: ks).Nodup) {k : Nat} (hk : k ≤ ks.length) : leftOf ks h (.pointer (some ⟨nx ks h k, 0, none⟩)) = ks.length - k := by
  have hex : ∃ j, j ≤ ks.length ∧ Value.pointer (some ⟨nx ks h k, 0, none⟩) = .pointer (some ⟨nx ks h j, 0, none⟩) := ⟨k, hk, rfl⟩
  unfold leftOf
  rw [dif_pos hex]
  obtain ⟨j, hj⟩ : ∃ j, j = Classical.choose hex := ⟨_, rfl⟩
  have hs := Classical.choose_spec hex
  rw [← hj] at hs ⊢
  have e1 : nx ks h k = nx ks h j := by
    have := hs.2
    simp only [Value.pointer.injEq, Option.some.injEq, Addr.mk.injEq, and_true] at this
    exact this
  rw [nx_inj nd hk hs.1 e1]

theorem info69 : (Tryz.prog.info? 162).map (fun i => i.size) = some 517 := by kernel_rfl
theorem Tryz.u50 : Tryz.prog.underlying 127 = some (.pointer 162) := by kernel_rfl
theorem ptr_ne {W : World} {a b : Nat} {x y : Ent} (ha : EntAt W a x) (hb : EntAt W b y) (hne : a ≠ b) :
    (binOp .neq 127 (.pointer (some ⟨a, 0, none⟩)) (.pointer (some ⟨b, 0, none⟩))).run Tryz.prog W = .ok (.bool true) W := by
  have h1 := run_sameAddr_other (P := Tryz.prog) W (a := ⟨a, 0, none⟩) (b := ⟨b, 0, none⟩) (by intro e; cases e; exact hne rfl) ha.blk hb.blk
  obtain ⟨i, hi, hs⟩ : ∃ i, Tryz.prog.info? 162 = some i ∧ i.size = 517 := by
    have := info69
    cases h : Tryz.prog.info? 162 with
    | none => rw [h] at this; cases this
    | some i => rw [h] at this; exact ⟨i, rfl, by simpa using this⟩
  have h2 : ∀ d : Nat, (Op.equalIn (d + 1) 127 (.pointer (some ⟨a, 0, none⟩)) (.pointer (some ⟨b, 0, none⟩))).run Tryz.prog W = .ok false W := fun d => by
    simp [Op.equalIn, run_underlying Tryz.u50, sizeOf, typeInfo, hi, hs, h1]
  simp only [binOp]
  simp [Op.equal, Op.maxDepth, h2 9999]
theorem ptr_eq (W : World) (a : Nat) :
    (binOp .neq 127 (.pointer (some ⟨a, 0, none⟩)) (.pointer (some ⟨a, 0, none⟩))).run Tryz.prog W = .ok (.bool false) W := by
  obtain ⟨i, hi, _⟩ : ∃ i, Tryz.prog.info? 162 = some i ∧ i.size = 517 := by
    have := info69
    cases h : Tryz.prog.info? 162 with
    | none => rw [h] at this; cases this
    | some i => rw [h] at this; exact ⟨i, rfl, by simpa using this⟩
  have h2 : ∀ d : Nat, (Op.equalIn (d + 1) 127 (.pointer (some ⟨a, 0, none⟩)) (.pointer (some ⟨a, 0, none⟩))).run Tryz.prog W = .ok true W := fun d => by
    simp [Op.equalIn, run_underlying Tryz.u50, sizeOf, typeInfo, hi, run_sameAddr_same]
  simp only [binOp]
  simp [Op.equal, Op.maxDepth, h2 9999]

/-- What a world must say at the k-th round. -/
structure OnRow (Bn c h : Nat) (ks : List Nat) (k : Nat) (W : World) : Prop where
  box : W.cell? ⟨Bn, 0, none⟩ = some (.pointer (some ⟨c, 0, none⟩))
  hd : W.cell? ⟨c, 2, none⟩ = some (.pointer (some ⟨h, 0, none⟩))
  he : ∃ e, EntAt W h e
  ne : k < ks.length → ∃ e, EntAt W (nx ks h k) e
  first : k = 0 → W.cell? ⟨h, 516, none⟩ = some (.pointer (some ⟨nx ks h 0, 0, none⟩))
  next : k < ks.length → W.cell? ⟨nx ks h k, 516, none⟩ = some (.pointer (some ⟨nx ks h (k + 1), 0, none⟩))

attribute [local go_sem] Oper.semAt_some

set_option maxRecDepth 100000 in
set_option maxHeartbeats 1000000 in
theorem row1_in (m Bn c h l : Nat) (ks : List Nat) (nd : (h :: ks).Nodup) (J : Nat → World → Prop) (Jx : World → Prop) (hJ : ∀ k W, J k W → OnRow Bn c h ks k W)
    (hY : ∀ k W, k < ks.length → J k W → YieldAt Fence.wide (m - 1) Tryz.prog l #[.pointer (some ⟨nx ks h k, 0, none⟩)] W fun e W' => (e = .returned (.bool true) ∧ J (k + 1) W') ∨ (e = .returned (.bool false) ∧ Jx W'))
    (W : World) (h0 : J 0 W) :
    CallsIn Fence.wide m Tryz.prog 189 #[.func (.yield l) #[] #[], .pointer (some ⟨Bn, 0, none⟩)] W fun e W' => (∃ v, e = .returned v) ∧ (J ks.length W' ∨ Jx W') := by
  have q0 := hJ 0 W h0
  have b0 := q0.box; have d0 := q0.hd; have a0 := q0.first rfl
  have H0 := hid h0; have HJ := hid hJ; have HY := hid hY
  clear q0 h0 hJ hY
  refine callsIn_of_wp Tryz.func189 rfl trivial ?_ rfl
  simp only [Tryz.ntmps189, List.size_toArray, List.length_cons, List.length_nil, Nat.reduceAdd, Nat.reduceSub, Array.replicate_succ, Array.replicate_zero, List.push_toArray, List.append_toArray, List.nil_append, List.cons_append]
  gi_wp2
  gi_loopw [3] (fun p wr => ∃ k, k ≤ ks.length ∧ p = .pointer (some ⟨nx ks h k, 0, none⟩) ∧ J k wr) (fun p _ => leftOf ks h p)
  case atStart =>
    exact ⟨0, Nat.zero_le _, rfl, H0.out⟩
  case round =>
    obtain ⟨k, hk, rfl, hj⟩ := hrel
    have q := HJ.out k wr hj
    have b1 := q.box; have d1 := q.hd
    rcases Nat.lt_or_ge k ks.length with hlt | hge
    · have a1 := q.next hlt
      have hne : ¬ nx ks h k = h := fun e0 => (List.nodup_cons.1 nd).1 (e0 ▸ nx_in hlt)
      obtain ⟨fn, tmps, assign, body, hy, hR⟩ := HY.out k wr hlt hj
      have HJ' := hid hj
      replace hR := hid hR
      obtain ⟨e1, he1⟩ := q.ne hlt
      obtain ⟨e2, he2⟩ := q.he
      have hpn := ptr_ne he1 he2 hne
      clear q hj he1 he2
      gi_wp2
      refine ⟨fun h => (by cases h), hR.out.mono ?_⟩
      rintro e W3 (⟨rfl, hJ3⟩ | ⟨rfl, hJx3⟩)
      · replace hJ3 := hid hJ3
        gi_wp2
        go_roundw
        case rel => exact ⟨k + 1, by omega, rfl, hJ3.out⟩
        case measure => rw [leftOf_eq nd hk, leftOf_eq nd (show k + 1 ≤ ks.length by omega)]; omega
      · replace hJx3 := hid hJx3
        gi_wp2
        refine bodyPost_ret (results_none rfl _ _ _) rfl ?_
        exact ⟨⟨_, rfl⟩, .inr hJx3.out⟩
    · obtain rfl : k = ks.length := by omega
      have hpn := ptr_eq wr h
      have HJ' := hid hj
      clear q hj
      rw [nx_end]
      gi_wp2
      go_end0
      exact ⟨⟨_, rfl⟩, .inl HJ'.out⟩

end Go.Proofs.YtgjgkpnjchflaaaGreatDoor.Cch

/- What the row tells; no statement of the seat is proved here. -/
namespace Go.Proofs.YtgjgkpnjchflaaaGreatDoor.Cch
open Go.RowKit Go.Maps

set_option maxHeartbeats 1000000 in
theorem row_any (c : Nat) (w : World) : Calls Tryz.prog 168 #[.pointer (some ⟨c, 0, none⟩)] w fun e w' => e = .returned (.func (.func 189) #[] #[.pointer (some ⟨w.heap.size, 0, none⟩)]) ∧ w' = w.alloc (.cells #[.pointer (some ⟨c, 0, none⟩)] 75) := by
  go_enter Tryz.func168, Tryz.ntmps168
  go_wp2
  go_ret
  exact ⟨rfl, rfl⟩
theorem RingAt.first {w : World} {h : Nat} {ks : List Nat} {E : Nat → Ent} (H : RingAt w h ks E) : (E h).aft = some (nx ks h 0) := by
  have := H.ch
  cases ks with
  | nil => exact this.1
  | cons x ks => exact this.1
theorem chain_next {E : Nat → Ent} {h : Nat} : ∀ {ks : List Nat} {a : Nat}, Chain E (a :: ks ++ [h]) → ∀ k, k < ks.length → (E (nx ks h k)).aft = some (nx ks h (k + 1))
  | [], _, _, k, hk => by simp at hk
  | [x], a, hc, k, hk => by
    obtain rfl : k = 0 := by simpa using hk
    exact hc.2.2.1
  | x :: y :: ks, a, hc, k, hk => by
    cases k with
    | zero => exact hc.2.2.1
    | succ k => exact chain_next (ks := y :: ks) (a := x) hc.2.2 k (by simpa using hk)
theorem RingAt.next {w : World} {h : Nat} {ks : List Nat} {E : Nat → Ent} (H : RingAt w h ks E) {k : Nat} (hk : k < ks.length) : (E (nx ks h k)).aft = some (nx ks h (k + 1)) := chain_next H.ch k hk
theorem CP.row_at {w : World} {c : Nat} {C : Parts} {s : CS} (h : CP w c C s) {k : Nat} (hk : k < C.ks.length) : s.l[k]'(by rw [h.ls]; simpa using hk) = (C.E (nx C.ks C.h k)).row := by
  simp only [h.ls, List.getElem_map, nx, List.getD, List.getElem?_eq_getElem hk, Option.getD_some]
theorem ownsRow_later {w w' : World} {B n : Nat} {e : TypeId} {v : Value} {xs : List Value} (h : w.ownsRow B e 1 v n xs) (hb : Below w.heap.size w w') : w'.ownsRow B e 1 v n xs := by
  refine ⟨h.1, ?_⟩
  rcases h.2 with hn | ⟨g, cap, cur, rfl, hb', hg, hr⟩
  · exact .inl hn
  · exact .inr ⟨g, cap, cur, rfl, hb', (hb.block g (Array.getElem?_eq_some_iff.1 hg).1).trans hg, hr⟩

theorem stepIn_append {F : Fence} {n : Nat} {P : Program} {ops : Array Oper} {o : Oper} {a : Act} {w : World} {K : Act → World → Prop} {Q : Exit → Act → World → Prop} {E' : Prop} (hgd : o.guard = none) (s x : Operand) (t : TypeId)
    (ho : o.op = .call { callee := .builtin .append, args := #[s, x], argTypes := #[t, t] }) (v u v' : Value) (hs : a.eval s = v) (hx : a.eval x = u) (w' : World)
    (hrun : (Builtin.append_ #[t, t] o.type #[v, u]).run P w = .ok v' w') (h : K (a.put o.dst v') w') : if Region.wanted o (yielded ops a.tmps) = true then Oper.wpIn F n P o a w K Q else E' := by
  have hw : Region.wanted o (yielded ops a.tmps) = true := by simp [Region.wanted, hgd]
  rw [if_pos hw]
  unfold Oper.wpIn
  refine ⟨by simp [Oper.about, ho, resolve, Target.leads, Sem.run_pure], ?_⟩
  rw [Oper.semAt_plain F _ _ (by rw [ho]; intro c hc'; cases hc')]
  simp [execOp, ho, resolve, invoke, builtin, hs, hx, hrun, Result.andThen, Oper.uponIn]
  exact h

def ints (l : List Int) : List Value := l.map (fun x => Value.int .i64 x)
theorem ints_one (l : List Int) : ∀ u ∈ ints l, u.oneCell' = true := by
  intro u hu
  obtain ⟨x, _, rfl⟩ := List.mem_map.1 hu
  rfl
theorem info3 : (Tryz.prog.info? 3).map (fun i => (i.zero, i.size, i.bytes)) = some (some (.int .i64 0), 1, 8) := by kernel_rfl
theorem Tryz.u33 : Tryz.prog.underlying 33 = some (.slice 3) := by kernel_rfl

def told (p : Row → Bool) (l : List Row) : List Int := (l.filter p).map Row.page

structure TI (w : World) (fv : Value) (c : Nat) (l : List Int) (W : World) : Prop where
  out : ∃ v, Boxed W (w.heap.size + 1) 33 v ∧ W.ownsRow w.heap.size 3 1 v l.length (ints l)
  fb : Boxed W w.heap.size 186 fv
  cb : Boxed W (w.heap.size + 1 + 1) 75 (.pointer (some ⟨c, 0, none⟩))
  bl : Below w.heap.size w W

theorem put_below {n : Nat} {W : World} {l : Nat} (o : Obj) (h : n ≤ l) (hs : n ≤ W.heap.size) : Below n W (W.putObj l o) := (Below.refl n W).grown (grownBy_putObj' W l o) hs (fun k e => by cases e; exact h)
theorem boxed_put {W : World} {b l : Nat} {t : TypeId} {v : Value} (o : Obj) (h : Boxed W b t v) (hn : b ≠ l) : Boxed (W.putObj l o) b t v := (put_other hn).trans h

theorem TI.put {w : World} {fv : Value} {c : Nat} {l : List Int} {W : World} (h : TI w fv c l W) {k : Nat} {o : Obj} (o' : Obj) (hk : w.heap.size + 3 ≤ k) (hl : W.heap[k]? = some o) (ho : o.isCells = false) : TI w fv c l (W.putObj k o') := by
  obtain ⟨⟨v, h1, h2⟩, h3, h4, h5⟩ := h
  exact ⟨⟨v, boxed_put _ h1 (by omega), ownsRow_putObj h2 o' hl ho⟩, boxed_put _ h3 (by omega), boxed_put _ h4 (by omega), h5.trans (put_below _ (by omega) h5.size)⟩

theorem told_end {w W w1 : World} {B c : Nat} {fv v v' : Value} {l : List Int} {p : Int} {tmp : Obj} (hM : Mark B W) (hR : Rec B W) (h3 : Boxed W w.heap.size 186 fv) (h4 : Boxed W (w.heap.size + 1 + 1) 75 (.pointer (some ⟨c, 0, none⟩))) (h5 : Below w.heap.size w W)
    (hv : Boxed W (w.heap.size + 1) 33 v) (hrow : W.ownsRow w.heap.size 3 1 v l.length (ints l)) (hown' : w1.ownsRow w.heap.size 3 1 v' (l.length + 1) (ints l ++ [.int .i64 p])) (hgrow : (W.alloc tmp).drew.grownBy w1 v.ownBlock) :
    TwoKept B W (w1.setCell ⟨w.heap.size + 1, 0, none⟩ v') ∧ TI w fv c (l ++ [p]) (w1.setCell ⟨w.heap.size + 1, 0, none⟩ v') := by
  obtain ⟨hv1, hv2, hr2, hk2, hb2⟩ := Boxed.appended (W := W.drew) (tmp := tmp) hv (by decide) hrow h5.size (by omega) hown' hgrow
  have k3 : Boxed w1 w.heap.size 186 fv := Boxed.kept (W := (W.alloc tmp).drew) (h3.alloc tmp) hgrow (h3.not_row (by decide) hrow)
  have k4 : Boxed w1 (w.heap.size + 1 + 1) 75 (.pointer (some ⟨c, 0, none⟩)) := Boxed.kept (W := (W.alloc tmp).drew) (h4.alloc tmp) hgrow (h4.not_row (by decide) hrow)
  refine ⟨TwoKept.of (W' := w1.setCell ⟨w.heap.size + 1, 0, none⟩ v') ⟨hk2.size, hk2.same⟩ hM hR, ⟨v', hv2, ?_⟩, (set_heap _ _ _ _ _ (by omega)).trans k3, (set_heap _ _ _ _ _ (by omega)).trans k4, ?_⟩
  · have e1 : ints (l ++ [p]) = ints l ++ [.int .i64 p] := by simp [ints]
    rw [e1, List.length_append]; exact hr2
  · exact h5.trans ⟨hb2.os, hb2.tape, hb2.output, hb2.size, hb2.block⟩

theorem take_filter (p : Row → Bool) (l : List Row) (k : Nat) (h : k < l.length) : told p (l.take (k + 1)) = if p l[k] then told p (l.take k) ++ [l[k].page] else told p (l.take k) := by
  rw [List.take_add_one, List.getElem?_eq_getElem h]
  simp only [told, Option.toList_some, List.filter_append, List.map_append]
  cases hp : p l[k] <;> simp [hp]

attribute [local go_sem] Oper.semAt_some


end Go.Proofs.YtgjgkpnjchflaaaGreatDoor.Cch

/- Pages that go: shed; no statement of the seat is proved here. -/
namespace Go.Proofs.YtgjgkpnjchflaaaGreatDoor.Cch
open Go.RowKit Go.Maps

def shedL (p : Row → Bool) : Nat → List Row → List Row
  | _, [] => []
  | 0, l => l
  | n + 1, r :: l => if p r then shedL p n l else r :: shedL p (n + 1) l

theorem shedL_zero (p : Row → Bool) (l : List Row) : shedL p 0 l = l := by cases l <;> rfl
theorem shedL_nil (p : Row → Bool) (n : Nat) : shedL p n [] = [] := by cases n <;> rfl

structure SI (w : World) (c : Nat) (C : Parts) (s : CS) (fv : Value) (most : Nat) (kept rest : List Nat) (g : Nat) (W : World) : Prop where
  cp : ∃ C', CP W c C' { s with l := rowsOf (kept ++ rest) C.E } ∧ C'.m = C.m ∧ C'.h = C.h ∧ C'.ks = kept ++ rest ∧ ∀ b, (C'.E b).row = (C.E b).row
  sub : ∀ b ∈ kept ++ rest, b ∈ C.ks
  b0 : Boxed W w.heap.size 75 (.pointer (some ⟨c, 0, none⟩))
  b1 : Boxed W (w.heap.size + 1) 3 (.int .i64 (most : Int))
  b2 : Boxed W (w.heap.size + 1 + 1) 186 fv
  b3 : Boxed W (w.heap.size + 1 + 1 + 1) 3 (.int .i64 (g : Int))
  b4 : Boxed W (w.heap.size + 1 + 1 + 1 + 1) 75 (.pointer (some ⟨c, 0, none⟩))
  fr : Fr (C.S c) w W
  cnt : kept.length + rest.length + g = C.ks.length

theorem SI.sz {w W : World} {c : Nat} {C : Parts} {s : CS} {fv : Value} {most g : Nat} {kept rest : List Nat} (h : SI w c C s fv most kept rest g W) : w.heap.size + 5 ≤ W.heap.size := by have := h.b4.lt; omega

theorem Fr.put {S : Nat → Prop} {w W : World} (h : Fr S w W) {l : Nat} (o : Obj) (hl : w.heap.size ≤ l) : Fr S w (W.putObj l o) :=
  ⟨h.os, h.tape, h.output, by have := h.size; simpa [World.putObj] using this, fun j hj hS => (put_other (by omega)).trans (h.blk j hj hS)⟩

/-- What lay ahead of the loop and what it lays stays. -/
theorem SI.turn {w W W' : World} {c : Nat} {C : Parts} {s : CS} {fv : Value} {most g : Nat} {kept rest : List Nat} (h : SI w c C s fv most kept rest g W) (hc : ∀ k, C.S c k → k < w.heap.size)
    (hb : ∀ k, k < w.heap.size + 5 → W'.heap[k]? = W.heap[k]?) (hf : Fr (C.S c) w W') : SI w c C s fv most kept rest g W' := by
  obtain ⟨⟨C', h1, h2, h3, h4, h5⟩, sub, b0, b1, b2, b3, b4, fr, cnt⟩ := h
  refine ⟨⟨C', h1.stay (fun k _ hk => hb k ?_), h2, h3, h4, h5⟩, sub, (hb _ (by omega)).trans b0, (hb _ (by omega)).trans b1, (hb _ (by omega)).trans b2, (hb _ (by omega)).trans b3, (hb _ (by omega)).trans b4, hf, cnt⟩
  have : C.S c k := by
    rcases hk with rfl | rfl | hk
    · exact Or.inl rfl
    · exact Or.inr (Or.inl h2)
    · refine Or.inr (Or.inr ?_)
      rw [h3, h4] at hk
      rcases List.mem_cons.1 hk with rfl | hk
      · simp
      · exact List.mem_cons_of_mem _ (sub k hk)
  have := hc k this
  omega

theorem SI.put {w W : World} {c : Nat} {C : Parts} {s : CS} {fv : Value} {most g : Nat} {kept rest : List Nat} (h : SI w c C s fv most kept rest g W) (hc : ∀ k, C.S c k → k < w.heap.size) {l : Nat} (o : Obj) (hl : w.heap.size + 5 ≤ l) : SI w c C s fv most kept rest g (W.putObj l o) :=
  h.turn hc (fun k hk => put_other (by omega)) (h.fr.put o (by omega))

theorem drop_nx {ks : List Nat} {h k : Nat} (hk : k < ks.length) : ks.drop k = nx ks h k :: ks.drop (k + 1) := by
  rw [List.drop_eq_getElem_cons hk]; simp [nx, List.getElem?_eq_getElem hk]

theorem getD_append_right (kept : List Nat) (ks : List Nat) (h k : Nat) (j : Nat) : nx (kept ++ ks.drop k) h (kept.length + j) = nx ks h (k + j) := by
  simp [nx, List.getElem?_append_right, List.getElem?_drop]

/-- The row, in a world of the loop. -/
theorem SI.onRow {w W : World} {c : Nat} {C : Parts} {s : CS} {fv : Value} {most g k : Nat} {kept : List Nat} (h : SI w c C s fv most kept (C.ks.drop k) g W) (h0 : k = 0 → kept = []) : OnRow (w.heap.size + 1 + 1 + 1 + 1) c C.h C.ks k W := by
  obtain ⟨⟨C', h1, h2, h3, h4, h5⟩, sub, b0, b1, b2, b3, b4, fr, cnt⟩ := h
  have hmem : ∀ j, k + j < C.ks.length → nx C.ks C.h (k + j) ∈ C'.ks := fun j hj => by
    rw [h4, ← getD_append_right kept C.ks C.h k j]
    exact nx_in (by simp; omega)
  refine ⟨b4.cell, by rw [h1.c2, h3], ⟨_, h3 ▸ h1.rg.en C'.h (by simp)⟩, fun hk => ⟨_, h1.rg.en _ (List.mem_cons_of_mem _ (hmem 0 (by omega)))⟩, fun hk => ?_, fun hk => ?_⟩
  · subst hk
    have e1 := h1.rg.first
    obtain rfl := h0 rfl
    rw [h4, h3] at e1
    rw [(h3 ▸ h1.rg.en C'.h (by simp) : EntAt W C.h (C'.E C.h)).aft, e1]
    simp [ptr]
  · have hm := hmem 0 (by omega)
    have hl : kept.length < C'.ks.length := by rw [h4]; simp; omega
    have e1 := h1.rg.next hl
    have e2 := getD_append_right kept C.ks C.h k 0
    have e3 := getD_append_right kept C.ks C.h k 1
    simp only [Nat.add_zero] at e2 hm
    rw [h4, h3, e2, e3] at e1
    rw [(h1.rg.en _ (List.mem_cons_of_mem _ hm)).aft, e1]
    rfl

theorem SI.ents {w W : World} {c : Nat} {C : Parts} {s : CS} {fv : Value} {most g k : Nat} {kept : List Nat} (h : SI w c C s fv most kept (C.ks.drop k) g W) (j : Nat) (hj : k ≤ j) (hl : j < C.ks.length) : ∃ y, EntAt W (nx C.ks C.h j) y ∧ y.row = (C.E (nx C.ks C.h j)).row := by
  obtain ⟨⟨C', h1, h2, h3, h4, h5⟩, _⟩ := h
  obtain ⟨i, rfl⟩ : ∃ i, j = k + i := ⟨j - k, by omega⟩
  refine ⟨_, h1.rg.en _ (List.mem_cons_of_mem _ ?_), h5 _⟩
  rw [h4, ← getD_append_right kept C.ks C.h k i]
  exact nx_in (by simp; omega)

theorem SI.sub_S {w W : World} {c : Nat} {C C' : Parts} {s : CS} {fv : Value} {most g : Nat} {kept rest : List Nat} (h : SI w c C s fv most kept rest g W) (h2 : C'.m = C.m) (h3 : C'.h = C.h) (h4 : C'.ks = kept ++ rest) {k : Nat} (hk : C'.S c k) : C.S c k := by
  rcases hk with rfl | rfl | hk
  · exact Or.inl rfl
  · exact Or.inr (Or.inl h2)
  · refine Or.inr (Or.inr ?_)
    rw [h3, h4] at hk
    rcases List.mem_cons.1 hk with rfl | hk
    · simp
    · exact List.mem_cons_of_mem _ (h.sub k hk)

theorem SI.gone {w W w2 : World} {c e : Nat} {C C' C2 : Parts} {s : CS} {fv : Value} {most g : Nat} {kept rest : List Nat} (h : SI w c C s fv most kept (e :: rest) g W) (hc : ∀ k, C.S c k → k < w.heap.size)
    (h2 : C'.m = C.m) (h3 : C'.h = C.h) (h4 : C'.ks = kept ++ e :: rest) (h5 : ∀ b, (C'.E b).row = (C.E b).row) (cp2 : CP w2 c C2 { s with l := rowsOf (kept ++ rest) C'.E }) (wn : Went W c e kept rest C' C2 w2) :
    SI w c C s fv most kept rest (g + 1) (w2.setCell ⟨w.heap.size + 1 + 1 + 1, 0, none⟩ (.int .i64 ((g + 1 : Nat) : Int))) := by
  have hin : ∀ k, C'.S c k → k < w.heap.size := fun k hk => hc k (h.sub_S h2 h3 h4 hk)
  have hb : ∀ k, w.heap.size ≤ k → k < W.heap.size → w2.heap[k]? = W.heap[k]? := fun k hk hl => wn.fr.blk k hl (fun hs => by have := hin k hs; omega)
  have hs := h.sz
  have hsub : ∀ b ∈ kept ++ rest, b ∈ C.ks := fun b hb => h.sub b (by
    simp only [List.mem_append, List.mem_cons] at hb ⊢
    rcases hb with h | h <;> simp [h])
  have hc2 : ∀ k, C2.S c k → k < w.heap.size := fun k hk => by
    rcases hk with rfl | rfl | hk
    · exact hin _ (Or.inl rfl)
    · exact hin _ (Or.inr (Or.inl wn.m))
    · rw [wn.h, wn.ks] at hk
      refine hin _ (Or.inr (Or.inr ?_))
      rw [h4]
      simp only [List.mem_append, List.mem_cons] at hk ⊢
      rcases hk with h | h | h <;> simp [h]
  have hrows : rowsOf (kept ++ rest) C'.E = rowsOf (kept ++ rest) C.E := rowsOf_congr (fun b _ => h5 b)
  rw [hrows] at cp2
  refine ⟨⟨C2, cp2.stay (fun k _ hk => set_heap _ _ _ _ _ (by have := hc2 k hk; omega)), wn.m.trans h2, wn.h.trans h3, wn.ks, fun b => (wn.rows b).trans (h5 b)⟩, hsub, ?_, ?_, ?_, ?_, ?_, ?_, ?_⟩
  · exact (set_heap _ _ _ _ _ (by omega)).trans ((hb _ (by omega) (by omega)).trans h.b0)
  · exact (set_heap _ _ _ _ _ (by omega)).trans ((hb _ (by omega) (by omega)).trans h.b1)
  · exact (set_heap _ _ _ _ _ (by omega)).trans ((hb _ (by omega) (by omega)).trans h.b2)
  · exact Boxed.set _ ((hb _ (by omega) (by omega)).trans h.b3)
  · exact (set_heap _ _ _ _ _ (by omega)).trans ((hb _ (by omega) (by omega)).trans h.b4)
  · exact (h.fr.trans wn.fr (fun j _ hj => h.sub_S h2 h3 h4 hj)).set (Or.inr (by omega)) _
  · have := h.cnt; simp at this ⊢; omega

theorem SI.two {w W w2 : World} {c e : Nat} {C C' C2 : Parts} {s : CS} {fv : Value} {most g : Nat} {kept rest : List Nat} {v : Value} (h : SI w c C s fv most kept (e :: rest) g W) (hc : ∀ k, C.S c k → k < w.heap.size)
    (h2 : C'.m = C.m) (h3 : C'.h = C.h) (h4 : C'.ks = kept ++ e :: rest) (wn : Went W c e kept rest C' C2 w2) (m : Mark (w.heap.size + 5) W) (r : Rec (w.heap.size + 5) W) : TwoKept (w.heap.size + 5) W (w2.setCell ⟨w.heap.size + 1 + 1 + 1, 0, none⟩ v) := by
  obtain ⟨r, hr⟩ := r
  have l1 : w.heap.size + 5 < W.heap.size := (Array.getElem?_eq_some_iff.1 m).1
  have l2 : w.heap.size + 5 + 1 < W.heap.size := (Array.getElem?_eq_some_iff.1 hr).1
  have hb : ∀ k, w.heap.size ≤ k → k < W.heap.size → w2.heap[k]? = W.heap[k]? := fun k hk hl => wn.fr.blk k hl (fun hs => by have := hc k (h.sub_S h2 h3 h4 hs); omega)
  exact ⟨(set_heap _ _ _ _ _ (by omega)).trans (hb _ (by omega) l1), (set_heap _ _ _ _ _ (by omega)).trans (hb _ (by omega) l2)⟩

theorem SI.cells {w W w2 : World} {c e : Nat} {C C' C2 : Parts} {s : CS} {fv : Value} {most g : Nat} {kept rest : List Nat} (h : SI w c C s fv most kept (e :: rest) g W) (hc : ∀ k, C.S c k → k < w.heap.size)
    (h2 : C'.m = C.m) (h3 : C'.h = C.h) (h4 : C'.ks = kept ++ e :: rest) (wn : Went W c e kept rest C' C2 w2) :
    w2.cell? ⟨w.heap.size + 1 + 1 + 1, 0, none⟩ = some (.int .i64 (g : Int)) ∧ w2.cell? ⟨w.heap.size + 1, 0, none⟩ = some (.int .i64 (most : Int)) ∧ w2.frozen? ⟨w.heap.size + 1 + 1 + 1, 0, none⟩ = false := by
  have hs := h.sz
  have hb : ∀ k, w.heap.size ≤ k → k < W.heap.size → w2.heap[k]? = W.heap[k]? := fun k hk hl => wn.fr.blk k hl (fun hs => by have := hc k (h.sub_S h2 h3 h4 hs); omega)
  have e3 : Boxed w2 (w.heap.size + 1 + 1 + 1) 3 (.int .i64 (g : Int)) := (hb _ (by omega) (by omega)).trans h.b3
  have e1 : Boxed w2 (w.heap.size + 1) 3 (.int .i64 (most : Int)) := (hb _ (by omega) (by omega)).trans h.b1
  exact ⟨e3.cell, e1.cell, e3.frozen⟩

def SLoop (w : World) (c : Nat) (C : Parts) (s : CS) (fv : Value) (most : Nat) (p : Row → Bool) (k : Nat) (W : World) : Prop :=
  ∃ kept g, SI w c C s fv most kept (C.ks.drop k) g W ∧ g < most ∧ rowsOf kept C.E ++ shedL p (most - g) (rowsOf (C.ks.drop k) C.E) = shedL p most s.l
def SOut (w : World) (c : Nat) (C : Parts) (s : CS) (fv : Value) (most : Nat) (p : Row → Bool) (W : World) : Prop :=
  ∃ kept rest g, SI w c C s fv most kept rest g W ∧ rowsOf (kept ++ rest) C.E = shedL p most s.l

theorem rows_append (xs ys : List Nat) (E : Nat → Ent) : rowsOf (xs ++ ys) E = rowsOf xs E ++ rowsOf ys E := by simp [rowsOf]

theorem shed_no {p : Row → Bool} {m : Nat} {r : Row} {l : List Row} (hm : 0 < m) (h : p r = false) : shedL p m (r :: l) = r :: shedL p m l := by
  obtain ⟨n, rfl⟩ : ∃ n, m = n + 1 := ⟨m - 1, by omega⟩
  simp [shedL, h]
theorem shed_yes {p : Row → Bool} {m : Nat} {r : Row} {l : List Row} (hm : 0 < m) (h : p r = true) : shedL p m (r :: l) = shedL p (m - 1) l := by
  obtain ⟨n, rfl⟩ : ∃ n, m = n + 1 := ⟨m - 1, by omega⟩
  simp [shedL, h]

theorem shed_end {w W : World} {c : Nat} {C : Parts} {s : CS} {fv : Value} {most g l : Nat} {kept rest : List Nat} {p : Row → Bool} {o : Obj} (hc : ∀ k, C.S c k → k < w.heap.size) (h0 : CP w c C s) (h : SI w c C s fv most kept rest g W)
    (hres : rowsOf (kept ++ rest) C.E = shedL p most s.l) (hl : w.heap.size + 5 ≤ l) :
    Ending.returned (Value.int .i64 (g : Int)) = .returned (.int .i64 ((s.l.length - (shedL p most s.l).length : Nat) : Int)) ∧
      ∃ C', CP (W.putObj l o) c C' { s with l := shedL p most s.l } ∧ C'.m = C.m ∧ C'.h = C.h ∧ (∀ b ∈ C'.ks, b ∈ C.ks) ∧ Fr (C.S c) w (W.putObj l o) := by
  have h1 := h.put hc o hl
  obtain ⟨C', h2, h3, h4, h5, h6⟩ := h1.cp
  rw [hres] at h2
  refine ⟨?_, C', h2, h3, h4, fun b hb => h.sub b (h5 ▸ hb), h1.fr⟩
  have e1 : (shedL p most s.l).length = kept.length + rest.length := by rw [← hres]; simp [rowsOf]
  have e2 : s.l.length = C.ks.length := by rw [h0.ls]; simp
  have e3 := h.cnt
  rw [e1, e2, ← e3]
  congr 2
  omega

attribute [local go_sem] Oper.semAt_some

set_option maxRecDepth 100000 in
set_option maxHeartbeats 4000000 in
theorem shed52 (c most eb : Nat) (C : Parts) (s : CS) (p : Row → Bool) (w : World) (h : CP w c C s) (hlen : C.ks.length ≤ 1000000) (hm : 1 ≤ most) (hm2 : most ≤ 1000000)
    (kw : ∀ (W : World) (k : Nat), k < C.ks.length → Fr (C.S c) w W → (∀ j, k ≤ j → j < C.ks.length → ∃ y, EntAt W (nx C.ks C.h j) y ∧ y.row = (C.E (nx C.ks C.h j)).row) →
      Calls Tryz.prog 128 (#[.pointer (some ⟨nx C.ks C.h k, 0, none⟩)] ++ #[.pointer (some ⟨eb, 0, none⟩)]) W fun e w' => e = .returned (.bool (p (C.E (nx C.ks C.h k)).row)) ∧ w' = W) :
    Calls Tryz.prog 127 #[.pointer (some ⟨c, 0, none⟩), .int .i64 (most : Int), .func (.func 128) #[] #[.pointer (some ⟨eb, 0, none⟩)]] w fun e w' => e = .returned (.int .i64 ((s.l.length - (shedL p most s.l).length : Nat) : Int)) ∧
      ∃ C', CP w' c C' { s with l := shedL p most s.l } ∧ C'.m = C.m ∧ C'.h = C.h ∧ (∀ b ∈ C'.ks, b ∈ C.ks) ∧ Fr (C.S c) w w' := by
  have k2 := hid (row_any c)
  have hmi : ¬ (most : Int) ≤ 0 := by omega
  have hmi2 : 0 < most := hm
  have HH := hid h; have KW := hid kw
  have hSlt : Hid (∀ k, C.S c k → k < w.heap.size) := hid (fun k hk => h.lt hk)
  clear h kw
  refine (callsIn_wide (n := 3)).1 ?_
  refine callsIn_of_wp_marks Tryz.func127 rfl trivial ?_ rfl
  simp only [Tryz.ntmps127, List.size_toArray, List.length_cons, List.length_nil, Nat.reduceAdd, Nat.reduceSub, Array.replicate_succ, Array.replicate_zero, List.push_toArray, List.append_toArray, List.nil_append, List.cons_append]
  gi_wp2_with (refine ⟨trivial, ?_⟩; gi_at_call 168; refine (callsIn_wide.2 (k2.out _)).mono ?_; rintro e w1 ⟨rfl, rfl⟩)
  have hb0 := Boxed.new w 75 (.pointer (some ⟨c, 0, none⟩))
  have hb1 := Boxed.new (w.alloc (.cells #[.pointer (some ⟨c, 0, none⟩)] 75)) 3 (.int .i64 (most : Int))
  have hb2 := Boxed.new ((w.alloc (.cells #[.pointer (some ⟨c, 0, none⟩)] 75)).alloc (.cells #[.int .i64 (most : Int)] 3)) 186 (.func (.func 128) #[] #[.pointer (some ⟨eb, 0, none⟩)])
  have hb3 := Boxed.new (((w.alloc (.cells #[.pointer (some ⟨c, 0, none⟩)] 75)).alloc (.cells #[.int .i64 (most : Int)] 3)).alloc (.cells #[.func (.func 128) #[] #[.pointer (some ⟨eb, 0, none⟩)]] 186)) 3 (.int .i64 0)
  have hb4 := Boxed.new ((((w.alloc (.cells #[.pointer (some ⟨c, 0, none⟩)] 75)).alloc (.cells #[.int .i64 (most : Int)] 3)).alloc (.cells #[.func (.func 128) #[] #[.pointer (some ⟨eb, 0, none⟩)]] 186)).alloc (.cells #[.int .i64 0] 3)) 75 (.pointer (some ⟨c, 0, none⟩))
  simp only [World.size_alloc] at hb1 hb2 hb3 hb4
  have hbl : Below w.heap.size w (((((w.alloc (.cells #[.pointer (some ⟨c, 0, none⟩)] 75)).alloc (.cells #[.int .i64 (most : Int)] 3)).alloc (.cells #[.func (.func 128) #[] #[.pointer (some ⟨eb, 0, none⟩)]] 186)).alloc (.cells #[.int .i64 0] 3)).alloc (.cells #[.pointer (some ⟨c, 0, none⟩)] 75)) :=
    (((((Below.refl _ w).alloc (Nat.le_refl _) _).alloc (by simp) _).alloc (by simp; omega) _).alloc (by simp; omega) _).alloc (by simp; omega) _
  have hI0 : SI w c C s (.func (.func 128) #[] #[.pointer (some ⟨eb, 0, none⟩)]) most [] C.ks 0 (((((w.alloc (.cells #[.pointer (some ⟨c, 0, none⟩)] 75)).alloc (.cells #[.int .i64 (most : Int)] 3)).alloc (.cells #[.func (.func 128) #[] #[.pointer (some ⟨eb, 0, none⟩)]] 186)).alloc (.cells #[.int .i64 0] 3)).alloc (.cells #[.pointer (some ⟨c, 0, none⟩)] 75)) := by
    refine ⟨⟨C, ?_, rfl, rfl, rfl, fun _ => rfl⟩, fun b hb => hb, (((hb0.alloc _).alloc _).alloc _).alloc _, ((hb1.alloc _).alloc _).alloc _, (hb2.alloc _).alloc _, hb3.alloc _, hb4, Fr.of_below hbl, by simp⟩
    have h1 := HH.out.later hbl
    have e1 : s.l = rowsOf ([] ++ C.ks) C.E := HH.out.ls
    rw [← e1]; exact h1
  obtain ⟨W0, hW0⟩ : ∃ W0, W0 = (((((w.alloc (.cells #[.pointer (some ⟨c, 0, none⟩)] 75)).alloc (.cells #[.int .i64 (most : Int)] 3)).alloc (.cells #[.func (.func 128) #[] #[.pointer (some ⟨eb, 0, none⟩)]] 186)).alloc (.cells #[.int .i64 0] 3)).alloc (.cells #[.pointer (some ⟨c, 0, none⟩)] 75)) := ⟨_, rfl⟩
  have hsz : W0.heap.size = w.heap.size + 5 := by rw [hW0]; simp
  rw [← hW0] at hI0 ⊢
  clear hW0 hb0 hb1 hb2 hb3 hb4 hbl
  refine range_nat (gf := 189) (lb := #[.pointer (some ⟨w.heap.size + 1 + 1 + 1 + 1, 0, none⟩)]) rfl (enters_of Tryz.func189 (by kernel_rfl) rfl) C.ks.length (fun k => .pointer (some ⟨nx C.ks C.h k, 0, none⟩)) rfl
    (fun k W => SLoop w c C s (.func (.func 128) #[] #[.pointer (some ⟨eb, 0, none⟩)]) most p k W) (fun x W => x = .exit 0 ∧ SOut w c C s (.func (.func 128) #[] #[.pointer (some ⟨eb, 0, none⟩)]) most p W) ?hI ?hX ?h0 ?hseq
    (fun k => { tmps := #[Value.pointer (some ⟨c, 0, none⟩), .int .i64 (most : Int), .func (.func 128) #[] #[.pointer (some ⟨eb, 0, none⟩)], .pointer (some ⟨w.heap.size, 0, none⟩), .pointer (some ⟨w.heap.size + 1, 0, none⟩), .pointer (some ⟨w.heap.size + 1 + 1, 0, none⟩), .int .i64 0, .pointer (some ⟨w.heap.size + 1 + 1 + 1, 0, none⟩), .pointer (some ⟨nx C.ks C.h k, 0, none⟩), .int .i64 (most : Int), .bool false, .pointer (some ⟨c, 0, none⟩), .func (.func 189) #[] #[.pointer (some ⟨w.heap.size + 1 + 1 + 1 + 1, 0, none⟩)], .pointer (some ⟨nx C.ks C.h k, 0, none⟩), undef, undef, undef, undef, undef, undef, undef, undef, undef, undef, undef, undef], defers := [] }) ?assign ?body ?done ?stop
  case hI =>
    rintro k W l o o' h1 _ _ _ ⟨kept, g, h5, h6⟩
    exact ⟨kept, g, h5.put hSlt.out o' (by omega), h6⟩
  case hX =>
    rintro x W l o o' h1 _ _ _ ⟨rfl, kept, rest, g, h5, h6⟩
    exact ⟨rfl, kept, rest, g, h5.put hSlt.out o' (by omega), h6⟩
  case h0 =>
    intro W hb _
    refine ⟨[], 0, (hI0.turn hSlt.out (fun k hk => hb.block k (by omega)) (hI0.fr.trans (T := fun _ => False) ⟨hb.os, hb.tape, hb.output, hb.size, fun k hk _ => hb.block k hk⟩ (fun _ _ h => h.elim))), hm, ?_⟩
    have e1 : s.l = rowsOf C.ks C.E := HH.out.ls
    rw [e1]; rfl
  case hseq =>
    intro l J Jx W hJI hY hJ0
    refine row1_in 2 (w.heap.size + 1 + 1 + 1 + 1) c C.h l C.ks HH.out.rg.nd J Jx (fun k W hj => ?_) hY W hJ0
    obtain ⟨kept, g, h5, h6⟩ := hJI k W hj
    exact h5.onRow (fun hk => List.eq_nil_of_length_eq_zero (by have := h5.cnt; rw [List.length_drop] at this; omega))
  case assign =>
    intro l k W K hK
    gi_wp2
    exact hK
  case body =>
    rintro l k W hk ⟨kept, g, hS, hg, hres⟩ hM hR
    rw [hsz] at hM hR ⊢
    have kw := hid (KW.out W k hk hS.fr hS.ents)
    have c0 := hS.b0.cell; have c1 := hS.b1.cell; have c2 := hS.b2.cell; have c3 := hS.b3.cell; have f3 := hS.b3.frozen
    have hds := drop_nx (h := C.h) hk
    have HS := hid hS; have HRES := hid hres; have HM := hid hM; have HR := hid hR; have HD := hid hds
    obtain ⟨C', h1, h2, h3, h4, h5⟩ := hS.cp
    rw [hds] at h1 h4
    have hSg : SI w c C s (.func (.func 128) #[] #[.pointer (some ⟨eb, 0, none⟩)]) most kept (nx C.ks C.h k :: C.ks.drop (k + 1)) g W := by rw [← hds]; exact hS
    have HSg := hid hSg
    have hgm : ¬ g = most := by omega
    have hgm2 : ¬ (g : Int) = (most : Int) := by omega
    have hgw : IntKind.i64.wrap ((g : Int) + 1) = ((g + 1 : Nat) : Int) := by rw [IntWalk.i64_in _ ⟨by omega, by omega⟩]; omega
    have e1 : rowsOf (nx C.ks C.h k :: C.ks.drop (k + 1)) C.E = (C.E (nx C.ks C.h k)).row :: rowsOf (C.ks.drop (k + 1)) C.E := rfl
    have HE1 := hid e1
    clear hS hres hM hR hds hSg e1
    cases hp : p (C.E (nx C.ks C.h k)).row
    · rw [hp] at kw
      have hend : Hid (SLoop w c C s (.func (.func 128) #[] #[.pointer (some ⟨eb, 0, none⟩)]) most p (k + 1) W) := by
        obtain ⟨_, sub, b0, b1, b2, b3, b4, fr, cnt⟩ := HSg.out
        refine hid ⟨kept ++ [nx C.ks C.h k], g, ⟨⟨C', ?_, h2, h3, by rw [h4]; simp, h5⟩, fun b hb => sub b (by simpa using hb), b0, b1, b2, b3, b4, fr, by simp at cnt ⊢; omega⟩, hg, ?_⟩
        · rw [List.append_assoc]; exact h1
        · rw [← HRES.out, HD.out, HE1.out, shed_no (by omega) hp, rows_append]; simp [rowsOf]
      clear h1 h2 h3 h4 h5
      gi_wp2_with (refine ⟨trivial, ?_⟩; gi_at_call 128; refine (CallsIn.inRound l (callsIn_wide.2 kw.out)).mono ?_; rintro e w1 ⟨rfl, h0⟩; obtain rfl := h0.symm)
      obtain ⟨r, hr⟩ := HR.out
      exact ⟨⟨rfl, rfl⟩, hend.out⟩
    · rw [hp] at kw
      have kr := hid (remove_cp c (nx C.ks C.h k) kept (C.ks.drop (k + 1)) C' _ W h1 h4)
      have H2 := hid h2; have H3 := hid h3; have H4 := hid h4; have H5 := hid h5
      have hsl := HS.out.sz
      have hin : ∀ k, C'.S c k → k < w.heap.size := fun k hk => hSlt.out k (HSg.out.sub_S h2 h3 h4 hk)
      have HIN := hid hin
      clear h1 h2 h3 h4 h5 hin
      rcases Nat.lt_or_ge (g + 1) most with hlt | hge
      · have hg1 : ¬ g + 1 = most := by omega
        have hg2 : ¬ (g : Int) + 1 = (most : Int) := by omega
        have hg3 : ¬ ((g + 1 : Nat) : Int) = (most : Int) := by omega
        gi_wp2_with (first | (refine ⟨trivial, ?_⟩; gi_at_call 128; refine (CallsIn.inRound l (callsIn_wide.2 kw.out)).mono ?_; rintro e w1 ⟨rfl, h0⟩; obtain rfl := h0.symm) | (refine ⟨trivial, ?_⟩; gi_at_call 121; refine (CallsIn.inRound l (callsIn_wide.2 kr.out)).mono ?_; rintro e w2 ⟨rfl, C2, hcp2, hwn⟩; obtain ⟨d3, d1, g3⟩ := HSg.out.cells hSlt.out H2.out H3.out H4.out hwn; have HC2 := hid hcp2; have HW2 := hid hwn; clear hcp2 hwn))
        refine ⟨HSg.out.two hSlt.out H2.out H3.out H4.out HW2.out HM.out HR.out, kept, g + 1, HSg.out.gone hSlt.out H2.out H3.out H4.out H5.out HC2.out HW2.out, hlt, ?_⟩
        rw [← HRES.out, HD.out, HE1.out, shed_yes (by omega) hp, Nat.sub_sub]
      · have hg1 : g + 1 = most := by omega
        have hg2 : (g : Int) + 1 = (most : Int) := by omega
        have hg3 : ((g + 1 : Nat) : Int) = (most : Int) := by omega
        gi_wp2_with (first | (refine ⟨trivial, ?_⟩; gi_at_call 128; refine (CallsIn.inRound l (callsIn_wide.2 kw.out)).mono ?_; rintro e w1 ⟨rfl, h0⟩; obtain rfl := h0.symm) | (refine ⟨trivial, ?_⟩; gi_at_call 121; refine (CallsIn.inRound l (callsIn_wide.2 kr.out)).mono ?_; rintro e w2 ⟨rfl, C2, hcp2, hwn⟩; obtain ⟨d3, d1, g3⟩ := HSg.out.cells hSlt.out H2.out H3.out H4.out hwn; have HC2 := hid hcp2; have HW2 := hid hwn; clear hcp2 hwn))
        refine ⟨HSg.out.two hSlt.out H2.out H3.out H4.out HW2.out HM.out HR.out, rfl, kept, C.ks.drop (k + 1), g + 1, (by have q := HSg.out.gone hSlt.out H2.out H3.out H4.out H5.out HC2.out HW2.out; rw [show ((g + 1 : Nat) : Int) = (most : Int) by omega] at q; exact q), ?_⟩
        rw [← HRES.out, HD.out, HE1.out, shed_yes (by omega) hp, show most - g - 1 = 0 by omega, shedL_zero, rows_append]
  case done =>
    rintro W ⟨kept, g, hS, hg, hres⟩ hM
    rw [List.drop_length] at hS hres
    have hO : SOut w c C s (.func (.func 128) #[] #[.pointer (some ⟨eb, 0, none⟩)]) most p W := ⟨kept, [], g, hS, by rw [← hres, rows_append, show rowsOf [] C.E = [] from rfl, shedL_nil]⟩
    have c3 := hS.b3.cell
    have HS := hid hS; have HM := hid hM; have HRES := hid hres
    clear hS hM hres hO
    gi_wp2
    refine ⟨by simp, .inl ⟨_, _, rfl, run_takeDeferred HM.out, ?_⟩⟩
    refine ⟨_, results_tmp rfl _ _ _, ?_⟩
    exact shed_end hSlt.out HH.out HS.out (by rw [← HRES.out, rows_append, show rowsOf [] C.E = [] from rfl, shedL_nil]) (by rw [hsz]; exact Nat.le_refl _)
  case stop =>
    rintro x W ⟨rfl, kept, rest, g, hS, hres⟩ hM
    have c3 := hS.b3.cell
    have HS := hid hS; have HM := hid hM; have HRES := hid hres
    clear hS hM hres
    gi_wp2
    refine ⟨by simp, .inl ⟨_, _, rfl, run_takeDeferred HM.out, ?_⟩⟩
    refine ⟨_, results_tmp rfl _ _ _, ?_⟩
    exact shed_end hSlt.out HH.out HS.out HRES.out (by rw [hsz]; exact Nat.le_refl _)

end Go.Proofs.YtgjgkpnjchflaaaGreatDoor.Cch

/- Which pages may go; a page turns; a copy of bytes; no statement of the seat is proved here. -/
namespace Go.Proofs.YtgjgkpnjchflaaaGreatDoor.Cch
open Go.RowKit Go.Maps

def p56 (r : Row) : Bool := decide (r.pins = 0)
def p52 (k : Int) (r : Row) : Bool := decide (r.page ≠ k) && (decide (r.pins = 0) && !r.dirty)

set_option maxHeartbeats 1000000 in
theorem which52_same (e eb : Nat) (w : World) (hc : w.cell? ⟨eb, 0, none⟩ = some (.pointer (some ⟨e, 0, none⟩))) :
    Calls Tryz.prog 128 #[.pointer (some ⟨e, 0, none⟩), .pointer (some ⟨eb, 0, none⟩)] w fun r w' => r = .returned (.bool false) ∧ w' = w := by
  have h1 := ptr_eq w e
  go_enter Tryz.func128, Tryz.ntmps128
  go_wp2
  go_ret
  exact ⟨rfl, rfl⟩
set_option maxHeartbeats 1000000 in
theorem which52_else (b e eb : Nat) (x y : Ent) (w : World) (hb : EntAt w b x) (he : EntAt w e y) (hne : b ≠ e) (hc : w.cell? ⟨eb, 0, none⟩ = some (.pointer (some ⟨e, 0, none⟩))) :
    Calls Tryz.prog 128 #[.pointer (some ⟨b, 0, none⟩), .pointer (some ⟨eb, 0, none⟩)] w fun r w' => r = .returned (.bool (decide (x.row.pins = 0) && !x.row.dirty)) ∧ w' = w := by
  have h1 := ptr_ne hb he hne
  have c1 := hb.pins; have c2 := hb.dirty
  clear hb he
  rcases Nat.eq_zero_or_pos x.row.pins with hz | hz
  · rw [hz] at c1 ⊢
    simp only [Int.ofNat_zero] at c1
    cases hd : x.row.dirty
    · rw [hd] at c2
      go_enter Tryz.func128, Tryz.ntmps128
      go_wp2
      go_ret
      exact ⟨rfl, rfl⟩
    · rw [hd] at c2
      go_enter Tryz.func128, Tryz.ntmps128
      go_wp2
      go_ret
      exact ⟨rfl, rfl⟩
  · have h2 : ¬ x.row.pins = 0 := by omega
    have h3 : ¬ (x.row.pins : Int) = 0 := by omega
    have e1 : (decide (x.row.pins = 0) && !x.row.dirty) = false := by simp [h2]
    rw [e1]
    go_enter Tryz.func128, Tryz.ntmps128
    go_wp2
    go_ret
    exact ⟨rfl, rfl⟩

/-! ### a page turns in its place -/

theorem chain_upd {E : Nat → Ent} {e : Nat} {x : Ent} (hb : x.bef = (E e).bef) (ha : x.aft = (E e).aft) {l : List Nat} (h : Chain E l) : Chain (upd E e x) l := by
  refine h.stay (fun b _ => ?_) (fun b _ => ?_)
  · unfold upd; split
    · rename_i h1; rw [h1]; exact ha
    · rfl
  · unfold upd; split
    · rename_i h1; rw [h1]; exact hb
    · rfl

theorem CP.turn {w w' : World} {c e : Nat} {C : Parts} {s : CS} (h : CP w c C s) (he : e ∈ C.ks) {x : Ent} (hx : EntAt w' e x) (hb : x.bef = (C.E e).bef) (ha : x.aft = (C.E e).aft) (hp : x.row.page = (C.E e).row.page)
    (hblk : ∀ k, k < w.heap.size → C.S c k → k ≠ e → w'.heap[k]? = w.heap[k]?) : CP w' c { C with E := upd C.E e x } { s with l := rowsOf C.ks (upd C.E e x) } := by
  have hch : e ≠ c := fun h0 => h.nc (h0 ▸ List.mem_cons_of_mem _ he)
  have hcm : C.m ≠ e := fun h0 => h.nm (h0 ▸ List.mem_cons_of_mem _ he)
  have hpg : ∀ b, ((upd C.E e x) b).row.page = (C.E b).row.page := fun b => by
    unfold upd; split
    · rename_i h1; rw [h1]; exact hp
    · rfl
  have hpo : pagesOf C.ks (upd C.E e x) = pagesOf C.ks C.E := List.map_congr_left (fun b _ => hpg b)
  refine CP.mk' ((hblk c h.clt (Or.inl rfl) hch.symm).trans h.hd) ?_ ⟨fun b hb => ?_, chain_upd hb ha h.rg.ch, h.rg.nd⟩ rfl (by show (pagesOf C.ks (upd C.E e x)).Nodup; rw [hpo]; exact h.pn) ?_ h.rm
  · refine MapAt.imp (h.mp.stay (hblk _ h.mp.lt (Or.inr (Or.inl rfl)) hcm)) rfl (fun k _ => ?_)
    show lk C.ks C.E k = lk C.ks (upd C.E e x) k
    unfold lk
    congr 1
    funext b
    rw [hpg b]
  · by_cases hbe : b = e
    · subst hbe; show EntAt w' b (upd C.E b x b); rw [upd_same]; exact hx
    · show EntAt w' b (upd C.E e x b)
      rw [upd_other _ _ hbe]
      exact (h.rg.en b hb).stay (hblk b (h.rg.en b hb).lt (Or.inr (Or.inr hb)) hbe)
  · intro r hr
    obtain ⟨b, hb, rfl⟩ := List.mem_map.1 hr
    have := h.wf (C.E b).row (by rw [h.ls]; exact List.mem_map.2 ⟨b, hb, rfl⟩)
    rw [hpg b]
    exact this

/-- The head's counters turn. -/
theorem CP.hits {w w' : World} {c : Nat} {C : Parts} {s : CS} (h : CP w c C s) (hit miss : Nat) (hd : w'.heap[c]? = some (.cells (hdC C.m C.h s.room hit miss).toArray 130 (0, 0))) (hblk : ∀ k, k < w.heap.size → C.S c k → k ≠ c → w'.heap[k]? = w.heap[k]?) :
    CP w' c C { s with hit := hit, miss := miss } :=
  ⟨hd, h.mp.stay (hblk _ h.mp.lt (Or.inr (Or.inl rfl)) h.mc), h.rg.stay (fun b hb => hblk b (h.rg.en b hb).lt (Or.inr (Or.inr hb)) (fun h0 => h.nc (h0 ▸ hb))), h.ls, h.pg, h.wf, h.rm⟩

theorem EntAt.copy {w : World} {e : Nat} {x : Ent} (h : EntAt w e x) {b : List Nat} (hb : b.length = 512) :
    EntAt (w.setRow e ((cellsE x).take 1 ++ (bs b ++ (cellsE x).drop (1 + (bs b).length))).toArray) e (x.wBytes b) ∧ ∀ k, k ≠ e → (w.setRow e ((cellsE x).take 1 ++ (bs b ++ (cellsE x).drop (1 + (bs b).length))).toArray).heap[k]? = w.heap[k]? := by
  have e1 : (cellsE x).take 1 ++ (bs b ++ (cellsE x).drop (1 + (bs b).length)) = cellsE (x.wBytes b) := by
    have e2 : (cellsE x).drop (1 + (bs b).length) = tailE x := by
      rw [bs_length, hb, Nat.add_comm, cellsE, List.drop_succ_cons, List.drop_append_of_le_length (by rw [bs_length, h.len]; exact Nat.le_refl _), List.drop_of_length_le (by rw [bs_length, h.len]; exact Nat.le_refl _), List.nil_append]
    rw [e2]
    rfl
  rw [e1]
  refine ⟨⟨?_, hb⟩, fun k hk => ?_⟩
  · exact setRow_heap _ _ _ _ _ _ h.blk
  · exact setRow_other _ _ _ _ hk

end Go.Proofs.YtgjgkpnjchflaaaGreatDoor.Cch

/- What each call of a cache does: those that look one page up; no statement of the seat is proved here. -/
namespace Go.Proofs.YtgjgkpnjchflaaaGreatDoor.Cch
open Go.RowKit Go.Maps

def nulls : Value := .slice none 0 0

set_option maxRecDepth 20000 in
set_option maxHeartbeats 1000000 in
/-- slices.Clone of bytes. -/
theorem clone_any (b o n cap : Nat) (xs : List Nat) (w : World) (hr : Rd w (some ⟨b, o, none⟩) n cap xs) (hn : n ≤ 1000000) :
    Calls Tryz.prog 113 #[.slice (some ⟨b, o, none⟩) n cap] w fun e w' => ∃ ao cap', e = .returned (.slice ao n cap') ∧ w'.ownsRow w.heap.size 5 1 (.slice ao n cap') n (bs xs) ∧ Below w.heap.size w w' := by
  have hb0 : Below w.heap.size w (w.alloc (.cells #[] 5)) := (Below.refl _ w).alloc (Nat.le_refl _) _
  have hr0 := hid (hr.keep hb0)
  have ho0 : (w.alloc (.cells #[] 5)).ownsRow w.heap.size 5 1 (.slice (some ⟨w.heap.size, 0, none⟩) 0 0) 0 (bs []) := World.ownsRow_made w #[] 0 (Nat.le_refl _) (by decide) rfl
  have HO := hid ho0; have HB := hid hb0
  have hnil : (binOp .eql 79 (.slice (some ⟨b, o, none⟩) n cap) (.slice none 0 0)).run Tryz.prog w = .ok (.bool false) w := by
    have h2 : ∀ d : Nat, (Op.equalIn (d + 1) 79 (.slice (some ⟨b, o, none⟩) n cap) (.slice none 0 0)).run Tryz.prog w = .ok false w := fun d => by simp [Op.equalIn, run_underlying Tryz.underlying79]
    simp only [binOp]
    simp [Op.equal, Op.maxDepth, h2 9999]
  clear hr ho0 hb0
  go_enter Tryz.func113, Tryz.ntmps113
  go_wp2_with ((with_reducible refine here_op 7 ?_); refine wpList_append_rd rfl (.tmp 5) (.tmp 6) rfl w.heap.size _ 0 [] rfl HO.out _ n cap xs rfl hr0.out (by omega) (by simp) ?_; intro v' w2 ho2 hb2; have HO2 := hid ho2; have HB2 := hid hb2; clear ho2 hb2)
  go_ret
  obtain ⟨ao, cap', e1, _, _⟩ := rd_owned HO2.out
  subst e1
  simp only [Nat.zero_add, List.nil_append] at HO2 ⊢
  exact ⟨ao, cap', rfl, HO2.out, HB.out.trans HB2.out⟩

/-! ### the model -/

def CS.find (s : CS) (k : Int) : Option Row := s.l.find? (fun r => r.page == k)
def CS.others (s : CS) (k : Int) : List Row := s.l.filter (fun r => r.page != k)
def CS.upd (s : CS) (k : Int) (f : Row → Row) : CS := { s with l := s.l.map (fun r => if r.page = k then f r else r) }

theorem CP.find {w : World} {c : Nat} {C : Parts} {s : CS} (h : CP w c C s) (k : Int) : s.find k = (lk C.ks C.E k).map (fun b => (C.E b).row) := by
  unfold CS.find lk
  rw [h.ls, List.find?_map]
  rfl
theorem CP.find_some {w : World} {c : Nat} {C : Parts} {s : CS} (h : CP w c C s) {k : Int} {b : Nat} (hb : lk C.ks C.E k = some b) : s.find k = some (C.E b).row := by rw [h.find, hb]; rfl
theorem CP.find_none {w : World} {c : Nat} {C : Parts} {s : CS} (h : CP w c C s) {k : Int} (hb : lk C.ks C.E k = none) : s.find k = none := by rw [h.find, hb]; rfl

/-- What one page's turning does to the rows. -/
theorem rows_upd {w : World} {c : Nat} {C : Parts} {s : CS} (h : CP w c C s) {k : Int} {e : Nat} (he : lk C.ks C.E k = some e) (f : Row → Row) (x : Ent) (hx : x.row = f (C.E e).row) : rowsOf C.ks (YtgjgkpnjchflaaaGreatDoor.Cch.upd C.E e x) = (s.upd k f).l := by
  have h1 := (lk_iff h.pn).1 he
  unfold CS.upd rowsOf
  rw [h.ls, List.map_map]
  refine List.map_congr_left (fun b hb => ?_)
  simp only [Function.comp]
  unfold YtgjgkpnjchflaaaGreatDoor.Cch.upd
  by_cases hbe : b = e
  · subst hbe; rw [if_pos rfl, if_pos h1.2]; exact hx
  · rw [if_neg hbe, if_neg ?_]
    intro hp
    have := (lk_iff h.pn).2 ⟨hb, hp⟩
    rw [he] at this
    cases this
    exact hbe rfl

def CS.pinsOf (s : CS) (k : Int) : Nat := match s.find k with | some r => r.pins | none => 0
def CS.peek (s : CS) (k : Int) : Option (List Nat) := (s.find k).map Row.bytes

/-- What a call that tells bytes answers. -/
def Bytes (o : Option (List Nat)) (B : Nat) (w' : World) (e : Ending) : Prop :=
  match o with
  | none => e = .returned (.tuple #[.slice none 0 0, .bool false])
  | some x => x.length = 512 ∧ ∃ ao cap, e = .returned (.tuple #[.slice ao 512 cap, .bool true]) ∧ w'.ownsRow B 5 1 (.slice ao 512 cap) 512 (bs x)

end Go.Proofs.YtgjgkpnjchflaaaGreatDoor.Cch
