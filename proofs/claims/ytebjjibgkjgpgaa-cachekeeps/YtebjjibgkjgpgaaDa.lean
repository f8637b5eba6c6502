/- A loop over an iterator whose rounds may turn what the iterator goes along: a law of mine over the kit's steps. No statement of the seat is proved here. -/
import Derived.Test.YtebjjibgkjgpgaaCd
import Derived.RangeFuncNested
import Derived.RangeFuncBound
import Derived.RangeFuncCalls
import Derived.RangeFuncLeaves
import Derived.Shelf.Abstract
import Derived.Shelf.RegionOpen
import Derived.OwnWalkIn
import Derived.TacticsInMore
import Derived.LoopNIn
import Derived.LoopIn
namespace Go.Proofs.Ytebjjibgkjgpgaa
open Go.RowKit Go.Maps

/-- The loop's two blocks stay. -/
structure TwoKept (B : Nat) (W W' : World) : Prop where
  d : W'.heap[B]? = W.heap[B]?
  l : W'.heap[B + 1]? = W.heap[B + 1]?

def RPost (B : Nat) (I : World → Prop) (X : Code → World → Prop) (W : World) : Exit → Act → World → Prop
  | .normal, _, W' => TwoKept B W W' ∧ I W'
  | .ret, _, W' => TwoKept B W W' ∧ X .ret W'
  | .exit id, _, W' => TwoKept B W W' ∧ X (.exit id) W'
  | .goto t, _, W' => TwoKept B W W' ∧ X (.goto t) W'
  | _, _, _ => False

/-- The block that a loop lays for what its rounds put off, and its record. -/
def Mark (B : Nat) (W : World) : Prop := W.heap[B]? = some (.deferred (some []))
def Rec (B : Nat) (W : World) : Prop := ∃ r, W.heap[B + 1]? = some (.loop r)

theorem TwoKept.of {B : Nat} {W W' : World} (h : KeepsOthers W W') (m : Mark B W) (r : Rec B W) : TwoKept B W W' := by
  obtain ⟨r, hr⟩ := r
  exact ⟨(h.same _ _ m rfl).trans m.symm, (h.same _ _ hr rfl).trans hr.symm⟩

theorem put_other {W : World} {l j : Nat} {o : Obj} (h : j ≠ l) : (W.putObj l o).heap[j]? = W.heap[j]? := World.putObj_heap_other h

section
variable {n : Nat} {P : Program} {g : Operand} {ps : Array Tmp} {assign body : Code} {Q : Exit → Act → World → Prop} {a : Act} {w : World}

theorem range_nat {gf : Nat} {lb : Array Value} (hg : a.eval g = .func (.func gf) #[] lb) (eg : ∀ args w, (callFunc gf args).run P w = .ok (.enter gf args) w)
    (N : Nat) (xs : Nat → Value) (hps : ps.size = 1) (I : Nat → World → Prop) (X : Code → World → Prop)
    (hI : ∀ k W l o o', w.heap.size ≤ l → l ≤ w.heap.size + 1 → W.heap[l]? = some o → o.isCells = false → I k W → I k (W.putObj l o'))
    (hX : ∀ c W l o o', w.heap.size ≤ l → l ≤ w.heap.size + 1 → W.heap[l]? = some o → o.isCells = false → X c W → X c (W.putObj l o'))
    (h0 : ∀ W, Below w.heap.size w W → w.heap.size + 2 ≤ W.heap.size → I 0 W)
    (hseq : ∀ (l : Nat) (J : Nat → World → Prop) (Jx : World → Prop) (W : World), (∀ k W, J k W → I k W) →
      (∀ k W, k < N → J k W → YieldAt Fence.wide (n - 1 - 1) P l #[xs k] W fun e W' => (e = .returned (.bool true) ∧ J (k + 1) W') ∨ (e = .returned (.bool false) ∧ Jx W')) → J 0 W →
      CallsIn Fence.wide (n - 1) P gf (#[.func (.yield l) #[] #[]] ++ lb) W fun e W' => (∃ v, e = .returned v) ∧ (J N W' ∨ Jx W'))
    (a₁ : Nat → Act)
    (hassign : ∀ (l k : Nat) (W : World) (K : Act → World → Prop), K (a₁ k) W →
      assign.wpIn (Fence.wide.inRound l) (n - 1 - 1) P (Exit.then K (fun _ _ _ => False)) { tmps := (ps.zip #[xs k]).foldl (fun t (p, v) => t.setIfInBounds p v) a.tmps, defers := [] } W)
    (hbody : ∀ (l k : Nat) (W : World), k < N → I k W → Mark w.heap.size W → Rec w.heap.size W → body.wpIn (Fence.wide.inRound l) (n - 1 - 1) P (RPost w.heap.size (I (k + 1)) X W) (a₁ k) W)
    (hdone : ∀ W, I N W → Mark w.heap.size W → Q .normal { a with defers := { target := .collected w.heap.size, args := #[] } :: a.defers } W)
    (hstop : ∀ c W, X c W → Mark w.heap.size W → c.wpIn Fence.wide n P Q { a with defers := { target := .collected w.heap.size, args := #[] } :: a.defers } W) :
    (Code.rangeFunc g ps assign body).wpIn Fence.wide n P Q a w := by
  refine wpIn_rangeFunc fun fn hfn => ?_
  rw [show Fence.wide.round = none from rfl]
  obtain ⟨rc, hrc⟩ : ∃ rc : LoopState → Option Code → Loop, ∀ st pe, rc st pe = { state := st, pending := pe, fn := fn, tmps := a.tmps, params := ps, assign := assign, body := body, defers := w.heap.size } := ⟨_, fun _ _ => rfl⟩
  have hst : ∀ st pe, (rc st pe).state = st := fun st pe => by rw [hrc]
  have hpe : ∀ st pe, (rc st pe).pending = pe := fun st pe => by rw [hrc]
  have hpa : ∀ st pe, (rc st pe).params = ps := fun st pe => by rw [hrc]
  have hbusy : ∀ st pe st', ({ rc st pe with state := st' } : Loop) = rc st' pe := fun st pe st' => by rw [hrc, hrc]
  have hboth : ∀ st pe st' pe', ({ rc st pe with state := st', pending := pe' } : Loop) = rc st' pe' := fun st pe st' pe' => by rw [hrc, hrc]
  have hyield : ∀ (W : World) (k : Nat), W.heap[w.heap.size + 1]? = some (.loop (rc .ready none)) → (Instr.yield (w.heap.size + 1) #[xs k]).run P W = .ok (.round (w.heap.size + 1) fn ((ps.zip #[xs k]).foldl (fun t (p, v) => t.setIfInBounds p v) a.tmps) assign body) W := fun W k h => by
    have := run_yield (P := P) (args := #[xs k]) h (by rw [hpa]; simp [hps])
    rw [hrc] at this; exact this
  obtain ⟨W1, hW1⟩ : ∃ W1, W1 = (w.alloc (.deferred (some []))).alloc (.loop (rc .ready none)) := ⟨_, rfl⟩
  have hrec1 : W1.heap[w.heap.size + 1]? = some (.loop (rc .ready none)) := by
    have := World.alloc_heap_new (w.alloc (.deferred (some []))) (.loop (rc .ready none))
    rw [World.size_alloc] at this; rw [hW1]; exact this
  have hmark1 : Mark w.heap.size W1 := by
    show W1.heap[w.heap.size]? = _
    rw [hW1]; exact (Below.heap_alloc _ _ _ (by simp)).trans (World.alloc_heap_new w _)
  have hI1 : I 0 W1 := h0 W1 (by rw [hW1]; exact ((Below.refl _ w).alloc (Nat.le_refl _) _).alloc (by simp) _) (by rw [hW1]; simp)
  have hcall := hseq (w.heap.size + 1) (fun k W => I k W ∧ W.heap[w.heap.size + 1]? = some (.loop (rc .ready none)) ∧ Mark w.heap.size W)
    (fun W => ∃ c, X c W ∧ W.heap[w.heap.size + 1]? = some (.loop (rc .done (some c))) ∧ Mark w.heap.size W) W1 (fun k W h => h.1) ?_ ⟨hI1, hrec1, hmark1⟩
  · refine ⟨w.heap.size + 1, [{ target := .collected w.heap.size, args := #[] }], W1, { target := .fn (.func gf) lb, args := #[.func (.yield (w.heap.size + 1)) #[] #[]] }, W1, gf,
      #[.func (.yield (w.heap.size + 1)) #[] #[]] ++ lb, W1, by rw [hW1, hrc]; exact run_enterLoop_outer _ _ _ _ _, ?_, ?_, ?_, ?_, ?_⟩
    · simp only [resolve, hg]; simp [go_sem]
    · exact fun _ _ => trivial
    · simp [invoke, go_sem, eg]
    · intro h; cases h
    · refine hcall.mono ?_
      rintro e W2 ⟨⟨v, rfl⟩, ⟨hi, hl, hm⟩ | ⟨c, hx, hl, hm⟩⟩
      · refine ⟨none, _, by have := run_endLoop (P := P) hl (by rw [hst]; simp); rw [hpe] at this; exact this, hdone _ (hI _ _ _ _ _ (by omega) (Nat.le_refl _) hl rfl hi) ((put_other (by omega)).trans hm)⟩
      · exact ⟨some c, _, by have := run_endLoop (P := P) hl (by rw [hst]; simp); rw [hpe] at this; exact this, hstop _ _ (hX _ _ _ _ _ (by omega) (Nat.le_refl _) hl rfl hx) ((put_other (by omega)).trans hm)⟩
  · rintro k W hk ⟨hi, hl, hm⟩
    have hlt : w.heap.size + 1 < W.heap.size := (Array.getElem?_eq_some_iff.1 hl).1
    refine ⟨fn, _, assign, body, hyield W k hl, roundIn_of_wpIn hfn (hassign _ k W _ ⟨_, run_beginRound hl (hst _ _), ?_⟩)⟩
    rw [hbusy]
    have hl2 := World.putObj_heap_same (w := W) (h := hlt) (o := .loop (rc .busy none))
    obtain ⟨V, hV⟩ : ∃ V, V = W.putObj (w.heap.size + 1) (.loop (rc .busy none)) := ⟨_, rfl⟩
    rw [← hV] at hl2 ⊢
    have hiV : I k V := hV ▸ hI _ _ _ _ _ (by omega) (Nat.le_refl _) hl rfl hi
    have hmV : Mark w.heap.size V := by show V.heap[w.heap.size]? = _; rw [hV]; exact (put_other (by omega)).trans hm
    refine wpIn_mono (hbody _ k V hk hiV hmV ⟨_, hl2⟩) ?_
    have key : ∀ (jump : Option Code) (V' : World), TwoKept w.heap.size V V' → V'.heap[w.heap.size + 1]? = some (.loop (rc .busy none)) ∧ Mark w.heap.size V' := fun jump V' hk2 => ⟨hk2.l.trans hl2, hk2.d.trans hmV⟩
    have hsame : ∀ {V' : World} {o o' : Obj}, V'.heap[w.heap.size + 1]? = some o → (V'.putObj (w.heap.size + 1) o').heap[w.heap.size + 1]? = some o' := fun h => World.putObj_heap_same (Array.getElem?_eq_some_iff.1 h).1
    intro e a3 V' hp
    cases e with
    | normal =>
      obtain ⟨h1, h2⟩ := key none V' hp.1
      exact ⟨_, _, by have := run_endRound (P := P) none h1; rw [hboth] at this; exact this, Or.inl ⟨rfl, hI _ _ _ _ _ (by omega) (Nat.le_refl _) h1 rfl hp.2, hsame h1, (put_other (by omega)).trans h2⟩⟩
    | ret =>
      obtain ⟨h1, h2⟩ := key none V' hp.1
      exact ⟨_, _, by have := run_endRound (P := P) (some .ret) h1; rw [hboth] at this; exact this, Or.inr ⟨rfl, _, hX _ _ _ _ _ (by omega) (Nat.le_refl _) h1 rfl hp.2, hsame h1, (put_other (by omega)).trans h2⟩⟩
    | exit id =>
      obtain ⟨h1, h2⟩ := key none V' hp.1
      exact ⟨_, _, by have := run_endRound (P := P) (some (.exit id)) h1; rw [hboth] at this; exact this, Or.inr ⟨rfl, _, hX _ _ _ _ _ (by omega) (Nat.le_refl _) h1 rfl hp.2, hsame h1, (put_other (by omega)).trans h2⟩⟩
    | goto t =>
      obtain ⟨h1, h2⟩ := key none V' hp.1
      exact ⟨_, _, by have := run_endRound (P := P) (some (.goto t)) h1; rw [hboth] at this; exact this, Or.inr ⟨rfl, _, hX _ _ _ _ _ (by omega) (Nat.le_refl _) h1 rfl hp.2, hsame h1, (put_other (by omega)).trans h2⟩⟩
    | panic ch => exact hp.elim
    | outgrown => exact hp.elim
end

end Go.Proofs.Ytebjjibgkjgpgaa
