/- Ground: what is kept, what a loop over a function asks of its rounds, and a law of mine for such loops; no statement of the seat is proved here. -/
import Derived.Test.YtpmfedimjjifaaaGreatDoorProg
import Derived.Maps.AppendAt
import Derived.Maps.OwnSet
import Derived.Maps.OwnOps
import Derived.Deep.AppendSrc
import Derived.WalkKit
import Derived.WalkSpells
import Derived.WalkLawsBesides
import Derived.Deep.OwnRows
import Derived.BigRegion
import Derived.Deep.RegionWith
import Derived.Deep.RegionHeld3
import Derived.Lib.OthersKept
import Derived.Deep.AppendLies
import Derived.Laws.OwnMore
import Derived.RangeFuncNested
import Derived.RangeFuncBound
import Derived.RangeFuncCalls
import Derived.RangeFuncLeaves
import Derived.Shelf.Abstract
import Derived.Shelf.RegionOpen
import Derived.OwnWalkIn
import Derived.TacticsInMore
import Derived.LoopNIn
import Derived.LoopIn
import Derived.Sort.LoopGhostIn
namespace Go.Proofs.YtpmfedimjjifaaaGreatDoor
open Go.RowKit Go.Maps

set_option maxRecDepth 100000 in
theorem gt {w a b : World} (h : Below w.heap.size w a) (k : Below a.heap.size a b) : Below w.heap.size w b := h.trans (k.mono h.size)
set_option maxRecDepth 100000 in
theorem hid {p : Prop} (h : p) : Hid p := h
set_option maxRecDepth 100000 in
theorem undrew {w w' : World} (h : Below w.drew.heap.size w.drew w') : Below w.heap.size w w' := ⟨h.os, h.tape, h.output, h.size, h.block⟩
set_option maxRecDepth 100000 in
theorem lt_cell {w : World} {a : Addr} {v : Value} (h : w.cell? a = some v) : a.block < w.heap.size := by
  rcases Nat.lt_or_ge a.block w.heap.size with h1 | h1
  · exact h1
  · exfalso
    have h2 : w.heap[a.block]? = none := Array.getElem?_eq_none h1
    simp [World.cell?, h2] at h
set_option maxRecDepth 100000 in
theorem keep_cell {B : Nat} {w w' : World} (h : Below B w w') {a : Addr} {v : Value} (hc : w.cell? a = some v) (hB : a.block < B) : w'.cell? a = some v := by
  rw [World.cell?_of_block (h.block a.block hB)]; exact hc
set_option maxRecDepth 100000 in
theorem keep_old {w w' : World} (h : Below w.heap.size w w') {a : Addr} {v : Value} (hc : w.cell? a = some v) : w'.cell? a = some v := keep_cell h hc (lt_cell hc)

/-- Blocks outside S are as they were. -/
structure Fr (S : Nat → Prop) (w w' : World) : Prop where
  os : w'.os = w.os
  tape : w'.tape = w.tape
  output : w'.output = w.output
  size : w.heap.size ≤ w'.heap.size
  blk : ∀ k, k < w.heap.size → ¬ S k → w'.heap[k]? = w.heap[k]?
set_option maxRecDepth 100000 in
theorem Fr.refl (S : Nat → Prop) (w : World) : Fr S w w := ⟨rfl, rfl, rfl, Nat.le_refl _, fun _ _ _ => rfl⟩
set_option maxRecDepth 100000 in
theorem Fr.of_below {S : Nat → Prop} {w w' : World} (h : Below w.heap.size w w') : Fr S w w' := ⟨h.os, h.tape, h.output, h.size, fun k hk _ => h.block k hk⟩
set_option maxRecDepth 100000 in
theorem Fr.trans {S : Nat → Prop} {a b c : World} (h : Fr S a b) (k : Fr S b c) : Fr S a c :=
  ⟨k.os.trans h.os, k.tape.trans h.tape, k.output.trans h.output, Nat.le_trans h.size k.size, fun i hi hn => (k.blk i (Nat.lt_of_lt_of_le hi h.size) hn).trans (h.blk i hi hn)⟩
set_option maxRecDepth 100000 in
theorem Fr.mono {S T : Nat → Prop} {w w' : World} (h : Fr S w w') (hs : ∀ k, k < w.heap.size → S k → T k) : Fr T w w' := ⟨h.os, h.tape, h.output, h.size, fun i hi hn => h.blk i hi fun hS => hn (hs i hi hS)⟩
set_option maxRecDepth 100000 in
theorem Fr.below {S : Nat → Prop} {w w' : World} {N : Nat} (h : Fr S w w') (hN : N ≤ w.heap.size) (hS : ∀ k, k < N → ¬ S k) : Below N w w' := ⟨h.os, h.tape, h.output, h.size, fun i hi => h.blk i (Nat.lt_of_lt_of_le hi hN) (hS i hi)⟩
set_option maxRecDepth 100000 in
theorem Fr.bel {w w' : World} (h : Fr (fun _ => False) w w') : Below w.heap.size w w' := h.below (Nat.le_refl _) (fun _ _ h => h)
set_option maxRecDepth 100000 in
theorem put_other {W : World} {l i : Nat} {o : Obj} (h : i ≠ l) : (W.putObj l o).heap[i]? = W.heap[i]? := World.putObj_heap_other h
set_option maxRecDepth 100000 in
theorem Fr.put (w : World) (l : Nat) (o : Obj) : Fr (fun i => i = l) w (w.putObj l o) := ⟨rfl, rfl, rfl, by simp, fun _ _ hn => put_other hn⟩
set_option maxRecDepth 100000 in
theorem Fr.alloc (S : Nat → Prop) (w : World) (o : Obj) : Fr S w (w.alloc o) := .of_below ((Below.refl _ w).alloc (Nat.le_refl _) _)
set_option maxRecDepth 100000 in
theorem Fr.set (w : World) (b j : Nat) (v : Value) : Fr (fun i => i = b) w (w.setCell ⟨b, j, none⟩ v) := ⟨rfl, rfl, rfl, by simp, fun _ _ hn => heap_setCell_other _ _ _ _ hn⟩
set_option maxRecDepth 100000 in
theorem Fr.drew (S : Nat → Prop) (w : World) : Fr S w w.drew := ⟨rfl, rfl, rfl, Nat.le_refl _, fun _ _ _ => rfl⟩

/-- What a round keeps for those that called it. -/
structure Sm (G : Nat → Prop) (W W' : World) : Prop where
  size : W.heap.size ≤ W'.heap.size
  same : ∀ i, G i → W'.heap[i]? = W.heap[i]?
set_option maxRecDepth 100000 in
theorem Sm.refl (G : Nat → Prop) (W : World) : Sm G W W := ⟨Nat.le_refl _, fun _ _ => rfl⟩
set_option maxRecDepth 100000 in
theorem Sm.trans {G : Nat → Prop} {a b c : World} (h : Sm G a b) (k : Sm G b c) : Sm G a c := ⟨Nat.le_trans h.size k.size, fun i hi => (k.same i hi).trans (h.same i hi)⟩
set_option maxRecDepth 100000 in
theorem Sm.mono {G G' : Nat → Prop} {a b : World} (h : Sm G a b) (hs : ∀ i, G' i → G i) : Sm G' a b := ⟨h.size, fun i hi => h.same i (hs i hi)⟩
set_option maxRecDepth 100000 in
theorem Fr.sm {S G : Nat → Prop} {a b : World} (h : Fr S a b) (hG : ∀ i, G i → i < a.heap.size ∧ ¬ S i) : Sm G a b := ⟨h.size, fun i hi => h.blk i (hG i hi).1 (hG i hi).2⟩
set_option maxRecDepth 100000 in
theorem Sm.cell {G : Nat → Prop} {a b : World} (h : Sm G a b) {i j : Nat} (hi : G i) : b.cell? ⟨i, j, none⟩ = a.cell? ⟨i, j, none⟩ := World.cell?_of_block (h.same i hi)

/-- What is held from round to round: what lies below N is as in w0; the blocks G are another's; what is not held is free to change. -/
structure Cns (N : Nat) (w0 : World) (J : (Nat → Prop) → World → Prop) : Prop where
  base : ∀ G W, J G W → Below N w0 W
  gd : ∀ G W, J G W → ∀ i, G i → N ≤ i ∧ i < W.heap.size
  mv : ∀ G G' W W', J G W → Fr G W W' → (∀ i, G' i → G i ∨ (W.heap.size ≤ i ∧ i < W'.heap.size)) → J G' W'
set_option maxRecDepth 100000 in
theorem Cns.less {N : Nat} {w0 : World} {J : (Nat → Prop) → World → Prop} (h : Cns N w0 J) {G G' : Nat → Prop} {W : World} (hj : J G W) (hs : ∀ i, G' i → G i) : J G' W := h.mv G G' W W hj (Fr.refl _ _) fun i hi => .inl (hs i hi)

def GPost (G : Nat → Prop) (I : (Nat → Prop) → World → Prop) (X : Code → (Nat → Prop) → World → Prop) (V : World) : Exit → Act → World → Prop
  | .normal, _, W' => Sm G V W' ∧ I G W'
  | .ret, _, W' => Sm G V W' ∧ X .ret G W'
  | .exit id, _, W' => Sm G V W' ∧ X (.exit id) G W'
  | .goto t, _, W' => Sm G V W' ∧ X (.goto t) G W'
  | _, _, _ => False

/-- The block that a loop lays for what its rounds put off. -/
def Mark (B : Nat) (W : World) : Prop := W.heap[B]? = some (.deferred (some []))

section
variable {n : Nat} {P : Program} {g : Operand} {ps : Array Tmp} {assign body : Code} {Q : Exit → Act → World → Prop} {a : Act} {w : World}

set_option maxRecDepth 100000 in
theorem range_g {α : Type} {N : Nat} {w0 : World} (enc : α → Array Value) (its : List α) {gf : Nat} {lb : Array Value} (hg : a.eval g = .func (.func gf) #[] lb) (eg : ∀ args w, (callFunc gf args).run P w = .ok (.enter gf args) w)
    (hps : ∀ x, (enc x).size = ps.size) (I : Nat → (Nat → Prop) → World → Prop) (X : Code → (Nat → Prop) → World → Prop) (hI : ∀ k, Cns N w0 (I k)) (hX : ∀ c, Cns N w0 (X c))
    (G0 G1 : Nat → Prop) (hd : ∀ i, G0 i → ¬ G1 i) (h0 : I 0 (fun i => G0 i ∨ G1 i) w)
    (hseq : ∀ (l : Nat) (J : Nat → (Nat → Prop) → World → Prop) (Jx : (Nat → Prop) → World → Prop) (W : World), Fr (fun _ => False) w W → (∀ k, Cns N w0 (J k)) → Cns N w0 Jx →
      (∀ k x G W, its[k]? = some x → J k G W → YieldAt Fence.wide (n - 1 - 1) P l (enc x) W fun e W' => Sm G W W' ∧ ((e = .returned (.bool true) ∧ J (k + 1) G W') ∨ (e = .returned (.bool false) ∧ Jx G W'))) →
      J 0 G0 W → CallsIn Fence.wide (n - 1) P gf (#[.func (.yield l) #[] #[]] ++ lb) W fun e W' => (∃ v, e = .returned v) ∧ (J its.length (fun _ => False) W' ∨ Jx (fun _ => False) W'))
    (aw : α → World → World) (haw : ∀ x W, Fr (fun _ => False) W (aw x W)) (a₁ : α → World → Act)
    (hassign : ∀ (l : Nat) (x : α) (W : World) (K : Act → World → Prop), K (a₁ x W) (aw x W) →
      assign.wpIn (Fence.wide.inRound l) (n - 1 - 1) P (Exit.then K (fun _ _ _ => False)) { tmps := (ps.zip (enc x)).foldl (fun t (p, v) => t.setIfInBounds p v) a.tmps, defers := [] } W)
    (hbody : ∀ (l k : Nat) (x : α) (G : Nat → Prop) (Wa V : World), its[k]? = some x → I k G V → (∀ i, G1 i → G i ∧ V.heap[i]? = w.heap[i]?) → V.heap.size = (aw x Wa).heap.size → (∀ i, Wa.heap.size ≤ i → V.heap[i]? = (aw x Wa).heap[i]? ∧ (i < V.heap.size → G i)) →
      body.wpIn (Fence.wide.inRound l) (n - 1 - 1) P (GPost G (I (k + 1)) X V) (a₁ x Wa) V)
    (hdone : ∀ W, I its.length (fun i => G1 i ∨ i = w.heap.size) W → Mark w.heap.size W → Sm G1 w W → Q .normal { a with defers := { target := .collected w.heap.size, args := #[] } :: a.defers } W)
    (hstop : ∀ c W, X c (fun i => G1 i ∨ i = w.heap.size) W → Mark w.heap.size W → Sm G1 w W → c.wpIn Fence.wide n P Q { a with defers := { target := .collected w.heap.size, args := #[] } :: a.defers } W) :
    (Code.rangeFunc g ps assign body).wpIn Fence.wide n P Q a w := by
  refine wpIn_rangeFunc fun fn hfn => ?_
  rw [show Fence.wide.round = none from rfl]
  obtain ⟨rc, hrc⟩ : ∃ rc : LoopState → Option Code → Loop, ∀ st pe, rc st pe = { state := st, pending := pe, fn := fn, tmps := a.tmps, params := ps, assign := assign, body := body, defers := w.heap.size } := ⟨_, fun _ _ => rfl⟩
  have hst : ∀ st pe, (rc st pe).state = st := fun st pe => by rw [hrc]
  have hpe : ∀ st pe, (rc st pe).pending = pe := fun st pe => by rw [hrc]
  have hpa : ∀ st pe, (rc st pe).params = ps := fun st pe => by rw [hrc]
  have hbusy : ∀ st pe st', ({ rc st pe with state := st' } : Loop) = rc st' pe := fun st pe st' => by rw [hrc, hrc]
  have hboth : ∀ st pe st' pe', ({ rc st pe with state := st', pending := pe' } : Loop) = rc st' pe' := fun st pe st' pe' => by rw [hrc, hrc]
  have hyield : ∀ (W : World) (v : α), W.heap[w.heap.size + 1]? = some (.loop (rc .ready none)) → (Instr.yield (w.heap.size + 1) (enc v)).run P W = .ok (.round (w.heap.size + 1) fn ((ps.zip (enc v)).foldl (fun t (p, v) => t.setIfInBounds p v) a.tmps) assign body) W := fun W v h => by
    have := run_yield (P := P) (args := enc v) h (by rw [hpa, hps])
    rw [hrc] at this; exact this
  obtain ⟨W1, hW1⟩ : ∃ W1, W1 = (w.alloc (.deferred (some []))).alloc (.loop (rc .ready none)) := ⟨_, rfl⟩
  have hrec1 : W1.heap[w.heap.size + 1]? = some (.loop (rc .ready none)) := by
    have := World.alloc_heap_new (w.alloc (.deferred (some []))) (.loop (rc .ready none))
    rw [World.size_alloc] at this; rw [hW1]; exact this
  have hmark1 : Mark w.heap.size W1 := by
    show W1.heap[w.heap.size]? = _
    rw [hW1]; exact (Below.heap_alloc _ _ _ (by simp)).trans (World.alloc_heap_new w _)
  have hF1 : Fr (fun _ => False) w W1 := by rw [hW1]; exact (Fr.alloc _ _ _).trans (Fr.alloc _ _ _)
  have hz1 : W1.heap.size = w.heap.size + 2 := by rw [hW1]; simp
  have g0 : ∀ i, G0 i ∨ G1 i → i < w.heap.size := fun i hi => ((hI 0).gd _ _ h0 i hi).2
  obtain ⟨JI, hJI⟩ : ∃ JI : ((Nat → Prop) → World → Prop) → Option Code → LoopState → (Nat → Prop) → World → Prop, ∀ Y pe st G W, JI Y pe st G W = (Y (fun i => G i ∨ G1 i ∨ i = w.heap.size ∨ i = w.heap.size + 1) W ∧ W.heap[w.heap.size + 1]? = some (.loop (rc st pe)) ∧ Mark w.heap.size W ∧ Sm G1 w W ∧ ∀ i, G i → ¬ G1 i ∧ i ≠ w.heap.size ∧ i ≠ w.heap.size + 1) := ⟨_, fun _ _ _ _ _ => rfl⟩
  have hcn : ∀ Y pe st, Cns N w0 Y → Cns N w0 (JI Y pe st) := by
    intro Y pe st hY
    refine ⟨fun G W h => hY.base _ _ (hJI Y pe st G W ▸ h).1, fun G W h i hi => hY.gd _ _ (hJI Y pe st G W ▸ h).1 i (.inl hi), fun G G' W W' h hf hs => ?_⟩
    rw [hJI] at h ⊢
    obtain ⟨hy, hl, hm, hsm, hdis⟩ := h
    have hlt : w.heap.size + 1 < W.heap.size := (Array.getElem?_eq_some_iff.1 hl).1
    have gG := hY.gd _ _ hy
    refine ⟨hY.mv _ _ W W' hy (hf.mono fun _ _ h => .inl h) (fun i hi => ?_), (hf.blk _ hlt fun h => (hdis _ h).2.2 rfl).trans hl, (hf.blk _ (by omega) fun h => (hdis _ h).2.1 rfl).trans hm, ⟨Nat.le_trans hsm.size hf.size, fun i hi => (hf.blk i (gG i (.inr (.inl hi))).2 fun h => (hdis i h).1 hi).trans (hsm.same i hi)⟩, fun i hi => ?_⟩
    · rcases hi with hi | hi
      · exact (hs i hi).imp .inl id
      · exact .inl (.inr hi)
    · rcases hs i hi with h | h
      · exact hdis i h
      · exact ⟨fun h1 => absurd (gG i (.inr (.inl h1))).2 (by omega), by omega, by omega⟩
  have hcall := hseq (w.heap.size + 1) (fun k => JI (I k) none .ready) (fun G W => ∃ c, JI (X c) (some c) .done G W) W1 hF1 (fun k => hcn _ _ _ (hI k))
    ⟨fun G W ⟨c, h⟩ => (hcn _ _ _ (hX c)).base _ _ h, fun G W ⟨c, h⟩ => (hcn _ _ _ (hX c)).gd _ _ h, fun G G' W W' ⟨c, h⟩ hf hs => ⟨c, (hcn _ _ _ (hX c)).mv _ _ _ _ h hf hs⟩⟩ ?_
    (by
      show JI (I 0) none .ready G0 W1
      rw [hJI]
      refine ⟨(hI 0).mv _ _ _ _ h0 (hF1.mono fun _ _ h => h.elim) (fun i hi => ?_), hrec1, hmark1, hF1.sm (fun i hi => ⟨g0 i (.inr hi), fun h => h⟩), fun i hi => ⟨hd i hi, by have := g0 i (.inl hi); omega, by have := g0 i (.inl hi); omega⟩⟩
      rcases hi with hi | hi | rfl | rfl
      · exact .inl (.inl hi)
      · exact .inl (.inr hi)
      · exact .inr ⟨Nat.le_refl _, by omega⟩
      · exact .inr ⟨by omega, by omega⟩)
  · refine ⟨w.heap.size + 1, [{ target := .collected w.heap.size, args := #[] }], W1, { target := .fn (.func gf) lb, args := #[.func (.yield (w.heap.size + 1)) #[] #[]] }, W1, gf,
      #[.func (.yield (w.heap.size + 1)) #[] #[]] ++ lb, W1, by rw [hW1, hrc]; exact run_enterLoop_outer _ _ _ _ _, ?_, ?_, ?_, ?_, ?_⟩
    · simp only [resolve, hg]; simp [go_sem]
    · exact fun _ _ => trivial
    · simp [invoke, go_sem, eg]
    · intro h; cases h
    · refine hcall.mono ?_
      have fin : ∀ (Y : (Nat → Prop) → World → Prop) (pe : Option Code) (st : LoopState) (W2 : World) (o' : Obj), Cns N w0 Y → JI Y pe st (fun _ => False) W2 → Y (fun i => G1 i ∨ i = w.heap.size) (W2.putObj (w.heap.size + 1) o') ∧ Mark w.heap.size (W2.putObj (w.heap.size + 1) o') ∧ Sm G1 w (W2.putObj (w.heap.size + 1) o') := by
        intro Y pe st W2 o' hY h
        rw [hJI] at h
        obtain ⟨hy, hl, hm, hsm, -⟩ := h
        refine ⟨hY.mv _ _ _ _ hy ((Fr.put W2 _ _).mono fun i _ e => .inr (.inr (.inr e))) (fun i hi => .inl ?_), (put_other (by omega)).trans hm, hsm.trans ((Fr.put W2 _ o').sm fun i hi => ⟨(hY.gd _ _ hy i (.inr (.inl hi))).2, fun e => by have := g0 i (.inr hi); omega⟩)⟩
        rcases hi with hi | hi
        · exact .inr (.inl hi)
        · exact .inr (.inr (.inl hi))
      rintro e W2 ⟨⟨v, rfl⟩, h | ⟨c, h⟩⟩
      · have hl := (hJI _ _ _ _ _ ▸ h).2.1
        exact ⟨none, _, by have := run_endLoop (P := P) hl (by rw [hst]; simp); rw [hpe] at this; exact this, hdone _ (fin _ _ _ W2 _ (hI _) h).1 (fin _ _ _ W2 _ (hI _) h).2.1 (fin _ _ _ W2 _ (hI _) h).2.2⟩
      · have hl := (hJI _ _ _ _ _ ▸ h).2.1
        exact ⟨some c, _, by have := run_endLoop (P := P) hl (by rw [hst]; simp); rw [hpe] at this; exact this, hstop c _ (fin _ _ _ W2 _ (hX c) h).1 (fin _ _ _ W2 _ (hX c) h).2.1 (fin _ _ _ W2 _ (hX c) h).2.2⟩
  · intro k x G W hx h
    have h := (hJI (I k) none .ready G W ▸ h : _)
    obtain ⟨hi, hl, hm, hsm, hdis⟩ := h
    have hlt : w.heap.size + 1 < W.heap.size := (Array.getElem?_eq_some_iff.1 hl).1
    have gG := (hI k).gd _ _ hi
    refine ⟨fn, _, assign, body, hyield W x hl, roundIn_of_wpIn hfn (hassign _ x W _ ?_)⟩
    obtain ⟨V0, hV0⟩ : ∃ V0, V0 = aw x W := ⟨_, rfl⟩
    have hF0 : Fr (fun _ => False) W V0 := hV0 ▸ haw x W
    rw [← hV0]
    have hl0 : V0.heap[w.heap.size + 1]? = some (.loop (rc .ready none)) := (hF0.blk _ hlt fun h => h).trans hl
    have hlt0 : w.heap.size + 1 < V0.heap.size := Nat.lt_of_lt_of_le hlt hF0.size
    refine ⟨_, run_beginRound hl0 (hst _ _), ?_⟩
    rw [hbusy]
    have hl2 := World.putObj_heap_same (w := V0) (h := hlt0) (o := .loop (rc .busy none))
    obtain ⟨V, hV⟩ : ∃ V, V = V0.putObj (w.heap.size + 1) (.loop (rc .busy none)) := ⟨_, rfl⟩
    rw [← hV] at hl2 ⊢
    have hVz : V.heap.size = V0.heap.size := by rw [hV]; simp
    have hVo : ∀ i, i ≠ w.heap.size + 1 → V.heap[i]? = V0.heap[i]? := fun i hi => by rw [hV]; exact put_other hi
    have hFV : Fr (fun i => i = w.heap.size + 1) W V := (hF0.mono fun _ _ h => h.elim).trans (hV ▸ Fr.put V0 _ _)
    obtain ⟨GG, hGG⟩ : ∃ GG : Nat → Prop, ∀ i, GG i ↔ ((G i ∨ G1 i ∨ i = w.heap.size ∨ i = w.heap.size + 1) ∨ (W.heap.size ≤ i ∧ i < V.heap.size)) := ⟨_, fun _ => Iff.rfl⟩
    have hiV : I k GG V := (hI k).mv _ _ _ _ hi (hFV.mono fun _ _ e => .inr (.inr (.inr e))) fun i h => (hGG i).1 h
    have hold : ∀ i, i < W.heap.size → i ≠ w.heap.size + 1 → V.heap[i]? = W.heap[i]? := fun i h1 h2 => hFV.blk i h1 h2
    refine wpIn_mono (hbody _ k x GG W V hx hiV (fun i h => ⟨(hGG i).2 (.inl (.inr (.inl h))), ?_⟩) (by rw [hVz, hV0]) (fun i h => ⟨?_, fun h2 => (hGG i).2 (.inr ⟨h, h2⟩)⟩)) ?_
    · exact (hold i (gG i (.inr (.inl h))).2 (by have := g0 i (.inr h); omega)).trans (hsm.same i h)
    · rw [hVo i (by omega), hV0]
    have key : ∀ (Y : (Nat → Prop) → World → Prop) (jump : Option Code) (st : LoopState) (V' : World), Cns N w0 Y → Sm GG V V' → Y GG V' → V'.heap[w.heap.size + 1]? = some (.loop (rc .busy none)) ∧ JI Y jump st G (V'.putObj (w.heap.size + 1) (.loop (rc st jump))) ∧ Sm G W (V'.putObj (w.heap.size + 1) (.loop (rc st jump))) := by
      intro Y jump st V' hY hs hy
      have e1 : V'.heap[w.heap.size + 1]? = some (.loop (rc .busy none)) := (hs.same _ ((hGG _).2 (.inl (.inr (.inr (.inr rfl)))))).trans hl2
      have back : ∀ i, (G i ∨ G1 i ∨ i = w.heap.size) → i ≠ w.heap.size + 1 → (V'.putObj (w.heap.size + 1) (.loop (rc st jump))).heap[i]? = W.heap[i]? := fun i h hne => by
        have hin : (G i ∨ G1 i ∨ i = w.heap.size ∨ i = w.heap.size + 1) := by rcases h with h | h | h <;> simp [h]
        exact (put_other hne).trans ((hs.same i ((hGG i).2 (.inl hin))).trans (hold i (gG i hin).2 hne))
      have hsz : W.heap.size ≤ V'.heap.size := Nat.le_trans hFV.size hs.size
      refine ⟨e1, ?_, ⟨by simpa using hsz, fun i h => back i (.inl h) (hdis i h).2.2⟩⟩
      rw [hJI]
      refine ⟨hY.mv _ _ _ _ hy ((Fr.put V' _ _).mono fun i _ e => (hGG i).2 (.inl (.inr (.inr (.inr e))))) (fun i h => .inl ((hGG i).2 (.inl h))), World.putObj_heap_same (Array.getElem?_eq_some_iff.1 e1).1, (back _ (.inr (.inr rfl)) (by omega)).trans hm, ⟨by have := hsm.size; simpa using Nat.le_trans this hsz, fun i h => (back i (.inr (.inl h)) (by have := g0 i (.inr h); omega)).trans (hsm.same i h)⟩, hdis⟩
    intro e a3 V' hp
    cases e with
    | normal =>
      obtain ⟨h1, h2, h3⟩ := key _ none .ready V' (hI _) hp.1 hp.2
      exact ⟨_, _, by have := run_endRound (P := P) none h1; rw [hboth] at this; exact this, h3, .inl ⟨rfl, h2⟩⟩
    | ret =>
      obtain ⟨h1, h2, h3⟩ := key _ (some .ret) .done V' (hX _) hp.1 hp.2
      exact ⟨_, _, by have := run_endRound (P := P) (some .ret) h1; rw [hboth] at this; exact this, h3, .inr ⟨rfl, _, h2⟩⟩
    | exit id =>
      obtain ⟨h1, h2, h3⟩ := key _ (some (.exit id)) .done V' (hX _) hp.1 hp.2
      exact ⟨_, _, by have := run_endRound (P := P) (some (.exit id)) h1; rw [hboth] at this; exact this, h3, .inr ⟨rfl, _, h2⟩⟩
    | goto t =>
      obtain ⟨h1, h2, h3⟩ := key _ (some (.goto t)) .done V' (hX _) hp.1 hp.2
      exact ⟨_, _, by have := run_endRound (P := P) (some (.goto t)) h1; rw [hboth] at this; exact this, h3, .inr ⟨rfl, _, h2⟩⟩
    | panic ch => exact hp.elim
    | outgrown => exact hp.elim
end

set_option maxRecDepth 100000 in
/-- A function leaves with so many marks. -/
theorem leaves_marks {P : Program} {F : Fence} {n : Nat} {fn : Func} {tmps : Array Value} {R : Ending → World → Prop} (Z : (Nat → Prop) → World → Prop)
    (hZ : ∀ (D : Nat) (G : Nat → Prop) W, Z G W → G D → Z (fun i => G i ∧ i ≠ D) (W.putObj D (.deferred none))) (hend : ∀ W, Z (fun _ => False) W → LeavesIn F n P fn tmps R [] .returning W) :
    ∀ (Ds : List Nat) (W : World), Ds.Nodup → (∀ D ∈ Ds, Mark D W) → Z (fun i => i ∈ Ds) W → LeavesInM F n P fn tmps R (Ds.map fun D => { target := .collected D, args := #[] }) .returning W := by
  intro Ds
  induction Ds with
  | nil => exact fun W _ _ hz => hend W (by simpa using hz)
  | cons D r ih =>
    intro W hn hm hz
    refine ⟨by simp, .inl ⟨D, _, rfl, run_takeDeferred (hm D (by simp)), ?_⟩⟩
    obtain ⟨h1, h2⟩ := List.nodup_cons.1 hn
    refine ih _ h2 (fun E hE => (put_other (fun e => h1 (by rw [← e]; exact hE))).trans (hm E (by simp [hE]))) ?_
    have := hZ D _ W hz (by simp)
    refine (congrArg (fun G => Z G _) (funext fun i => propext ?_)).mp this
    simp only [List.mem_cons]
    exact ⟨fun ⟨h, h3⟩ => h.resolve_left h3, fun h => ⟨.inr h, fun e => h1 (by rw [← e]; exact h)⟩⟩
end Go.Proofs.YtpmfedimjjifaaaGreatDoor

/- Shapes, as they lie in memory, and all that lies in them; no statement of the seat is proved here. -/
namespace Go.Proofs.YtpmfedimjjifaaaGreatDoor
open Go.RowKit Go.Maps

/-- A shape: its kind, where its points lie and what they are, where its parts lie and what they are. -/
inductive Sh where
  | mk (k : Int) (xo : Option Addr) (xn xc : Nat) (xy : List (Int × Int)) (po : Option Addr) (pn pc : Nat) (ps : List Sh)
namespace Sh
def k : Sh → Int | mk k _ _ _ _ _ _ _ _ => k
def xo : Sh → Option Addr | mk _ x _ _ _ _ _ _ _ => x
def xn : Sh → Nat | mk _ _ x _ _ _ _ _ _ => x
def xc : Sh → Nat | mk _ _ _ x _ _ _ _ _ => x
def xy : Sh → List (Int × Int) | mk _ _ _ _ x _ _ _ _ => x
def po : Sh → Option Addr | mk _ _ _ _ _ x _ _ _ => x
def pn : Sh → Nat | mk _ _ _ _ _ _ x _ _ => x
def pc : Sh → Nat | mk _ _ _ _ _ _ _ x _ => x
def ps : Sh → List Sh | mk _ _ _ _ _ _ _ _ x => x
instance : Inhabited Sh := ⟨mk 0 none 0 0 [] none 0 0 []⟩
end Sh

/-- How deep a part lies. -/
def din (k p : Int) (d : Nat) : Nat := if k = 3 ∧ p = 0 then d else d + 1
set_option maxRecDepth 100000 in
theorem din_le (k p : Int) (d : Nat) : din k p d ≤ d + 1 := by unfold din; split <;> omega
set_option maxRecDepth 100000 in
theorem din_ge (k p : Int) (d : Nat) : d ≤ din k p d := by unfold din; split <;> omega

mutual
def Sh.nodes : Sh → List Sh
  | .mk k xo xn xc xy po pn pc ps => .mk k xo xn xc xy po pn pc ps :: nodesL ps
def nodesL : List Sh → List Sh
  | [] => []
  | p :: r => p.nodes ++ nodesL r
end
mutual
def Sh.flat : Sh → Nat → List (Nat × Sh)
  | .mk k xo xn xc xy po pn pc ps, d => (d, .mk k xo xn xc xy po pn pc ps) :: flatL k d ps
def flatL (k : Int) (d : Nat) : List Sh → List (Nat × Sh)
  | [] => []
  | p :: r => (if din k p.k d ≤ 17 then p.flat (din k p.k d) else []) ++ flatL k d r
end
set_option maxRecDepth 100000 in
theorem nodes_eq (s : Sh) : s.nodes = s :: nodesL s.ps := by cases s; rw [Sh.nodes]; rfl
set_option maxRecDepth 100000 in
theorem nodesL_mem {l : List Sh} {p q : Sh} (hp : p ∈ l) (hq : q ∈ p.nodes) : q ∈ nodesL l := by
  induction l with
  | nil => cases hp
  | cons a r ih =>
    rw [nodesL, List.mem_append]
    rcases List.mem_cons.1 hp with rfl | h
    · exact .inl hq
    · exact .inr (ih h)
set_option maxRecDepth 100000 in
theorem nodesL_len {l : List Sh} {p : Sh} (hp : p ∈ l) : p.nodes.length ≤ (nodesL l).length := by
  induction l with
  | nil => cases hp
  | cons a r ih =>
    rw [nodesL, List.length_append]
    rcases List.mem_cons.1 hp with rfl | h
    · omega
    · have := ih h; omega
set_option maxRecDepth 100000 in
theorem nodes_self (s : Sh) : s ∈ s.nodes := by rw [nodes_eq]; simp
set_option maxRecDepth 100000 in
theorem nodes_part {s p : Sh} (hp : p ∈ s.ps) : ∀ q ∈ p.nodes, q ∈ s.nodes := fun q hq => by rw [nodes_eq]; exact List.mem_cons_of_mem _ (nodesL_mem hp hq)
set_option maxRecDepth 100000 in
theorem nodes_lt {s p : Sh} (hp : p ∈ s.ps) : p.nodes.length < s.nodes.length := by rw [nodes_eq s]; have := nodesL_len hp; simp; omega

/-- The parts that are looked at. -/
def seenL (d : Nat) (s : Sh) : List Sh := s.ps.filter fun p => decide (din s.k p.k d ≤ 17)
set_option maxRecDepth 100000 in
theorem seenL_all {d : Nat} (s : Sh) (h : d < 17) : seenL d s = s.ps := by
  unfold seenL
  rw [List.filter_eq_self]
  intro p _
  have := din_le s.k p.k d
  simp; omega
set_option maxRecDepth 100000 in
theorem seenL_mem {d : Nat} {s p : Sh} (h : p ∈ seenL d s) : p ∈ s.ps ∧ din s.k p.k d ≤ 17 := by
  unfold seenL at h
  rw [List.mem_filter] at h
  exact ⟨h.1, by simpa using h.2⟩
set_option maxRecDepth 100000 in
theorem flatL_eq (k : Int) (d : Nat) (l : List Sh) : flatL k d l = (l.filter fun p => decide (din k p.k d ≤ 17)).flatMap fun p => p.flat (din k p.k d) := by
  induction l with
  | nil => rw [flatL]; rfl
  | cons a r ih =>
    rw [flatL, ih]
    by_cases h : din k a.k d ≤ 17
    · simp [h]
    · simp [h]
set_option maxRecDepth 100000 in
theorem flat_eq (s : Sh) (d : Nat) : s.flat d = (d, s) :: (seenL d s).flatMap fun p => p.flat (din s.k p.k d) := by
  have : s.flat d = (d, s) :: flatL s.k d s.ps := by cases s; rw [Sh.flat]; rfl
  rw [this, flatL_eq]; rfl
set_option maxRecDepth 100000 in
/-- All that is told lies in the shape, and not too deep. -/
theorem flat_mem : ∀ (N : Nat) (s : Sh) (d : Nat), s.nodes.length ≤ N → d ≤ 17 → ∀ x ∈ s.flat d, x.2 ∈ s.nodes ∧ d ≤ x.1 ∧ x.1 ≤ 17 := by
  intro N
  induction N with
  | zero => intro s d h; rw [nodes_eq] at h; simp at h
  | succ N ih =>
    intro s d h hd x hx
    rw [flat_eq] at hx
    rcases List.mem_cons.1 hx with rfl | hx
    · exact ⟨nodes_self s, Nat.le_refl _, hd⟩
    · obtain ⟨p, hp, hx⟩ := List.mem_flatMap.1 hx
      obtain ⟨hp, h17⟩ := seenL_mem hp
      obtain ⟨h1, h2, h3⟩ := ih p _ (by have := nodes_lt hp; omega) h17 x hx
      exact ⟨nodes_part hp _ h1, Nat.le_trans (din_ge _ _ _) h2, h3⟩

/-- Three cells of a shape. -/
def At3 (w : World) (b o : Nat) (p : Sh) : Prop :=
  w.cell? ⟨b, o, none⟩ = some (.int .i64 p.k) ∧ w.cell? ⟨b, o + 1, none⟩ = some (.slice p.xo p.xn p.xc) ∧ w.cell? ⟨b, o + 2, none⟩ = some (.slice p.po p.pn p.pc)
set_option maxRecDepth 100000 in
theorem At3.of {w w' : World} {b o : Nat} {p : Sh} (h : At3 w b o p) (hb : w'.heap[b]? = w.heap[b]?) : At3 w' b o p := by
  have c : ∀ j, w'.cell? ⟨b, j, none⟩ = w.cell? ⟨b, j, none⟩ := fun j => World.cell?_of_block (a := ⟨b, j, none⟩) hb
  unfold At3 at h ⊢
  rw [c, c, c]; exact h
/-- A row of parts, in a block of S. -/
def PR (S : Nat → Prop) (w : World) (po : Option Addr) (ps : List Sh) : Prop :=
  ps = [] ∨ ∃ b off, po = some ⟨b, off, none⟩ ∧ S b ∧ ∀ i p, ps[i]? = some p → At3 w b (off + i * 3) p
set_option maxRecDepth 100000 in
theorem PR.of {S T : Nat → Prop} {w w' : World} {po : Option Addr} {ps : List Sh} (h : PR S w po ps) (hb : ∀ b, S b → w'.heap[b]? = w.heap[b]? ∧ T b) : PR T w' po ps := by
  rcases h with h | ⟨b, off, e, hS, h⟩
  · exact .inl h
  · exact .inr ⟨b, off, e, (hb b hS).2, fun i p hi => (h i p hi).of (hb b hS).1⟩
/-- A row of points. -/
def XR (S : Nat → Prop) (w : World) (xo : Option Addr) (l : List (Int × Int)) : Prop :=
  l = [] ∨ ∃ b off, xo = some ⟨b, off, none⟩ ∧ S b ∧ ∀ i p, l[i]? = some p → w.cell? ⟨b, off + i * 2, none⟩ = some (.int .i64 p.1) ∧ w.cell? ⟨b, off + i * 2 + 1, none⟩ = some (.int .i64 p.2)
set_option maxRecDepth 100000 in
theorem XR.of {S T : Nat → Prop} {w w' : World} {xo : Option Addr} {l : List (Int × Int)} (h : XR S w xo l) (hb : ∀ b, S b → w'.heap[b]? = w.heap[b]? ∧ T b) : XR T w' xo l := by
  rcases h with h | ⟨b, off, e, hS, h⟩
  · exact .inl h
  · refine .inr ⟨b, off, e, (hb b hS).2, fun i p hi => ?_⟩
    have c : ∀ j, w'.cell? ⟨b, j, none⟩ = w.cell? ⟨b, j, none⟩ := fun j => World.cell?_of_block (a := ⟨b, j, none⟩) (hb b hS).1
    rw [c, c]; exact h i p hi

/-- A shape lies here, in blocks of S, its parts' own lists not asked. -/
structure Here (S : Nat → Prop) (w : World) (s : Sh) : Prop where
  kI : -9223372036854775808 ≤ s.k ∧ s.k ≤ 9223372036854775807
  xl : s.xy.length = s.xn
  xm : s.xn ≤ s.xc
  xb : s.xn * 16 ≤ 140737488355328
  x0 : s.xo = none → s.xn = 0 ∧ s.xc = 0
  xr : XR S w s.xo s.xy
  pl : s.ps.length = s.pn
  pm : s.pn ≤ s.pc
  pb : s.pn * 56 ≤ 140737488355328
  p0 : s.po = none → s.pn = 0 ∧ s.pc = 0
  pr : PR S w s.po s.ps
set_option maxRecDepth 100000 in
theorem Here.of {S T : Nat → Prop} {w w' : World} {s : Sh} (h : Here S w s) (hb : ∀ b, S b → w'.heap[b]? = w.heap[b]? ∧ T b) : Here T w' s :=
  { h with xr := h.xr.of hb, pr := h.pr.of hb }
/-- A shape lies here, with all in it. -/
def In (S : Nat → Prop) (w : World) (s : Sh) : Prop := ∀ q ∈ s.nodes, Here S w q
set_option maxRecDepth 100000 in
theorem In.of {S T : Nat → Prop} {w w' : World} {s : Sh} (h : In S w s) (hb : ∀ b, S b → w'.heap[b]? = w.heap[b]? ∧ T b) : In T w' s := fun q hq => (h q hq).of hb
set_option maxRecDepth 100000 in
theorem In.here {S : Nat → Prop} {w : World} {s : Sh} (h : In S w s) : Here S w s := h s (nodes_self s)
set_option maxRecDepth 100000 in
theorem In.part {S : Nat → Prop} {w : World} {s p : Sh} (h : In S w s) (hp : p ∈ s.ps) : In S w p := fun q hq => h q (nodes_part hp q hq)
set_option maxRecDepth 100000 in
theorem In.node {S : Nat → Prop} {w : World} {s q : Sh} (h : In S w s) (hq : q ∈ s.nodes) : Here S w q := h q hq
set_option maxRecDepth 100000 in
theorem In.below {N : Nat} {w w' : World} {s : Sh} (h : In (fun b => b < N) w s) (hb : Below N w w') : In (fun b => b < N) w' s := h.of fun b hb' => ⟨hb.block b hb', hb'⟩

/-- A shape's box. -/
def Bx (w : World) (b : Nat) (s : Sh) : Prop := w.heap[b]? = some (.cells #[.int .i64 (s).k, .slice (s).xo (s).xn (s).xc, .slice (s).po (s).pn (s).pc] 39)
set_option maxRecDepth 100000 in
theorem Bx.cells {w : World} {b : Nat} {s : Sh} (h : Bx w b s) : w.cell? ⟨b, 0, none⟩ = some (.int .i64 s.k) ∧ w.cell? ⟨b, 1, none⟩ = some (.slice s.xo s.xn s.xc) ∧ w.cell? ⟨b, 2, none⟩ = some (.slice s.po s.pn s.pc) := by unfold Bx at h; simp [World.cell?, h]
set_option maxRecDepth 100000 in
theorem Bx.fz {w : World} {b : Nat} {s : Sh} (h : Bx w b s) (i : Nat) : w.frozen? ⟨b, i, none⟩ = false := by unfold Bx at h; simp [World.frozen?, h]
set_option maxRecDepth 100000 in
theorem Bx.lt {w : World} {b : Nat} {s : Sh} (h : Bx w b s) : b < w.heap.size := (Array.getElem?_eq_some_iff.1 h).1
set_option maxRecDepth 100000 in
theorem Bx.keep {w w' : World} {b : Nat} {s : Sh} (h : Bx w b s) (hb : Below w.heap.size w w') : Bx w' b s := (hb.block b h.lt).trans h
set_option maxRecDepth 100000 in
theorem Bx.new (w : World) (s : Sh) : Bx (w.alloc (.cells #[.int .i64 (s).k, .slice (s).xo (s).xn (s).xc, .slice (s).po (s).pn (s).pc] 39)) w.heap.size s := heap_alloc_new w _
set_option maxRecDepth 100000 in
theorem ext1 {w : World} (o : Obj) : Below w.heap.size w (w.alloc o) := (Below.refl _ w).alloc (Nat.le_refl _) _

set_option maxRecDepth 100000 in
set_option maxHeartbeats 1000000 in
theorem din_call (s p : Sh) (d : Nat) (w : World) (hd : d ≤ 1000000) : Calls Tryz.prog 123 #[.agg #[.int .i64 (s).k, .slice (s).xo (s).xn (s).xc, .slice (s).po (s).pn (s).pc], .agg #[.int .i64 (p).k, .slice (p).xo (p).xn (p).xc, .slice (p).po (p).pn (p).pc], .int .i64 (d : Int)] w fun e w' => e = .returned (.int .i64 (din s.k p.k d : Nat)) ∧ Below w.heap.size w w' := by
  have B1 := hid (Bx.new w s)
  have B2 := hid (Bx.new (w.alloc (.cells #[.int .i64 (s).k, .slice (s).xo (s).xn (s).xc, .slice (s).po (s).pn (s).pc] 39)) p)
  have B3 := hid (B1.out.keep (ext1 (.cells #[.int .i64 (p).k, .slice (p).xo (p).xn (p).xc, .slice (p).po (p).pn (p).pc] 39)))
  obtain ⟨x0, _, _⟩ := B3.out.cells
  obtain ⟨y0, _, _⟩ := B2.out.cells
  rw [World.size_alloc] at y0
  clear B1 B2 B3
  by_cases h3 : s.k = 3
  · by_cases h0 : p.k = 0
    · rw [show din s.k p.k d = d by simp [din, h3, h0]]
      rw [h3, h0] at *
      go_enter Tryz.func123, Tryz.ntmps123
      go_wp2
      go_ret
      exact ⟨rfl, gt (ext1 _) (ext1 _)⟩
    · rw [show din s.k p.k d = d + 1 by simp [din, h0]]
      have n1 : (p.k == 0) = false := by simp [h0]
      rw [h3] at *
      clear h0
      go_enter Tryz.func123, Tryz.ntmps123
      go_wp2
      go_ret
      exact ⟨by go_num, gt (ext1 _) (ext1 _)⟩
  · rw [show din s.k p.k d = d + 1 by simp [din, h3]]
    have n1 : (s.k == 3) = false := by simp [h3]
    clear h3
    go_enter Tryz.func123, Tryz.ntmps123
    go_wp2
    go_ret
    exact ⟨by go_num, gt (ext1 _) (ext1 _)⟩
end Go.Proofs.YtpmfedimjjifaaaGreatDoor
