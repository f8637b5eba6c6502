/- What becomes of a file by the steps of a write; no statement of the seat is proved here. -/
import Derived.Test.YtokofpbhbjbnfaaGreatDoorG11
namespace Go.Proofs.YtokofpbhbjbnfaaGreatDoor.Dsk
open Go.RowKit Go.Maps

def wr1 (F : FS) (at_ : Nat) (s : Sec) : FS := if at_ < F.now.length then ⟨F.now.set at_ s, F.old, F.dirt.set at_ true⟩ else ⟨F.now ++ [s], F.old, F.dirt ++ [true]⟩
def wrN (F : FS) (at_ : Nat) : List Sec → FS
  | [] => F
  | s :: r => wrN (wr1 F at_ s) (at_ + 1) r

theorem secs_append (l r : List Sec) : secs (l ++ r) = secs l ++ secs r := by simp [secs, bs]
theorem secs_one (x : Sec) : secs [x] = bs x := by simp [secs]
theorem secs_length {l : List Sec} (h : ∀ x ∈ l, x.length = 128) : (secs l).length = l.length * 128 := by
  induction l with
  | nil => rfl
  | cons a r ih =>
    have := ih (fun x hx => h x (List.mem_cons_of_mem _ hx))
    have ha := h a List.mem_cons_self
    rw [show secs (a :: r) = bs a ++ secs r from secs_append [a] r ▸ by simp [secs], List.length_append, this, bs_length, ha, List.length_cons]
    omega
theorem secs_cons (a : Sec) (r : List Sec) : secs (a :: r) = bs a ++ secs r := by simp [secs, bs]

theorem secs_get {l : List Sec} (h : ∀ x ∈ l, x.length = 128) (i j : Nat) (hi : i < l.length) (hj : j < 128) : (secs l)[i * 128 + j]? = (bs (l.getD i []))[j]? := by
  induction l generalizing i with
  | nil => simp at hi
  | cons a r ih =>
    have ha := h a List.mem_cons_self
    rw [secs_cons]
    cases i with
    | zero => rw [List.getElem?_append_left (by rw [bs_length]; omega)]; simp
    | succ i =>
      rw [List.getElem?_append_right (by rw [bs_length]; omega), bs_length, ha, show (i + 1) * 128 + j - 128 = i * 128 + j by omega, ih (fun x hx => h x (List.mem_cons_of_mem _ hx)) i (by simpa using hi)]
      simp

theorem secs_set {l : List Sec} (h : ∀ x ∈ l, x.length = 128) (i : Nat) (hi : i < l.length) (x : Sec) (hx : x.length = 128) : splice (secs l) (i * 128) (bs x) = secs (l.set i x) := by
  induction l generalizing i with
  | nil => simp at hi
  | cons a r ih =>
    have ha := h a List.mem_cons_self
    have hal : (bs a).length = 128 := by rw [bs_length, ha]
    cases i with
    | zero => simp [splice, secs_cons, bs_length, hx, ← hal]
    | succ i =>
      have := ih (fun x hx => h x (List.mem_cons_of_mem _ hx)) i (by simpa using hi)
      simp only [List.set_cons_succ, secs_cons, ← this, splice]
      rw [show (i + 1) * 128 = (bs a).length + i * 128 by omega, List.take_length_add_append, Nat.add_assoc, List.drop_length_add_append]
      simp

/-- A file's sectors are cut, grown, turned by cells that lie in its own row. -/
theorem FileAt.rowed {w w' : World} {p o : Nat} {S S' : Nat → Prop} {ao ao' : Option Addr} {cap cap' m : Nat} {F : FS} {now : List Sec} (h : FileAt w p o S ao cap m F)
    (c0 : w'.cell? ⟨p, o, none⟩ = some (.slice ao' now.length cap')) (hc : ∀ i, i ≠ o → w'.cell? ⟨p, i, none⟩ = w.cell? ⟨p, i, none⟩) (hf : ∀ i, w'.frozen? ⟨p, i, none⟩ = w.frozen? ⟨p, i, none⟩)
    (row : w'.ownsRow 0 136 128 (.slice ao' now.length cap') now.length (secs now)) (hm : w'.heap[m]? = w.heap[m]?) (hS : ∀ k, S k → S' k) (np : ¬ S' p) (ina : ∀ a, ao' = some a → S' a.block) :
    FileAt w' p o S' ao' cap' m ⟨now, F.old, F.dirt⟩ :=
  ⟨c0, (hc _ (by omega)).trans h.c1, (hc _ (by omega)).trans h.c2, (hf _).trans h.f0, (hf _).trans h.f1, (hf _).trans h.f2, row, map_stay h.map hm, np, ina, hS _ h.inm⟩


theorem FileAt.later {w w' : World} {p o : Nat} {S : Nat → Prop} {ao : Option Addr} {cap m : Nat} {F : FS} (h : FileAt w p o S ao cap m F) (hb : Below w.heap.size w w') : FileAt w' p o S ao cap m F :=
  h.stay (fun k hk _ => hb.block k hk) (fun _ _ _ => World.cell?_of_block (hb.block p h.plt)) (fun _ => World.frozen?_of_block (hb.block p h.plt))

theorem FFrame.later {w w1 w2 : World} {p o : Nat} {S : Nat → Prop} (h : FFrame w w1 p o S) (hp : p < w1.heap.size) (hb : Below w1.heap.size w1 w2) : FFrame w w2 p o S :=
  h.trans ⟨hb.os, hb.tape, hb.output, hb.size, fun k hk _ _ => hb.block k hk, fun _ _ _ _ => World.cell?_of_block (hb.block p hp), fun _ => World.frozen?_of_block (hb.block p hp)⟩

theorem FileAt.row_block {w : World} {p o : Nat} {S : Nat → Prop} {ao : Option Addr} {cap m : Nat} {F : FS} (h : FileAt w p o S ao cap m F) : ∀ a, ao = some a → a.block ≠ m ∧ a.block ≠ p := by
  intro a ha
  refine ⟨?_, fun e => h.np (e ▸ h.ina a ha)⟩
  rcases h.row.2 with ⟨hn, _⟩ | ⟨g, cap', cur, hv, hb', hg, hr⟩
  · simp only [Value.slice.injEq] at hn; rw [ha] at hn; simp at hn
  · simp only [Value.slice.injEq] at hv
    obtain ⟨rfl, _⟩ := hv
    cases ha
    rintro rfl
    obtain ⟨es, clock, hg', _⟩ := h.map
    rw [hg] at hg'; cases hg'

theorem FileAt.mp {w : World} {p o : Nat} {S : Nat → Prop} {ao : Option Addr} {cap m : Nat} {F : FS} (h : FileAt w p o S ao cap m F) : m ≠ p := fun e => h.np (e ▸ h.inm)

/-- One sector of noughts is appended. -/
theorem step_append {w wr w1 : World} {p o : Nat} {S : Nat → Prop} {ao' ao1 : Option Addr} {cap' cap1 m' : Nat} {F' : FS} {ob : Obj} (HF : FileAt wr p o (From S w) ao' cap' m' F') (HFR : FFrame w wr p o S)
    (hown : w1.ownsRow 0 136 128 (.slice ao1 (F'.now.length + 1) cap1) (F'.now.length + 1) (secs F'.now ++ bs noughts)) (hg : (wr.alloc ob).grownBy w1 (Value.slice ao' F'.now.length cap').ownBlock)
    (hloc : (Value.slice ao1 (F'.now.length + 1) cap1).ownBlock = (Value.slice ao' F'.now.length cap').ownBlock ∨ (Value.slice ao1 (F'.now.length + 1) cap1).ownBlock = some (wr.alloc ob).heap.size) :
    FileAt (w1.setCell ⟨p, o, none⟩ (.slice ao1 (F'.now.length + 1) cap1)) p o (From S w) ao1 cap1 m' ⟨F'.now ++ [noughts], F'.old, F'.dirt⟩ ∧ FFrame w (w1.setCell ⟨p, o, none⟩ (.slice ao1 (F'.now.length + 1) cap1)) p o S ∧
      w1.cell? ⟨p, o, none⟩ = some (.slice ao' F'.now.length cap') ∧ w1.cell? ⟨p, o + 2, none⟩ = some (.map (some m')) ∧ w1.frozen? ⟨p, o, none⟩ = false := by
  have hpl := HF.plt
  have hal : ∀ k, k < wr.heap.size → (wr.alloc ob).heap[k]? = wr.heap[k]? := fun k hk => heap_alloc_old _ _ _ hk
  have hsz : (wr.alloc ob).heap.size = wr.heap.size + 1 := by simp
  have hown' : ∀ k, (Value.slice ao' F'.now.length cap').ownBlock = some k → From S w k ∧ k ≠ p ∧ k ≠ m' ∧ k < wr.heap.size := by
    intro k hk
    cases ao' with
    | none => cases hk
    | some a =>
      simp only [Value.ownBlock, Option.some.injEq] at hk
      subst hk
      have := HF.row_block a rfl
      exact ⟨HF.ina a rfl, this.2, this.1, row_lt HF.row a rfl⟩
  have hbl : ∀ k, k < wr.heap.size → some k ≠ (Value.slice ao' F'.now.length cap').ownBlock → w1.heap[k]? = wr.heap[k]? := fun k hk hne =>
    (hg.block k (by omega) hne).trans (hal k hk)
  have hpb : w1.heap[p]? = wr.heap[p]? := hbl p hpl (fun e => (hown' p e.symm).2.1 rfl)
  have hmb : w1.heap[m']? = wr.heap[m']? := hbl m' HF.map.lt (fun e => (hown' m' e.symm).2.2.1 rfl)
  have hcp : ∀ i, w1.cell? ⟨p, i, none⟩ = wr.cell? ⟨p, i, none⟩ := fun i => World.cell?_of_block hpb
  have hfp : ∀ i, w1.frozen? ⟨p, i, none⟩ = wr.frozen? ⟨p, i, none⟩ := fun i => World.frozen?_of_block hpb
  have hina : ∀ a, ao1 = some a → From S w a.block ∧ a.block ≠ p := by
    rintro a rfl
    rcases hloc with h | h
    · have := hown' a.block h.symm
      exact ⟨this.1, this.2.1⟩
    · simp only [Value.ownBlock, Option.some.injEq] at h
      have h2 := HFR.size
      refine ⟨Or.inr (by omega), by omega⟩
  refine ⟨HF.rowed ?_ ?_ ?_ ?_ ?_ (fun _ h => h) HF.np (fun a ha => (hina a ha).1), HFR.trans ⟨hg.os, hg.tape, hg.output, ?_, ?_, ?_, ?_⟩, (hcp o).trans HF.c0, (hcp _).trans HF.c2, (hfp o).trans HF.f0⟩
  · rw [set_same ((hcp o).trans HF.c0)]; simp
  · exact fun i hi => (set_off _ _ _ (Ne.symm hi)).trans (hcp i)
  · exact fun i => by rw [World.frozen?_setCell]; exact hfp i
  · rw [secs_append, secs_one, List.length_append, List.length_singleton]
    exact row_stay hown (fun a ha => set_heap _ _ _ _ _ (hina a ha).2)
  · rw [set_heap _ _ _ _ _ HF.mp]; exact hmb
  · have := hg.size; simp at this ⊢; omega
  · intro k hk hkp hS
    rw [set_heap _ _ _ _ _ hkp]
    exact hbl k hk (fun e => hS (hown' k e.symm).1)
  · intro i h0 _ _
    exact (set_off _ _ _ (Ne.symm h0)).trans (hcp i)
  · exact fun i => by rw [World.frozen?_setCell]; exact hfp i

/-- What was sure of a sector is noted. -/
theorem step_put {w w' : World} {p o : Nat} {S : Nat → Prop} {ao : Option Addr} {cap m i : Nat} {F : FS} {dirt' : List Bool} (HF : FileAt w p o S ao cap m F) (h0 : F.dirt.getD i false = false) (hd : ∀ j, dirt'.getD j false = (F.dirt.getD j false || decide (j = i))) {n : Nat}
    (hown : w'.ownsMap Tryz.prog 3 secR m n ((dirtD F.dirt F.old).put (.int .i64 (i : Int)) (secD (was F.old i)))) (hg : w.grownBy w' (some m)) :
    FileAt w' p o S ao cap m ⟨F.now, F.old, dirt'⟩ ∧ FFrame w w' p o S := by
  have hbl : ∀ k, k < w.heap.size → k ≠ m → w'.heap[k]? = w.heap[k]? := fun k hk hne => hg.block k hk (by simpa using hne)
  have hpb := hbl p HF.plt (Ne.symm HF.mp)
  have e := put_dirt h0 hd (hown.canon (int_keyed Tryz.underlying3))
  rw [e] at hown
  have ht := tight hown
  rw [size_dirt] at ht
  refine ⟨⟨(World.cell?_of_block hpb).trans HF.c0, (World.cell?_of_block hpb).trans HF.c1, (World.cell?_of_block hpb).trans HF.c2, (World.frozen?_of_block hpb).trans HF.f0, (World.frozen?_of_block hpb).trans HF.f1, (World.frozen?_of_block hpb).trans HF.f2,
    row_stay HF.row (fun a ha => hbl _ (row_lt HF.row a ha) (HF.row_block a ha).1), ht, HF.np, HF.ina, HF.inm⟩, ⟨hg.os, hg.tape, hg.output, hg.size, fun k hk _ hS => hbl k hk (fun e => hS (e ▸ HF.inm)), fun _ _ _ _ => World.cell?_of_block hpb, fun _ => World.frozen?_of_block hpb⟩⟩

/-- Bytes are laid over a sector. -/
theorem step_copy {w : World} {p o : Nat} {S : Nat → Prop} {g cap m i : Nat} {F : FS} {x : Sec} (HF : FileAt w p o S (some ⟨g, 0, none⟩) cap m F) (sn : ∀ x ∈ F.now, x.length = 128) (hi : i < F.now.length) (hx : x.length = 128) :
    ∃ cur : Array Value, w.heap[g]? = some (.cells cur 136 (0, 0)) ∧ i * 128 + 128 ≤ cur.size ∧ (∀ j, j < 128 → cur.toList[i * 128 + j]? = (bs (F.now.getD i []))[j]?) ∧
      ∀ (k : Nat) (y : List Nat), k + y.length = 128 → x = (F.now.getD i []).take k ++ y →
        FileAt (w.setRow g (cur.toList.take (i * 128 + k) ++ (bs y ++ cur.toList.drop (i * 128 + k + (bs y).length))).toArray) p o S (some ⟨g, 0, none⟩) cap m ⟨F.now.set i x, F.old, F.dirt⟩ ∧
        FFrame w (w.setRow g (cur.toList.take (i * 128 + k) ++ (bs y ++ cur.toList.drop (i * 128 + k + (bs y).length))).toArray) p o S := by
  have hrb := HF.row_block _ rfl
  rcases HF.row.2 with ⟨hn, _⟩ | ⟨g', cap', cur, hv, hb', hg, hnc, hcm, hcs, htk⟩
  · simp at hn
  · simp only [Value.slice.injEq, Option.some.injEq, Addr.mk.injEq, and_true, true_and] at hv
    obtain ⟨rfl, rfl⟩ := hv
    have hle : i * 128 + 128 ≤ cur.size := by rw [hcs]; have : (i + 1) * 128 ≤ cap * 128 := Nat.mul_le_mul_right _ (by omega); omega
    have hget : ∀ j, j < 128 → cur.toList[i * 128 + j]? = (bs (F.now.getD i []))[j]? := by
      intro j hj
      rw [← secs_get sn i j hi hj, ← htk, List.getElem?_take, if_pos (by have : (i + 1) * 128 ≤ F.now.length * 128 := Nat.mul_le_mul_right _ (by omega); omega)]
    refine ⟨cur, hg, hle, hget, fun k y hky hxy => ?_⟩
    have hnl : (F.now.getD i []).length = 128 := by
      rw [List.getD, List.getElem?_eq_getElem hi]; exact sn _ (List.getElem_mem hi)
    have hbl : ∀ c j, j ≠ g → (w.setRow g c).heap[j]? = w.heap[j]? := fun c j hj => setRow_other w g j c hj
    have hpb : ∀ c, (w.setRow g c).heap[p]? = w.heap[p]? := fun c => hbl c p (Ne.symm hrb.2)
    -- the row
    have hrow : (cur.toList.take (i * 128 + k) ++ (bs y ++ cur.toList.drop (i * 128 + k + (bs y).length))) = splice cur.toList (i * 128) (bs x) := by
      have hbx : bs x = (cur.toList.drop (i * 128)).take k ++ bs y := by
        rw [hxy, bs_append]
        congr 1
        apply List.ext_getElem?
        intro t
        rw [List.getElem?_take]
        split
        · rename_i ht
          rw [List.getElem?_drop, hget t (by omega)]
          simp [bs, ht]
        · rw [List.getElem?_eq_none (by simp [bs_length]; omega)]
      rw [splice, hbx]
      have hl1 : ((cur.toList.drop (i * 128)).take k ++ bs y).length = 128 := by
        simp [bs_length]; omega
      rw [hl1, List.append_assoc]
      have e1 : cur.toList.take (i * 128 + k) = cur.toList.take (i * 128) ++ (cur.toList.drop (i * 128)).take k := List.take_add
      rw [e1, List.append_assoc, bs_length, show i * 128 + k + y.length = i * 128 + 128 by omega]
    rw [hrow]
    have hsl : (splice cur.toList (i * 128) (bs x)).length = cur.size := by
      rw [length_splice _ _ _ (by rw [bs_length, hx, Array.length_toList]; omega)]; simp
    refine ⟨?_, ⟨rfl, rfl, rfl, by simp [World.setRow], fun j _ _ hS => hbl _ j (fun e => hS (e ▸ HF.ina _ rfl)), fun _ _ _ _ => World.cell?_of_block (hpb _), fun _ => World.frozen?_of_block (hpb _)⟩⟩
    have hR := HF.rowed (now := F.now.set i x) (cap' := cap) (ao' := some ⟨g, 0, none⟩) (S' := S) (w' := w.setRow g (splice cur.toList (i * 128) (bs x)).toArray) (by rw [List.length_set]; exact (World.cell?_of_block (hpb _)).trans HF.c0) (fun _ _ => World.cell?_of_block (hpb _)) (fun _ => World.frozen?_of_block (hpb _)) ?_ (hbl _ m (Ne.symm hrb.1)) (fun _ h => h) HF.np HF.ina
    · exact hR
    · rw [List.length_set]
      refine ⟨?_, .inr ⟨g, cap, _, rfl, hb', setRow_heap w g _ _ _ _ hg, hnc, hcm, by simp [hsl, hcs], ?_⟩⟩
      · rw [secs_length (fun z hz => by rcases List.mem_or_eq_of_mem_set hz with h | rfl; exact sn z h; exact hx), List.length_set]
      · rw [← secs_set sn i hi x hx]
        simp only [splice, bs_length, hx]
        rw [← htk]
        have hin : i * 128 + 128 ≤ F.now.length * 128 := by have : (i + 1) * 128 ≤ F.now.length * 128 := Nat.mul_le_mul_right _ (by omega); omega
        rw [List.take_take, Nat.min_eq_left (by omega), List.take_append, List.take_append, List.take_take, List.drop_take]
        simp only [List.length_take, Array.length_toList, bs_length, hx]
        rw [Nat.min_eq_right (by omega), Nat.min_eq_left (by omega)]
        congr 1
        rw [List.take_of_length_le (by rw [bs_length, hx]; omega)]
        congr 1

end Go.Proofs.YtokofpbhbjbnfaaGreatDoor.Dsk

/- What the sectors are behind one step of a write; how a sector is looked up. No statement of the seat is proved here. -/
namespace Go.Proofs.YtokofpbhbjbnfaaGreatDoor.Dsk
open Go.RowKit Go.Maps

theorem wpList_lookup_sec {P : Program} {ops : Array Oper} {rest : List Oper} {o : Oper} {a : Act} {w : World} {Q : Exit → Act → World → Prop} (hg : o.guard = none) (m x : Operand) (t : TypeId) (hop : o.op = Op.lookup t m x true)
    (k e : TypeId) (K : Keyed P k) (ht : P.underlying t = some (.map k e)) (hz : (zeroValue e).run P w = .ok (secV noughts) w) (b n : Nat) (D : DataW Unit)
    (hm : a.eval m = .map (some b)) (hown : w.ownsMap P k secR b n D) (key : Value) (kl : Lit) (hx : a.eval x = key) (hkey : keyOf P k key = some kl) (X : Sec) (h : Bool) (hat : D.atKey kl (secD noughts) = secD X) (hh : Maps.has D kl = h)
    (hK : wpList P ops Q rest (a.put o.dst (.tuple #[secV X, .bool h])) w) : wpList P ops Q (o :: rest) a w :=
  wpList_lookup_own_ok w hg m x t hop k e K ht secR hz (secD noughts) [] (secR_mk _) b n D hm hown key kl hx hkey (fun v ps hv => by
    rw [hat] at hv
    rw [secR_inv hv, hh]
    exact hK)

theorem exec_load {P : Program} {ρ : Operand → Value} {o : Oper} {ty : TypeId} {x : Operand} {ad : Addr} {v : Value} {W : World} (ho : o.op = .load ty x) (hx : ρ x = .pointer (some ad)) (hrun : (loadVar ty ad).run P W = .ok v W) : (execOp ρ o).run P W = .ok (.value v) W := by
  simp [execOp, ho, hx, Instr.loadAt, Instr.sureAddr, hrun]

theorem step_mapUpdate {P : Program} {ops : Array Oper} {o : Oper} {a : Act} {w : World} {K : Act → World → Prop} {Q : Exit → Act → World → Prop} {E : Prop} (hgd : o.guard = none) (m x v : Operand) (t : TypeId) (hop : o.op = Op.mapUpdate t m x v)
    (k e : TypeId) (KK : Keyed P k) (ht : P.underlying t = some (.map k e)) (R : Value → Option (DataW Unit × List MemPlace)) (b n : Nat) (D : DataW Unit)
    (hm : a.eval m = .map (some b)) (hown : w.ownsMap P k R b n D) (hn : n < maxLen) (key val : Value) (kl : Lit) (hx : a.eval x = key) (hv : a.eval v = val) (hkey : keyOf P k key = some kl)
    (d : DataW Unit) (ps : List MemPlace) (hval : R val = some (d, ps))
    (hK : ∀ w', w'.ownsMap P k R b (n + 1) (D.put kl d) → w.grownBy w' (some b) → K (a.put o.dst undef) w') :
    if Region.wanted o (yielded ops a.tmps) = true then Oper.wp P o a w K Q else E := by
  have hw : Region.wanted o (yielded ops a.tmps) = true := by simp [Region.wanted, hgd]
  rw [if_pos hw]
  obtain ⟨w', hrun, r1, r2⟩ := hown.update KK ht hn hkey hval
  unfold Oper.wp
  simp [execOp, hop, hm, hx, hv, hrun, Result.andThen]
  exact hK w' r1 r2

theorem step_copy_row {P : Program} {ops : Array Oper} {o : Oper} {a : Act} {w : World} {K : Act → World → Prop} {Q : Exit → Act → World → Prop} {E : Prop} (hgd : o.guard = none) (d s : Operand) (dT sT : TypeId)
    (ho : o.op = .call { callee := .builtin .copy, args := #[d, s], argTypes := #[dT, sT] }) (elem : TypeId) (hu : P.underlying dT = some (.slice elem)) (hsz : (P.info? elem).map (·.size) = some 1)
    (g off dLen dCap : Nat) (ad : Addr) (sLen sCap : Nat) (hd : a.eval d = .slice (some ⟨g, off, none⟩) dLen dCap) (hs : a.eval s = .slice (some ad) sLen sCap)
    (cur : Array Value) (t : TypeId) (hg : w.heap[g]? = some (.cells cur t (0, 0))) (cs : List Value) (hn : cs.length = Nat.min sLen dLen)
    (hsrc : ∀ j v, cs[j]? = some v → w.cell? (ad.add j) = some v) (hfit : off + cs.length ≤ cur.size) (h1 : ∀ v ∈ cs, v.oneCell' = true)
    (h : K (a.put o.dst (goInt cs.length)) (w.setRow g (cur.toList.take off ++ (cs ++ cur.toList.drop (off + cs.length))).toArray)) :
    if Region.wanted o (yielded ops a.tmps) = true then Oper.wp P o a w K Q else E := by
  have hw : Region.wanted o (yielded ops a.tmps) = true := by simp [Region.wanted, hgd]
  rw [if_pos hw]
  have hrun := run_copy_row (P := P) w dT sT o.type elem g off dLen dCap ad sLen sCap cur t cs hu hsz hg hn hsrc hfit h1
  unfold Oper.wp
  simp [execOp, ho, resolve, invoke, builtin, hd, hs, hrun, Result.andThen]
  exact h

theorem wr1_ok {F : FS} (ok : F.Ok) {i : Nat} (hi : i ≤ F.now.length) {s : Sec} (hs : s.length = 128) : (wr1 F i s).Ok := by
  unfold wr1
  split
  · rename_i h
    refine ⟨by simp [ok.ld], by simpa using ok.lo, fun x hx => ?_, ok.so, fun j hj hd => ?_⟩
    · rcases List.mem_or_eq_of_mem_set hx with h1 | rfl
      · exact ok.sn x h1
      · exact hs
    · simp only [List.length_set] at hj
      simp only [List.getD, List.getElem?_set] at hd ⊢
      by_cases hij : i = j
      · subst hij; simp [ok.ld, h] at hd
      · rw [if_neg hij] at hd ⊢
        exact ok.cl j hj hd
  · rename_i h
    have e : i = F.now.length := by omega
    refine ⟨by simp [ok.ld], by have := ok.lo; simp; omega, fun x hx => ?_, ok.so, fun j hj hd => ?_⟩
    · rcases List.mem_append.1 hx with h1 | h1
      · exact ok.sn x h1
      · simp only [List.mem_singleton] at h1; rw [h1]; exact hs
    · simp only [List.length_append, List.length_singleton] at hj
      by_cases hjl : j < F.now.length
      · simp only [List.getD] at hd ⊢
        rw [List.getElem?_append_left (by rw [ok.ld]; exact hjl)] at hd
        rw [List.getElem?_append_left hjl]
        exact ok.cl j hjl hd
      · have : j = F.dirt.length := by rw [ok.ld]; omega
        subst this
        simp [List.getD] at hd

theorem wr1_in {F : FS} {i : Nat} (hi : i < F.now.length) (s : Sec) : wr1 F i s = ⟨F.now.set i s, F.old, F.dirt.set i true⟩ := by simp [wr1, hi]
theorem wr1_end {F : FS} (s : Sec) : wr1 F F.now.length s = ⟨(F.now ++ [noughts]).set F.now.length s, F.old, F.dirt ++ [true]⟩ := by simp [wr1]
theorem wr1_len (F : FS) (i : Nat) (s : Sec) (hi : i ≤ F.now.length) : (wr1 F i s).now.length ≤ max F.now.length (i + 1) ∧ i + 1 ≤ (wr1 F i s).now.length := by
  unfold wr1
  split
  · simp; omega
  · simp; omega
theorem set_dirt {d : List Bool} {i : Nat} (hi : i < d.length) (j : Nat) : (d.set i true).getD j false = (d.getD j false || decide (j = i)) := by
  simp only [List.getD, List.getElem?_set]
  by_cases h : i = j
  · subst h; simp [hi]
  · rw [if_neg h]; simp [Ne.symm h]
theorem set_same_dirt {d : List Bool} {i : Nat} (h : d.getD i false = true) : d.set i true = d := by
  apply List.ext_getElem?
  intro j
  rw [List.getElem?_set]
  split
  · rename_i e; subst e
    split
    · rename_i hl; rw [List.getD, List.getElem?_eq_getElem hl] at h; rw [List.getElem?_eq_getElem hl]; simpa using h.symm
    · rename_i hl; rw [List.getElem?_eq_none (by omega)]
  · rfl
theorem app_dirt (d : List Bool) (j : Nat) : (d ++ [true]).getD j false = (d.getD j false || decide (j = d.length)) := by
  simp only [List.getD]
  rcases Nat.lt_trichotomy j d.length with h | h | h
  · rw [List.getElem?_append_left h]; simp [show j ≠ d.length by omega]
  · subst h; simp
  · rw [List.getElem?_eq_none (by simp; omega), List.getElem?_eq_none (by omega)]; simp [show j ≠ d.length by omega]
theorem end_clean (d : List Bool) : d.getD d.length false = false := by simp [List.getD]
theorem was_end {F : FS} (ok : F.Ok) : was F.old F.now.length = noughts := by
  rw [was, List.getD, List.getElem?_eq_none ok.lo]; rfl
theorem was_len {F : FS} (ok : F.Ok) (i : Nat) : (was F.old i).length = 128 := by
  rw [was, List.getD]
  cases h : F.old[i]? with
  | none => exact noughts_length
  | some x => exact ok.so x (List.mem_of_getElem? h)

end Go.Proofs.YtokofpbhbjbnfaaGreatDoor.Dsk
