/- What a loss of power makes of a file, in plain words, and its steps; no statement of the seat is proved here. -/
import Derived.Test.YtkgenmooepfhjaaAg
import Derived.Test.YtkgenmooepfhjaaAh
namespace Go.Proofs.Ytkgenmooepfhjaa
open Go.RowKit Go.Maps

/-- One dirty sector: what stays of it, how far the file goes, what is told of the next. -/
def crash1 (old : List Sec) (r : List Sec × Nat × Stay) (i : Nat) : List Sec × Nat × Stay :=
  (r.1.set i ((r.1.getD i []).take r.2.2.n ++ (was old i).drop r.2.2.n), if 0 < r.2.2.n then max r.2.1 (i + 1) else r.2.1, r.2.2.next)
def crashN (F : FS) (s : Stay) : List Sec × Nat × Stay := (idx F.dirt).foldl (crash1 F.old) (F.now, F.old.length, s)
def sureF (now : List Sec) : FS := ⟨now, now, List.replicate now.length false⟩
/-- The file behind it. -/
def crashF (F : FS) (s : Stay) : FS := sureF ((crashN F s).1.take (crashN F s).2.1)
def crashS (F : FS) (s : Stay) : Stay := (crashN F s).2.2

theorem sureF_ok {now : List Sec} (h : ∀ x ∈ now, x.length = 128) : (sureF now).Ok := by
  refine ⟨by simp [sureF], Nat.le_refl _, h, h, fun i hi _ => ⟨hi, ?_⟩⟩
  simp only [sureF, was, List.getD] at hi ⊢
  rw [List.getElem?_eq_getElem hi]; rfl

theorem n_le {s : Stay} (h : s.t ≤ 128) : s.n ≤ 128 := by unfold Stay.n; split <;> omega
theorem next_t {s : Stay} (h : s.t ≤ 128) : s.next.t ≤ 128 := by unfold Stay.next; simp only; split <;> omega

theorem crash1_len (old : List Sec) (r : List Sec × Nat × Stay) (i : Nat) : (crash1 old r i).1.length = r.1.length := by simp [crash1]
theorem crash1_sn {F : FS} (ok : F.Ok) {r : List Sec × Nat × Stay} (h : ∀ x ∈ r.1, x.length = 128) {i : Nat} (hi : i < r.1.length) (ht : r.2.2.t ≤ 128) : ∀ x ∈ (crash1 F.old r i).1, x.length = 128 := by
  intro x hx
  rcases List.mem_or_eq_of_mem_set hx with h1 | rfl
  · exact h x h1
  · have hl : (r.1.getD i []).length = 128 := by rw [List.getD, List.getElem?_eq_getElem hi]; exact h _ (List.getElem_mem hi)
    have := n_le ht
    rw [List.length_append, List.length_take, List.length_drop, was_len ok, hl]; omega

/-- The state of the loop over the dirty sectors. -/
theorem crash_inv {F : FS} (ok : F.Ok) (s : Stay) (hs : s.t ≤ 128) : ∀ (l : List Nat) (r : List Sec × Nat × Stay), (∀ i ∈ l, i < F.now.length) → r.1.length = F.now.length → (∀ x ∈ r.1, x.length = 128) → r.2.1 ≤ F.now.length → r.2.2.t ≤ 128 →
    (l.foldl (crash1 F.old) r).1.length = F.now.length ∧ (∀ x ∈ (l.foldl (crash1 F.old) r).1, x.length = 128) ∧ (l.foldl (crash1 F.old) r).2.1 ≤ F.now.length ∧ (l.foldl (crash1 F.old) r).2.2.t ≤ 128 ∧ (l.foldl (crash1 F.old) r).2.2.keep = r.2.2.keep ∧ (l.foldl (crash1 F.old) r).2.2.k = r.2.2.k + l.length
  | [], r, _, h1, h2, h3, h4 => ⟨h1, h2, h3, h4, rfl, rfl⟩
  | i :: l, r, hl, h1, h2, h3, h4 => by
    have hi : i < r.1.length := by rw [h1]; exact hl i List.mem_cons_self
    have := crash_inv ok s hs l (crash1 F.old r i) (fun j hj => hl j (List.mem_cons_of_mem _ hj)) (by rw [crash1_len, h1]) (crash1_sn ok h2 hi h4) (by simp only [crash1]; split <;> omega) (next_t h4)
    refine ⟨this.1, this.2.1, this.2.2.1, this.2.2.2.1, this.2.2.2.2.1, ?_⟩
    rw [List.foldl_cons, this.2.2.2.2.2]
    simp [crash1, Stay.next]; omega

theorem crashF_ok {F : FS} (ok : F.Ok) {s : Stay} (hs : s.t ≤ 128) : (crashF F s).Ok := by
  have := crash_inv ok s hs (idx F.dirt) (F.now, F.old.length, s) (fun i hi => by rw [← ok.ld]; exact idx_lt hi) rfl ok.sn ok.lo hs
  exact sureF_ok fun x hx => this.2.1 x (List.mem_of_mem_take hx)
theorem crashF_len {F : FS} (ok : F.Ok) {s : Stay} (hs : s.t ≤ 128) : (crashF F s).now.length ≤ F.now.length := by
  have := crash_inv ok s hs (idx F.dirt) (F.now, F.old.length, s) (fun i hi => by rw [← ok.ld]; exact idx_lt hi) rfl ok.sn ok.lo hs
  simp only [crashF, sureF, List.length_take]
  unfold crashN
  omega
theorem crashS_facts {F : FS} (ok : F.Ok) {s : Stay} (hs : s.t ≤ 128) : (crashS F s).t ≤ 128 ∧ (crashS F s).keep = s.keep ∧ (crashS F s).k = s.k + (idx F.dirt).length := by
  have := crash_inv ok s hs (idx F.dirt) (F.now, F.old.length, s) (fun i hi => by rw [← ok.ld]; exact idx_lt hi) rfl ok.sn ok.lo hs
  exact ⟨this.2.2.2.1, this.2.2.2.2.1, this.2.2.2.2.2⟩

theorem wpList_lookup_sec0 {P : Program} {ops : Array Oper} {rest : List Oper} {o : Oper} {a : Act} {w : World} {Q : Exit → Act → World → Prop} (hg : o.guard = none) (m x : Operand) (t : TypeId) (hop : o.op = Op.lookup t m x false)
    (k e : TypeId) (K : Keyed P k) (ht : P.underlying t = some (.map k e)) (hz : (zeroValue e).run P w = .ok (secV noughts) w) (b n : Nat) (D : DataW Unit)
    (hm : a.eval m = .map (some b)) (hown : w.ownsMap P k secR b n D) (key : Value) (kl : Lit) (hx : a.eval x = key) (hkey : keyOf P k key = some kl) (X : Sec) (hat : D.atKey kl (secD noughts) = secD X)
    (hK : wpList P ops Q rest (a.put o.dst (secV X)) w) : wpList P ops Q (o :: rest) a w := by
  refine wpList_plain hg fun K' hK' => ?_
  obtain ⟨v, ps, hrun, hv⟩ := hown.lookup K ht hz (secR_mk noughts) hkey
  rw [hat] at hv
  obtain rfl := secR_inv hv
  unfold Oper.wp
  simp [execOp, hop, hm, hx, hrun, Result.andThen]
  exact hK' _ _ hK

/-- A slice of sectors is cut. -/
theorem row_cut {w : World} {ao : Option Addr} {cap : Nat} {now : List Sec} (h : w.ownsRow 0 80 128 (.slice ao now.length cap) now.length (secs now)) (sn : ∀ x ∈ now, x.length = 128) (k : Nat) (hk : k ≤ now.length) :
    w.ownsRow 0 80 128 (.slice ao (now.take k).length cap) (now.take k).length (secs (now.take k)) := by
  have hl : (now.take k).length = k := by simp; omega
  have e : secs (now.take k) = (secs now).take (k * 128) := by
    have h1 : secs now = secs (now.take k) ++ secs (now.drop k) := by rw [← secs_append, List.take_append_drop]
    have h2 : (secs (now.take k)).length = k * 128 := by rw [secs_length (fun x hx => sn x (List.mem_of_mem_take hx)), hl]
    rw [h1, List.take_append_of_le_length (Nat.le_of_eq h2.symm)]
    exact (List.take_of_length_le (Nat.le_of_eq h2)).symm
  rw [hl]
  refine ⟨by rw [secs_length (fun x hx => sn x (List.mem_of_mem_take hx)), hl], ?_⟩
  rcases h.2 with ⟨hn, hz⟩ | ⟨g, cap', cur, hv, hb', hg, hnc, hcm, hcs, htk⟩
  · simp only [Value.slice.injEq] at hn
    obtain ⟨rfl, _, rfl⟩ := hn
    exact .inl ⟨by simp; omega, by omega⟩
  · simp only [Value.slice.injEq, true_and] at hv
    obtain ⟨rfl, rfl⟩ := hv
    refine .inr ⟨g, cap, cur, rfl, hb', hg, by omega, hcm, hcs, ?_⟩
    rw [e, ← htk, List.take_take, Nat.min_eq_left (Nat.mul_le_mul_right _ hk)]

/-- A call that turns two cells elsewhere leaves a file as it is. -/
theorem FileAt.aside {w w' : World} {p o ib tb : Nat} {S : Nat → Prop} {ao : Option Addr} {cap m : Nat} {F : FS} (h : FileAt w p o S ao cap m F) (hf : SFrame w w' ib tb) (hi : ¬ S ib) (ht : ¬ S tb) (hpi : p ≠ ib) (hpt : p ≠ tb) : FileAt w' p o S ao cap m F :=
  h.stay (fun k _ hk => hf.block k (fun e => hi (e ▸ hk)) (fun e => ht (e ▸ hk))) (fun _ _ _ => World.cell?_of_block (hf.block p hpi hpt)) (fun _ => World.frozen?_of_block (hf.block p hpi hpt))

theorem SFrame.ff {w w' : World} {p o ib tb : Nat} {S : Nat → Prop} (h : SFrame w w' ib tb) (hpi : p ≠ ib) (hpt : p ≠ tb) (hi : S ib) (ht : S tb) : FFrame w w' p o S :=
  ⟨h.os, h.tape, h.output, Nat.le_of_eq h.size.symm, fun k _ _ hk => h.block k (fun e => hk (e ▸ hi)) (fun e => hk (e ▸ ht)), fun _ _ _ _ => World.cell?_of_block (h.block p hpi hpt), fun _ => World.frozen?_of_block (h.block p hpi hpt)⟩

theorem FFrame.imp {w w' : World} {p o : Nat} {S S' : Nat → Prop} (h : FFrame w w' p o S) (hi : ∀ k, k < w.heap.size → S k → S' k) : FFrame w w' p o S' :=
  ⟨h.os, h.tape, h.output, h.size, fun k hk hp hn => h.block k hk hp (fun hs => hn (hi k hk hs)), h.cell, h.fz⟩

theorem foldl_drop (l : List Nat) (i : Nat) (hi : i < l.length) (f : List Sec × Nat × Stay → Nat → List Sec × Nat × Stay) (r : List Sec × Nat × Stay) : (l.drop i).foldl f r = (l.drop (i + 1)).foldl f (f r (l.getD i 0)) := by
  rw [List.drop_eq_getElem_cons hi, List.foldl_cons, List.getD, List.getElem?_eq_getElem hi]; rfl

end Go.Proofs.Ytkgenmooepfhjaa
