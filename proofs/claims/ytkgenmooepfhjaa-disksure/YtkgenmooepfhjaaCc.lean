/- What stays sure while other sectors are written; no statement of the seat is proved here. -/
import Derived.Test.YtkgenmooepfhjaaCb
namespace Go.Proofs.Ytkgenmooepfhjaa
open Go.RowKit Go.Maps

structure Sure (B : List Sec) (k : Nat) (d : DS) : Prop where
  off : d.off = false
  left : d.left = 0
  ops : d.ops ≤ k
  old : d.f0.old = B
  now : d.f0.now.take 3 = B
  dirt : ∀ i, i < 3 → d.f0.dirt.getD i false = false
  len : B.length = 3

theorem wr1_far (F : FS) (at_ : Nat) (s : Sec) (h : 3 ≤ at_) (hl : 3 ≤ F.now.length) (hd : 3 ≤ F.dirt.length) : (wr1 F at_ s).old = F.old ∧ (wr1 F at_ s).now.take 3 = F.now.take 3 ∧ (∀ i, i < 3 → (wr1 F at_ s).dirt.getD i false = F.dirt.getD i false) ∧ 3 ≤ (wr1 F at_ s).now.length ∧ 3 ≤ (wr1 F at_ s).dirt.length := by
  unfold wr1
  split
  · refine ⟨rfl, ?_, fun i hi => ?_, by simpa using hl, by simpa using hd⟩
    · simp only; rw [List.take_set_of_le h]
    · simp only [List.getD, List.getElem?_set]; rw [if_neg (by omega)]
  · refine ⟨rfl, ?_, fun i hi => ?_, by simp; omega, by simp; omega⟩
    · simp only; rw [List.take_append_of_le_length hl]
    · simp only [List.getD]; rw [List.getElem?_append_left (by omega)]

theorem wrN_far : ∀ (ss : List Sec) (F : FS) (at_ : Nat) (_ : 3 ≤ at_) (_ : 3 ≤ F.now.length) (_ : 3 ≤ F.dirt.length), (wrN F at_ ss).old = F.old ∧ (wrN F at_ ss).now.take 3 = F.now.take 3 ∧ ∀ i, i < 3 → (wrN F at_ ss).dirt.getD i false = F.dirt.getD i false
  | [], F, _, _, _, _ => ⟨rfl, rfl, fun _ _ => rfl⟩
  | s :: r, F, at_, h, hl, hd => by
    have h1 := wr1_far F at_ s h hl hd
    have h2 := wrN_far r (wr1 F at_ s) (at_ + 1) (by omega) h1.2.2.2.1 h1.2.2.2.2
    exact ⟨h2.1.trans h1.1, h2.2.1.trans h1.2.1, fun i hi => (h2.2.2 i hi).trans (h1.2.2.1 i hi)⟩

theorem Sure.tick {B : List Sec} {k : Nat} {d : DS} (h : Sure B k d) : Sure B (k + 1) (tickD d) :=
  ⟨h.off, by simp [tickD, h.left], by simp only [tickD]; have := h.ops; omega, h.old, h.now, h.dirt, h.len⟩
theorem Sure.mono {B : List Sec} {k k' : Nat} {d : DS} (h : Sure B k d) (hk : k ≤ k') : Sure B k' d := ⟨h.off, h.left, Nat.le_trans h.ops hk, h.old, h.now, h.dirt, h.len⟩

theorem Sure.len3 {B : List Sec} {k : Nat} {d : DS} (h : Sure B k d) (ok : d.Ok) : 3 ≤ d.f0.now.length ∧ 3 ≤ d.f0.dirt.length := by
  have h1 := ok.ok0.lo
  rw [h.old, h.len] at h1
  exact ⟨h1, by rw [ok.ok0.ld]; exact h1⟩

theorem Sure.write {B : List Sec} {k : Nat} {d : DS} (h : Sure B k d) (ok : d.Ok) (f at_ : Int) (ss : List Sec) (hf : f = 0 → 3 ≤ at_) : Sure B (k + 1) (writeD d f at_ ss).2 := by
  have hl1 : ¬ d.left = 1 := by have := h.left; omega
  unfold writeD
  rw [h.off]
  simp only [Bool.false_eq_true, if_false]
  split
  · exact h.mono (by omega)
  · split
    · exact h.mono (by omega)
    · rename_i hk hat
      split
      · exact h.mono (by omega)
      · split
        · exact h.tick
        · have hl := h.len3 ok
          by_cases h0 : f = 0
          · subst h0
            have h3 := hf rfl
            have hw := wrN_far ss d.f0 at_.toNat (by omega) hl.1 hl.2
            exact ⟨h.off, by simp [DS.put, tickD, h.left], by simp only [DS.put, tickD]; have := h.ops; simp; omega, hw.1.trans h.old, hw.2.1.trans h.now, fun i hi => (hw.2.2 i hi).trans (h.dirt i hi), h.len⟩
          · have ht := h.tick
            have e : (tickD d).put f (wrN (d.file f) at_.toNat ss) = { tickD d with f1 := wrN (d.file f) at_.toNat ss } := by simp [DS.put, h0]
            rw [e]
            exact ⟨ht.off, ht.left, ht.ops, ht.old, ht.now, ht.dirt, ht.len⟩

/-- The start of the law DiskSure. -/
def sureStart (seed : Nat) : DS := (syncD (writeD (newD 200) 0 0 (secB 3 seed)).2 0).2

theorem wrN_new (ss : List Sec) : (wrN ⟨[], [], []⟩ 0 ss).now = ss ∧ (wrN ⟨[], [], []⟩ 0 ss).old = [] := by
  have key : ∀ (ss : List Sec) (F : FS), (wrN F F.now.length ss).now = F.now ++ ss ∧ (wrN F F.now.length ss).old = F.old := by
    intro ss
    induction ss with
    | nil => intro F; simp [wrN]
    | cons s r ih =>
      intro F
      have e : wr1 F F.now.length s = ⟨F.now ++ [s], F.old, F.dirt ++ [true]⟩ := by simp [wr1]
      have := ih (wr1 F F.now.length s)
      rw [wrN, e] at *
      simp only [List.length_append, List.length_singleton] at this
      refine ⟨by rw [this.1]; simp, this.2⟩
  exact key ss ⟨[], [], []⟩

theorem sure_start (seed : Nat) : (writeD (newD 200) 0 0 (secB 3 seed)).1 = 0 ∧ (syncD (writeD (newD 200) 0 0 (secB 3 seed)).2 0).1 = 0 ∧ (writeD (newD 200) 0 0 (secB 3 seed)).2.ops < 1000 ∧ Sure (secB 3 seed) 2 (sureStart seed) := by
  have hl : (secB 3 seed).length = 3 := secB_len 3 seed
  have hf : fullD (newD 200) 0 (0 + 3) = false := by decide
  have e : writeD (newD 200) 0 0 (secB 3 seed) = (0, { tickD (newD 200) with f0 := wrN ⟨[], [], []⟩ 0 (secB 3 seed) }) := by
    unfold writeD
    rw [show (newD 200).off = false from rfl, show known 0 = true from rfl]
    simp only [Bool.false_eq_true, if_false, Bool.not_true, hl]
    rw [if_neg (by decide), if_neg (by decide), if_neg (by decide)]
    rw [show ((newD 200).file 0).now.length = 0 from rfl, show (0 : Int).toNat = 0 from rfl, hf]
    rfl
  have hw := wrN_new (secB 3 seed)
  have e2 : syncD (writeD (newD 200) 0 0 (secB 3 seed)).2 0 = (0, (tickD (writeD (newD 200) 0 0 (secB 3 seed)).2).put 0 (sureF (secB 3 seed))) := by
    rw [e]
    unfold syncD
    simp only [tickD, newD, DS.file, if_true]
    rw [hw.1]
    rfl
  refine ⟨by rw [e], by rw [e2], by rw [e]; show 1 < 1000; omega, ?_⟩
  unfold sureStart
  rw [e2, e]
  refine ⟨rfl, rfl, by show 2 ≤ 2; omega, rfl, ?_, fun i hi => ?_, hl⟩
  · show (secB 3 seed).take 3 = secB 3 seed
    exact List.take_of_length_le (by omega)
  · show (List.replicate (secB 3 seed).length false).getD i false = false
    rw [hl, List.getD, List.getElem?_replicate]
    split <;> rfl

/-- What Read tells of all sectors, or of the first three. -/
theorem read_all (d : DS) (ho : d.off = false) : readD d 0 0 (d.f0.now.length : Int) = (d.f0.now.flatten, 0) := by
  unfold readD
  rw [ho, show known 0 = true from rfl]
  simp only [Bool.false_eq_true, if_false, Bool.not_true]
  rw [show d.file 0 = d.f0 from rfl, if_neg (by omega), Int.toNat_natCast]
  simp
theorem read_three (d : DS) (ho : d.off = false) (h : 3 ≤ d.f0.now.length) : readD d 0 0 3 = ((d.f0.now.take 3).flatten, 0) := by
  unfold readD
  rw [ho, show known 0 = true from rfl]
  simp only [Bool.false_eq_true, if_false, Bool.not_true]
  rw [show d.file 0 = d.f0 from rfl, if_neg (by omega)]
  rfl

end Go.Proofs.Ytkgenmooepfhjaa
