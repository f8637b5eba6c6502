/- Two disks beside one another, one of them armed; no statement of the seat is proved here. -/
import Derived.Test.YtkgenmooepfhjaaDd
import Derived.Test.YtkgenmooepfhjaaCb
namespace Go.Proofs.Ytkgenmooepfhjaa
open Go.RowKit Go.Maps

/-- Alike, but that one of them is armed, and goes off at operation k. -/
structure Twin (k : Nat) (keep : List Bool) (t : Int) (d e : DS) : Prop where
  off : e.off = false
  left : e.left = 0
  lt : e.ops < k
  eq : d = { e with left := k - e.ops, keep := keep, torn := t }

/-- What one operation makes of both. -/
def Step (k : Nat) (keep : List Bool) (t : Int) (f : Int) (d : DS) (g : Int) (e : DS) : Prop :=
  (e.ops < k ∧ f = g ∧ Twin k keep t d e) ∨ (k ≤ e.ops ∧ f = 4 ∧ d.off = true)

theorem Twin.same {k : Nat} {keep : List Bool} {t : Int} {d e : DS} (h : Twin k keep t d e) (x : Int) : Step k keep t x d x e := Or.inl ⟨h.lt, rfl, h⟩

/-- It is an operation of both. -/
theorem Twin.op {k : Nat} {keep : List Bool} {t : Int} {d e : DS} (h : Twin k keep t d e) (x : Int) (d1 e1 : DS) (hd : d.left ≠ 1 → d1 = { e1 with left := d.left - 1, keep := keep, torn := t }) (ho : e1.off = false) (hl : e1.left = 0) (hops : e1.ops = e.ops + 1) :
    Step k keep t (if d.left = 1 then 4 else x) (if d.left = 1 then crashD (opsD d) d.keep d.torn else d1) x e1 := by
  have hlt := h.lt
  have hdl : d.left = k - e.ops := by rw [h.eq]
  by_cases h1 : d.left = 1
  · rw [if_pos h1, if_pos h1]
    exact Or.inr ⟨by omega, rfl, rfl⟩
  · rw [if_neg h1, if_neg h1]
    refine Or.inl ⟨by omega, rfl, ho, hl, by omega, ?_⟩
    rw [hd h1]
    congr 1
    omega

theorem Twin.sync {k : Nat} {keep : List Bool} {t : Int} {d e : DS} (h : Twin k keep t d e) (f : Int) : Step k keep t (syncD d f).1 (syncD d f).2 (syncD e f).1 (syncD e f).2 := by
  have hoff : d.off = false := by rw [h.eq]; exact h.off
  have e0 := h.left; have e1 := h.off
  have hne : e.left ≠ 1 := by omega
  by_cases hk : known f = true
  · have A : syncD e f = (0, (tickD e).put f (sureF (e.file f).now)) := by simp [syncD, e1, hk, hne]
    have B : syncD d f = (if d.left = 1 then 4 else 0, if d.left = 1 then crashD (opsD d) d.keep d.torn else (tickD d).put f (sureF (d.file f).now)) := by
      simp only [syncD, hoff, hk]; by_cases hl1 : d.left = 1 <;> simp [hl1]
    rw [A, B]
    refine h.op 0 _ _ (fun _ => ?_) ?_ ?_ ?_
    · rw [h.eq]; rcases known_cases hk with rfl | rfl <;> rfl
    · rcases known_cases hk with rfl | rfl <;> exact e1
    · rcases known_cases hk with rfl | rfl <;> (show e.left - 1 = 0; omega)
    · rcases known_cases hk with rfl | rfl <;> rfl
  · have hk' : known f = false := by simpa using hk
    have A : syncD e f = (11, e) := by simp [syncD, e1, hk']
    have B : syncD d f = (11, d) := by simp [syncD, hoff, hk']
    rw [A, B]; exact h.same 11

theorem Twin.cut {k : Nat} {keep : List Bool} {t : Int} {d e : DS} (h : Twin k keep t d e) (f n : Int) : Step k keep t (cutD d f n).1 (cutD d f n).2 (cutD e f n).1 (cutD e f n).2 := by
  have hoff : d.off = false := by rw [h.eq]; exact h.off
  have e0 := h.left; have e1 := h.off
  have hne : e.left ≠ 1 := by omega
  have hfile : d.file f = e.file f := by rw [h.eq]; rfl
  by_cases hk : known f = true
  · by_cases hx : n < 0 ∨ ((e.file f).now.length : Int) < n
    · have A : cutD e f n = (11, e) := by simp [cutD, e1, hk, hx]
      have B : cutD d f n = (11, d) := by simp [cutD, hoff, hk, hfile, hx]
      rw [A, B]; exact h.same 11
    · have A : cutD e f n = (0, (tickD e).put f (cutF (e.file f) n.toNat)) := by simp [cutD, e1, hk, hne, hx]
      have B : cutD d f n = (if d.left = 1 then 4 else 0, if d.left = 1 then crashD (opsD d) d.keep d.torn else (tickD d).put f (cutF (e.file f) n.toNat)) := by
        simp only [cutD, hoff, hk, hfile, if_neg hx]; by_cases hl1 : d.left = 1 <;> simp [hl1]
      rw [A, B]
      refine h.op 0 _ _ (fun _ => ?_) ?_ ?_ ?_
      · rw [h.eq]; rcases known_cases hk with rfl | rfl <;> rfl
      · rcases known_cases hk with rfl | rfl <;> exact e1
      · rcases known_cases hk with rfl | rfl <;> (show e.left - 1 = 0; omega)
      · rcases known_cases hk with rfl | rfl <;> rfl
  · have hk' : known f = false := by simpa using hk
    have A : cutD e f n = (11, e) := by simp [cutD, e1, hk']
    have B : cutD d f n = (11, d) := by simp [cutD, hoff, hk']
    rw [A, B]; exact h.same 11

theorem Twin.write {k : Nat} {keep : List Bool} {t : Int} {d e : DS} (h : Twin k keep t d e) (f at_ : Int) (ss : List Sec) : Step k keep t (writeD d f at_ ss).1 (writeD d f at_ ss).2 (writeD e f at_ ss).1 (writeD e f at_ ss).2 := by
  have hoff : d.off = false := by rw [h.eq]; exact h.off
  have e0 := h.left; have e1 := h.off
  have hne : e.left ≠ 1 := by omega
  have hfile : d.file f = e.file f := by rw [h.eq]; rfl
  have hfull : ∀ l n, fullD d l n = fullD e l n := fun l n => by rw [h.eq]; rfl
  by_cases hk : known f = true
  · by_cases hx : at_ < 0 ∨ ((e.file f).now.length : Int) < at_
    · have A : writeD e f at_ ss = (11, e) := by simp [writeD, e1, hk, hx]
      have B : writeD d f at_ ss = (11, d) := by simp [writeD, hoff, hk, hfile, hx]
      rw [A, B]; exact h.same 11
    · by_cases h0 : ss.length = 0
      · have A : writeD e f at_ ss = (2, e) := by simp only [writeD, e1, hk, if_neg hx, if_pos h0]; rfl
        have B : writeD d f at_ ss = (2, d) := by simp only [writeD, hoff, hk, hfile, if_neg hx, if_pos h0]; rfl
        rw [A, B]; exact h.same 2
      · cases hf : fullD e (e.file f).now.length (at_.toNat + ss.length)
        · have A : writeD e f at_ ss = (0, (tickD e).put f (wrN (e.file f) at_.toNat ss)) := by simp only [writeD, e1, hk, if_neg hx, if_neg h0, if_neg hne, hf]; rfl
          have B : writeD d f at_ ss = (if d.left = 1 then 4 else 0, if d.left = 1 then crashD (opsD d) d.keep d.torn else (tickD d).put f (wrN (e.file f) at_.toNat ss)) := by
            simp only [writeD, hoff, hk, hfile, if_neg hx, if_neg h0, hfull, hf]; by_cases hl1 : d.left = 1 <;> simp [hl1]
          rw [A, B]
          refine h.op 0 _ _ (fun _ => ?_) ?_ ?_ ?_
          · rw [h.eq]; rcases known_cases hk with rfl | rfl <;> rfl
          · rcases known_cases hk with rfl | rfl <;> exact e1
          · rcases known_cases hk with rfl | rfl <;> (show e.left - 1 = 0; omega)
          · rcases known_cases hk with rfl | rfl <;> rfl
        · have A : writeD e f at_ ss = (3, tickD e) := by simp only [writeD, e1, hk, if_neg hx, if_neg h0, if_neg hne, hf]; rfl
          have B : writeD d f at_ ss = (if d.left = 1 then 4 else 3, if d.left = 1 then crashD (opsD d) d.keep d.torn else tickD d) := by
            simp only [writeD, hoff, hk, hfile, if_neg hx, if_neg h0, hfull, hf]; by_cases hl1 : d.left = 1 <;> simp [hl1]
          rw [A, B]
          refine h.op 3 _ _ (fun _ => ?_) ?_ ?_ ?_
          · rw [h.eq]; rfl
          · exact e1
          · show e.left - 1 = 0; omega
          · rfl
  · have hk' : known f = false := by simpa using hk
    have A : writeD e f at_ ss = (11, e) := by simp [writeD, e1, hk']
    have B : writeD d f at_ ss = (11, d) := by simp [writeD, hoff, hk']
    rw [A, B]; exact h.same 11

theorem twin_start (k : Nat) (hk : 0 < k) (keep : List Bool) (t : Int) (r : Nat) : Twin k keep t (armD (newD r) (k : Int) keep t) (newD r) := by
  refine ⟨rfl, rfl, hk, ?_⟩
  unfold armD
  rw [if_neg (by omega), if_neg (by omega), Int.toNat_natCast]
  rfl

/-- Two disks, whose blocks are apart and new. -/
structure Pair (w1 W : World) (p q : Nat) (P Q : Parts) (d e : DS) : Prop where
  hd : DiskP W p P d
  he : DiskP W q Q e
  pq : p ≠ q
  dq : ¬ P.all q
  ep : ¬ Q.all p
  dj : ∀ k, P.all k → ¬ Q.all k
  a : ∀ k, P.all k → w1.heap.size ≤ k
  b : ∀ k, Q.all k → w1.heap.size ≤ k
  pp : w1.heap.size ≤ p
  qq : w1.heap.size ≤ q
  bw : Below w1.heap.size w1 W

theorem Pair.later {w1 W W' : World} {p q : Nat} {P Q : Parts} {d e : DS} (h : Pair w1 W p q P Q d e) (hb : Below W.heap.size W W') : Pair w1 W' p q P Q d e :=
  ⟨h.hd.later hb, h.he.later hb, h.pq, h.dq, h.ep, h.dj, h.a, h.b, h.pp, h.qq, h.bw.trans (hb.mono h.bw.size)⟩
theorem Pair.drew {w1 W : World} {p q : Nat} {P Q : Parts} {d e : DS} (h : Pair w1 W p q P Q d e) : Pair w1 W.drew p q P Q d e :=
  ⟨h.hd.stay (Nat.le_refl _) (fun _ _ _ => rfl), h.he.stay (Nat.le_refl _) (fun _ _ _ => rfl), h.pq, h.dq, h.ep, h.dj, h.a, h.b, h.pp, h.qq, Below.drew h.bw⟩

theorem DiskP.aside {w w' : World} {p q : Nat} {P : Parts} {d : DS} {S : Nat → Prop} (h : DiskP w p P d) (hf : DFrame w w' q S) (hpq : p ≠ q) (hps : ¬ S p) (hd : ∀ k, P.all k → k ≠ q ∧ ¬ S k) : DiskP w' p P d :=
  h.stay hf.size (fun k hk hx => by
    rcases hx with h1 | h1
    · exact hf.block k hk (hd k h1).1 (hd k h1).2
    · subst h1; exact hf.block k hk hpq hps)

/-- The first one turns. -/
theorem Pair.left {w1 W W' : World} {p q : Nat} {P Q P' : Parts} {d e d' : DS} (h : Pair w1 W p q P Q d e) (hd' : DiskP W' p P' d') (hg : Grew P W P') (hf : DFrame W W' p P.all) : Pair w1 W' p q P' Q d' e := by
  have hz := h.bw.size
  have hq := p_lt h.he
  refine ⟨hd', h.he.aside hf (Ne.symm h.pq) h.dq (fun k hk => ⟨fun e => h.ep (e ▸ hk), fun hP => h.dj k hP hk⟩), h.pq, fun hk => ?_, h.ep, fun k hk hQ => ?_, hg.base h.a hz, h.b, h.pp, h.qq, below_df h.bw hf hz h.pp h.a⟩
  · rcases hg q hk with h1 | h1
    · exact h.dq h1
    · omega
  · rcases hg k hk with h1 | h1
    · exact h.dj k h1 hQ
    · have := all_lt h.he hQ; omega

/-- The second one turns. -/
theorem Pair.right {w1 W W' : World} {p q : Nat} {P Q Q' : Parts} {d e e' : DS} (h : Pair w1 W p q P Q d e) (he' : DiskP W' q Q' e') (hg : Grew Q W Q') (hf : DFrame W W' q Q.all) : Pair w1 W' p q P Q' d e' := by
  have hz := h.bw.size
  have hq := p_lt h.hd
  refine ⟨h.hd.aside hf h.pq h.ep (fun k hk => ⟨fun e => h.dq (e ▸ hk), fun hP => h.dj k hk hP⟩), he', h.pq, h.dq, fun hk => ?_, fun k hk hQ => ?_, h.a, hg.base h.b hz, h.pp, h.qq, below_df h.bw hf hz h.qq h.b⟩
  · rcases hg p hk with h1 | h1
    · exact h.ep h1
    · omega
  · rcases hg k hQ with h1 | h1
    · exact h.dj k hk h1
    · have := all_lt h.hd hk; omega

end Go.Proofs.Ytkgenmooepfhjaa
