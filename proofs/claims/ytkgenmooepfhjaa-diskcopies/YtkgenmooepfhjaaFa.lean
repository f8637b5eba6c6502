/- A disk and the document's beside one another; no statement of the seat is proved here. -/
import Derived.Test.YtkgenmooepfhjaaEk
namespace Go.Proofs.Ytkgenmooepfhjaa
open Go.RowKit Go.Maps

/-- A disk and the document's, whose blocks are apart; what they write to is new. -/
structure Both (w1 W : World) (p r : Nat) (P : Parts) (R : RParts) (d e : DS) : Prop where
  hd : DiskP W p P d
  hr : RefP W r R e
  pr : p ≠ r
  np : ¬ P.all r
  nr : ¬ R.all p
  dj : ∀ k, P.all k → ¬ R.all k
  a : ∀ k, P.all k → w1.heap.size ≤ k
  b : ∀ k, R.mut k → w1.heap.size ≤ k
  pp : w1.heap.size ≤ p
  rr : w1.heap.size ≤ r
  bw : Below w1.heap.size w1 W

theorem Both.later {w1 W W' : World} {p r : Nat} {P : Parts} {R : RParts} {d e : DS} (h : Both w1 W p r P R d e) (hb : Below W.heap.size W W') : Both w1 W' p r P R d e :=
  ⟨h.hd.later hb, h.hr.later hb, h.pr, h.np, h.nr, h.dj, h.a, h.b, h.pp, h.rr, h.bw.trans (hb.mono h.bw.size)⟩
theorem Both.drew {w1 W : World} {p r : Nat} {P : Parts} {R : RParts} {d e : DS} (h : Both w1 W p r P R d e) : Both w1 W.drew p r P R d e :=
  ⟨h.hd.stay (Nat.le_refl _) (fun _ _ _ => rfl), h.hr.drew, h.pr, h.np, h.nr, h.dj, h.a, h.b, h.pp, h.rr, Below.drew h.bw⟩

theorem RefP.aside {w w' : World} {r q : Nat} {R : RParts} {d : DS} {S : Nat → Prop} (h : RefP w r R d) (hf : DFrame w w' q S) (hrq : r ≠ q) (hrs : ¬ S r) (hd : ∀ k, R.all k → k ≠ q ∧ ¬ S k) : RefP w' r R d :=
  h.stay hf.size (fun k hk hx => by
    rcases hx with h1 | h1
    · exact hf.block k hk (hd k h1).1 (hd k h1).2
    · subst h1; exact hf.block k hk hrq hrs)

/-- The disk turns. -/
theorem Both.left {w1 W W' : World} {p r : Nat} {P P' : Parts} {R : RParts} {d e d' : DS} (h : Both w1 W p r P R d e) (hd' : DiskP W' p P' d') (hg : Grew P W P') (hf : DFrame W W' p P.all) : Both w1 W' p r P' R d' e := by
  have hz := h.bw.size
  have hq := h.hr.rlt
  refine ⟨hd', h.hr.aside hf (Ne.symm h.pr) h.np (fun k hk => ⟨fun e => h.nr (e ▸ hk), fun hP => h.dj k hP hk⟩), h.pr, fun hk => ?_, h.nr, fun k hk hQ => ?_, hg.base h.a hz, h.b, h.pp, h.rr, below_df h.bw hf hz h.pp h.a⟩
  · rcases hg r hk with h1 | h1
    · exact h.np h1
    · omega
  · rcases hg k hk with h1 | h1
    · exact h.dj k h1 hQ
    · have := h.hr.lt hQ; omega

/-- The document's turns. -/
theorem Both.right {w1 W W' : World} {p r : Nat} {P : Parts} {R R' : RParts} {d e e' : DS} (h : Both w1 W p r P R d e) (he' : RefP W' r R' e') (hg : RGrew R W R') (hf : DFrame W W' r R.mut) : Both w1 W' p r P R' d e' := by
  have hz := h.bw.size
  have hq := p_lt h.hd
  refine ⟨h.hd.aside hf h.pr (fun hm => h.nr (h.hr.mut hm)) (fun k hk => ⟨fun e => h.np (e ▸ hk), fun hm => h.dj k hk (h.hr.mut hm)⟩), he', h.pr, h.np, fun hk => ?_, fun k hk hQ => ?_, h.a, fun k hk => ?_, h.pp, h.rr, below_df h.bw hf hz h.rr h.b⟩
  · rcases hg.1 p hk with h1 | h1
    · exact h.nr h1
    · omega
  · rcases hg.1 k hQ with h1 | h1
    · exact h.dj k hk h1
    · have := all_lt h.hd hk; omega
  · rcases hg.2 k hk with h1 | h1
    · exact h.b k h1
    · omega

theorem Both.keep {w1 W : World} {p r : Nat} {P : Parts} {R : RParts} {d e : DS} (h : Both w1 W p r P R d e) {ko : Option Addr} {keep : List Bool} (hr : RdB w1 ko keep) : RdB W ko keep ∧ (0 < keep.length → ∀ a, ko = some a → ¬ P.all a.block ∧ a.block ≠ p ∧ ¬ R.mut a.block ∧ a.block ≠ r) := by
  refine ⟨rdB_stay hr (fun _ a _ hk => h.bw.block _ hk), fun hp a ha => ?_⟩
  have hl := rdB_lt hr hp a ha
  refine ⟨fun hk => ?_, fun e => ?_, fun hk => ?_, fun e => ?_⟩
  · have := h.a _ hk; omega
  · have := h.pp; omega
  · have := h.b _ hk; omega
  · have := h.rr; omega

end Go.Proofs.Ytkgenmooepfhjaa
