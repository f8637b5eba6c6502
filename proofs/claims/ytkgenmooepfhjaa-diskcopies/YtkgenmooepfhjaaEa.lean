/- Rows that are appended to; no statement of the seat is proved here. -/
import Derived.Test.YtkgenmooepfhjaaDe
import Derived.Laws.OwnMore
namespace Go.Proofs.Ytkgenmooepfhjaa
open Go.RowKit Go.Maps

/-- A slice type whose elements have one cell. -/
structure El (t e : TypeId) (z : Value) (b : Nat) : Prop where
  ht : Try.prog.underlying t = some (.slice e)
  hi : ∃ i, Try.prog.info? e = some i ∧ i.zero = some z ∧ i.size = 1 ∧ i.bytes = b
  hz : z.cells.size = 1
  hb : b ≤ 24

theorem info37 : (Try.prog.info? 37).map (fun i => (i.zero, i.size, i.bytes)) = some (some (.slice none 0 0), 1, 24) := by kernel_rfl
theorem u66 : Try.prog.underlying 66 = some (.slice 37) := by kernel_rfl
theorem el66 : El 66 37 (.slice none 0 0) 24 := ⟨u66, by obtain ⟨i, h0, h1, h2, h3⟩ := info_parts info37; exact ⟨i, h0, h1, h2, h3⟩, rfl, by decide⟩
theorem el30 : El 30 4 (.bool false) 1 := ⟨Try.underlying30, by obtain ⟨i, h0, h1, h2, h3⟩ := info_parts info4; exact ⟨i, h0, h1, h2, h3⟩, rfl, by decide⟩
theorem el37 : El 37 5 (.int .u8 0) 1 := ⟨Try.underlying37, by obtain ⟨i, h0, h1, h2, h3⟩ := info_parts Try.info5; exact ⟨i, h0, h1, h2, h3⟩, rfl, by decide⟩

/-- What can be read of a slice. -/
structure Src (w : World) (ao : Option Addr) (m c : Nat) (ys : List Value) : Prop where
  len : ys.length = m
  no : ao = none → m = 0 ∧ c = 0
  at_ : ∀ ad, ao = some ad → ∀ j u, ys[j]? = some u → w.cell? (ad.add j) = some u
  one : ∀ u ∈ ys, u.oneCell' = true

theorem app_run {t e : TypeId} {z : Value} {b : Nat} (E : El t e z b) (ty : TypeId) (w : World) (v : Value) (n : Nat) (xs : List Value) (hown : w.ownsRow 0 e 1 v n xs) (ao : Option Addr) (m c : Nat) (ys : List Value) (hs : Src w ao m c ys) (hb : n + m ≤ 1000000) :
    ∃ v' w', (Builtin.append_ #[t, t] ty #[v, .slice ao m c]).run Try.prog w = .ok v' w' ∧ w'.ownsRow 0 e 1 v' (n + m) (xs ++ ys) ∧ w.grownBy w' v.ownBlock ∧ (v'.ownBlock = v.ownBlock ∨ v'.ownBlock = some w.heap.size) := by
  obtain ⟨i, hi, hz, hsz, hby⟩ := E.hi
  have hbb := E.hb
  cases ao with
  | none =>
    obtain ⟨rfl, rfl⟩ := hs.no rfl
    obtain rfl : ys = [] := List.eq_nil_of_length_eq_zero hs.len
    refine ⟨v, w, run_append_owned_none (P := Try.prog) (w := w) 0 t ty e i 1 E.ht hi v n xs hown, by simpa using hown, ⟨rfl, rfl, rfl, Nat.le_refl _, fun _ _ _ => rfl⟩, Or.inl rfl⟩
  | some ad =>
    have hm : (n + m) * b ≤ 1000000 * 24 := Nat.mul_le_mul hb hbb
    obtain ⟨v', w', h1, h2, h3, _, h5⟩ := run_append_own_at (P := Try.prog) w 0 t ty e i z 1 b E.ht hi hz hsz hby E.hz (by decide) v n xs hown ad m c ys (by rw [hs.len]; omega) (hs.at_ ad rfl) hs.one (by unfold maxLen; omega) (by omega) (Nat.zero_le _)
    exact ⟨v', w', h1, h2, h3, h5⟩

theorem row_form {w : World} {e : TypeId} {n : Nat} {v : Value} {xs : List Value} (h : w.ownsRow 0 e 1 v n xs) : ∃ ao cap, v = .slice ao n cap ∧ (ao = none → n = 0 ∧ cap = 0) ∧ ∀ a, ao = some a → a = ⟨a.block, 0, none⟩ ∧ n ≤ cap ∧ a.block < w.heap.size := by
  rcases h.2 with ⟨rfl, rfl⟩ | ⟨g, cap, cur, rfl, _, hg, hnc, _⟩
  · exact ⟨none, 0, rfl, fun _ => ⟨rfl, rfl⟩, fun a ha => by cases ha⟩
  · exact ⟨_, _, rfl, fun h => (by cases h), fun a ha => by cases ha; exact ⟨rfl, hnc, (Array.getElem?_eq_some_iff.1 hg).1⟩⟩

theorem app_run' {t e : TypeId} {z : Value} {b : Nat} (E : El t e z b) (ty : TypeId) (w : World) (v : Value) (n : Nat) (xs : List Value) (hown : w.ownsRow 0 e 1 v n xs) (ao : Option Addr) (m c : Nat) (ys : List Value) (hs : Src w ao m c ys) (hb : n + m ≤ 1000000) :
    ∃ ao' c' w', (Builtin.append_ #[t, t] ty #[v, .slice ao m c]).run Try.prog w = .ok (.slice ao' (n + m) c') w' ∧ w'.ownsRow 0 e 1 (.slice ao' (n + m) c') (n + m) (xs ++ ys) ∧ w.grownBy w' v.ownBlock ∧ ∀ a, ao' = some a → (v.ownBlock = some a.block ∨ a.block = w.heap.size) := by
  obtain ⟨v', w', h1, h2, h3, h4⟩ := app_run E ty w v n xs hown ao m c ys hs hb
  obtain ⟨ao', c', rfl, _⟩ := row_form h2
  refine ⟨ao', c', w', h1, h2, h3, fun a ha => ?_⟩
  subst ha
  rcases h4 with h4 | h4
  · exact Or.inl h4.symm
  · right; simpa [Value.ownBlock] using h4

theorem wpList_app {w : World} {ops : Array Oper} {rest : List Oper} {o : Oper} {a : Act} {Q : Exit → Act → World → Prop} (hgd : o.guard = none) (s x : Operand) {t e : TypeId} {z : Value} {b : Nat} (E : El t e z b)
    (ho : o.op = .call { callee := .builtin .append, args := #[s, x], argTypes := #[t, t] }) (v : Value) (n : Nat) (xs : List Value) (hs : a.eval s = v) (hown : w.ownsRow 0 e 1 v n xs)
    (ao : Option Addr) (m c : Nat) (ys : List Value) (hx : a.eval x = .slice ao m c) (hsr : Src w ao m c ys) (hb : n + m ≤ 1000000)
    (h : ∀ ao' c' w', w'.ownsRow 0 e 1 (.slice ao' (n + m) c') (n + m) (xs ++ ys) → w.grownBy w' v.ownBlock → (∀ a, ao' = some a → (v.ownBlock = some a.block ∨ a.block = w.heap.size)) → wpList Try.prog ops Q rest (a.put o.dst (.slice ao' (n + m) c')) w') : wpList Try.prog ops Q (o :: rest) a w := by
  refine wpList_plain hgd fun K hK => ?_
  obtain ⟨ao', c', w', hr, h2, h3, h4⟩ := app_run' E o.type w v n xs hown ao m c ys hsr hb
  unfold Oper.wp execOp
  simp only [ho, resolve, invoke, builtin, Sem.run_bind, Sem.run_pure, Result.andThen_ok, List.map_toArray, List.map_cons, List.map_nil, hs, hx, hr]
  exact hK _ _ (h ao' c' w' h2 h3 h4)

theorem step_app {w : World} {ops : Array Oper} {o : Oper} {a : Act} {K : Act → World → Prop} {Q : Exit → Act → World → Prop} {E' : Prop} (hgd : o.guard = none) (s x : Operand) {t e : TypeId} {z : Value} {b : Nat} (E : El t e z b)
    (ho : o.op = .call { callee := .builtin .append, args := #[s, x], argTypes := #[t, t] }) (v : Value) (n : Nat) (xs : List Value) (hs : a.eval s = v) (hown : w.ownsRow 0 e 1 v n xs)
    (ao : Option Addr) (m c : Nat) (ys : List Value) (hx : a.eval x = .slice ao m c) (hsr : Src w ao m c ys) (hb : n + m ≤ 1000000)
    (h : ∀ ao' c' w', w'.ownsRow 0 e 1 (.slice ao' (n + m) c') (n + m) (xs ++ ys) → w.grownBy w' v.ownBlock → (∀ a, ao' = some a → (v.ownBlock = some a.block ∨ a.block = w.heap.size)) → K (a.put o.dst (.slice ao' (n + m) c')) w') :
    if Region.wanted o (yielded ops a.tmps) = true then Oper.wp Try.prog o a w K Q else E' := by
  have hw : Region.wanted o (yielded ops a.tmps) = true := by simp [Region.wanted, hgd]
  rw [if_pos hw]
  obtain ⟨ao', c', w', hr, h2, h3, h4⟩ := app_run' E o.type w v n xs hown ao m c ys hsr hb
  unfold Oper.wp execOp
  simp only [ho, resolve, invoke, builtin, Sem.run_bind, Sem.run_pure, Result.andThen_ok, List.map_toArray, List.map_cons, List.map_nil, hs, hx, hr]
  exact h ao' c' w' h2 h3 h4

theorem src_row {w : World} {e : TypeId} {ao : Option Addr} {n c : Nat} {xs : List Value} (h : w.ownsRow 0 e 1 (.slice ao n c) n xs) (h1 : ∀ u ∈ xs, u.oneCell' = true) : Src w ao n c xs := by
  refine ⟨by have := h.1; omega, fun h0 => ?_, fun ad ha j u hu => ?_, h1⟩
  · rcases h.2 with ⟨hv, hz⟩ | ⟨g, cap, cur, hv, _⟩
    · simp only [Value.slice.injEq] at hv; exact ⟨hz, hv.2.2⟩
    · simp only [Value.slice.injEq] at hv; rw [h0] at hv; simp at hv
  · subst ha
    rcases h.2 with ⟨hv, _⟩ | ⟨g, cap, cur, hv, _⟩
    · simp at hv
    · simp only [Value.slice.injEq, Option.some.injEq] at hv
      obtain ⟨rfl, _, _⟩ := hv
      exact h.cells (g := g) rfl j u hu

theorem own_stay {w w' : World} {e : TypeId} {n : Nat} {v : Value} {xs : List Value} (h : w.ownsRow 0 e 1 v n xs) (hb : ∀ k, v.ownBlock = some k → w'.heap[k]? = w.heap[k]?) : w'.ownsRow 0 e 1 v n xs := by
  refine ⟨h.1, ?_⟩
  rcases h.2 with hn | ⟨g, cap, cur, rfl, hb', hg, hr⟩
  · exact .inl hn
  · exact .inr ⟨g, cap, cur, rfl, hb', (hb g rfl).trans hg, hr⟩
theorem own_lt {w : World} {e : TypeId} {n : Nat} {v : Value} {xs : List Value} (h : w.ownsRow 0 e 1 v n xs) {k : Nat} (hk : v.ownBlock = some k) : k < w.heap.size := (h.lt k hk).2
theorem own_later {w w' : World} {e : TypeId} {n : Nat} {v : Value} {xs : List Value} (h : w.ownsRow 0 e 1 v n xs) (hb : Below w.heap.size w w') : w'.ownsRow 0 e 1 v n xs := own_stay h (fun k hk => hb.block k (own_lt h hk))
/-- Rows of unlike elements lie in unlike blocks. -/
theorem own_ne {w : World} {e1 e2 : TypeId} {n1 n2 : Nat} {v1 v2 : Value} {xs1 xs2 : List Value} (h1 : w.ownsRow 0 e1 1 v1 n1 xs1) (h2 : w.ownsRow 0 e2 1 v2 n2 xs2) (he : e1 ≠ e2) {k1 k2 : Nat} (hk1 : v1.ownBlock = some k1) (hk2 : v2.ownBlock = some k2) : k1 ≠ k2 := by
  rintro rfl
  rcases h1.2 with ⟨rfl, _⟩ | ⟨g, cap, cur, rfl, _, hg, _⟩
  · cases hk1
  · cases hk1
    rcases h2.2 with ⟨rfl, _⟩ | ⟨g2, cap2, cur2, rfl, _, hg2, _⟩
    · cases hk2
    · cases hk2
      rw [hg] at hg2
      cases hg2
      exact he rfl

/-- A row of one's own, one element of which turns. -/
theorem own_set {w : World} {e : TypeId} {g n cap : Nat} {xs : List Value} (h : w.ownsRow 0 e 1 (.slice (some ⟨g, 0, none⟩) n cap) n xs) {i : Nat} (hi : i < n) (v : Value) :
    (w.setCell ⟨g, i, none⟩ v).ownsRow 0 e 1 (.slice (some ⟨g, 0, none⟩) n cap) n (xs.set i v) ∧ (∃ u, w.cell? ⟨g, i, none⟩ = some u) ∧ w.frozen? ⟨g, i, none⟩ = false := by
  rcases h.2 with ⟨hv, _⟩ | ⟨g', cap', cur, hv, hb', hg, hnc, hm, hcs, htake⟩
  · simp at hv
  · simp only [Value.slice.injEq, Option.some.injEq, Addr.mk.injEq, and_true, true_and] at hv
    obtain ⟨rfl, rfl⟩ := hv
    have hic : i < cur.size := by omega
    have hset : (w.setCell ⟨g, i, none⟩ v).heap[g]? = some (.cells (cur.setIfInBounds i v) e (0, 0)) := by
      have hgl : g < w.heap.size := (Array.getElem?_eq_some_iff.1 hg).1
      have hgv : w.heap[g] = .cells cur e (0, 0) := (Array.getElem?_eq_some_iff.1 hg).2
      simp [World.setCell, Array.getElem?_modify, hg]
    refine ⟨⟨by rw [List.length_set]; exact h.1, .inr ⟨g, cap, _, rfl, hb', hset, hnc, hm, by simpa using hcs, ?_⟩⟩, ⟨cur[i], by simp [World.cell?, hg, hic]⟩, by simp [World.frozen?, hg]⟩
    rw [Array.toList_setIfInBounds, List.take_set, htake]

end Go.Proofs.Ytkgenmooepfhjaa
