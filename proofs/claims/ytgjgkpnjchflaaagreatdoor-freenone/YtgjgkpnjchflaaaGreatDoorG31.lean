/- Rows that are appended to; no statement of the seat is proved here. -/
import Derived.Test.YtgjgkpnjchflaaaGreatDoorG16
import Derived.Laws.OwnMore
import Derived.Test.YtgjgkpnjchflaaaGreatDoorG29
namespace Go.Proofs.YtgjgkpnjchflaaaGreatDoor.Dsk
open Go.RowKit Go.Maps

/-- A slice type whose elements have one cell. -/
structure El (t e : TypeId) (z : Value) (b : Nat) : Prop where
  ht : Tryz.prog.underlying t = some (.slice e)
  hi : ∃ i, Tryz.prog.info? e = some i ∧ i.zero = some z ∧ i.size = 1 ∧ i.bytes = b
  hz : z.cells.size = 1
  hb : b ≤ 24

theorem info37 : (Tryz.prog.info? 79).map (fun i => (i.zero, i.size, i.bytes)) = some (some (.slice none 0 0), 1, 24) := by kernel_rfl
theorem el30 : El 97 4 (.bool false) 1 := ⟨Tryz.underlying97, by obtain ⟨i, h0, h1, h2, h3⟩ := info_parts info4; exact ⟨i, h0, h1, h2, h3⟩, rfl, by decide⟩
theorem el37 : El 79 5 (.int .u8 0) 1 := ⟨Tryz.underlying79, by obtain ⟨i, h0, h1, h2, h3⟩ := info_parts Tryz.info5; exact ⟨i, h0, h1, h2, h3⟩, rfl, by decide⟩

/-- What can be read of a slice. -/
structure Src (w : World) (ao : Option Addr) (m c : Nat) (ys : List Value) : Prop where
  len : ys.length = m
  no : ao = none → m = 0 ∧ c = 0
  at_ : ∀ ad, ao = some ad → ∀ j u, ys[j]? = some u → w.cell? (ad.add j) = some u
  one : ∀ u ∈ ys, u.oneCell' = true

theorem app_run {t e : TypeId} {z : Value} {b : Nat} (E : El t e z b) (ty : TypeId) (w : World) (v : Value) (n : Nat) (xs : List Value) (hown : w.ownsRow 0 e 1 v n xs) (ao : Option Addr) (m c : Nat) (ys : List Value) (hs : Src w ao m c ys) (hb : n + m ≤ 1000000) :
    ∃ v' w', (Builtin.append_ #[t, t] ty #[v, .slice ao m c]).run Tryz.prog w = .ok v' w' ∧ w'.ownsRow 0 e 1 v' (n + m) (xs ++ ys) ∧ w.grownBy w' v.ownBlock ∧ (v'.ownBlock = v.ownBlock ∨ v'.ownBlock = some w.heap.size) := by
  obtain ⟨i, hi, hz, hsz, hby⟩ := E.hi
  have hbb := E.hb
  cases ao with
  | none =>
    obtain ⟨rfl, rfl⟩ := hs.no rfl
    obtain rfl : ys = [] := List.eq_nil_of_length_eq_zero hs.len
    refine ⟨v, w, run_append_owned_none (P := Tryz.prog) (w := w) 0 t ty e i 1 E.ht hi v n xs hown, by simpa using hown, ⟨rfl, rfl, rfl, Nat.le_refl _, fun _ _ _ => rfl⟩, Or.inl rfl⟩
  | some ad =>
    have hm : (n + m) * b ≤ 1000000 * 24 := Nat.mul_le_mul hb hbb
    obtain ⟨v', w', h1, h2, h3, _, h5⟩ := run_append_own_at (P := Tryz.prog) w 0 t ty e i z 1 b E.ht hi hz hsz hby E.hz (by decide) v n xs hown ad m c ys (by rw [hs.len]; omega) (hs.at_ ad rfl) hs.one (by unfold maxLen; omega) (by omega) (Nat.zero_le _)
    exact ⟨v', w', h1, h2, h3, h5⟩

theorem row_form {w : World} {e : TypeId} {n : Nat} {v : Value} {xs : List Value} (h : w.ownsRow 0 e 1 v n xs) : ∃ ao cap, v = .slice ao n cap ∧ (ao = none → n = 0 ∧ cap = 0) ∧ ∀ a, ao = some a → a = ⟨a.block, 0, none⟩ ∧ n ≤ cap ∧ a.block < w.heap.size := by
  rcases h.2 with ⟨rfl, rfl⟩ | ⟨g, cap, cur, rfl, _, hg, hnc, _⟩
  · exact ⟨none, 0, rfl, fun _ => ⟨rfl, rfl⟩, fun a ha => by cases ha⟩
  · exact ⟨_, _, rfl, fun h => (by cases h), fun a ha => by cases ha; exact ⟨rfl, hnc, (Array.getElem?_eq_some_iff.1 hg).1⟩⟩

theorem app_run' {t e : TypeId} {z : Value} {b : Nat} (E : El t e z b) (ty : TypeId) (w : World) (v : Value) (n : Nat) (xs : List Value) (hown : w.ownsRow 0 e 1 v n xs) (ao : Option Addr) (m c : Nat) (ys : List Value) (hs : Src w ao m c ys) (hb : n + m ≤ 1000000) :
    ∃ ao' c' w', (Builtin.append_ #[t, t] ty #[v, .slice ao m c]).run Tryz.prog w = .ok (.slice ao' (n + m) c') w' ∧ w'.ownsRow 0 e 1 (.slice ao' (n + m) c') (n + m) (xs ++ ys) ∧ w.grownBy w' v.ownBlock ∧ ∀ a, ao' = some a → (v.ownBlock = some a.block ∨ a.block = w.heap.size) := by
  obtain ⟨v', w', h1, h2, h3, h4⟩ := app_run E ty w v n xs hown ao m c ys hs hb
  obtain ⟨ao', c', rfl, _⟩ := row_form h2
  refine ⟨ao', c', w', h1, h2, h3, fun a ha => ?_⟩
  subst ha
  rcases h4 with h4 | h4
  · exact Or.inl h4.symm
  · right; simpa [Value.ownBlock] using h4

theorem wpList_app {w : World} {ops : Array Oper} {rest : List Oper} {o : Oper} {a : Act} {Q : Exit → Act → World → Prop} (hgd : o.guard = none) (s x : Operand) {t e : TypeId} {z : Value} {b : Nat} (E : El t e z b)
    (ho : o.op = .call { callee := .builtin .append, args := #[s, x], argTypes := #[t, t] }) (v : Value) (n : Nat) (xs : List Value) (hs : a.eval s = v) (hown : w.ownsRow 0 e 1 v n xs)
    (ao : Option Addr) (m c : Nat) (ys : List Value) (hx : a.eval x = .slice ao m c) (hsr : Src w ao m c ys) (hb : n + m ≤ 1000000)
    (h : ∀ ao' c' w', w'.ownsRow 0 e 1 (.slice ao' (n + m) c') (n + m) (xs ++ ys) → w.grownBy w' v.ownBlock → (∀ a, ao' = some a → (v.ownBlock = some a.block ∨ a.block = w.heap.size)) → wpList Tryz.prog ops Q rest (a.put o.dst (.slice ao' (n + m) c')) w') : wpList Tryz.prog ops Q (o :: rest) a w := by
  refine wpList_plain hgd fun K hK => ?_
  obtain ⟨ao', c', w', hr, h2, h3, h4⟩ := app_run' E o.type w v n xs hown ao m c ys hsr hb
  unfold Oper.wp execOp
  simp only [ho, resolve, invoke, builtin, Sem.run_bind, Sem.run_pure, Result.andThen_ok, List.map_toArray, List.map_cons, List.map_nil, hs, hx, hr]
  exact hK _ _ (h ao' c' w' h2 h3 h4)

theorem step_app {w : World} {ops : Array Oper} {o : Oper} {a : Act} {K : Act → World → Prop} {Q : Exit → Act → World → Prop} {E' : Prop} (hgd : o.guard = none) (s x : Operand) {t e : TypeId} {z : Value} {b : Nat} (E : El t e z b)
    (ho : o.op = .call { callee := .builtin .append, args := #[s, x], argTypes := #[t, t] }) (v : Value) (n : Nat) (xs : List Value) (hs : a.eval s = v) (hown : w.ownsRow 0 e 1 v n xs)
    (ao : Option Addr) (m c : Nat) (ys : List Value) (hx : a.eval x = .slice ao m c) (hsr : Src w ao m c ys) (hb : n + m ≤ 1000000)
    (h : ∀ ao' c' w', w'.ownsRow 0 e 1 (.slice ao' (n + m) c') (n + m) (xs ++ ys) → w.grownBy w' v.ownBlock → (∀ a, ao' = some a → (v.ownBlock = some a.block ∨ a.block = w.heap.size)) → K (a.put o.dst (.slice ao' (n + m) c')) w') :
    if Region.wanted o (yielded ops a.tmps) = true then Oper.wp Tryz.prog o a w K Q else E' := by
  have hw : Region.wanted o (yielded ops a.tmps) = true := by simp [Region.wanted, hgd]
  rw [if_pos hw]
  obtain ⟨ao', c', w', hr, h2, h3, h4⟩ := app_run' E o.type w v n xs hown ao m c ys hsr hb
  unfold Oper.wp execOp
  simp only [ho, resolve, invoke, builtin, Sem.run_bind, Sem.run_pure, Result.andThen_ok, List.map_toArray, List.map_cons, List.map_nil, hs, hx, hr]
  exact h ao' c' w' h2 h3 h4

theorem src_row {w : World} {e : TypeId} {ao : Option Addr} {n c : Nat} {xs : List Value} (h : w.ownsRow 0 e 1 (.slice ao n c) n xs) (h1 : ∀ u ∈ xs, u.oneCell' = true) : Src w ao n c xs := by
  refine ⟨by have := h.1; omega, fun h0 => ?_, fun ad ha j u hu => ?_, h1⟩
  · rcases h.2 with ⟨hv, hz⟩ | ⟨g, cap, cur, hv, _⟩
    · simp only [Value.slice.injEq] at hv; exact ⟨hz, hv.2.2⟩
    · simp only [Value.slice.injEq] at hv; rw [h0] at hv; simp at hv
  · subst ha
    rcases h.2 with ⟨hv, _⟩ | ⟨g, cap, cur, hv, _⟩
    · simp at hv
    · simp only [Value.slice.injEq, Option.some.injEq] at hv
      obtain ⟨rfl, _, _⟩ := hv
      exact h.cells (g := g) rfl j u hu

theorem own_stay {w w' : World} {e : TypeId} {n : Nat} {v : Value} {xs : List Value} (h : w.ownsRow 0 e 1 v n xs) (hb : ∀ k, v.ownBlock = some k → w'.heap[k]? = w.heap[k]?) : w'.ownsRow 0 e 1 v n xs := by
  refine ⟨h.1, ?_⟩
  rcases h.2 with hn | ⟨g, cap, cur, rfl, hb', hg, hr⟩
  · exact .inl hn
  · exact .inr ⟨g, cap, cur, rfl, hb', (hb g rfl).trans hg, hr⟩
theorem own_lt {w : World} {e : TypeId} {n : Nat} {v : Value} {xs : List Value} (h : w.ownsRow 0 e 1 v n xs) {k : Nat} (hk : v.ownBlock = some k) : k < w.heap.size := (h.lt k hk).2
theorem own_later {w w' : World} {e : TypeId} {n : Nat} {v : Value} {xs : List Value} (h : w.ownsRow 0 e 1 v n xs) (hb : Below w.heap.size w w') : w'.ownsRow 0 e 1 v n xs := own_stay h (fun k hk => hb.block k (own_lt h hk))
/-- Rows of unlike elements lie in unlike blocks. -/
theorem own_ne {w : World} {e1 e2 : TypeId} {n1 n2 : Nat} {v1 v2 : Value} {xs1 xs2 : List Value} (h1 : w.ownsRow 0 e1 1 v1 n1 xs1) (h2 : w.ownsRow 0 e2 1 v2 n2 xs2) (he : e1 ≠ e2) {k1 k2 : Nat} (hk1 : v1.ownBlock = some k1) (hk2 : v2.ownBlock = some k2) : k1 ≠ k2 := by
  rintro rfl
  rcases h1.2 with ⟨rfl, _⟩ | ⟨g, cap, cur, rfl, _, hg, _⟩
  · cases hk1
  · cases hk1
    rcases h2.2 with ⟨rfl, _⟩ | ⟨g2, cap2, cur2, rfl, _, hg2, _⟩
    · cases hk2
    · cases hk2
      rw [hg] at hg2
      cases hg2
      exact he rfl

/-- A row of one's own, one element of which turns. -/
theorem own_set {w : World} {e : TypeId} {g n cap : Nat} {xs : List Value} (h : w.ownsRow 0 e 1 (.slice (some ⟨g, 0, none⟩) n cap) n xs) {i : Nat} (hi : i < n) (v : Value) :
    (w.setCell ⟨g, i, none⟩ v).ownsRow 0 e 1 (.slice (some ⟨g, 0, none⟩) n cap) n (xs.set i v) ∧ (∃ u, w.cell? ⟨g, i, none⟩ = some u) ∧ w.frozen? ⟨g, i, none⟩ = false := by
  rcases h.2 with ⟨hv, _⟩ | ⟨g', cap', cur, hv, hb', hg, hnc, hm, hcs, htake⟩
  · simp at hv
  · simp only [Value.slice.injEq, Option.some.injEq, Addr.mk.injEq, and_true, true_and] at hv
    obtain ⟨rfl, rfl⟩ := hv
    have hic : i < cur.size := by omega
    have hset : (w.setCell ⟨g, i, none⟩ v).heap[g]? = some (.cells (cur.setIfInBounds i v) e (0, 0)) := by
      have hgl : g < w.heap.size := (Array.getElem?_eq_some_iff.1 hg).1
      have hgv : w.heap[g] = .cells cur e (0, 0) := (Array.getElem?_eq_some_iff.1 hg).2
      simp [World.setCell, Array.getElem?_modify, hg]
    refine ⟨⟨by rw [List.length_set]; exact h.1, .inr ⟨g, cap, _, rfl, hb', hset, hnc, hm, by simpa using hcs, ?_⟩⟩, ⟨cur[i], by simp [World.cell?, hg, hic]⟩, by simp [World.frozen?, hg]⟩
    rw [Array.toList_setIfInBounds, List.take_set, htake]

end Go.Proofs.YtgjgkpnjchflaaaGreatDoor.Dsk

/- What a pager's calls are held against; no statement of the seat is proved here. -/
namespace Go.Proofs.YtgjgkpnjchflaaaGreatDoor
open Go.RowKit Go.Maps
open Dsk (gt hid undrew keep_old keep_cell lt_cell Rd bs bs_length bs_one own_lt own_ne own_set own_later El row_form src_row el37 op_at own_stay idx)
open Cch (Fr wpAnyK wpAnyK_take wpAnyK_pure wpAnyK_ready wpAnyK_done wp_region_K AllReadyK.cons AllReadyK.nil AllReadyK.late)
/-- A mark of the document's. -/
structure RM where
  id : Nat
  l : List Pg
  c : List Bool
/-- The document's pager. -/
structure RS where
  sure : List Pg
  now : List Pg
  c : List Bool
  busy : Bool
  marks : List RM
  last : Nat
  n : Nat
/-- The pages that count now. -/
def RS.pages (t : RS) : List Pg := if t.busy then t.now else t.sure
/-- Which pages are changed, of the first so many. -/
def chK (c : List Bool) (busy : Bool) : Nat → List Nat
  | 0 => []
  | k + 1 => chK c busy k ++ if c.getD k false && busy then [k + 1] else []
theorem chK_le (c : List Bool) (b : Bool) : ∀ k, (chK c b k).length ≤ k
  | 0 => Nat.le_refl _
  | k + 1 => by have := chK_le c b k; rw [chK, List.length_append]; split <;> simp <;> omega
theorem chK_false (c : List Bool) : ∀ k, chK c false k = []
  | 0 => rfl
  | k + 1 => by rw [chK, chK_false c k]; simp
theorem chK_true (c : List Bool) : ∀ k, k ≤ c.length → chK c true k = (List.range (k + 1)).filter fun i => (false :: c).getD i false
  | 0, _ => by simp [chK, List.range_succ]
  | k + 1, h => by
    rw [List.range_succ, List.filter_append, ← chK_true c k (by omega), chK]
    congr 1
    simp only [List.getD_cons_succ, Bool.and_true, List.filter_cons, List.filter_nil]
theorem chK_all (c : List Bool) : chK c true c.length = chL c := by rw [chK_true c _ (Nat.le_refl _), chL, idx, List.length_cons]
/-- What a commit makes of it. -/
def RS.commit (t : RS) : RS := { t with sure := t.now, busy := false, n := if chK t.c true t.c.length = [] ∧ t.now.length = t.sure.length then t.n else t.n + 1 }
theorem rr_base {w : World} {B B' n sz : Nat} {e : TypeId} {v : Value} {xs : List Value} (h : w.ownsRow B e sz v n xs) (hB : B' ≤ B) : w.ownsRow B' e sz v n xs := by
  refine ⟨h.1, ?_⟩
  rcases h.2 with hn | ⟨g, cap, cur, rfl, hb', hr⟩
  · exact .inl hn
  · exact .inr ⟨g, cap, cur, rfl, Nat.le_trans hB hb', hr⟩
theorem rr_up {w : World} {B n sz : Nat} {e : TypeId} {v : Value} {xs : List Value} (h : w.ownsRow 0 e sz v n xs) (hB : ∀ k, v.ownBlock = some k → B ≤ k) : w.ownsRow B e sz v n xs := by
  refine ⟨h.1, ?_⟩
  rcases h.2 with hn | ⟨g, cap, cur, rfl, _, hr⟩
  · exact .inl hn
  · exact .inr ⟨g, cap, cur, rfl, hB g rfl, hr⟩
theorem rr_blk {w : World} {B n sz : Nat} {e : TypeId} {v : Value} {xs : List Value} (h : w.ownsRow B e sz v n xs) {k : Nat} (hk : v.ownBlock = some k) : B ≤ k ∧ k < w.heap.size := by
  rcases h.2 with ⟨rfl, _⟩ | ⟨g, cap, cur, rfl, hb', hg, _⟩
  · cases hk
  · cases hk; exact ⟨hb', (Array.getElem?_eq_some_iff.1 hg).1⟩
theorem rr_fr {E : Nat → Prop} {w w' : World} {B n sz : Nat} {e : TypeId} {v : Value} {xs : List Value} (h : w.ownsRow B e sz v n xs) (hf : Fr E w w') (hE : ∀ k, v.ownBlock = some k → ¬ E k) : w'.ownsRow B e sz v n xs := by
  refine ⟨h.1, ?_⟩
  rcases h.2 with hn | ⟨g, cap, cur, rfl, hb', hg, hr⟩
  · exact .inl hn
  · exact .inr ⟨g, cap, cur, rfl, hb', (hf.blk g (Array.getElem?_eq_some_iff.1 hg).1 (hE g rfl)).trans hg, hr⟩
theorem rr_ne {w : World} {B1 B2 n1 n2 s1 s2 : Nat} {e1 e2 : TypeId} {v1 v2 : Value} {xs1 xs2 : List Value} (h1 : w.ownsRow B1 e1 s1 v1 n1 xs1) (h2 : w.ownsRow B2 e2 s2 v2 n2 xs2) (he : e1 ≠ e2) {k1 k2 : Nat} (hk1 : v1.ownBlock = some k1) (hk2 : v2.ownBlock = some k2) : k1 ≠ k2 := by
  rintro rfl
  rcases h1.2 with ⟨rfl, _⟩ | ⟨g, cap, cur, rfl, _, hg, _⟩
  · cases hk1
  · cases hk1
    rcases h2.2 with ⟨rfl, _⟩ | ⟨g2, cap2, cur2, rfl, _, hg2, _⟩
    · cases hk2
    · cases hk2
      rw [hg] at hg2
      cases hg2
      exact he rfl
theorem fr_alloc (E : Nat → Prop) (w : World) (o : Obj) : Fr E w (w.alloc o) := Fr.of_below (Below.alloc (Below.refl _ _) (Nat.le_refl _) _)
theorem fr_grown {w w' : World} {v : Value} (h : w.grownBy w' v.ownBlock) : Fr (fun b => v.ownBlock = some b) w w' := ⟨h.os, h.tape, h.output, h.size, fun k hk hn => h.block k hk (fun e => hn e.symm)⟩
theorem fr_setb (w : World) (b i : Nat) (v : Value) : Fr (fun k => k = b) w (w.setCell ⟨b, i, none⟩ v) := ⟨rfl, rfl, rfl, by simp, fun k _ hk => heap_setCell_other _ _ _ _ hk⟩
def RS.begin (t : RS) : RS := { t with busy := true, now := t.sure, c := List.replicate t.sure.length false, marks := [], last := 0 }
theorem rr_kind {w : World} {B n sz : Nat} {e : TypeId} {v : Value} {xs : List Value} (h : w.ownsRow B e sz v n xs) {k : Nat} (hk : v.ownBlock = some k) : ∃ cur, w.heap[k]? = some (.cells cur e (0, 0)) := by
  rcases h.2 with ⟨rfl, _⟩ | ⟨g, cap, cur, rfl, _, hg, _⟩
  · cases hk
  · cases hk; exact ⟨cur, hg⟩
def RS.put (t : RS) (i : Nat) (b : Pg) : RS := { t with now := t.now.set i b, c := t.c.set i true }
theorem lit_row (W : World) (B : Nat) (us : List Value) (e : TypeId) (hB : B ≤ W.heap.size) (hm : us.length ≤ 1000000) : (W.alloc (.cells us.toArray e)).ownsRow B e 1 (.slice (some ⟨W.heap.size, 0, none⟩) us.length us.length) us.length us :=
  ⟨by simp, .inr ⟨W.heap.size, us.length, us.toArray, rfl, hB, heap_alloc_new _ _, Nat.le_refl _, by unfold maxLen; omega, by simp, by simp⟩⟩
theorem noughts_row (W : World) (B n : Nat) (NN : Array Value) (hN : NN = Array.replicate n (.int .u8 0)) (hB : B ≤ W.heap.size) (hn : n ≤ 1000000) : (W.alloc (.cells NN 5)).ownsRow B 5 1 (.slice (some ⟨W.heap.size, 0, none⟩) n n) n (bs (List.replicate n 0)) := by
  subst hN
  have e : bs (List.replicate n 0) = List.replicate n (.int .u8 0) := by unfold bs; rw [List.map_replicate]; rfl
  rw [e]
  refine ⟨by simp, .inr ⟨W.heap.size, n, _, rfl, hB, heap_alloc_new _ _, Nat.le_refl _, by unfold maxLen; omega, by simp, ?_⟩⟩
  simp
def RS.grow (t : RS) : RS := { t with now := t.now ++ [zeros], c := t.c ++ [true] }
def RS.shrink (t : RS) (n : Nat) : RS := { t with now := t.now.take n, c := t.c.take n }
theorem src_take {w : World} {ao : Option Addr} {m n c : Nat} {xs : List Value} (h : Dsk.Src w ao n c xs) (hm : m ≤ n) : Dsk.Src w ao m c (xs.take m) :=
  ⟨by rw [List.length_take, h.len]; omega, fun h0 => ⟨by have := (h.no h0).1; omega, (h.no h0).2⟩, fun ad ha j u hu => h.at_ ad ha j u (by rw [List.getElem?_take] at hu; split at hu; exact hu; cases hu), fun u hu => h.one u (List.mem_of_mem_take hu)⟩
/-- A slice type whose elements have three cells. -/
structure El3 (t e : TypeId) (z : Value) (b : Nat) : Prop where
  ht : Tryz.prog.underlying t = some (.slice e)
  hi : ∃ i, Tryz.prog.info? e = some i ∧ i.zero = some z ∧ i.size = 3 ∧ i.bytes = b
  hz : z.cells.size = 3
  hb : b ≤ 64
theorem info102 : (Tryz.prog.info? 259).map (fun i => (i.zero, i.size, i.bytes)) = some (some (.agg #[.int .i64 0, .int .i64 0, .map none]), 3, 24) := by kernel_rfl
theorem u74 : Tryz.prog.underlying 76 = some (.slice 259) := by kernel_rfl
theorem el74 : El3 76 259 (.agg #[.int .i64 0, .int .i64 0, .map none]) 24 := ⟨u74, by obtain ⟨i, h0, h1, h2, h3⟩ := info_parts info102; exact ⟨i, h0, h1, h2, h3⟩, by decide, by decide⟩
structure Src3 (w : World) (ao : Option Addr) (m c : Nat) (ys : List Value) : Prop where
  len : ys.length = m * 3
  no : ao = none → m = 0 ∧ c = 0
  at_ : ∀ ad, ao = some ad → ∀ j u, ys[j]? = some u → w.cell? (ad.add j) = some u
  one : ∀ u ∈ ys, u.oneCell' = true
theorem row_form3 {w : World} {B n : Nat} {e : TypeId} {v : Value} {xs : List Value} (h : w.ownsRow B e 3 v n xs) : ∃ ao cap, v = .slice ao n cap ∧ (ao = none → n = 0 ∧ cap = 0) ∧ ∀ a, ao = some a → a = ⟨a.block, 0, none⟩ ∧ n ≤ cap ∧ a.block < w.heap.size := by
  rcases h.2 with ⟨rfl, rfl⟩ | ⟨g, cap, cur, rfl, _, hg, hnc, _⟩
  · exact ⟨none, 0, rfl, fun _ => ⟨rfl, rfl⟩, fun a ha => by cases ha⟩
  · exact ⟨_, _, rfl, fun h => (by cases h), fun a ha => by cases ha; exact ⟨rfl, hnc, (Array.getElem?_eq_some_iff.1 hg).1⟩⟩
theorem app3_run {t e : TypeId} {z : Value} {b : Nat} (E : El3 t e z b) (ty : TypeId) (w : World) (v : Value) (n : Nat) (xs : List Value) (hown : w.ownsRow 0 e 3 v n xs) (ao : Option Addr) (m c : Nat) (ys : List Value) (hs : Src3 w ao m c ys) (hb : n + m ≤ 1000000) :
    ∃ ao' c' w', (Builtin.append_ #[t, t] ty #[v, .slice ao m c]).run Tryz.prog w = .ok (.slice ao' (n + m) c') w' ∧ w'.ownsRow 0 e 3 (.slice ao' (n + m) c') (n + m) (xs ++ ys) ∧ w.grownBy w' v.ownBlock ∧ ∀ a, ao' = some a → (v.ownBlock = some a.block ∨ a.block = w.heap.size) := by
  obtain ⟨i, hi, hz, hsz, hby⟩ := E.hi
  have hbb := E.hb
  have key : ∃ v' w', (Builtin.append_ #[t, t] ty #[v, .slice ao m c]).run Tryz.prog w = .ok v' w' ∧ w'.ownsRow 0 e 3 v' (n + m) (xs ++ ys) ∧ w.grownBy w' v.ownBlock ∧ (v'.ownBlock = v.ownBlock ∨ v'.ownBlock = some w.heap.size) := by
    cases ao with
    | none =>
      obtain ⟨rfl, rfl⟩ := hs.no rfl
      obtain rfl : ys = [] := List.eq_nil_of_length_eq_zero (by rw [hs.len])
      exact ⟨v, w, run_append_owned_none (P := Tryz.prog) (w := w) 0 t ty e i 3 E.ht hi v n xs hown, by simpa using hown, ⟨rfl, rfl, rfl, Nat.le_refl _, fun _ _ _ => rfl⟩, Or.inl rfl⟩
    | some ad =>
      have hm : (n + m) * b ≤ 1000000 * 64 := Nat.mul_le_mul hb hbb
      obtain ⟨v', w', h1, h2, h3, _, h5⟩ := run_append_own_at (P := Tryz.prog) w 0 t ty e i z 3 b E.ht hi hz hsz hby E.hz (by decide) v n xs hown ad m c ys hs.len (hs.at_ ad rfl) hs.one (by unfold maxLen; omega) (by omega) (Nat.zero_le _)
      exact ⟨v', w', h1, h2, h3, h5⟩
  obtain ⟨v', w', h1, h2, h3, h4⟩ := key
  obtain ⟨ao', c', rfl, _⟩ := row_form3 h2
  refine ⟨ao', c', w', h1, h2, h3, fun a ha => ?_⟩
  subst ha
  rcases h4 with h4 | h4
  · exact Or.inl h4.symm
  · right; simpa [Value.ownBlock] using h4
theorem wpList_app3 {w : World} {ops : Array Oper} {rest : List Oper} {o : Oper} {a : Act} {Q : Exit → Act → World → Prop} (hgd : o.guard = none) (s x : Operand) {t e : TypeId} {z : Value} {b : Nat} (E : El3 t e z b)
    (ho : o.op = .call { callee := .builtin .append, args := #[s, x], argTypes := #[t, t] }) (v : Value) (n : Nat) (xs : List Value) (hs : a.eval s = v) (hown : w.ownsRow 0 e 3 v n xs)
    (ao : Option Addr) (m c : Nat) (ys : List Value) (hx : a.eval x = .slice ao m c) (hsr : Src3 w ao m c ys) (hb : n + m ≤ 1000000)
    (h : ∀ ao' c' w', w'.ownsRow 0 e 3 (.slice ao' (n + m) c') (n + m) (xs ++ ys) → w.grownBy w' v.ownBlock → (∀ a, ao' = some a → (v.ownBlock = some a.block ∨ a.block = w.heap.size)) → wpList Tryz.prog ops Q rest (a.put o.dst (.slice ao' (n + m) c')) w') : wpList Tryz.prog ops Q (o :: rest) a w := by
  refine wpList_plain hgd fun K hK => ?_
  obtain ⟨ao', c', w', hr, h2, h3, h4⟩ := app3_run E o.type w v n xs hown ao m c ys hsr hb
  unfold Oper.wp execOp
  simp only [ho, resolve, invoke, builtin, Sem.run_bind, Sem.run_pure, Result.andThen_ok, List.map_toArray, List.map_cons, List.map_nil, hs, hx, hr]
  exact hK _ _ (h ao' c' w' h2 h3 h4)
theorem step_app3 {w : World} {ops : Array Oper} {o : Oper} {a : Act} {K : Act → World → Prop} {Q : Exit → Act → World → Prop} {E' : Prop} (hgd : o.guard = none) (s x : Operand) {t e : TypeId} {z : Value} {b : Nat} (E : El3 t e z b)
    (ho : o.op = .call { callee := .builtin .append, args := #[s, x], argTypes := #[t, t] }) (v : Value) (n : Nat) (xs : List Value) (hs : a.eval s = v) (hown : w.ownsRow 0 e 3 v n xs)
    (ao : Option Addr) (m c : Nat) (ys : List Value) (hx : a.eval x = .slice ao m c) (hsr : Src3 w ao m c ys) (hb : n + m ≤ 1000000)
    (h : ∀ ao' c' w', w'.ownsRow 0 e 3 (.slice ao' (n + m) c') (n + m) (xs ++ ys) → w.grownBy w' v.ownBlock → (∀ a, ao' = some a → (v.ownBlock = some a.block ∨ a.block = w.heap.size)) → K (a.put o.dst (.slice ao' (n + m) c')) w') :
    if Region.wanted o (yielded ops a.tmps) = true then Oper.wp Tryz.prog o a w K Q else E' := by
  have hw : Region.wanted o (yielded ops a.tmps) = true := by simp [Region.wanted, hgd]
  rw [if_pos hw]
  obtain ⟨ao', c', w', hr, h2, h3, h4⟩ := app3_run E o.type w v n xs hown ao m c ys hsr hb
  unfold Oper.wp execOp
  simp only [ho, resolve, invoke, builtin, Sem.run_bind, Sem.run_pure, Result.andThen_ok, List.map_toArray, List.map_cons, List.map_nil, hs, hx, hr]
  exact h ao' c' w' h2 h3 h4
theorem src3_row {w : World} {e : TypeId} {ao : Option Addr} {n c : Nat} {xs : List Value} (h : w.ownsRow 0 e 3 (.slice ao n c) n xs) (h1 : ∀ u ∈ xs, u.oneCell' = true) : Src3 w ao n c xs := by
  refine ⟨h.1, fun h0 => ?_, fun ad ha j u hu => ?_, h1⟩
  · rcases h.2 with ⟨hv, hz⟩ | ⟨g, cap, cur, hv, _⟩
    · simp only [Value.slice.injEq] at hv; exact ⟨hz, hv.2.2⟩
    · simp only [Value.slice.injEq] at hv; rw [h0] at hv; simp at hv
  · subst ha
    rcases h.2 with ⟨hv, _⟩ | ⟨g, cap, cur, hv, _⟩
    · simp at hv
    · simp only [Value.slice.injEq, Option.some.injEq] at hv
      obtain ⟨rfl, _, _⟩ := hv
      exact h.cells (g := g) rfl j u hu
theorem src3_take {w : World} {ao : Option Addr} {m n c : Nat} {xs : List Value} (h : Src3 w ao n c xs) (hm : m ≤ n) : Src3 w ao m c (xs.take (m * 3)) :=
  ⟨by rw [List.length_take, h.len]; omega, fun h0 => ⟨by have := (h.no h0).1; omega, (h.no h0).2⟩, fun ad ha j u hu => h.at_ ad ha j u (by rw [List.getElem?_take] at hu; split at hu; exact hu; cases hu), fun u hu => h.one u (List.mem_of_mem_take hu)⟩
theorem lit_row3 (W : World) (B : Nat) (a b c : Value) (e : TypeId) (hB : B ≤ W.heap.size) : (W.alloc (.cells #[a, b, c] e)).ownsRow B e 3 (.slice (some ⟨W.heap.size, 0, none⟩) 1 1) 1 [a, b, c] :=
  ⟨by simp, .inr ⟨W.heap.size, 1, #[a, b, c], rfl, hB, heap_alloc_new _ _, Nat.le_refl _, by unfold maxLen; omega, by simp, by simp⟩⟩
def RS.mark (t : RS) : RS := { t with last := t.last + 1, marks := t.marks ++ [⟨t.last + 1, t.now, t.c⟩] }
def RS.undo (t : RS) (i : Nat) : RS := { t with now := (t.marks.getD i ⟨0, [], []⟩).l, c := (t.marks.getD i ⟨0, [], []⟩).c, marks := t.marks.take (i + 1) }
theorem lt_kind {w : World} {k : Nat} {o : Obj} (h : w.heap[k]? = some o) : k < w.heap.size := (Array.getElem?_eq_some_iff.1 h).1
end Go.Proofs.YtgjgkpnjchflaaaGreatDoor
