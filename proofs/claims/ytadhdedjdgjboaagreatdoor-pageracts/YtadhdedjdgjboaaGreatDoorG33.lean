/- Rows that are appended to; no statement of the seat is proved here. -/
import Derived.Test.YtadhdedjdgjboaaGreatDoorG16
import Derived.Laws.OwnMore
import Derived.Test.YtadhdedjdgjboaaGreatDoorG25
import Derived.Test.YtadhdedjdgjboaaGreatDoorG18
import Derived.Test.YtadhdedjdgjboaaGreatDoorG26
import Derived.Test.YtadhdedjdgjboaaGreatDoorG24
import Derived.Test.YtadhdedjdgjboaaGreatDoorG17
set_option maxHeartbeats 16000000
set_option maxRecDepth 20000
namespace Go.Proofs.YtadhdedjdgjboaaGreatDoor
namespace Dsk
open Go.RowKit Go.Maps
structure El (t e : TypeId) (z : Value) (b : Nat) : Prop where
 ht : Tryz.prog.underlying t = some (.slice e)
 hi : ∃ i, Tryz.prog.info? e = some i ∧ i.zero = some z ∧ i.size = 1 ∧ i.bytes = b
 hz : z.cells.size = 1
 hb : b ≤ 24
theorem info37 : (Tryz.prog.info? 60).map (fun i => (i.zero, i.size, i.bytes)) = some (some (.slice none 0 0), 1, 24) := by kernel_rfl
theorem u66 : Tryz.prog.underlying 31 = some (.slice 60) := by kernel_rfl
theorem el66 : El 31 60 (.slice none 0 0) 24 := ⟨u66, by obtain ⟨i, h0, h1, h2, h3⟩ := info_parts info37; exact ⟨i, h0, h1, h2, h3⟩, rfl, by decide⟩
theorem el30 : El 32 4 (.bool false) 1 := ⟨Tryz.underlying32, by obtain ⟨i, h0, h1, h2, h3⟩ := info_parts info4; exact ⟨i, h0, h1, h2, h3⟩, rfl, by decide⟩
theorem el37 : El 60 5 (.int .u8 0) 1 := ⟨Tryz.underlying60, by obtain ⟨i, h0, h1, h2, h3⟩ := info_parts Tryz.info5; exact ⟨i, h0, h1, h2, h3⟩, rfl, by decide⟩
structure Src (w : World) (ao : Option Addr) (m c : Nat) (ys : List Value) : Prop where
 len : ys.length = m
 no : ao = none → m = 0 ∧ c = 0
 at_ : ∀ ad, ao = some ad → ∀ j u, ys[j]? = some u → w.cell? (ad.add j) = some u
 one : ∀ u ∈ ys, u.oneCell' = true
variable {b : Nat} {z : Value} {t e : TypeId}
theorem app_run (E : El t e z b) (ty : TypeId) (w : World) (v : Value) (n : Nat) (xs : List Value) (hown : w.ownsRow 0 e 1 v n xs) (ao : Option Addr) (m c : Nat) (ys : List Value) (hs : Src w ao m c ys) (hb : n + m ≤ 1000000) :
   ∃ v' w', (Builtin.append_ #[t, t] ty #[v, .slice ao m c]).run Tryz.prog w = .ok v' w' ∧ w'.ownsRow 0 e 1 v' (n + m) (xs ++ ys) ∧ w.grownBy w' v.ownBlock ∧ (v'.ownBlock = v.ownBlock ∨ v'.ownBlock = some w.heap.size) := by
 obtain ⟨i, hi, hz, hsz, hby⟩ := E.hi
 have hbb := E.hb
 cases ao with
 | none =>
   obtain ⟨rfl, rfl⟩ := hs.no rfl
   obtain rfl : ys = [] := List.eq_nil_of_length_eq_zero hs.len
   refine ⟨v, w, run_append_owned_none (P := Tryz.prog) (w := w) 0 t ty e i 1 E.ht hi v n xs hown, by simpa using hown, ⟨rfl, rfl, rfl, Nat.le_refl _, fun _ _ _ => rfl⟩, Or.inl rfl⟩
 | some ad =>
   have hm : (n + m) * b ≤ 1000000 * 24 := Nat.mul_le_mul hb hbb
   obtain ⟨v', w', h1, h2, h3, _, h5⟩ := run_append_own_at (P := Tryz.prog) w 0 t ty e i z 1 b E.ht hi hz hsz hby E.hz (by decide) v n xs hown ad m c ys (by rw [hs.len]; omega) (hs.at_ ad rfl) hs.one (by unfold maxLen; omega) (by omega) (Nat.zero_le _)
   exact ⟨v', w', h1, h2, h3, h5⟩
variable {xs : List Value} {v : Value} {n : Nat} {w : World}
theorem row_form (h : w.ownsRow 0 e 1 v n xs) : ∃ ao cap, v = .slice ao n cap ∧ (ao = none → n = 0 ∧ cap = 0) ∧ ∀ a, ao = some a → a = ⟨a.block, 0, none⟩ ∧ n ≤ cap ∧ a.block < w.heap.size := by
 rcases h.2 with ⟨rfl, rfl⟩ | ⟨g, cap, cur, rfl, _, hg, hnc, _⟩
 · exact ⟨none, 0, rfl, fun _ => ⟨rfl, rfl⟩, fun a ha => by cases ha⟩
 · exact ⟨_, _, rfl, fun h => (by cases h), fun a ha => by cases ha; exact ⟨rfl, hnc, (Array.getElem?_eq_some_iff.1 hg).1⟩⟩
theorem app_run' (E : El t e z b) (ty : TypeId) (w : World) (v : Value) (n : Nat) (xs : List Value) (hown : w.ownsRow 0 e 1 v n xs) (ao : Option Addr) (m c : Nat) (ys : List Value) (hs : Src w ao m c ys) (hb : n + m ≤ 1000000) :
   ∃ ao' c' w', (Builtin.append_ #[t, t] ty #[v, .slice ao m c]).run Tryz.prog w = .ok (.slice ao' (n + m) c') w' ∧ w'.ownsRow 0 e 1 (.slice ao' (n + m) c') (n + m) (xs ++ ys) ∧ w.grownBy w' v.ownBlock ∧ ∀ a, ao' = some a → (v.ownBlock = some a.block ∨ a.block = w.heap.size) := by
 obtain ⟨v', w', h1, h2, h3, h4⟩ := app_run E ty w v n xs hown ao m c ys hs hb
 obtain ⟨ao', c', rfl, _⟩ := row_form h2
 refine ⟨ao', c', w', h1, h2, h3, fun a ha => ?_⟩
 subst ha
 rcases h4 with h4 | h4
 · exact Or.inl h4.symm
 · right; simpa [Value.ownBlock] using h4
variable {a : Act} {o : Oper} {ops : Array Oper}
theorem wpList_app {rest : List Oper} {Q : Exit → Act → World → Prop} (hgd : o.guard = none) (s x : Operand) {t e : TypeId} {z : Value} {b : Nat} (E : El t e z b)
   (ho : o.op = .call { callee := .builtin .append, args := #[s, x], argTypes := #[t, t] }) (v : Value) (n : Nat) (xs : List Value) (hs : a.eval s = v) (hown : w.ownsRow 0 e 1 v n xs)
   (ao : Option Addr) (m c : Nat) (ys : List Value) (hx : a.eval x = .slice ao m c) (hsr : Src w ao m c ys) (hb : n + m ≤ 1000000)
   (h : ∀ ao' c' w', w'.ownsRow 0 e 1 (.slice ao' (n + m) c') (n + m) (xs ++ ys) → w.grownBy w' v.ownBlock → (∀ a, ao' = some a → (v.ownBlock = some a.block ∨ a.block = w.heap.size)) → wpList Tryz.prog ops Q rest (a.put o.dst (.slice ao' (n + m) c')) w') : wpList Tryz.prog ops Q (o :: rest) a w := by
 refine wpList_plain hgd fun K hK => ?_
 obtain ⟨ao', c', w', hr, h2, h3, h4⟩ := app_run' E o.type w v n xs hown ao m c ys hsr hb
 unfold Oper.wp execOp
 simp only [ho, resolve, invoke, builtin, Sem.run_bind, Sem.run_pure, Result.andThen_ok, List.map_toArray, List.map_cons, List.map_nil, hs, hx, hr]
 exact hK _ _ (h ao' c' w' h2 h3 h4)
theorem step_app {K : Act → World → Prop} {Q : Exit → Act → World → Prop} {E' : Prop} (hgd : o.guard = none) (s x : Operand) {t e : TypeId} {z : Value} {b : Nat} (E : El t e z b)
   (ho : o.op = .call { callee := .builtin .append, args := #[s, x], argTypes := #[t, t] }) (v : Value) (n : Nat) (xs : List Value) (hs : a.eval s = v) (hown : w.ownsRow 0 e 1 v n xs)
   (ao : Option Addr) (m c : Nat) (ys : List Value) (hx : a.eval x = .slice ao m c) (hsr : Src w ao m c ys) (hb : n + m ≤ 1000000)
   (h : ∀ ao' c' w', w'.ownsRow 0 e 1 (.slice ao' (n + m) c') (n + m) (xs ++ ys) → w.grownBy w' v.ownBlock → (∀ a, ao' = some a → (v.ownBlock = some a.block ∨ a.block = w.heap.size)) → K (a.put o.dst (.slice ao' (n + m) c')) w') :
   if Region.wanted o (yielded ops a.tmps) = true then Oper.wp Tryz.prog o a w K Q else E' := by
 have hw : Region.wanted o (yielded ops a.tmps) = true := by simp [Region.wanted, hgd]
 rw [if_pos hw]
 obtain ⟨ao', c', w', hr, h2, h3, h4⟩ := app_run' E o.type w v n xs hown ao m c ys hsr hb
 unfold Oper.wp execOp
 simp only [ho, resolve, invoke, builtin, Sem.run_bind, Sem.run_pure, Result.andThen_ok, List.map_toArray, List.map_cons, List.map_nil, hs, hx, hr]
 exact h ao' c' w' h2 h3 h4
theorem src_row {ao : Option Addr} {c : Nat} (h : w.ownsRow 0 e 1 (.slice ao n c) n xs) (h1 : ∀ u ∈ xs, u.oneCell' = true) : Src w ao n c xs := by
 refine ⟨by have := h.1; omega, fun h0 => ?_, fun ad ha j u hu => ?_, h1⟩
 · rcases h.2 with ⟨hv, hz⟩ | ⟨g, cap, cur, hv, _⟩
   · simp only [Value.slice.injEq] at hv; exact ⟨hz, hv.2.2⟩
   · simp only [Value.slice.injEq] at hv; rw [h0] at hv; simp at hv
 · subst ha
   rcases h.2 with ⟨hv, _⟩ | ⟨g, cap, cur, hv, _⟩
   · simp at hv
   · simp only [Value.slice.injEq, Option.some.injEq] at hv
     obtain ⟨rfl, _, _⟩ := hv
     exact h.cells (g := g) rfl j u hu
variable {w' : World}
theorem own_stay (h : w.ownsRow 0 e 1 v n xs) (hb : ∀ k, v.ownBlock = some k → w'.heap[k]? = w.heap[k]?) : w'.ownsRow 0 e 1 v n xs := by
 refine ⟨h.1, ?_⟩
 rcases h.2 with hn | ⟨g, cap, cur, rfl, hb', hg, hr⟩
 · exact .inl hn
 · exact .inr ⟨g, cap, cur, rfl, hb', (hb g rfl).trans hg, hr⟩
theorem own_lt (h : w.ownsRow 0 e 1 v n xs) {k : Nat} (hk : v.ownBlock = some k) : k < w.heap.size := (h.lt k hk).2
theorem own_later (h : w.ownsRow 0 e 1 v n xs) (hb : Below w.heap.size w w') : w'.ownsRow 0 e 1 v n xs := own_stay h (fun k hk => hb.block k (own_lt h hk))
theorem own_set {g cap : Nat} (h : w.ownsRow 0 e 1 (.slice (some ⟨g, 0, none⟩) n cap) n xs) {i : Nat} (hi : i < n) (v : Value) :
   (w.setCell ⟨g, i, none⟩ v).ownsRow 0 e 1 (.slice (some ⟨g, 0, none⟩) n cap) n (xs.set i v) ∧ (∃ u, w.cell? ⟨g, i, none⟩ = some u) ∧ w.frozen? ⟨g, i, none⟩ = false := by
 rcases h.2 with ⟨hv, _⟩ | ⟨g', cap', cur, hv, hb', hg, hnc, hm, hcs, htake⟩
 · simp at hv
 · simp only [Value.slice.injEq, Option.some.injEq, Addr.mk.injEq, and_true, true_and] at hv
   obtain ⟨rfl, rfl⟩ := hv
   have hic : i < cur.size := by omega
   have hset : (w.setCell ⟨g, i, none⟩ v).heap[g]? = some (.cells (cur.setIfInBounds i v) e (0, 0)) := by
     have hgl : g < w.heap.size := (Array.getElem?_eq_some_iff.1 hg).1
     have hgv : w.heap[g] = .cells cur e (0, 0) := (Array.getElem?_eq_some_iff.1 hg).2
     simp [World.setCell, Array.getElem?_modify, hg]
   refine ⟨⟨by rw [List.length_set]; exact h.1, .inr ⟨g, cap, _, rfl, hb', hset, hnc, hm, by simpa using hcs, ?_⟩⟩, ⟨cur[i], by simp [World.cell?, hg, hic]⟩, by simp [World.frozen?, hg]⟩
   rw [Array.toList_setIfInBounds, List.take_set, htake]
end Dsk
section
open Go.RowKit Go.Maps
open Dsk (gt hid undrew keep_old keep_cell lt_cell Rd bs bs_length own_stay own_lt own_later own_set El Src)
def PageAt (w : World) (S : Nat → Prop) (v : Value) (x : Pg) : Prop := w.ownsRow 0 5 1 v 512 (bs x) ∧ ∀ k, v.ownBlock = some k → S k
structure PagesAt (w : World) (S : Nat → Prop) (vs : List Value) (l : List Pg) : Prop where
 len : vs.length = l.length
 at_ : ∀ (i : Nat) (v : Value) (x : Pg), vs[i]? = some v → l[i]? = some x → PageAt w S v x
variable {x : Pg} {v : Value} {S : Nat → Prop} {w : World}
theorem PageAt.form (h : PageAt w S v x) : ∃ g cap, v = .slice (some ⟨g, 0, none⟩) 512 cap ∧ 512 ≤ cap ∧ g < w.heap.size ∧ S g := by
 rcases h.1.2 with ⟨_, h0⟩ | ⟨g, cap, cur, rfl, _, hg, hnc, _⟩
 · cases h0
 · exact ⟨g, cap, rfl, hnc, (Array.getElem?_eq_some_iff.1 hg).1, h.2 g rfl⟩
theorem PageAt.one (h : PageAt w S v x) : v.oneCell' = true := by
 obtain ⟨g, cap, rfl, _⟩ := h.form; rfl
variable {S' : Nat → Prop} {w' : World}
theorem PageAt.stay (h : PageAt w S v x) (hb : ∀ k, v.ownBlock = some k → w'.heap[k]? = w.heap[k]?) (hs : ∀ k, S k → S' k) : PageAt w' S' v x :=
 ⟨own_stay h.1 hb, fun k hk => hs k (h.2 k hk)⟩
variable {l : List Pg} {vs : List Value}
theorem PagesAt.stay (h : PagesAt w S vs l) (hb : ∀ (i : Nat) (v : Value) (x : Pg), vs[i]? = some v → PageAt w S v x → ∀ k, v.ownBlock = some k → w'.heap[k]? = w.heap[k]?) (hs : ∀ k, S k → S' k) : PagesAt w' S' vs l :=
 ⟨h.len, fun i v x hv hx => (h.at_ i v x hv hx).stay (hb i v x hv (h.at_ i v x hv hx)) hs⟩
theorem PagesAt.one (h : PagesAt w S vs l) : ∀ u ∈ vs, u.oneCell' = true := by
 intro u hu
 obtain ⟨i, hi, rfl⟩ := List.mem_iff_getElem.1 hu
 exact (h.at_ i vs[i] (l[i]'(by rw [← h.len]; exact hi)) (List.getElem?_eq_getElem hi) (List.getElem?_eq_getElem _)).one
theorem PagesAt.get (h : PagesAt w S vs l) {i : Nat} (hi : i < l.length) : ∃ v, vs[i]? = some v ∧ PageAt w S v (l.getD i []) := by
 have hi' : i < vs.length := by rw [h.len]; exact hi
 refine ⟨vs[i], List.getElem?_eq_getElem hi', ?_⟩
 rw [List.getD, List.getElem?_eq_getElem hi]
 exact h.at_ i _ _ (List.getElem?_eq_getElem hi') (List.getElem?_eq_getElem hi)
theorem PagesAt.set (h : PagesAt w S vs l) (i : Nat) {v : Value} {x : Pg} (hv : PageAt w S v x) : PagesAt w S (vs.set i v) (l.set i x) := by
 refine ⟨by simp [h.len], fun j u y hu hy => ?_⟩
 rw [List.getElem?_set] at hu hy
 by_cases hij : i = j
 · subst hij
   rw [if_pos rfl] at hu hy
   split at hu <;> simp at hu
   split at hy <;> simp at hy
   subst hu; subst hy; exact hv
 · rw [if_neg hij] at hu hy; exact h.at_ j u y hu hy
theorem PagesAt.snoc (h : PagesAt w S vs l) {v : Value} {x : Pg} (hv : PageAt w S v x) : PagesAt w S (vs ++ [v]) (l ++ [x]) := by
 refine ⟨by simp [h.len], fun j u y hu hy => ?_⟩
 have hl := h.len
 rcases Nat.lt_trichotomy j vs.length with h1 | h1 | h1
 · rw [List.getElem?_append_left h1] at hu; rw [List.getElem?_append_left (by omega)] at hy; exact h.at_ j u y hu hy
 · subst h1
   rw [List.getElem?_append_right (Nat.le_refl _)] at hu; rw [List.getElem?_append_right (by omega)] at hy
   simp at hu; rw [hl] at hy; simp at hy
   subst hu; subst hy; exact hv
 · rw [List.getElem?_eq_none (by simp; omega)] at hu; cases hu
theorem PagesAt.take (h : PagesAt w S vs l) (n : Nat) : PagesAt w S (vs.take n) (l.take n) := by
 refine ⟨by simp [h.len], fun j u y hu hy => ?_⟩
 rw [List.getElem?_take] at hu hy
 split at hu
 · rename_i hj; rw [if_pos hj] at hy; exact h.at_ j u y hu hy
 · cases hu
def bv (c : List Bool) : List Value := c.map Value.bool
theorem bv_one (c : List Bool) : ∀ u ∈ bv c, u.oneCell' = true := by
 intro u hu
 obtain ⟨b, _, rfl⟩ := List.mem_map.1 hu
 rfl
structure LAt (w : World) (S : Nat → Prop) (v : Value) (l : List Pg) : Prop where
 row : ∃ vs, w.ownsRow 0 60 1 v l.length vs ∧ PagesAt w S vs l
 own : ∀ k, v.ownBlock = some k → S k
structure BAt (w : World) (S : Nat → Prop) (v : Value) (c : List Bool) : Prop where
 row : w.ownsRow 0 4 1 v c.length (bv c)
 own : ∀ k, v.ownBlock = some k → S k
theorem LAt.stay (h : LAt w S v l) (hb : ∀ k, k < w.heap.size → S k → w'.heap[k]? = w.heap[k]?) (hs : ∀ k, S k → S' k) : LAt w' S' v l := by
 obtain ⟨vs, hr, hp⟩ := h.row
 exact ⟨⟨vs, own_stay hr (fun k hk => hb k (own_lt hr hk) (h.own k hk)), hp.stay (fun i u x _ hx k hk => hb k (own_lt hx.1 hk) (hx.2 k hk)) hs⟩, fun k hk => hs k (h.own k hk)⟩
theorem BAt.stay {c : List Bool} (h : BAt w S v c) (hb : ∀ k, k < w.heap.size → S k → w'.heap[k]? = w.heap[k]?) (hs : ∀ k, S k → S' k) : BAt w' S' v c :=
 ⟨own_stay h.row (fun k hk => hb k (own_lt h.row hk) (h.own k hk)), fun k hk => hs k (h.own k hk)⟩
structure RM where
 id : Nat
 l : List Pg
 c : List Bool
structure RS where
 sure : List Pg
 now : List Pg
 c : List Bool
 busy : Bool
 marks : List RM
 last : Nat
 n : Nat
structure RV where
 sv : Value
 nv : Value
 cv : Value
 mv : Value
 ml : List (Value × Value)
def mcells : List RM → List (Value × Value) → List Value
 | m :: ms, v :: vs => .int .i64 (m.id : Int) :: v.1 :: v.2 :: mcells ms vs
 | _, _ => []
structure RefP (w : World) (r : Nat) (S : Nat → Prop) (V : RV) (t : RS) : Prop where
 box : w.heap[r]? = some (.cells #[V.sv, V.nv, V.cv, .bool t.busy, V.mv, .int .i64 (t.last : Int), .int .i64 (t.n : Int)] 35 (0, 0))
 nr : ¬ S r
 lt : ∀ k, S k → k < w.heap.size
 sure : LAt w S V.sv t.sure
 now : LAt w S V.nv t.now
 c : BAt w S V.cv t.c
 cn : t.c.length = t.now.length
 mrow : w.ownsRow 0 129 3 V.mv t.marks.length (mcells t.marks V.ml)
 mown : ∀ k, V.mv.ownBlock = some k → S k
 mlen : V.ml.length = t.marks.length
 each : ∀ (i : Nat) (m : RM) (v : Value × Value), t.marks[i]? = some m → V.ml[i]? = some v → LAt w S v.1 m.l ∧ BAt w S v.2 m.c
 ap : t.busy = true → (∀ k, V.nv.ownBlock = some k → V.sv.ownBlock ≠ some k ∧ ∀ v ∈ V.ml, v.1.ownBlock ≠ some k) ∧ ∀ k, V.cv.ownBlock = some k → ∀ v ∈ V.ml, v.2.ownBlock ≠ some k
variable {t : RS} {V : RV} {r : Nat}
theorem RefP.cells (h : RefP w r S V t) : w.cell? ⟨r, 0, none⟩ = some V.sv ∧ w.cell? ⟨r, 1, none⟩ = some V.nv ∧ w.cell? ⟨r, 2, none⟩ = some V.cv ∧ w.cell? ⟨r, 3, none⟩ = some (.bool t.busy) ∧ w.cell? ⟨r, 4, none⟩ = some V.mv ∧ w.cell? ⟨r, 5, none⟩ = some (.int .i64 (t.last : Int)) ∧ w.cell? ⟨r, 6, none⟩ = some (.int .i64 (t.n : Int)) := by
 refine ⟨?_, ?_, ?_, ?_, ?_, ?_, ?_⟩ <;> (rw [World.cell?, h.box]; rfl)
theorem RefP.rlt (h : RefP w r S V t) : r < w.heap.size := lt_cell h.cells.1
theorem own3_stay {e : TypeId} {sz n : Nat} {xs : List Value} (h : w.ownsRow 0 e sz v n xs) (hb : ∀ k, v.ownBlock = some k → w'.heap[k]? = w.heap[k]?) : w'.ownsRow 0 e sz v n xs := by
 refine ⟨h.1, ?_⟩
 rcases h.2 with hn | ⟨g, cap, cur, rfl, hb', hg, hr⟩
 · exact .inl hn
 · exact .inr ⟨g, cap, cur, rfl, hb', (hb g rfl).trans hg, hr⟩
theorem RefP.stay (h : RefP w r S V t) (hs : w.heap.size ≤ w'.heap.size) (hb : ∀ k, k < w.heap.size → (S k ∨ k = r) → w'.heap[k]? = w.heap[k]?) : RefP w' r S V t :=
 ⟨(hb r h.rlt (Or.inr rfl)).trans h.box, h.nr, fun k hk => Nat.lt_of_lt_of_le (h.lt k hk) hs, h.sure.stay (fun k hk hS => hb k hk (Or.inl hS)) (fun _ h => h), h.now.stay (fun k hk hS => hb k hk (Or.inl hS)) (fun _ h => h), h.c.stay (fun k hk hS => hb k hk (Or.inl hS)) (fun _ h => h), h.cn,
   own3_stay h.mrow (fun k hk => hb k (h.lt k (h.mown k hk)) (Or.inl (h.mown k hk))), h.mown, h.mlen, fun i m v hm hv => ⟨(h.each i m v hm hv).1.stay (fun k hk hS => hb k hk (Or.inl hS)) (fun _ h => h), (h.each i m v hm hv).2.stay (fun k hk hS => hb k hk (Or.inl hS)) (fun _ h => h)⟩, h.ap⟩
theorem RefP.later (h : RefP w r S V t) (hb : Below w.heap.size w w') : RefP w' r S V t := h.stay hb.size (fun k hk _ => hb.block k hk)
end
section
open Go.RowKit Go.Maps
open Dsk (gt hid undrew keep_old keep_cell lt_cell Rd bs bs_length own_stay own_lt own_later own_set El Src row_form)
variable {S : Nat → Prop} {w : World}
theorem LAt.form {v : Value} {l : List Pg} (h : LAt w S v l) : ∃ ao cap, v = .slice ao l.length cap ∧ (ao = none → l.length = 0 ∧ cap = 0) ∧ ∀ a, ao = some a → a = ⟨a.block, 0, none⟩ ∧ l.length ≤ cap ∧ a.block < w.heap.size := by
 obtain ⟨vs, hr, _⟩ := h.row
 exact row_form hr
def RS.pages (t : RS) : List Pg := if t.busy then t.now else t.sure
def RV.pages (V : RV) (t : RS) : Value := if t.busy then V.nv else V.sv
variable {t : RS} {V : RV} {r : Nat}
theorem RefP.pages (h : RefP w r S V t) : LAt w S (V.pages t) t.pages := by
 unfold RV.pages RS.pages
 split
 · exact h.now
 · exact h.sure
theorem rpages_any (r : Nat) (S : Nat → Prop) (V : RV) (t : RS) (w : World) (h : RefP w r S V t) : Calls Tryz.prog 54 #[.pointer (some ⟨r, 0, none⟩)] w fun e w' => e = .returned (V.pages t) ∧ w' = w := by
 obtain ⟨c0, c1, _, c3, _⟩ := h.cells
 unfold RV.pages
 clear h
 generalize hb : t.busy = b at *
 clear hb
 obtain ⟨sv, hsv⟩ : ∃ sv, V.sv = sv := ⟨_, rfl⟩
 obtain ⟨nv, hnv⟩ : ∃ nv, V.nv = nv := ⟨_, rfl⟩
 rw [hsv] at c0 ⊢; rw [hnv] at c1 ⊢
 clear hsv hnv
 cases b
 · go_enter Tryz.func54, Tryz.ntmps54
   go_wp2
   go_ret
   exact ⟨rfl, rfl⟩
 · go_enter Tryz.func54, Tryz.ntmps54
   go_wp2
   go_ret
   exact ⟨rfl, rfl⟩
theorem rPages_any (r : Nat) (S : Nat → Prop) (V : RV) (t : RS) (w : World) (h : RefP w r S V t) : Calls Tryz.prog 13 #[.pointer (some ⟨r, 0, none⟩)] w fun e w' => e = .returned (.int .i64 (t.pages.length : Int)) ∧ w' = w := by
 have c := rpages_any r S V t w h
 obtain ⟨ao, cap, hv, _, _⟩ := h.pages.form
 rw [hv] at c
 have C := hid c
 clear c h hv
 generalize t.pages.length = n at *
 go_enter Tryz.func13, Tryz.ntmps13
 go_wp2_with (go_at_call 54; refine C.out.mono ?_; rintro e w1 ⟨rfl, hw1⟩; obtain rfl := hw1.symm)
 go_ret
 exact ⟨rfl, rfl⟩
structure BoxTo (w w' : World) (r : Nat) (cs : Array Value) : Prop where
 box : w'.heap[r]? = some (.cells cs 35 (0, 0))
 size : w'.heap.size = w.heap.size
 other : ∀ k, k ≠ r → w'.heap[k]? = w.heap[k]?
 os : w'.os = w.os
 tape : w'.tape = w.tape
 output : w'.output = w.output
theorem RefP.boxed {w' : World} {V' : RV} {t' : RS} (h : RefP w r S V t) (hb : BoxTo w w' r #[V'.sv, V'.nv, V'.cv, .bool t'.busy, V'.mv, .int .i64 (t'.last : Int), .int .i64 (t'.n : Int)])
   (hs : LAt w S V'.sv t'.sure) (hn : LAt w S V'.nv t'.now) (hc : BAt w S V'.cv t'.c) (hcn : t'.c.length = t'.now.length) (hm : V'.mv = V.mv ∧ V'.ml = V.ml ∧ t'.marks = t.marks)
   (ha : t'.busy = true → (∀ k, V'.nv.ownBlock = some k → V'.sv.ownBlock ≠ some k ∧ ∀ v ∈ V'.ml, v.1.ownBlock ≠ some k) ∧ ∀ k, V'.cv.ownBlock = some k → ∀ v ∈ V'.ml, v.2.ownBlock ≠ some k) : RefP w' r S V' t' := by
 have ho : ∀ k, k < w.heap.size → S k → w'.heap[k]? = w.heap[k]? := fun k _ hS => hb.other k (fun e => h.nr (e ▸ hS))
 refine ⟨hb.box, h.nr, fun k hk => by rw [hb.size]; exact h.lt k hk, hs.stay ho (fun _ h => h), hn.stay ho (fun _ h => h), hc.stay ho (fun _ h => h), hcn, ?_, ?_, ?_, ?_, ha⟩
 · rw [hm.1, hm.2.1, hm.2.2]; exact own3_stay h.mrow (fun k hk => ho k (h.lt k (h.mown k hk)) (h.mown k hk))
 · rw [hm.1]; exact h.mown
 · rw [hm.2.1, hm.2.2]; exact h.mlen
 · rw [hm.2.1, hm.2.2]; exact fun i m v hm hv => ⟨(h.each i m v hm hv).1.stay ho (fun _ h => h), (h.each i m v hm hv).2.stay ho (fun _ h => h)⟩
end
section
open Go.RowKit Go.Maps
open Dsk (gt hid undrew keep_old keep_cell lt_cell Rd bs bs_length bs_one own_stay own_lt own_later own_set El Src row_form src_row el37 el66 el30 wpList_app here_op)
variable {S : Nat → Prop} {r : Nat} {w : World}
theorem RefP.frozen {V : RV} {t : RS} (h : RefP w r S V t) (i : Nat) : w.frozen? ⟨r, i, none⟩ = false := by
 rw [World.frozen?, h.box]; rfl
theorem BoxTo.set {i : Nat} {cs : List Value} {v : Value} (h : w.heap[r]? = some (.cells cs.toArray 35 (0, 0))) : BoxTo w (w.setCell ⟨r, i, none⟩ v) r (cs.set i v).toArray :=
 ⟨Cch.blk_set h, by simp, fun k hk => heap_setCell_other _ _ _ _ hk, rfl, rfl, rfl⟩
theorem rrollback_no (r : Nat) (S : Nat → Prop) (V : RV) (t : RS) (w : World) (h : RefP w r S V t) (hb : t.busy = false) : Calls Tryz.prog 51 #[.pointer (some ⟨r, 0, none⟩)] w fun e w' => e = .returned (.int .i64 6) ∧ w' = w := by
 obtain ⟨_, _, _, c3, _⟩ := h.cells
 rw [hb] at c3
 clear h
 go_enter Tryz.func51, Tryz.ntmps51
 go_wp2
 go_ret
 exact ⟨rfl, rfl⟩
theorem rrollback_yes (r : Nat) (S : Nat → Prop) (V : RV) (t : RS) (w : World) (h : RefP w r S V t) (hb : t.busy = true) : Calls Tryz.prog 51 #[.pointer (some ⟨r, 0, none⟩)] w fun e w' => e = .returned (.int .i64 0) ∧ RefP w' r S V { t with busy := false } ∧ Cch.Fr (fun b => b = r) w w' := by
 obtain ⟨_, _, _, c3, _⟩ := h.cells
 rw [hb] at c3
 have f3 := h.frozen 3
 have H := hid h
 clear h
 go_enter Tryz.func51, Tryz.ntmps51
 go_wp2
 go_ret
 have B := BoxTo.set (i := 3) (v := .bool false) H.out.box
 exact ⟨rfl, H.out.boxed (V' := V) (t' := { t with busy := false }) B H.out.sure H.out.now H.out.c H.out.cn ⟨rfl, rfl, rfl⟩ (fun h => by cases h), ⟨rfl, rfl, rfl, by simp, fun k _ hk => B.other k hk⟩⟩
theorem rget_no (r : Nat) (S : Nat → Prop) (V : RV) (t : RS) (n : Int) (w : World) (h : RefP w r S V t) (hn : n < 1 ∨ (t.pages.length : Int) < n) : Calls Tryz.prog 52 #[.pointer (some ⟨r, 0, none⟩), .int .i64 n] w fun e w' => e = .returned (.tuple #[.slice none 0 0, .int .i64 11]) ∧ w' = w := by
 have c := rpages_any r S V t w h
 obtain ⟨ao, cap, hv, _, _⟩ := h.pages.form
 rw [hv] at c
 have C := hid c
 clear c h hv
 generalize t.pages.length = L at *
 by_cases h1 : n < 1
 · go_enter Tryz.func52, Tryz.ntmps52
   go_wp2_with (go_at_call 54; refine C.out.mono ?_; rintro e w1 ⟨rfl, hw1⟩; obtain rfl := hw1.symm)
   go_ret2
   exact ⟨rfl, rfl⟩
 · have h2 : (L : Int) < n := by omega
   go_enter Tryz.func52, Tryz.ntmps52
   go_wp2_with (go_at_call 54; refine C.out.mono ?_; rintro e w1 ⟨rfl, hw1⟩; obtain rfl := hw1.symm)
   go_ret2
   exact ⟨rfl, rfl⟩
theorem LAt.at {ao : Option Addr} {n cap : Nat} {l : List Pg} (h : LAt w S (.slice ao n cap) l) {i : Nat} (hi : i < l.length) : ∃ b v, ao = some ⟨b, 0, none⟩ ∧ w.cell? ⟨b, i, none⟩ = some v ∧ PageAt w S v (l.getD i []) := by
 obtain ⟨vs, hr, hp⟩ := h.row
 obtain ⟨v, hv, hpv⟩ := hp.get hi
 obtain ⟨ao', cap', he, hn, ha⟩ := row_form hr
 simp only [Value.slice.injEq] at he
 obtain ⟨rfl, rfl, rfl⟩ := he
 cases ao with
 | none => have := (hn rfl).1; omega
 | some a =>
   obtain ⟨e1, _, _⟩ := ha a rfl
   rw [e1] at hr ⊢
   exact ⟨a.block, v, rfl, by have h9 := hr.cells (g := a.block) rfl i v hv; rw [Addr.add_lit] at h9; simpa using h9, hpv⟩
theorem rget_yes (r : Nat) (S : Nat → Prop) (V : RV) (t : RS) (i : Nat) (w : World) (h : RefP w r S V t) (hi : i < t.pages.length) (hl : t.pages.length ≤ 4000) : Calls Tryz.prog 52 #[.pointer (some ⟨r, 0, none⟩), .int .i64 ((i + 1 : Nat) : Int)] w fun e w' => ∃ v, e = .returned (.tuple #[v, .int .i64 0]) ∧ w'.ownsRow 0 5 1 v 512 (bs (t.pages.getD i [])) ∧ Below w.heap.size w w' := by
 have c := rpages_any r S V t w h
 have hL := h.pages
 obtain ⟨ao, cap, hv, _, _⟩ := h.pages.form
 rw [hv] at c hL
 obtain ⟨b, v, rfl, hc, hp⟩ := hL.at hi
 obtain ⟨g, gc, rfl, hgc, hgl, _⟩ := hp.form
 have hb1 : Below w.heap.size w (w.alloc (.cells #[] 5)) := (Below.refl _ _).alloc (Nat.le_refl _) _
 have sr := hid (src_row (own_later hp.1 hb1) (bs_one _))
 have C := hid c
 have hc1 := keep_old hb1 hc
 clear c h hv hL hp hb1
 obtain ⟨x, hx⟩ : ∃ x, x = t.pages.getD i [] := ⟨_, rfl⟩
 rw [← hx] at sr ⊢
 clear hx
 generalize t.pages.length = L at *
 obtain ⟨N, hN⟩ : ∃ N : Int, N = ((i + 1 : Nat) : Int) := ⟨_, rfl⟩
 rw [← hN]
 have n1 : ¬ N < 1 := by omega
 have n2 : ¬ (L : Int) < N := by omega
 have n3 : N - 1 = (i : Int) := by omega
 have n4 : IntKind.i64.wrap (N - 1) = (i : Int) := by rw [IntWalk.i64_in _ ⟨by omega, by omega⟩]; exact n3
 clear hN
 go_enter Tryz.func52, Tryz.ntmps52
 go_wp2_with (first
   | (go_at_call 54; refine C.out.mono ?_; rintro e w1 ⟨rfl, hw1⟩; obtain rfl := hw1.symm)
   | ((with_reducible refine here_op 23 ?_); refine wpList_app rfl (.tmp 17) (.tmp 22) el37 rfl (.slice (some ⟨w.heap.size, 0, none⟩) 0 0) 0 [] rfl (World.ownsRow_made w #[] 0 (Nat.zero_le _) (by decide) rfl) (some ⟨g, 0, none⟩) 512 gc _ rfl sr.out (by omega) ?_; simp only [Nat.zero_add, List.nil_append]; intro a2 n2' w2 ho2 hg2 hat2; have hb2 : Hid (Below w.heap.size w w2) := hid (((Below.refl _ w).alloc (Nat.le_refl _) _).grown hg2 (by simp) (fun k hk => by simp [Value.ownBlock] at hk; omega)); have HO2 := hid ho2; clear ho2 hg2 hat2))
 go_ret2
 exact ⟨_, rfl, HO2.out, hb2.out⟩
end
section
open Go.RowKit Go.Maps
open Dsk (gt hid undrew keep_old keep_cell lt_cell Rd bs bs_length bs_one own_stay own_lt own_later own_set row_form idx)
def chK (c : List Bool) (busy : Bool) : Nat → List Nat
 | 0 => []
 | k + 1 => chK c busy k ++ if c.getD k false && busy then [k + 1] else []
theorem chK_le (c : List Bool) (b : Bool) : ∀ k, (chK c b k).length ≤ k
 | 0 => Nat.le_refl _
 | k + 1 => by have := chK_le c b k; rw [chK, List.length_append]; split <;> simp <;> omega
theorem chK_false (c : List Bool) : ∀ k, chK c false k = []
 | 0 => rfl
 | k + 1 => by rw [chK, chK_false c k]; simp
theorem chK_true (c : List Bool) : ∀ k, k ≤ c.length → chK c true k = (List.range (k + 1)).filter fun i => (false :: c).getD i false
 | 0, _ => by simp [chK, List.range_succ]
 | k + 1, h => by
   rw [List.range_succ, List.filter_append, ← chK_true c k (by omega), chK]
   congr 1
   simp only [List.getD_cons_succ, Bool.and_true, List.filter_cons, List.filter_nil]
theorem chK_all (c : List Bool) : chK c true c.length = chL c := by rw [chK_true c _ (Nat.le_refl _), chL, idx, List.length_cons]
theorem rchanged_any (r : Nat) (S : Nat → Prop) (V : RV) (t : RS) (w : World) (h : RefP w r S V t) (hl : t.c.length ≤ 4000) :
   Calls Tryz.prog 18 #[.pointer (some ⟨r, 0, none⟩)] w fun e w' => ∃ ao cp, e = .returned (.slice ao (chK t.c t.busy t.c.length).length cp) ∧ w'.ownsRow w.heap.size 3 1 (.slice ao (chK t.c t.busy t.c.length).length cp) (chK t.c t.busy t.c.length).length (zI (chK t.c t.busy t.c.length)) ∧ Below w.heap.size w w' := by
 obtain ⟨_, _, c2, c3, _⟩ := h.cells
 obtain ⟨ao, cap, hv, hno, hso⟩ := row_form h.c.row
 have hrow := h.c.row
 rw [hv] at c2 hrow
 clear h hv
 generalize t.c = c at *
 generalize t.busy = b at *
 obtain ⟨L, hL⟩ : ∃ L, L = c.length := ⟨_, rfl⟩
 rw [← hL] at c2 hrow hl hno hso ⊢
 have at_ : ∀ k, k < L → ∃ g, ao = some ⟨g, 0, none⟩ ∧ w.cell? ⟨g, k, none⟩ = some (.bool (c.getD k false)) := by
   intro k hk
   cases ao with
   | none => have := (hno rfl).1; omega
   | some a =>
     obtain ⟨e1, _, _⟩ := hso a rfl
     rw [e1] at hrow ⊢
     refine ⟨a.block, rfl, ?_⟩
     have h9 := hrow.cells (g := a.block) rfl k (.bool (c.getD k false)) (by rw [bv, List.getElem?_map, List.getD, List.getElem?_eq_getElem (by omega)]; rfl)
     rw [Addr.add_lit] at h9; simpa using h9
 have AT := hid at_
 have hcap : L ≤ cap := by
   cases ao with
   | none => have := (hno rfl).1; omega
   | some a => exact (hso a rfl).2.1
 clear at_ hrow hno hso hL
 go_enter Tryz.func18, Tryz.ntmps18
 go_wp2
 go_loopw [3, 11] (fun v3 v11 W => ∃ (k : Nat) (ao : Option Addr) (cp : Nat), k ≤ L ∧ v11 = .int .i64 (k : Int) ∧ v3 = .slice ao (chK c b k).length cp ∧ Hid (W.ownsRow w.heap.size 3 1 (.slice ao (chK c b k).length cp) (chK c b k).length (zI (chK c b k))) ∧ Hid (Below w.heap.size w W)) (fun _ v11 _ => L - (Lib.intOf v11).toNat)
 case atStart => exact ⟨0, none, 0, by omega, rfl, rfl, hid ⟨rfl, Or.inl ⟨rfl, rfl⟩⟩, hid (Below.refl _ _)⟩
 case round =>
   obtain ⟨k, ao3, cp, hk, rfl, rfl, O, B⟩ := hrel
   have hMb := chK_le c b k
   have hsz := B.out.size
   by_cases hkL : k < L
   · obtain ⟨g, rfl, hg0⟩ := AT.out k hkL
     have hg := keep_old B.out hg0
     have hkI : (k : Int) < (L : Int) := by omega
     have r3 := keep_old B.out c3
     clear hg0
     obtain ⟨M, hM⟩ : ∃ M, (chK c b k).length = M := ⟨_, rfl⟩
     rw [hM] at O hMb ⊢
     have HM := hid hM
     clear hM
     by_cases hck : c.getD k false = true
     · rw [hck] at hg
       by_cases hbb : b = true
       · subst hbb
         have e1 : IntKind.i64.wrap ((k : Int) + 1) = ((k + 1 : Nat) : Int) := by rw [IntWalk.i64_in _ ⟨by omega, by omega⟩]; omega
         obtain ⟨J, hJ⟩ : ∃ J, J = k + 1 := ⟨_, rfl⟩
         rw [← hJ] at e1
         have HJ := hid hJ
         have SR := hid (lit_src wr [.int .i64 (J : Int)] 3 (by intro x hx; simp at hx; subst hx; rfl))
         have b4 : Below wr.heap.size wr (wr.alloc (.cells #[.int .i64 (J : Int)] 3)) := Below.alloc (Below.refl _ _) (Nat.le_refl _) _
         have O3 := hid (own_under O.out (fun k hk => b4.block k (own_bound (ownsRow_base_a O.out (Nat.zero_le _)) hk)))
         have HB4 := hid b4
         have HCK := hid hck
         clear b4 hJ hck
         go_wp2_with ((with_reducible refine Dsk.here_op 27 ?_); refine Cch.wpList_app rfl (.tmp 23) (.tmp 26) el41 rfl (.slice ao3 M cp) M _ rfl (ownsRow_base_a O3.out (Nat.zero_le _)) (some ⟨wr.heap.size, 0, none⟩) 1 1 [.int .i64 (J : Int)] rfl SR.out (by omega) ?_; intro a7 c7 w7 ho7 hg7 ha7; have O7 := hid ho7; have G7 := hid hg7; have A7 := hid ha7; clear ho7 hg7 ha7)
         have hsucc : chK c true (k + 1) = chK c true k ++ [k + 1] := by rw [chK, HCK.out]; rfl
         have hMl : (chK c true (k + 1)).length = M + 1 := by rw [hsucc, List.length_append, HM.out]; rfl
         have hz : zI (chK c true (k + 1)) = zI (chK c true k) ++ [.int .i64 (J : Int)] := by rw [hsucc, zI_append, HJ.out]; rfl
         have hblk : ∀ a, a7 = some a → w.heap.size ≤ a.block := fun a ha => by
           rcases A7.out a ha with h1 | h1
           · exact own_blk O.out h1
           · have h2 := HB4.out.size; omega
         have hB7 : Below w.heap.size w w7 := (gt B.out HB4.out).grown G7.out (by have := HB4.out.size; omega) (fun k hk => own_blk O.out hk)
         refine ⟨⟨k + 1, a7, c7, by omega, by rw [HJ.out], by rw [hMl], hid ?_, hid hB7⟩, by have := HJ.out; simp [Lib.intOf]; omega⟩
         rw [hMl, hz]
         exact own_up O7.out hblk
       · have hbf : b = false := by simpa using hbb
         subst hbf
         have e1 : IntKind.i64.wrap ((k : Int) + 1) = ((k + 1 : Nat) : Int) := by rw [IntWalk.i64_in _ ⟨by omega, by omega⟩]; omega
         have hsucc : chK c false (k + 1) = chK c false k := by rw [chK_false, chK_false]
         clear hck
         go_wp2
         refine ⟨⟨k + 1, ao3, cp, by omega, by first | rfl | rw [e1], by rw [hsucc, HM.out], hid (by rw [hsucc, HM.out]; exact O.out), B⟩, by simp [Lib.intOf]; omega⟩
     · have hcf : c.getD k false = false := by simpa using hck
       rw [hcf] at hg
       have e1 : IntKind.i64.wrap ((k : Int) + 1) = ((k + 1 : Nat) : Int) := by rw [IntWalk.i64_in _ ⟨by omega, by omega⟩]; omega
       have hsucc : chK c b (k + 1) = chK c b k := by rw [chK, hcf]; simp
       clear hck hcf
       go_wp2
       refine ⟨⟨k + 1, ao3, cp, by omega, by first | rfl | rw [e1], by rw [hsucc, HM.out], hid (by rw [hsucc, HM.out]; exact O.out), B⟩, by simp [Lib.intOf]; omega⟩
   · obtain rfl : k = L := by omega
     go_wp2
     go_ret
     exact ⟨ao3, cp, rfl, O.out, B.out⟩
end
section
open Go.RowKit Go.Maps
open Dsk (gt hid undrew keep_old keep_cell lt_cell Rd bs bs_length op_at)
open Cch (Fr wpAnyK wpAnyK_take wpAnyK_pure wpAnyK_ready wpAnyK_done wp_region_K AllReadyK.cons AllReadyK.nil)
variable {cs : List Value} {r : Nat} {w w1 : World}
theorem BoxTo.more {i : Nat} {v : Value} (h : BoxTo w w1 r cs.toArray) : BoxTo w (w1.setCell ⟨r, i, none⟩ v) r (cs.set i v).toArray :=
 ⟨Cch.blk_set h.box, by simpa using h.size, fun k hk => (heap_setCell_other _ _ _ _ hk).trans (h.other k hk), h.os, h.tape, h.output⟩
theorem BoxTo.refl (h : w.heap[r]? = some (.cells cs.toArray 35 (0, 0))) : BoxTo w w r cs.toArray := ⟨h, rfl, fun _ _ => rfl, rfl, rfl, rfl⟩
theorem BoxTo.fr {w' : World} {cs : Array Value} (h : BoxTo w w' r cs) : Fr (fun b => b = r) w w' := ⟨h.os, h.tape, h.output, by rw [h.size]; exact Nat.le_refl _, fun k _ hk => h.other k hk⟩
theorem rcommit_no (r : Nat) (S : Nat → Prop) (V : RV) (t : RS) (w : World) (h : RefP w r S V t) (hb : t.busy = false) : Calls Tryz.prog 28 #[.pointer (some ⟨r, 0, none⟩)] w fun e w' => e = .returned (.int .i64 6) ∧ w' = w := by
 obtain ⟨_, _, _, c3, _⟩ := h.cells
 rw [hb] at c3
 clear h
 go_enter Tryz.func28, Tryz.ntmps28
 go_wp2
 go_ret
 exact ⟨rfl, rfl⟩
def RS.commit (t : RS) : RS := { t with sure := t.now, busy := false, n := if chK t.c true t.c.length = [] ∧ t.now.length = t.sure.length then t.n else t.n + 1 }
theorem box_commit {S : Nat → Prop} {V : RV} {t : RS} (h : RefP w r S V t) (hf : Below w.heap.size w w1) (b : Bool) (w' : World) (hw : w' = (((if b then w1.setCell ⟨r, 6, none⟩ (.int .i64 ((t.n + 1 : Nat) : Int)) else w1).setCell ⟨r, 0, none⟩ V.nv).setCell ⟨r, 3, none⟩ (.bool false)))
   (hb : (b = true) ↔ ¬ (chK t.c true t.c.length = [] ∧ t.now.length = t.sure.length)) : RefP w' r S { V with sv := V.nv } t.commit ∧ Fr (fun b => b = r) w w' := by
 have h1 := h.later hf
 have hB : BoxTo w1 w' r #[V.nv, V.nv, V.cv, .bool false, V.mv, .int .i64 (t.last : Int), .int .i64 (t.commit.n : Int)] := by
   cases b
   · have e : t.commit.n = t.n := by unfold RS.commit; simp only; rw [if_pos (by simpa using hb)]
     rw [e, hw]
     exact ((BoxTo.refl h1.box).more (i := 0) (v := V.nv)).more (i := 3) (v := .bool false)
   · have e : t.commit.n = t.n + 1 := by unfold RS.commit; simp only; rw [if_neg (by simpa using hb)]
     rw [e, hw]
     exact (((BoxTo.refl h1.box).more (i := 6) (v := .int .i64 ((t.n + 1 : Nat) : Int))).more (i := 0) (v := V.nv)).more (i := 3) (v := .bool false)
 have f1 := hB.fr
 exact ⟨h1.boxed (V' := { V with sv := V.nv }) (t' := t.commit) hB h1.now h1.now h1.c h1.cn ⟨rfl, rfl, rfl⟩ (fun h => by cases h),
   ⟨f1.os.trans hf.os, f1.tape.trans hf.tape, f1.output.trans hf.output, Nat.le_trans hf.size f1.size, fun k hk hn => (f1.blk k (Nat.lt_of_lt_of_le hk hf.size) hn).trans (hf.block k hk)⟩⟩
theorem rcommit_yes (r : Nat) (S : Nat → Prop) (V : RV) (t : RS) (w : World) (h : RefP w r S V t) (hb : t.busy = true) (hl : t.c.length ≤ 4000) (hn : t.n ≤ 1000000) : Calls Tryz.prog 28 #[.pointer (some ⟨r, 0, none⟩)] w fun e w' => e = .returned (.int .i64 0) ∧ RefP w' r S { V with sv := V.nv } t.commit ∧ Fr (fun b => b = r) w w' := by
 obtain ⟨aS, cS, hSV, _, _⟩ := h.sure.form
 obtain ⟨aN, cN, hNV, _, _⟩ := h.now.form
 have C0 := rchanged_any r S V t w.drew (h.later (Below.refl _ _).drew) hl
 rw [hb] at C0
 obtain ⟨_, _, _, c3, _⟩ := h.cells
 rw [hb] at c3
 have H := hid h; have HSV := hid hSV; have HNV := hid hNV
 have hcn := h.cn
 have fin := hid (fun (w1 : World) (hf : Below w.heap.size w w1) (b : Bool) (w' : World) hw hb => box_commit h hf b w' hw hb)
 have fz := hid (fun (w1 : World) (hf : Below w.heap.size w w1) (i : Nat) => (h.later hf).frozen i)
 have cl := hid (fun (w1 : World) (hf : Below w.heap.size w w1) => (h.later hf).cells)
 have e1 : IntKind.i64.wrap ((t.n : Int) + 1) = ((t.n + 1 : Nat) : Int) := by rw [IntWalk.i64_in _ ⟨by omega, by omega⟩]; omega
 obtain ⟨N, hN⟩ : ∃ N, (chK t.c true t.c.length).length = N := ⟨_, rfl⟩
 rw [hN] at C0
 have C := hid C0
 clear C0 h hSV hNV
 by_cases h0 : 0 < N
 · have HN : (0 : Int) < (N : Int) := by omega
   go_enter Tryz.func28, Tryz.ntmps28
   go_wp2
   refine wp_region_K (S := Gr w.drew) (fun _ => false) (by kernel_rfl) (Below.refl _ _) (fun hHeld => ?_)
   refine gkp 0 ?_
   refine gk1 1 (fun K hK => ?_)
   go_simp
   go_at_call 18; refine C.out.mono ?_; rintro e w1 ⟨a1, p1, rfl, _, hR⟩; replace hR : Gr w.drew w1 := hR; have B1 := hid hR
   refine hK.out _ _ hR (fun hHeld => ?_)
   clear hK K
   (try simp only [Act.put, sA, sZ, sS])
   clear hR
   refine gkp 2 ?_
   refine gkp 3 ?_
   refine gkp 4 ?_ (v := .bool true) (h := by intro W hSw; go_simp; first | done | with_reducible rfl | simp [HN])
   refine gku 5 ?_
   refine gku 6 ?_
   refine gku 7 ?_
   refine gku 8 ?_
   refine gku 9 ?_
   refine gku 10 ?_
   refine gku 11 ?_
   refine gku 12 ?_
   refine gku 13 ?_
   refine gku 14 ?_
   refine gku 15 ?_
   refine gkp 16 ?_
   refine wpAnyK_done (by kernel_rfl) ?_ _
   have hB := undrew B1.out
   have HB := hid hB
   obtain ⟨d0, d1, d2, d3, d4, d5, d6⟩ := cl.out w1 hB
   rw [HSV.out] at d0; rw [HNV.out] at d1
   have z0 := fz.out w1 hB 0; have z3 := fz.out w1 hB 3; have z6 := fz.out w1 hB 6
   clear hB hHeld
   go_wp2
   go_ret
   exact ⟨rfl, fin.out w1 HB.out true _ (by rw [if_pos rfl, HNV.out]; rfl) (by simp; intro h9; rw [h9] at hN; simp at hN; omega)⟩
 · have hN0 : N = 0 := by omega
   subst hN0
   have HN : ¬ (0 : Int) < ((0 : Nat) : Int) := by omega
   go_enter Tryz.func28, Tryz.ntmps28
   go_wp2
   refine wp_region_K (S := Gr w.drew) (fun _ => false) (by kernel_rfl) (Below.refl _ _) (fun hHeld => ?_)
   refine gkp 0 ?_
   refine gk1 1 (fun K hK => ?_)
   go_simp
   go_at_call 18; refine C.out.mono ?_; rintro e w1 ⟨a1, p1, rfl, _, hR⟩; replace hR : Gr w.drew w1 := hR; have B1 := hid hR
   refine hK.out _ _ hR (fun hHeld => ?_)
   clear hK K
   (try simp only [Act.put, sA, sZ, sS])
   clear hR
   refine gkp 2 ?_
   refine gkp 3 ?_
   refine gkp 4 ?_ (v := .bool false) (h := by intro W hSw; go_simp; first | done | with_reducible rfl | simp [HN])
   refine gkp 5 ?_
   refine gkp 6 ?_
   refine gkp 7 ?_
   refine gkt 8 ?_ (h := by intro W hSw; obtain ⟨d0, d1, _⟩ := (H.out.later (undrew hSw)).cells; rw [HSV.out] at d0; rw [HNV.out] at d1; go_simp; first | done | with_reducible rfl)
   refine gkp 9 ?_
   refine gkp 10 ?_
   refine gkp 11 ?_
   refine gkp 12 ?_
   refine gkt 13 ?_ (h := by intro W hSw; obtain ⟨d0, d1, _⟩ := (H.out.later (undrew hSw)).cells; rw [HSV.out] at d0; rw [HNV.out] at d1; go_simp; first | done | with_reducible rfl)
   refine gkp 14 ?_
   refine gkp 15 ?_
   refine gkp 16 ?_
   refine wpAnyK_done (by kernel_rfl) ?_ _
   have hB := undrew B1.out
   have HB := hid hB
   obtain ⟨d0, d1, d2, d3, d4, d5, d6⟩ := cl.out w1 hB
   rw [HSV.out] at d0; rw [HNV.out] at d1
   have z0 := fz.out w1 hB 0; have z3 := fz.out w1 hB 3; have z6 := fz.out w1 hB 6
   have hnil : chK t.c true t.c.length = [] := List.eq_nil_of_length_eq_zero hN
   clear hB hHeld hN
   by_cases hq : t.now.length = t.sure.length
   · go_wp2
     go_ret
     exact ⟨rfl, fin.out w1 HB.out false _ (by rw [if_neg (by simp), HNV.out, hq]) (by simp [hnil, hq])⟩
   · go_wp2
     go_ret
     exact ⟨rfl, fin.out w1 HB.out true _ (by rw [if_pos rfl, HNV.out]; rfl) (by simp [hnil, hq])⟩
end
end Go.Proofs.YtadhdedjdgjboaaGreatDoor
