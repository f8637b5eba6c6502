/- What the document's own functions Put and Var return; no statement of the seat is proved here. What a source is in memory, and what its next does; no statement of the seat is proved here. What assemble and gather do with a source's next; no statement of the seat is proved here. What Read, Num, Var, End and Left do with a source that is in order; no statement of the seat is proved here. How structs, bools and slices of bytes that came in as arguments are read; no statement of the seat is proved here. The program's source of bytes, in order or out of it: Int and End; no statement of the seat is proved here. The document's source of bytes, where there are enough: Read, Int; no statement of the seat is proved here. -/
import Derived.Test.YtjlahomjhadnkaaXa
import Derived.ProofKit
import Derived.OpenShut
import Derived.ChangeSlices
namespace Go.Proofs.Ytjlahomjhadnkaa
namespace Oct
open Go.RowKit

set_option maxRecDepth 100000 in
/-- 'append' onto a slice of the call's own, of bytes that can be read. -/
theorem wpList_append_rd {w : World} {ops : Array Oper} {rest : List Oper} {o : Oper} {a : Act} {Q : Exit → Act → World → Prop} (hgd : o.guard = none) (s x : Operand)
    (ho : o.op = .call { callee := .builtin .append, args := #[s, x], argTypes := #[51, 51] }) (B : Nat) (v : Value) (n : Nat) (xs : List Nat) (hs : a.eval s = v) (hown : w.ownsRow B 5 1 v n (bs xs))
    (ao : Option Addr) (m c : Nat) (ys : List Nat) (hx : a.eval x = .slice ao m c) (hr : Rd w ao m c ys) (hb : n + m ≤ 140737488355328) (hB : B ≤ w.heap.size)
    (h : ∀ v' w', w'.ownsRow B 5 1 v' (n + m) (bs (xs ++ ys)) → Below B w w' → wpList Try.prog ops Q rest (a.put o.dst v') w') : wpList Try.prog ops Q (o :: rest) a w := by
  obtain ⟨i5, hi5, hz0, hz1, hz2⟩ := info_parts Try.info5
  obtain ⟨hl, hc, hno, hat⟩ := hr
  cases ao with
  | none =>
    obtain ⟨rfl, rfl⟩ := hno rfl
    obtain rfl : ys = [] := List.eq_nil_of_length_eq_zero hl
    refine wpList_append_own_none hgd s x 51 ho B 5 i5 1 Try.underlying51 hi5 v n (bs xs) hs hown hx ?_
    exact h v w (by simpa using hown) (Below.refl _ _)
  | some ad =>
    refine wpList_append_own w hgd s x 51 ho B 5 i5 (.int .u8 0) 1 1 Try.underlying51 hi5 hz0 hz1 hz2 rfl (by decide) v n (bs xs) hs hown ad m c (bs ys) hx (by simp [bs, hl]) ?_ (bs_one ys) (by unfold maxLen; omega) (by omega) hB ?_
    · intro j u hu
      obtain ⟨hj, rfl⟩ := bs_get' ys j u hu
      obtain ⟨b, off, e, hcell⟩ := hat (by omega)
      simp only [Option.some.injEq] at e
      subst e
      rw [Addr.add_lit]
      exact hcell j (by omega)
    · intro v' w' h1 h2 _
      refine h v' w' (by rw [bs_append]; exact h1) ((Below.refl B w).grown h2 hB fun k hk => (hown.lt k hk).1)

set_option maxRecDepth 100000 in
/-- What a slice of the call's own is, as what can be read. -/
theorem rd_owned {w : World} {B n : Nat} {v : Value} {xs : List Nat} (h : w.ownsRow B 5 1 v n (bs xs)) : ∃ ao cap, v = .slice ao n cap ∧ Rd w ao n cap xs := by
  rcases h.2 with ⟨rfl, rfl⟩ | ⟨g, cap, cur, rfl, _⟩
  · obtain rfl : xs = [] := by have := h.1; simp [bs] at this; exact this
    exact ⟨none, 0, rfl, Rd.nil w⟩
  · exact ⟨_, _, rfl, rd_own h⟩

set_option maxRecDepth 100000 in
set_option maxHeartbeats 2000000 in
theorem rput_high (ao : Option Addr) (n cap : Nat) (xs : List Nat) (v : Nat) (s : Int) (h8 : 8 < s) (l : Bool) (w : World) (h : Rd w ao n cap xs) (hn : n ≤ 70368744177664) :
    Calls Try.prog 64 #[.slice ao n cap, .int .u64 v, .int .i64 s, .bool l] w fun e w' => ∃ r, e = .returned r ∧ w'.ownsRow w.heap.size 5 1 r (n + 8) (bs (xs ++ putN v 8 l)) ∧ Below w.heap.size w w' := by
  have h' := hid h
  clear h
  go_enter Try.func64, Try.ntmps64
  go_wp2_with (at_builtin; refine wpList_append_rd rfl (.tmp 14) (.tmp 15) rfl w.heap.size _ 0 [] rfl (World.ownsRow_made w #[] 0 (Nat.le_refl _) (by decide) rfl) ao n cap xs rfl (h'.out.keep (Below.alloc (Below.refl _ _) (Nat.le_refl _) _)) (by omega) (by simp) ?_; intro v1 w1 ho1 hb1)
  go_loopw [9, 10] (fun o c W => ∃ (i : Nat) (ys : List Nat), i ≤ 8 ∧ c = .int .i64 i ∧ ys ++ up (fun j => v / 2 ^ (8 * place l 8 j) % 256) i (8 - i) = xs ++ putN v 8 l ∧
      W.ownsRow w.heap.size 5 1 o (n + i) (bs ys) ∧ Below w.heap.size w W) (fun _ c _ => 8 - (intOf c).toNat)
  case atStart => exact ⟨0, xs, by omega, rfl, rfl, by simpa using ho1, (Below.alloc (Below.refl _ _) (Nat.le_refl _) _).trans hb1⟩
  case round =>
    obtain ⟨i, ys, hi, rfl, he, ho, hb⟩ := hrel
    have he' := hid he
    clear he h' ho1 hb1
    by_cases hik : i < 8
    · obtain ⟨j, hj⟩ : ∃ j, j = place l 8 i := ⟨_, rfl⟩
      obtain ⟨q, hq⟩ : ∃ q, q = v / 2 ^ (8 * j) := ⟨_, rfl⟩
      have hsh : (v : Int) / 2 ^ (8 * j) = (q : Int) := by rw [hq]; simp
      have hj8 : j < 8 := by rw [hj]; unfold place; split <;> omega
      have hq' := hid hq
      clear hq
      cases l with
      | true =>
        have hj2 : j = i := by rw [hj]; rfl
        subst hj2
        have hj' := hid hj
        clear hj
        go_wp2_with (at_builtin; refine wpList_append_rd rfl (.tmp 28) (.tmp 35) rfl w.heap.size _ (n + j) ys rfl (ho.alloc _) (some ⟨wr.heap.size, 0, none⟩) 1 1 [q % 256] rfl (rd_one wr (q % 256)) (by omega) (by have := hb.size; simp; omega) ?_; intro w2v w3 ho3 hb3)
        refine ⟨⟨j + 1, ys ++ [q % 256], by omega, by go_num, ?_, by rw [← Nat.add_assoc]; exact ho3, (Below.alloc hb hb.size _).trans hb3⟩, by simp [intOf]; omega⟩
        rw [hq'.out]
        exact up_step (fun j => v / 2 ^ (8 * place true 8 j) % 256) j 8 hik ys _ he'.out
      | false =>
        have e1 : (7 : Int) - (i : Int) = (j : Int) := by rw [hj]; simp [place]; omega
        have hj' := hid hj
        clear hj
        go_wp2_with (at_builtin; refine wpList_append_rd rfl (.tmp 28) (.tmp 35) rfl w.heap.size _ (n + i) ys rfl (ho.alloc _) (some ⟨wr.heap.size, 0, none⟩) 1 1 [q % 256] rfl (rd_one wr (q % 256)) (by omega) (by have := hb.size; simp; omega) ?_; intro w2v w3 ho3 hb3)
        refine ⟨⟨i + 1, ys ++ [q % 256], by omega, by go_num, ?_, by rw [← Nat.add_assoc]; exact ho3, (Below.alloc hb hb.size _).trans hb3⟩, by simp [intOf]; omega⟩
        rw [hq'.out, hj'.out]
        exact up_step (fun j => v / 2 ^ (8 * place false 8 j) % 256) i 8 hik ys _ he'.out
    · obtain rfl : i = 8 := by omega
      go_wp2
      go_ret
      rw [Nat.sub_self] at he'
      simp only [up, List.append_nil] at he'
      rw [← he'.out]
      exact ⟨_, rfl, ho, hb⟩

set_option maxRecDepth 100000 in
set_option maxHeartbeats 2000000 in
theorem rput_mid (ao : Option Addr) (n cap : Nat) (xs : List Nat) (v : Nat) (k : Nat) (hk : 1 ≤ k) (h8 : k ≤ 8) (l : Bool) (w : World) (h : Rd w ao n cap xs) (hn : n ≤ 70368744177664) :
    Calls Try.prog 64 #[.slice ao n cap, .int .u64 v, .int .i64 (k : Int), .bool l] w fun e w' => ∃ r, e = .returned r ∧ w'.ownsRow w.heap.size 5 1 r (n + k) (bs (xs ++ putN v k l)) ∧ Below w.heap.size w w' := by
  have h' := hid h
  clear h
  go_enter Try.func64, Try.ntmps64
  go_wp2_with (at_builtin; refine wpList_append_rd rfl (.tmp 14) (.tmp 15) rfl w.heap.size _ 0 [] rfl (World.ownsRow_made w #[] 0 (Nat.le_refl _) (by decide) rfl) ao n cap xs rfl (h'.out.keep (Below.alloc (Below.refl _ _) (Nat.le_refl _) _)) (by omega) (by simp) ?_; intro v1 w1 ho1 hb1)
  go_loopw [9, 10] (fun o c W => ∃ (i : Nat) (ys : List Nat), i ≤ k ∧ c = .int .i64 i ∧ ys ++ up (fun j => v / 2 ^ (8 * place l k j) % 256) i (k - i) = xs ++ putN v k l ∧
      W.ownsRow w.heap.size 5 1 o (n + i) (bs ys) ∧ Below w.heap.size w W) (fun _ c _ => k - (intOf c).toNat)
  case atStart => exact ⟨0, xs, by omega, rfl, rfl, by simpa using ho1, (Below.alloc (Below.refl _ _) (Nat.le_refl _) _).trans hb1⟩
  case round =>
    obtain ⟨i, ys, hi, rfl, he, ho, hb⟩ := hrel
    have he' := hid he
    clear he h' ho1 hb1
    by_cases hik : i < k
    · obtain ⟨j, hj⟩ : ∃ j, j = place l k i := ⟨_, rfl⟩
      obtain ⟨q, hq⟩ : ∃ q, q = v / 2 ^ (8 * j) := ⟨_, rfl⟩
      have hsh : (v : Int) / 2 ^ (8 * j) = (q : Int) := by rw [hq]; simp
      have hj8 : j < 8 := by rw [hj]; unfold place; split <;> omega
      have hq' := hid hq
      clear hq
      cases l with
      | true =>
        have hj2 : j = i := by rw [hj]; rfl
        subst hj2
        have hj' := hid hj
        clear hj
        go_wp2_with (at_builtin; refine wpList_append_rd rfl (.tmp 28) (.tmp 35) rfl w.heap.size _ (n + j) ys rfl (ho.alloc _) (some ⟨wr.heap.size, 0, none⟩) 1 1 [q % 256] rfl (rd_one wr (q % 256)) (by omega) (by have := hb.size; simp; omega) ?_; intro w2v w3 ho3 hb3)
        refine ⟨⟨j + 1, ys ++ [q % 256], by omega, by go_num, ?_, by rw [← Nat.add_assoc]; exact ho3, (Below.alloc hb hb.size _).trans hb3⟩, by simp [intOf]; omega⟩
        rw [hq'.out]
        exact up_step (fun j => v / 2 ^ (8 * place true k j) % 256) j k hik ys _ he'.out
      | false =>
        have e1 : (k : Int) - 1 - (i : Int) = (j : Int) := by rw [hj]; simp [place]; omega
        have hj' := hid hj
        clear hj
        go_wp2_with (at_builtin; refine wpList_append_rd rfl (.tmp 28) (.tmp 35) rfl w.heap.size _ (n + i) ys rfl (ho.alloc _) (some ⟨wr.heap.size, 0, none⟩) 1 1 [q % 256] rfl (rd_one wr (q % 256)) (by omega) (by have := hb.size; simp; omega) ?_; intro w2v w3 ho3 hb3)
        refine ⟨⟨i + 1, ys ++ [q % 256], by omega, by go_num, ?_, by rw [← Nat.add_assoc]; exact ho3, (Below.alloc hb hb.size _).trans hb3⟩, by simp [intOf]; omega⟩
        rw [hq'.out, hj'.out]
        exact up_step (fun j => v / 2 ^ (8 * place false k j) % 256) i k hik ys _ he'.out
    · obtain rfl : i = k := by omega
      go_wp2
      go_ret
      rw [Nat.sub_self] at he'
      simp only [up, List.append_nil] at he'
      rw [← he'.out]
      exact ⟨_, rfl, ho, hb⟩

set_option maxRecDepth 100000 in
set_option maxHeartbeats 400000 in
theorem rput_low (ao : Option Addr) (n cap : Nat) (xs : List Nat) (v : Nat) (s : Int) (hs : s ≤ 0) (l : Bool) (w : World) (h : Rd w ao n cap xs) (hn : n ≤ 70368744177664) :
    Calls Try.prog 64 #[.slice ao n cap, .int .u64 v, .int .i64 s, .bool l] w fun e w' => ∃ r, e = .returned r ∧ w'.ownsRow w.heap.size 5 1 r n (bs xs) ∧ Below w.heap.size w w' := by
  have h' := hid h
  clear h
  go_enter Try.func64, Try.ntmps64
  go_wp2_with (at_builtin; refine wpList_append_rd rfl (.tmp 14) (.tmp 15) rfl w.heap.size _ 0 [] rfl (World.ownsRow_made w #[] 0 (Nat.le_refl _) (by decide) rfl) ao n cap xs rfl (h'.out.keep (Below.alloc (Below.refl _ _) (Nat.le_refl _) _)) (by omega) (by simp) ?_; intro v1 w1 ho1 hb1)
  refine wp_loop_rounds 1 ?_
  rw [rounds_succ]
  go_wp2
  go_ret
  exact ⟨_, rfl, by simpa using ho1, (Below.alloc (Below.refl _ _) (Nat.le_refl _) _).trans hb1⟩

set_option maxRecDepth 100000 in
theorem rput_any (ao : Option Addr) (n cap : Nat) (xs : List Nat) (v : Nat) (s : Int) (k : Nat) (l : Bool) (w : World) (h : Rd w ao n cap xs) (hn : n ≤ 70368744177664) (hs : min (max s 0) 8 = (k : Int)) :
    Calls Try.prog 64 #[.slice ao n cap, .int .u64 v, .int .i64 s, .bool l] w fun e w' => ∃ r, e = .returned r ∧ w'.ownsRow w.heap.size 5 1 r (n + k) (bs (xs ++ putN v k l)) ∧ Below w.heap.size w w' := by
  by_cases h8 : 8 < s
  · obtain rfl : k = 8 := by omega
    exact rput_high ao n cap xs v s h8 l w h hn
  · by_cases h0 : s ≤ 0
    · obtain rfl : k = 0 := by omega
      have := rput_low ao n cap xs v s h0 l w h hn
      simpa [putN, up] using this
    · obtain rfl : s = (k : Int) := by omega
      exact rput_mid ao n cap xs v k (by omega) (by omega) l w h hn

end Oct
end Go.Proofs.Ytjlahomjhadnkaa
namespace Go.Proofs.Ytjlahomjhadnkaa
namespace Oct
open Go.RowKit

set_option maxRecDepth 100000 in
theorem grow_trans {p : Nat} {a b c : World} (h : a.grownBy b (some p)) (k : b.grownBy c (some p)) : a.grownBy c (some p) :=
  ⟨k.os.trans h.os, k.tape.trans h.tape, k.output.trans h.output, Nat.le_trans h.size k.size, fun i hi hne => (k.block i (Nat.lt_of_lt_of_le hi h.size) hne).trans (h.block i hi hne)⟩

set_option maxRecDepth 100000 in
theorem grow_below {p : Nat} {a b : World} (h : Below a.heap.size a b) : a.grownBy b (some p) := ⟨h.os, h.tape, h.output, h.size, fun k hk _ => h.block k hk⟩

set_option maxRecDepth 100000 in
theorem grow_cell {p : Nat} {a b : World} (h : a.grownBy b (some p)) {x : Addr} {v : Value} (hc : a.cell? x = some v) (hne : x.block ≠ p) : b.cell? x = some v := by
  rw [World.cell?_of_block (h.block x.block (lt_cell hc) (by simpa using hne))]; exact hc

/-- A block of bytes. -/
def T5 (W : World) (b : Nat) : Prop := ∃ (C : Array Value) (m : Nat × Nat), W.heap[b]? = some (.cells C 5 m)
/-- All blocks of bytes stay. -/
def Five (W W' : World) : Prop := ∀ (b : Nat) (C : Array Value) (m : Nat × Nat), W.heap[b]? = some (.cells C 5 m) → W'.heap[b]? = some (.cells C 5 m)
set_option maxRecDepth 100000 in
theorem Five.refl (W : World) : Five W W := fun _ _ _ h => h
set_option maxRecDepth 100000 in
theorem Five.trans {a b c : World} (h : Five a b) (k : Five b c) : Five a c := fun x C m hx => k x C m (h x C m hx)
set_option maxRecDepth 100000 in
theorem T5.five {W W' : World} {b : Nat} (h : T5 W b) (k : Five W W') : T5 W' b := by obtain ⟨C, m, hx⟩ := h; exact ⟨C, m, k b C m hx⟩
set_option maxRecDepth 100000 in
theorem five_below {W W' : World} (h : Below W.heap.size W W') : Five W W' := fun b C m hx => by rw [h.block b (lt_of_block hx)]; exact hx
set_option maxRecDepth 100000 in
theorem five_grown {W W' : World} {p : Nat} {C : Array Value} {t : TypeId} {m : Nat × Nat} (hp : W.heap[p]? = some (.cells C t m)) (ht : t ≠ 5) (h : W.grownBy W' (some p)) : Five W W' := fun b C' m' hx => by
  rw [h.block b (lt_of_block hx) (by intro e; cases e; rw [hp] at hx; simp only [Option.some.injEq, Obj.cells.injEq] at hx; exact ht hx.2.1)]; exact hx
set_option maxRecDepth 100000 in
theorem five_set {W : World} {p i : Nat} {v : Value} {C : Array Value} {t : TypeId} {m : Nat × Nat} (hp : W.heap[p]? = some (.cells C t m)) (ht : t ≠ 5) : Five W (W.setCell ⟨p, i, none⟩ v) := fun b C' m' hx => by
  rw [heap_setCell_other W ⟨p, i, none⟩ b v (by intro e; simp only at e; subst e; rw [hp] at hx; simp only [Option.some.injEq, Obj.cells.injEq] at hx; exact ht hx.2.1)]; exact hx
set_option maxRecDepth 100000 in
theorem T5.keep {W W' : World} {b : Nat} (h : T5 W b) (k : Below W.heap.size W W') : T5 W' b := h.five (five_below k)
set_option maxRecDepth 100000 in
theorem t5_ne {W : World} {b p : Nat} {C : Array Value} {m : Nat × Nat} (hp : W.heap[p]? = some (.cells C 104 m)) (h : T5 W b) : b ≠ p := by
  rintro rfl
  obtain ⟨C', m', hx⟩ := h
  rw [hp] at hx
  simp only [Option.some.injEq, Obj.cells.injEq] at hx
  exact absurd hx.2.1 (by decide)
set_option maxRecDepth 100000 in
theorem Rd.five {W W' : World} {ao : Option Addr} {n cap : Nat} {xs : List Nat} (h : Rd W ao n cap xs) (h5 : 0 < n → ∀ b o, ao = some ⟨b, o, none⟩ → T5 W b) (k : Five W W') : Rd W' ao n cap xs := by
  refine ⟨h.1, h.2.1, h.2.2.1, fun hp => ?_⟩
  obtain ⟨b, off, e, hc⟩ := h.2.2.2 hp
  obtain ⟨C, m, hx⟩ := h5 hp b off e
  refine ⟨b, off, e, fun t ht => ?_⟩
  rw [World.cell?_of_block ((k b C m hx).trans hx.symm)]; exact hc t ht

/-- A source that a call made, without an error: these bytes are left. -/
def SrcAt (W : World) (p : Nat) (xs : List Nat) : Prop :=
  ∃ b off n cap, W.heap[p]? = some (.cells #[.bool true, .slice (some ⟨b, off, none⟩) n cap, .int .i64 0] 104 (0, 0)) ∧ Rd W (some ⟨b, off, none⟩) n cap xs ∧ n ≤ 9223372036854775807 ∧ T5 W b

set_option maxRecDepth 100000 in
theorem SrcAt.keep {W W' : World} {p : Nat} {xs : List Nat} (h : SrcAt W p xs) (hb : Below W.heap.size W W') : SrcAt W' p xs := by
  obtain ⟨b, off, n, cap, hp, hr, hn, h5⟩ := h
  exact ⟨b, off, n, cap, by rw [hb.block p (lt_of_block hp)]; exact hp, hr.keep hb, hn, h5.keep hb⟩

set_option maxRecDepth 100000 in
theorem src_cells {W : World} {p : Nat} {a b c : Value} (h : W.heap[p]? = some (.cells #[a, b, c] 104 (0, 0))) :
    W.cell? ⟨p, 0, none⟩ = some a ∧ W.cell? ⟨p, 1, none⟩ = some b ∧ W.cell? ⟨p, 2, none⟩ = some c ∧ W.frozen? ⟨p, 1, none⟩ = false ∧ W.frozen? ⟨p, 2, none⟩ = false := by
  simp [World.cell?, World.frozen?, h]

set_option maxRecDepth 100000 in
theorem src_set {W : World} {p : Nat} {a b c v : Value} (h : W.heap[p]? = some (.cells #[a, b, c] 104 (0, 0))) : (W.setCell ⟨p, 1, none⟩ v).heap[p]? = some (.cells #[a, v, c] 104 (0, 0)) := by
  rw [heap_setCell_same W p 1 _ 104 v h]; simp

set_option maxRecDepth 100000 in
theorem grow_set (W : World) (p : Nat) (i : Nat) (v : Value) : W.grownBy (W.setCell ⟨p, i, none⟩ v) (some p) :=
  ⟨rfl, rfl, rfl, by simp, fun k _ hk => heap_setCell_other W ⟨p, i, none⟩ k v (fun e => hk (by simp [e]))⟩

set_option maxRecDepth 100000 in
theorem rd_set {W : World} {p i : Nat} {v : Value} {ao : Option Addr} {n cap : Nat} {xs : List Nat} (h : Rd W ao n cap xs) (hne : ∀ b off, ao = some ⟨b, off, none⟩ → b ≠ p) : Rd (W.setCell ⟨p, i, none⟩ v) ao n cap xs := by
  refine ⟨h.1, h.2.1, h.2.2.1, fun hp => ?_⟩
  obtain ⟨b, off, e, hc⟩ := h.2.2.2 hp
  exact ⟨b, off, e, fun t ht => grow_cell (grow_set W p i v) (hc t ht) (hne b off e)⟩

set_option maxRecDepth 100000 in
/-- All but the first byte. -/
theorem Rd.tail {W : World} {b off n cap c : Nat} {r : List Nat} (h : Rd W (some ⟨b, off, none⟩) n cap (c :: r)) : (cap = 1 → Rd W (some ⟨b, off, none⟩) (n - 1) (cap - 1) r) ∧ (¬ cap = 1 → Rd W (some ⟨b, off + 1, none⟩) (n - 1) (cap - 1) r) := by
  obtain ⟨hl, hc, hno, hat⟩ := h
  simp at hl
  constructor
  · intro h1
    refine ⟨by omega, by omega, fun h => (by cases h), fun hp => ?_⟩
    omega
  · intro h1
    refine ⟨by omega, by omega, fun h => (by cases h), fun hp => ⟨b, off + 1, rfl, fun t ht => ?_⟩⟩
    obtain ⟨b', off', e, hcell⟩ := hat (by omega)
    simp only [Option.some.injEq, Addr.mk.injEq, and_true] at e
    obtain ⟨rfl, rfl⟩ := e
    have := hcell (t + 1) (by omega)
    rw [show off + 1 + t = off + (t + 1) by omega, this]
    simp [List.getD]

set_option maxRecDepth 100000 in
set_option maxHeartbeats 1000000 in
theorem next_more (p c : Nat) (r : List Nat) (W : World) (h : SrcAt W p (c :: r)) :
    Calls Try.prog 88 #[.pointer (some ⟨p, 0, none⟩)] W fun e w' => e = .returned (.tuple #[.int .u8 (c : Int), .bool true]) ∧ SrcAt w' p r ∧ W.grownBy w' (some p) := by
  obtain ⟨b, off, n, cap, hp, hr, hn, h5⟩ := h
  have hb := t5_ne hp h5
  have h5s : Hid (∀ v, T5 (W.setCell ⟨p, 1, none⟩ v) b) := hid (fun v => h5.five (five_set hp (by decide)))
  clear h5
  have hl := hr.1
  simp at hl
  obtain ⟨b', off', e, hc⟩ := hr.2.2.2 (by omega)
  simp only [Option.some.injEq, Addr.mk.injEq, and_true] at e
  obtain ⟨rfl, rfl⟩ := e
  have hc0 := hc 0 (by omega)
  simp [List.getD] at hc0
  have hcap := hr.2.1
  obtain ⟨s0, s1, s2, f1, f2⟩ := src_cells hp
  have ht := hr.tail
  have hr' := hid hr
  have hp' := hid hp
  have h0 : ((n : Int) == 0) = false := by simp; omega
  have hn0 : (0 : Int) < (n : Int) := by omega
  have hn1 : (1 : Int) ≤ (n : Int) := by omega
  have ht' := hid ht
  have hl' : 1 ≤ n := by omega
  clear hc hr hp ht
  by_cases h1 : cap = 1
  · have ht2 := hid (ht'.out.1 h1)
    obtain rfl : n = 1 := by omega
    subst h1
    go_enter Try.func88, Try.ntmps88
    go_wp2
    go_ret2
    exact ⟨rfl, ⟨_, _, _, _, src_set hp'.out, rd_set ht2.out (fun _ _ e => by simp only [Option.some.injEq, Addr.mk.injEq, and_true] at e; rw [← e.1]; exact hb), by omega, h5s.out _⟩, grow_set _ _ _ _⟩
  · have ht2 := hid (ht'.out.2 h1)
    go_enter Try.func88, Try.ntmps88
    go_wp2
    go_ret2
    exact ⟨rfl, ⟨_, _, _, _, src_set hp'.out, rd_set ht2.out (fun _ _ e => by simp only [Option.some.injEq, Addr.mk.injEq, and_true] at e; rw [← e.1]; exact hb), by omega, h5s.out _⟩, grow_set _ _ _ _⟩

set_option maxRecDepth 100000 in
set_option maxHeartbeats 400000 in
theorem next_end (p : Nat) (W : World) (h : SrcAt W p []) : Calls Try.prog 88 #[.pointer (some ⟨p, 0, none⟩)] W fun e w' => e = .returned (.tuple #[.int .u8 0, .bool false]) ∧ W = w' := by
  obtain ⟨b, off, n, cap, hp, hr, hn, h5⟩ := h
  obtain rfl : n = 0 := by have := hr.1; simpa using this.symm
  obtain ⟨s0, s1, s2, f1, f2⟩ := src_cells hp
  clear hp hr hn h5
  go_enter Try.func88, Try.ntmps88
  go_wp2
  go_ret2
  exact ⟨rfl, rfl⟩

set_option maxRecDepth 100000 in
set_option maxHeartbeats 400000 in
theorem err_ok (p : Nat) (xs : List Nat) (W : World) (h : SrcAt W p xs) : Calls Try.prog 76 #[.pointer (some ⟨p, 0, none⟩)] W fun e w' => e = .returned (.int .i64 0) ∧ W = w' := by
  obtain ⟨b, off, n, cap, hp, hr, hn, h5⟩ := h
  obtain ⟨s0, s1, s2, f1, f2⟩ := src_cells hp
  clear hp hr hn h5
  go_enter Try.func76, Try.ntmps76
  go_wp2
  go_ret
  exact ⟨rfl, rfl⟩

/-- A source on its way through xs. -/
def On (w : World) (p : Nat) (xs : List Nat) (k : Nat) (W : World) : Prop := SrcAt W p (xs.drop k) ∧ w.grownBy W (some p)

set_option maxRecDepth 100000 in
theorem on_more (w : World) (p : Nat) (xs : List Nat) (k : Nat) (W : World) (h : On w p xs k W) (hk : k < xs.length) :
    Calls Try.prog 88 #[.pointer (some ⟨p, 0, none⟩)] W fun e w' => e = .returned (.tuple #[.int .u8 ((xs.getD k 0 : Nat) : Int), .bool true]) ∧ On w p xs (k + 1) w' := by
  have h1 := h.1
  rw [drop_getD xs k hk] at h1
  exact (next_more p _ _ W h1).mono fun e w' ⟨he, hs, hg⟩ => ⟨he, hs, grow_trans h.2 hg⟩

set_option maxRecDepth 100000 in
theorem on_end (w : World) (p : Nat) (xs : List Nat) (W : World) (h : On w p xs xs.length W) :
    Calls Try.prog 88 #[.pointer (some ⟨p, 0, none⟩)] W fun e w' => e = .returned (.tuple #[.int .u8 0, .bool false]) ∧ On w p xs xs.length w' := by
  have h1 := h.1
  rw [List.drop_length] at h1
  exact (next_end p W h1).mono fun e w' ⟨he, hs⟩ => ⟨he, hs ▸ h⟩

end Oct
end Go.Proofs.Ytjlahomjhadnkaa
namespace Go.Proofs.Ytjlahomjhadnkaa
namespace Oct
open Go.RowKit

set_option maxHeartbeats 1000000 in
set_option maxRecDepth 20000 in
theorem gather_src (p : Nat) (xs : List Nat) (hx : ∀ x ∈ xs, x < 256) (s : Nat) (l : Bool) (hs : s ≤ xs.length) (h8 : s ≤ 8) (St : Nat → World → Prop)
    (hmore : ∀ k W, St k W → k < xs.length → Calls Try.prog 88 #[.pointer (some ⟨p, 0, none⟩)] W fun e w' => e = .returned (.tuple #[.int .u8 ((xs.getD k 0 : Nat) : Int), .bool true]) ∧ St (k + 1) w')
    (w : World) (h0 : St 0 w) :
    Calls Try.prog 87 #[.func (.func 88) #[.pointer (some ⟨p, 0, none⟩)] #[], .int .i64 s, .bool l] w fun e w' =>
      e = .returned (.int .u64 (psum xs s l s : Nat)) ∧ St s w' := by
  have hmore' := hid hmore
  have hx' := hid hx
  have h0' := hid h0
  clear hmore hx h0
  go_enter Try.func87, Try.ntmps87
  go_wp2
  go_loopw [7, 12] (fun a c W => ∃ (i : Nat), i ≤ s ∧ a = .int .u64 (psum xs s l i : Nat) ∧ c = .int .i64 (i : Int) ∧ St i W) (fun _ c _ => s - (intOf c).toNat)
  case atStart => exact ⟨0, by omega, rfl, rfl, h0'.out⟩
  case round =>
    obtain ⟨i, hi, rfl, rfl, hS⟩ := hrel
    have hS' := hid hS
    clear hS
    by_cases his : i < s
    · have c := hid (hmore'.out i wr hS'.out (by omega))
      obtain ⟨sh, q, csh, _, hshl, _⟩ := shift_named (xs.getD i 0) i s l his h8
      have hor := bits_or_u64_nat (psum xs s l i) (xs.getD i 0 * 2 ^ (8 * place l s i)) (psum_lt xs s l hx'.out hs h8 i (by omega)) (getD_term_lt xs s l hx'.out hs h8 i his)
      rw [psum_or xs s l hx'.out hs i his] at hor
      have hw : IntKind.u64.wrap ((xs.getD i 0 * 2 ^ (8 * place l s i) : Nat) : Int) = ((xs.getD i 0 * 2 ^ (8 * place l s i) : Nat) : Int) := by
        rw [IntKind.wrap_u64]; have := getD_term_lt xs s l hx'.out hs h8 i his; omega
      rw [hw] at hshl
      have hX2 := getD_lt hx'.out i (by omega)
      have csh' := hid csh
      clear hw csh
      generalize xs.getD i 0 * 2 ^ (8 * place l s i) = t at *
      obtain ⟨P1, hP1⟩ : ∃ P, P = psum xs s l (i + 1) := ⟨_, rfl⟩
      rw [← hP1] at hor
      generalize psum xs s l i = P0 at *
      generalize xs.getD i 0 = X at *
      have hP1' := hid hP1
      clear hP1
      go_wp2_with (first | (go_at_call 88; refine c.out.mono ?_; rintro e w1 ⟨rfl, hS1⟩) | (go_at_call 78; refine (csh'.out _).mono ?_; rintro e w2 ⟨rfl, hw2⟩; obtain rfl := hw2.symm))
      exact ⟨⟨i + 1, by omega, by rw [hP1'.out], by go_num, hS1⟩, by simp [intOf]; omega⟩
    · obtain rfl : i = s := by omega
      go_wp2
      go_ret
      exact ⟨rfl, hS'.out⟩

end Oct
end Go.Proofs.Ytjlahomjhadnkaa
namespace Go.Proofs.Ytjlahomjhadnkaa
namespace Oct
open Go.RowKit

set_option maxRecDepth 100000 in
set_option maxHeartbeats 1000000 in
theorem num_ok (p : Nat) (xs : List Nat) (l : Bool) (W : World) (h : SrcAt W p xs) (hx : ∀ x ∈ xs, x < 256) (h8 : 8 ≤ xs.length) :
    Calls Try.prog 75 #[.pointer (some ⟨p, 0, none⟩), .int .i64 8, .bool l] W fun e w' => e = .returned (.int .u64 (psum xs 8 l 8 : Nat)) ∧ SrcAt w' p (xs.drop 8) ∧ W.grownBy w' (some p) := by
  have c26 := hid (err_ok p xs W h)
  have c27 := hid (sized_any 8)
  rw [show (decide ((1 : Int) ≤ 8) && decide ((8 : Int) ≤ 8)) = true by decide] at c27
  have c28 := hid (gather_src p xs hx 8 l h8 (by omega) (On W p xs) (fun k W' hS hk => on_more W p xs k W' hS hk) W ⟨by simpa using h, World.grownBy.refl _ _⟩)
  obtain ⟨b, off, n, cap, hp, hr, hn, h5⟩ := h
  obtain ⟨s0, s1, s2, f1, f2⟩ := src_cells hp
  have hl := hr.1
  have hn8 : ¬ (n : Int) < 8 := by omega
  generalize psum xs 8 l 8 = R at *
  clear hp hr h5 hx hl h8
  go_enter Try.func75, Try.ntmps75
  go_wp2_with (first | (go_at_call 76; refine c26.out.mono ?_; rintro e w1 ⟨rfl, rfl⟩) | (go_at_call 86; refine (c27.out _).mono ?_; rintro e w2 ⟨rfl, hw2⟩; obtain rfl := hw2.symm) | (go_at_call 87; refine c28.out.mono ?_; rintro e w3 ⟨rfl, hS⟩; replace hS := hid hS))
  go_ret
  exact ⟨rfl, hS.out.1, hS.out.2⟩

set_option maxRecDepth 100000 in
theorem own_t5 {w : World} {B g n cap m : Nat} {xs : List Value} (h : w.ownsRow B 5 1 (.slice (some ⟨g, 0, none⟩) n cap) m xs) : T5 w g := by
  rcases h.2 with ⟨h', _⟩ | ⟨g', cap', cur, h', _, hg, _⟩
  · cases h'
  · simp only [Value.slice.injEq, Option.some.injEq, Addr.mk.injEq, and_true] at h'
    obtain ⟨rfl, _⟩ := h'
    exact ⟨cur, _, hg⟩

set_option maxRecDepth 100000 in
set_option maxHeartbeats 400000 in
theorem read_ok (ao : Option Addr) (n cap : Nat) (xs : List Nat) (w : World) (h : Rd w ao n cap xs) (hn : n ≤ 140737488355328) :
    Calls Try.prog 58 #[.slice ao n cap] w fun e w' => ∃ p, e = .returned (.pointer (some ⟨p, 0, none⟩)) ∧ w.heap.size ≤ p ∧ SrcAt w' p xs ∧ Below w.heap.size w w' := by
  have cw : Hid (Calls Try.prog 74 #[.slice ao n cap, .int .i64 0] w fun e w' => e = .returned (.slice (some ⟨w.heap.size, 0, none⟩) n n) ∧
      w'.ownsRow w.heap.size 5 1 (.slice (some ⟨w.heap.size, 0, none⟩) n n) n (bs xs) ∧ Below w.heap.size w w') := hid (by simpa using widened_any ao n cap 0 xs w h (by omega))
  clear h
  go_enter Try.func58, Try.ntmps58
  go_wp2_with (go_at_call 74; refine cw.out.mono ?_; rintro e w1 ⟨rfl, ho1, hb1⟩)
  go_ret
  exact ⟨w1.heap.size, rfl, hb1.size, ⟨_, _, _, _, heap_alloc_new w1 _, (rd_own ho1).keep (Below.alloc (Below.refl _ _) (Nat.le_refl _) _), by omega, (own_t5 ho1).keep (Below.alloc (Below.refl _ _) (Nat.le_refl _) _)⟩, Below.alloc hb1 hb1.size _⟩

end Oct
end Go.Proofs.Ytjlahomjhadnkaa
namespace Go.Proofs.Ytjlahomjhadnkaa
namespace Oct
open Go.ChangeShapes Go.WideShapes Go.ChangeAt Go.RowKit

def shapeOf : TypeDesc → Option (List (TypeId × Nat))
  | .struct fs => some (fs.toList.map fun f => (f.type, f.offset))
  | _ => none

set_option maxRecDepth 100000 in
theorem struct_of {P : Program} {t : TypeId} {L : List (TypeId × Nat)} (h : (P.underlying t).bind shapeOf = some L) :
    ∃ fs : Array Field, P.underlying t = some (.struct fs) ∧ ∀ (i : Nat) (ty : TypeId) (off : Nat), L[i]? = some (ty, off) → ∃ f : Field, fs[i]? = some f ∧ f.type = ty ∧ f.offset = off := by
  obtain ⟨d, hd, hs⟩ := Option.bind_eq_some_iff.1 h
  cases d with
  | struct fs =>
    refine ⟨fs, hd, fun i ty off hi => ?_⟩
    simp only [shapeOf, Option.some.injEq] at hs
    subst hs
    rw [List.getElem?_map] at hi
    obtain ⟨f, hf, he⟩ := Option.map_eq_some_iff.1 hi
    simp only [Prod.mk.injEq] at he
    exact ⟨f, by simpa using hf, he.1, he.2⟩
  | _ => simp [shapeOf] at hs

section
variable {H : Type} {enc : TypeId × Value → H} {P : Program} {w : World} {base : Nat} {spare : Nat → Bool} {held : Bool}

set_option maxRecDepth 100000 in
theorem field_of {t : TypeId} {L : List (TypeId × Nat)} (h : (P.underlying t).bind shapeOf = some L) {fuel : Nat} {cs : List Value} {x : DataW H × List MemPlace}
    (hx : DataW.trod enc P w base spare held fuel t cs = some x) : cs.length = P.cellsOf t ∧ ∀ (i : Nat) (ty : TypeId) (off : Nat), L[i]? = some (ty, off) → ∃ y n, DataW.trod enc P w base spare held n ty ((cs.drop off).take (P.cellsOf ty)) = some y := by
  obtain ⟨fs, hu, hf⟩ := struct_of h
  obtain ⟨xs, n, _, _, hl, hxl, hi⟩ := DataW.trod_struct hu hx
  refine ⟨hl, fun i ty off hL => ?_⟩
  obtain ⟨f, h1, rfl, rfl⟩ := hf i ty off hL
  have h2 := hi i f h1
  have hlt : i < xs.length := by
    rw [hxl]; exact (Array.getElem?_eq_some_iff.1 h1).1
  exact ⟨xs[i], n, by rw [h2, List.getElem?_eq_getElem hlt]⟩

set_option maxRecDepth 100000 in
theorem int_at {ty : TypeId} {k : IntKind} (hu : P.underlying ty = some (.int k)) (hc : P.cellsOf ty = 1) {n off : Nat} {cs : List Value} {y : DataW H × List MemPlace}
    (h : DataW.trod enc P w base spare held n ty ((cs.drop off).take (P.cellsOf ty)) = some y) : ∃ z : Int, cs[off]? = some (.int k z) ∧ (Lit.int k z).wf = true := by
  obtain ⟨z, hz, _, hw⟩ := DataW.trod_int hu h
  refine ⟨z, ?_, hw⟩
  have h3 := congrArg (fun l : List Value => l[0]?) hz
  simp [hc] at h3
  simpa using h3

set_option maxRecDepth 100000 in
theorem bool_at {ty : TypeId} (hu : P.underlying ty = some .bool) (hc : P.cellsOf ty = 1) {n off : Nat} {cs : List Value} {y : DataW H × List MemPlace}
    (h : DataW.trod enc P w base spare held n ty ((cs.drop off).take (P.cellsOf ty)) = some y) : ∃ b : Bool, cs[off]? = some (.bool b) := by
  obtain ⟨b, hz, _⟩ := DataW.trod_bool hu h
  refine ⟨b, ?_⟩
  have h3 := congrArg (fun l : List Value => l[0]?) hz
  simp [hc] at h3
  simpa using h3

set_option maxRecDepth 100000 in
theorem bounds_u8' {z : Int} (h : (Lit.int .u8 z).wf = true) : 0 ≤ z ∧ z < 256 := by
  simp [Lit.wf, IntKind.min, IntKind.max, IntKind.bits, IntKind.signed] at h
  omega

set_option maxRecDepth 100000 in
/-- The cells of a slice of bytes, as what the walks ask. -/
theorem rd_open {t : TypeId} (ht : P.underlying t = some (.slice 5)) (he : P.underlying 5 = some (.int .u8)) (hc : P.cellsOf 5 = 1) {n : Nat} {cs : List Value} {y : DataW H × List MemPlace}
    (h : DataW.trod enc P w base (fun _ => true) held n t cs = some y) :
    ∃ ao len cap xs, cs = [.slice ao len cap] ∧ Rd w ao len cap xs ∧ (∀ x ∈ xs, x < 256) ∧ len ≤ 9223372036854775807 := by
  rcases open_ints ht he hc h with ⟨rfl, _⟩ | ⟨a, len, cap, zs, rfl, _, hl, hm, hz, _, hcell, hwz⟩
  · exact ⟨none, 0, 0, [], rfl, Rd.nil w, by simp, by omega⟩
  · simp at hz
    refine ⟨some a, len, cap, (zs.take len).map Int.toNat, rfl, ⟨by simp; omega, hl, fun h => (by cases h), fun hp => ?_⟩, ?_, by unfold maxLen at hm; omega⟩
    · obtain ⟨b, off, spot⟩ := a
      have hc0 := hcell 0 (by omega)
      have hspot : spot = none := by simpa [Addr.add] using World.cell?_spot hc0
      subst hspot
      refine ⟨b, off, rfl, fun t ht => ?_⟩
      have hct := hcell t (by omega)
      rw [Addr.add_lit] at hct
      rw [hct]
      have hb := bounds_u8' (hwz (zs.getD t 0) (by rw [List.getD_eq_getElem?_getD, List.getElem?_eq_getElem (show t < zs.length by omega)]; simp))
      simp [List.getD, List.getElem?_map, ht, List.getElem?_eq_getElem (show t < zs.length by omega)] at hb ⊢
      omega
    · intro x hx
      obtain ⟨z, hz, rfl⟩ := List.mem_map.1 hx
      have := bounds_u8' (hwz z (List.mem_of_mem_take hz))
      omega

set_option maxRecDepth 100000 in
theorem open_bytes {r : Reach} {b0 : Nat} {t : TypeId} {v : Value} {d : DataW H} {p : List MemPlace} (ht : P.underlying t = some (.slice 5)) (he : P.underlying 5 = some (.int .u8)) (hc : P.cellsOf 5 = 1)
    (hv : Value.okWide P w r b0 t v) (h : DataW.Trod enc P w base (fun _ => true) held t v d p) :
    ∃ ao len cap xs, v = .slice ao len cap ∧ Rd w ao len cap xs ∧ (∀ x ∈ xs, x < 256) ∧ len ≤ 9223372036854775807 := by
  obtain ⟨ao', len', cap', rfl⟩ := okWide_slice ht hv
  obtain ⟨fuel, hf⟩ := h
  obtain ⟨ao, len, cap, xs, hcs, hr⟩ := rd_open ht he hc hf
  simp [Value.cells] at hcs
  obtain ⟨rfl, rfl, rfl⟩ := hcs
  exact ⟨_, _, _, xs, rfl, hr⟩
end

end Oct
end Go.Proofs.Ytjlahomjhadnkaa
namespace Go.Proofs.Ytjlahomjhadnkaa
namespace Oct
open Go.RowKit

/-- A source that has an error already: too few bytes. -/
def SrcE (W : World) (p : Nat) : Prop := W.heap[p]? = some (.cells #[.bool true, .slice none 0 0, .int .i64 8] 104)
theorem SrcE.keep {W W' : World} {p : Nat} (h : SrcE W p) (hb : Below W.heap.size W W') : SrcE W' p := (hb.block p (lt_of_block h)).trans h
theorem SrcE.cells {W : World} {p : Nat} (h : SrcE W p) : W.cell? ⟨p, 0, none⟩ = some (.bool true) ∧ W.cell? ⟨p, 1, none⟩ = some (.slice none 0 0) ∧ W.cell? ⟨p, 2, none⟩ = some (.int .i64 8) := by
  unfold SrcE at h
  simp [World.cell?, h]
def SrcO (W : World) (p : Nat) : Option (List Nat) → Prop
  | some xs => SrcAt W p xs
  | none => SrcE W p
theorem SrcO.keep {W W' : World} {p : Nat} {o : Option (List Nat)} (h : SrcO W p o) (hb : Below W.heap.size W W') : SrcO W' p o := by
  cases o with
  | none => exact SrcE.keep h hb
  | some xs => exact SrcAt.keep h hb
/-- What is left behind eight bytes more. -/
def ob : Option (List Nat) → Option (List Nat)
  | some xs => if 8 ≤ xs.length then some (xs.drop 8) else none
  | none => none
/-- The whole number that the next eight bytes are. -/
def iv : Option (List Nat) → Int
  | some xs => if 8 ≤ xs.length then IntKind.i64.wrap (psum xs 8 false 8 : Nat) else 0
  | none => 0
def ev : Option (List Nat) → Int
  | some [] => 0
  | some (_ :: _) => 9
  | none => 8

set_option maxRecDepth 100000 in
set_option maxHeartbeats 1000000 in
theorem err_e (p : Nat) (W : World) (h : SrcE W p) : Calls Try.prog 76 #[.pointer (some ⟨p, 0, none⟩)] W fun e w' => e = .returned (.int .i64 8) ∧ W = w' := by
  obtain ⟨s0, s1, s2⟩ := h.cells
  clear h
  go_enter Try.func76, Try.ntmps76
  go_wp2
  go_ret
  exact ⟨rfl, rfl⟩
set_option maxRecDepth 100000 in
set_option maxHeartbeats 1000000 in
theorem fail_call (p : Nat) (xs : List Nat) (W : World) (h : SrcAt W p xs) : Calls Try.prog 85 #[.pointer (some ⟨p, 0, none⟩), .int .i64 8] W fun e w' => e = .returned (.tuple #[]) ∧ SrcE w' p ∧ W.grownBy w' (some p) := by
  obtain ⟨b, off, n, cap, hp, hr, hn, h5⟩ := h
  obtain ⟨s0, s1, s2, f1, f2⟩ := src_cells hp
  have hp' := hid hp
  clear hp hr hn h5
  go_enter Try.func85, Try.ntmps85
  go_wp2
  refine bodyPost_end (results_none rfl _ _ _) rfl ⟨rfl, ?_, grow_trans (grow_set _ _ _ _) (grow_set _ _ _ _)⟩
  have h1 := heap_setCell_same W p 2 _ 104 (.int .i64 8) hp'.out
  have h2 := heap_setCell_same _ p 1 _ 104 (.slice none 0 0) h1
  unfold SrcE
  simpa using h2
set_option maxRecDepth 100000 in
set_option maxHeartbeats 1000000 in
theorem num_e (p : Nat) (W : World) (h : SrcE W p) : Calls Try.prog 75 #[.pointer (some ⟨p, 0, none⟩), .int .i64 8, .bool false] W fun e w' => e = .returned (.int .u64 0) ∧ W = w' := by
  have c := hid (err_e p W h)
  clear h
  go_enter Try.func75, Try.ntmps75
  go_wp2_with (go_at_call 76; refine c.out.mono ?_; rintro e w1 ⟨rfl, rfl⟩)
  go_ret
  exact ⟨rfl, rfl⟩
set_option maxRecDepth 100000 in
set_option maxHeartbeats 1000000 in
theorem num_short (p : Nat) (xs : List Nat) (W : World) (h : SrcAt W p xs) (h8 : xs.length < 8) : Calls Try.prog 75 #[.pointer (some ⟨p, 0, none⟩), .int .i64 8, .bool false] W fun e w' => e = .returned (.int .u64 0) ∧ SrcE w' p ∧ W.grownBy w' (some p) := by
  have c := hid (err_ok p xs W h)
  have c2 := hid (fail_call p xs W h)
  obtain ⟨b, off, n, cap, hp, hr, hn, h5⟩ := h
  obtain ⟨s0, s1, s2, f1, f2⟩ := src_cells hp
  have hl := hr.1
  have hn8 : (n : Int) < 8 := by omega
  clear hp hr hn h5 hl h8
  go_enter Try.func75, Try.ntmps75
  go_wp2_with (first | (go_at_call 76; refine c.out.mono ?_; rintro e w1 ⟨rfl, rfl⟩) | (go_at_call 85; refine c2.out.mono ?_; rintro e w2 ⟨rfl, hS⟩; replace hS := hid hS))
  go_ret
  exact ⟨rfl, hS.out⟩
set_option maxRecDepth 100000 in
set_option maxHeartbeats 1000000 in
theorem int_any (p : Nat) (o : Option (List Nat)) (W : World) (h : SrcO W p o) (hx : ∀ xs, o = some xs → ∀ x ∈ xs, x < 256) : Calls Try.prog 59 #[.pointer (some ⟨p, 0, none⟩), .bool false] W fun e w' => e = .returned (.int .i64 (iv o)) ∧ SrcO w' p (ob o) ∧ W.grownBy w' (some p) := by
  have key : Hid (∃ v : Nat, v < 18446744073709551616 ∧ IntKind.i64.wrap (v : Int) = iv o ∧ Calls Try.prog 75 #[.pointer (some ⟨p, 0, none⟩), .int .i64 8, .bool false] W fun e w' => e = .returned (.int .u64 (v : Int)) ∧ SrcO w' p (ob o) ∧ W.grownBy w' (some p)) := by
    cases o with
    | none => exact ⟨0, by omega, by decide, (num_e p W h).mono fun e w' ⟨h1, h2⟩ => by subst h2; exact ⟨h1, h, World.grownBy.refl _ _⟩⟩
    | some xs =>
      by_cases h8 : 8 ≤ xs.length
      · refine ⟨psum xs 8 false 8, psum_lt xs 8 false (hx xs rfl) h8 (by omega) 8 (Nat.le_refl _), by simp [iv, h8], ?_⟩
        rw [show ob (some xs) = some (xs.drop 8) by simp [ob, h8]]
        exact num_ok p xs false W h (hx xs rfl) h8
      · refine ⟨0, by omega, by simp [iv, h8]; decide, ?_⟩
        rw [show ob (some xs) = none by simp [ob, h8]]
        exact num_short p xs W h (by omega)
  obtain ⟨v, hv, he, c⟩ := key.out
  have C := hid c
  have HE := hid he
  clear key c he h hx
  have cv : ∀ W, (convert 26 3 (.int .u64 (v : Int))).run Try.prog W = .ok (.int .i64 (iv o)) W := fun W => by rw [← HE.out]; kernel_rfl
  generalize iv o = r at *
  go_enter Try.func59, Try.ntmps59
  go_wp2_with (go_at_call 75; refine C.out.mono ?_; rintro e w1 ⟨rfl, hS⟩; replace hS := hid hS)
  go_ret
  exact ⟨rfl, hS.out⟩
set_option maxRecDepth 100000 in
set_option maxHeartbeats 1000000 in
theorem end_any (p : Nat) (o : Option (List Nat)) (W : World) (h : SrcO W p o) : Calls Try.prog 60 #[.pointer (some ⟨p, 0, none⟩)] W fun e w' => e = .returned (.int .i64 (ev o)) ∧ W = w' := by
  cases o with
  | none =>
    have c := hid (err_e p W h)
    clear h
    rw [show ev none = 8 from rfl]
    go_enter Try.func60, Try.ntmps60
    go_wp2_with (go_at_call 76; refine c.out.mono ?_; rintro e w1 ⟨rfl, rfl⟩)
    go_ret
    exact ⟨rfl, rfl⟩
  | some xs =>
    have c := hid (err_ok p xs W h)
    obtain ⟨b, off, n, cap, hp, hr, hn, h5⟩ := h
    obtain ⟨s0, s1, s2, f1, f2⟩ := src_cells hp
    have hl := hr.1
    clear hp hr hn h5
    cases xs with
    | nil =>
      obtain rfl : n = 0 := by simpa using hl.symm
      rw [show ev (some []) = 0 from rfl]
      go_enter Try.func60, Try.ntmps60
      go_wp2_with (go_at_call 76; refine c.out.mono ?_; rintro e w1 ⟨rfl, rfl⟩)
      go_ret
      exact ⟨rfl, rfl⟩
    | cons x r =>
      have hn0 : (0 : Int) < (n : Int) := by simp at hl; omega
      rw [show ev (some (x :: r)) = 9 from rfl]
      clear hl
      go_enter Try.func60, Try.ntmps60
      go_wp2_with (go_at_call 76; refine c.out.mono ?_; rintro e w1 ⟨rfl, rfl⟩)
      go_ret
      exact ⟨rfl, rfl⟩
end Oct
end Go.Proofs.Ytjlahomjhadnkaa
namespace Go.Proofs.Ytjlahomjhadnkaa
namespace Oct
open Go.RowKit

def hsum (xs : List Nat) (s : Nat) (l : Bool) : Nat → Nat
  | 0 => 0
  | i + 1 => hsum xs s l i * 256 + xs.getD (if l then s - 1 - i else i) 0

set_option maxRecDepth 100000 in
theorem hsum_lt (xs : List Nat) (s : Nat) (l : Bool) (hx : ∀ x ∈ xs, x < 256) (hs : s ≤ xs.length) : ∀ i, i ≤ s → hsum xs s l i < 2 ^ (8 * i) := by
  intro i
  induction i with
  | zero => intro _; simp [hsum]
  | succ i ih =>
    intro hi
    have h := ih (by omega)
    have hc := getD_lt hx (if l then s - 1 - i else i) (by split <;> omega)
    simp only [hsum]
    rw [show 8 * (i + 1) = 8 * i + 8 by omega, Nat.pow_add]
    omega

set_option maxRecDepth 100000 in
theorem hsum_eq (xs : List Nat) (s : Nat) (l : Bool) (h8 : s ≤ 8) : hsum xs s l s = psum xs s l s := by
  have e : s = 0 ∨ s = 1 ∨ s = 2 ∨ s = 3 ∨ s = 4 ∨ s = 5 ∨ s = 6 ∨ s = 7 ∨ s = 8 := by omega
  rcases e with rfl | rfl | rfl | rfl | rfl | rfl | rfl | rfl | rfl <;> cases l <;> simp [hsum, psum, place] <;> omega

set_option maxHeartbeats 1000000 in
set_option maxRecDepth 100000 in
theorem rget_ok (b off n cap : Nat) (xs : List Nat) (k : Nat) (l : Bool) (w : World) (hc : ∀ t, t < n → w.cell? ⟨b, off + t, none⟩ = some (.int .u8 ((xs.getD t 0 : Nat) : Int))) (hl : xs.length = n) (hx : ∀ x ∈ xs, x < 256) (hk : 1 ≤ k) (h8 : k ≤ 8) (hkn : k ≤ n) :
    Calls Try.prog 90 #[.slice (some ⟨b, off, none⟩) n cap, .int .i64 k, .bool l] w fun e w' => e = .returned (.tuple #[.int .u64 (hsum xs k l k : Nat), .bool true]) ∧ w = w' := by
  have hx' := hid hx
  have hc' := hid hc
  have hle : ¬ (n : Int) < (k : Int) := by omega
  clear hx hc
  go_enter Try.func90, Try.ntmps90
  go_wp2
  go_loopw [8, 9] (fun a c W => ∃ (i : Nat), i ≤ k ∧ a = .int .u64 (hsum xs k l i : Nat) ∧ c = .int .i64 (i : Int) ∧ w = W) (fun _ c _ => k - (intOf c).toNat)
  case atStart => exact ⟨0, by omega, rfl, rfl, rfl⟩
  case round =>
    obtain ⟨i, hi, rfl, rfl, rfl⟩ := hrel
    by_cases his : i < k
    · obtain ⟨j, hj⟩ : ∃ j, j = if l then k - 1 - i else i := ⟨_, rfl⟩
      have hjn : j < n := by rw [hj]; split <;> omega
      have hcell := hc'.out j hjn
      have hX2 := getD_lt hx'.out j (by omega)
      have hh := hsum_lt xs k l hx'.out (by omega) i (by omega)
      have hb : hsum xs k l i < 72057594037927936 := Nat.lt_of_lt_of_le hh (Nat.pow_le_pow_right (by omega) (by omega : 8 * i ≤ 56))
      obtain ⟨P1, hP1⟩ : ∃ P, P = hsum xs k l (i + 1) := ⟨_, rfl⟩
      have hor := or8 (hsum xs k l i) (xs.getD j 0) hX2 hb
      rw [show hsum xs k l i * 256 + xs.getD j 0 = P1 by rw [hP1, hj]; rfl] at hor
      have hP1' := hid hP1
      clear hP1 hh
      generalize hsum xs k l i = P0 at *
      generalize xs.getD j 0 = X at *
      cases l with
      | true =>
        have e1 : (k : Int) - 1 - (i : Int) = (j : Int) := by rw [hj]; simp; omega
        have e2 := hid hj
        clear hj
        go_wp2
        exact ⟨⟨i + 1, by omega, by rw [hP1'.out], by go_num, trivial⟩, by simp [intOf]; omega⟩
      | false =>
        simp only [Bool.false_eq_true, if_false] at hj
        subst hj
        go_wp2
        exact ⟨⟨j + 1, by omega, by rw [hP1'.out], by go_num, trivial⟩, by simp [intOf]; omega⟩
    · obtain rfl : i = k := by omega
      go_wp2
      go_ret2
      exact ⟨rfl, rfl⟩


/-- A source of the document's, without an error: these bytes are left. -/
def RSrc (W : World) (p : Nat) (xs : List Nat) : Prop :=
  ∃ ao n cap, W.heap[p]? = some (.cells #[.slice ao n cap, .int .i64 0] 107 (0, 0)) ∧ Rd W ao n cap xs ∧ n ≤ 1000 ∧ (0 < n → ∀ b o, ao = some ⟨b, o, none⟩ → T5 W b)
set_option maxRecDepth 100000 in
theorem RSrc.keep {W W' : World} {p : Nat} {xs : List Nat} (h : RSrc W p xs) (hb : Below W.heap.size W W') : RSrc W' p xs := by
  obtain ⟨ao, n, cap, hp, hr, hn, h5⟩ := h
  exact ⟨ao, n, cap, by rw [hb.block p (lt_of_block hp)]; exact hp, hr.keep hb, hn, fun h0 b o e => (h5 h0 b o e).keep hb⟩
set_option maxRecDepth 100000 in
theorem rsrc_cells {W : World} {p : Nat} {a c : Value} (h : W.heap[p]? = some (.cells #[a, c] 107 (0, 0))) : W.cell? ⟨p, 0, none⟩ = some a ∧ W.cell? ⟨p, 1, none⟩ = some c ∧ W.frozen? ⟨p, 0, none⟩ = false := by
  simp [World.cell?, World.frozen?, h]
set_option maxRecDepth 100000 in
theorem rd_t5 {w : World} {B n m : Nat} {ao : Option Addr} {c : Nat} {xs : List Value} (h : w.ownsRow B 5 1 (.slice ao n c) m xs) : ∀ b o, ao = some ⟨b, o, none⟩ → T5 w b := by
  intro b o e
  subst e
  rcases h.2 with ⟨h1, _⟩ | ⟨g, cap', cur, hv, hb, hg, _⟩
  · simp at h1
  · simp only [Value.slice.injEq, Option.some.injEq, Addr.mk.injEq, and_true] at hv
    obtain ⟨⟨rfl, _⟩, _⟩ := hv
    exact ⟨_, _, hg⟩
set_option maxRecDepth 100000 in
set_option maxHeartbeats 1000000 in
theorem rread_ok (ao : Option Addr) (n cap : Nat) (xs : List Nat) (w : World) (h : Rd w ao n cap xs) (hn : n ≤ 1000) :
    Calls Try.prog 61 #[.slice ao n cap] w fun e w' => ∃ p, e = .returned (.pointer (some ⟨p, 0, none⟩)) ∧ w.heap.size ≤ p ∧ RSrc w' p xs ∧ Below w.heap.size w w' := by
  have h' := hid h
  clear h
  go_enter Try.func61, Try.ntmps61
  go_wp2_with (at_builtin; refine wpList_append_rd rfl (.tmp 3) (.tmp 4) rfl w.heap.size _ 0 [] rfl (World.ownsRow_made w #[] 0 (Nat.le_refl _) (by decide) rfl) ao n cap xs rfl (h'.out.keep (Below.alloc (Below.refl _ _) (Nat.le_refl _) _)) (by omega) (by simp) ?_; intro v1 w1 ho1 hb1; obtain ⟨ao1, c1, rfl, hr1⟩ := rd_owned ho1; have O1 := hid ho1; have R1 := hid (show Rd w1 ao1 n c1 xs by simpa using hr1); have B1 := hid ((Below.alloc (Below.refl _ _) (Nat.le_refl _) _).trans hb1); clear ho1 hr1 hb1)
  go_ret
  refine ⟨_, rfl, B1.out.size, ⟨_, _, _, heap_alloc_new w1 _, (R1.out.keep (Below.alloc (Below.refl _ _) (Nat.le_refl _) _)), by omega, fun _ b o e => (rd_t5 O1.out b o e).keep (Below.alloc (Below.refl _ _) (Nat.le_refl _) _)⟩, Below.alloc B1.out B1.out.size _⟩

/-- All but the first k bytes. -/
theorem Rd.from_ {W : World} {b off n cap : Nat} {xs : List Nat} (h : Rd W (some ⟨b, off, none⟩) n cap xs) (k : Nat) (hk : k ≤ n) :
    (cap = k → Rd W (some ⟨b, off, none⟩) (n - k) (cap - k) (xs.drop k)) ∧ (¬ cap = k → Rd W (some ⟨b, off + k, none⟩) (n - k) (cap - k) (xs.drop k)) := by
  obtain ⟨hl, hc, hno, hat⟩ := h
  constructor
  · intro h1
    refine ⟨by simp; omega, by omega, fun h => (by cases h), fun hp => ?_⟩
    omega
  · intro h1
    refine ⟨by simp; omega, by omega, fun h => (by cases h), fun hp => ⟨b, off + k, rfl, fun t ht => ?_⟩⟩
    obtain ⟨b', off', e, hcell⟩ := hat (by omega)
    simp only [Option.some.injEq, Addr.mk.injEq, and_true] at e
    obtain ⟨rfl, rfl⟩ := e
    have := hcell (k + t) (by omega)
    rw [show off + k + t = off + (k + t) by omega, this]
    simp [List.getD]
theorem Rd.upto {W : World} {b off n cap : Nat} {xs : List Nat} (h : Rd W (some ⟨b, off, none⟩) n cap xs) (k : Nat) (hk : k ≤ n) : Rd W (some ⟨b, off, none⟩) k cap (xs.take k) := by
  obtain ⟨hl, hc, hno, hat⟩ := h
  refine ⟨by simp; omega, by omega, fun h => (by cases h), fun hp => ⟨b, off, rfl, fun t ht => ?_⟩⟩
  obtain ⟨b', off', e, hcell⟩ := hat (by omega)
  simp only [Option.some.injEq, Addr.mk.injEq, and_true] at e
  obtain ⟨rfl, rfl⟩ := e
  rw [hcell t (by omega)]
  simp [List.getD, ht]
theorem t5_ne' {W : World} {b p : Nat} {C : Array Value} {m : Nat × Nat} (hp : W.heap[p]? = some (.cells C 107 m)) (h : T5 W b) : b ≠ p := by
  rintro rfl
  obtain ⟨C', m', hx⟩ := h
  rw [hp] at hx
  simp only [Option.some.injEq, Obj.cells.injEq] at hx
  exact absurd hx.2.1 (by decide)
theorem rsrc_set {W : World} {p : Nat} {a c v : Value} (h : W.heap[p]? = some (.cells #[a, c] 107 (0, 0))) : (W.setCell ⟨p, 0, none⟩ v).heap[p]? = some (.cells #[v, c] 107 (0, 0)) := by
  rw [heap_setCell_same W p 0 _ 107 v h]; simp
theorem rbytes_end {W w1 : World} {p b off n cap : Nat} {xs : List Nat} {ao' : Addr} {ar : Option Addr} {c1 : Nat} (hp : W.heap[p]? = some (.cells #[.slice (some ⟨b, off, none⟩) n cap, .int .i64 0] 107 (0, 0)))
    (hr : Rd W (some ⟨b, off, none⟩) n cap xs) (hn : n ≤ 1000) (h5 : T5 W b) (hk : 8 ≤ n) (hb : Below W.heap.size W w1) (ho : w1.ownsRow W.heap.size 5 1 (.slice ar 8 c1) 8 (bs (xs.take 8))) (hr1 : Rd w1 ar 8 c1 (xs.take 8))
    (ha : (cap = 8 ∧ ao' = ⟨b, off, none⟩) ∨ (¬ cap = 8 ∧ ao' = ⟨b, off + 8, none⟩)) :
    Rd (w1.setCell ⟨p, 0, none⟩ (.slice (some ao') (n - 8) (cap - 8))) ar 8 c1 (xs.take 8) ∧ RSrc (w1.setCell ⟨p, 0, none⟩ (.slice (some ao') (n - 8) (cap - 8))) p (xs.drop 8) ∧ W.grownBy (w1.setCell ⟨p, 0, none⟩ (.slice (some ao') (n - 8) (cap - 8))) (some p) := by
  have hne := t5_ne' hp h5
  have hpl := lt_of_block hp
  have hp1 : w1.heap[p]? = some (.cells #[.slice (some ⟨b, off, none⟩) n cap, .int .i64 0] 107 (0, 0)) := by rw [hb.block p hpl]; exact hp
  have hge : ∀ b' o', ar = some ⟨b', o', none⟩ → b' ≠ p := by
    intro b' o' e
    subst e
    have := t5_ne' hp1 (rd_t5 ho b' o' rfl)
    exact this
  refine ⟨rd_set hr1 hge, ?_, grow_trans (grow_below hb) (grow_set _ _ _ _)⟩
  have hf := (hr.keep hb).from_ 8 hk
  have h51 : T5 (w1.setCell ⟨p, 0, none⟩ (.slice (some ao') (n - 8) (cap - 8))) b := (h5.keep hb).five (five_set hp1 (by decide))
  rcases ha with ⟨h1, rfl⟩ | ⟨h1, rfl⟩
  · exact ⟨_, _, _, rsrc_set hp1, rd_set (hf.1 h1) (fun _ _ e => by simp only [Option.some.injEq, Addr.mk.injEq, and_true] at e; rw [← e.1]; exact hne), by omega, fun _ b' o' e => by simp only [Option.some.injEq, Addr.mk.injEq, and_true] at e; rw [← e.1]; exact h51⟩
  · exact ⟨_, _, _, rsrc_set hp1, rd_set (hf.2 h1) (fun _ _ e => by simp only [Option.some.injEq, Addr.mk.injEq, and_true] at e; rw [← e.1]; exact hne), by omega, fun _ b' o' e => by simp only [Option.some.injEq, Addr.mk.injEq, and_true] at e; rw [← e.1]; exact h51⟩
set_option maxRecDepth 100000 in
set_option maxHeartbeats 2000000 in
theorem rbytes_ok (p : Nat) (xs : List Nat) (W : World) (h : RSrc W p xs) (h8 : 8 ≤ xs.length) :
    Calls Try.prog 91 #[.pointer (some ⟨p, 0, none⟩), .int .i64 8] W fun e w' => ∃ b o c, e = .returned (.slice (some ⟨b, o, none⟩) 8 c) ∧ Rd w' (some ⟨b, o, none⟩) 8 c (xs.take 8) ∧ RSrc w' p (xs.drop 8) ∧ W.grownBy w' (some p) := by
  obtain ⟨ao, n, cap, hp, hr, hn, h5⟩ := h
  have hl := hr.1
  obtain ⟨b, off, rfl, _⟩ := hr.2.2.2 (by omega)
  have hc := hr.2.1
  have t5 := h5 (by omega) b off rfl
  obtain ⟨s0, s1, f1⟩ := rsrc_cells hp
  have hk : 8 ≤ n := by omega
  have R8 := hid (hr.upto 8 hk)
  have HP := hid hp
  have EN := hid (fun (w1 : World) (ao' : Addr) (ar : Option Addr) (c1 : Nat) (hb : Below W.heap.size W w1) (ho : w1.ownsRow W.heap.size 5 1 (.slice ar 8 c1) 8 (bs (xs.take 8))) (hr1 : Rd w1 ar 8 c1 (xs.take 8)) (ha : (cap = 8 ∧ ao' = ⟨b, off, none⟩) ∨ (¬ cap = 8 ∧ ao' = ⟨b, off + 8, none⟩)) => rbytes_end hp hr hn t5 hk hb ho hr1 ha)
  have s0a := keep_old (Below.alloc (Below.refl W.heap.size W) (Nat.le_refl _) (.cells #[] 5)) s0
  have g1 : ¬ (n : Int) < 8 := by omega
  have g2 : (8 : Int) ≤ (n : Int) := by omega
  have g3 : (8 : Int) ≤ (cap : Int) := by omega
  clear hp hr h5 hl t5 h8
  by_cases hck : cap = 8
  · obtain rfl : n = 8 := by omega
    subst hck
    go_enter Try.func91, Try.ntmps91
    go_wp2_with (at_builtin; refine wpList_append_rd rfl (.tmp 24) (.tmp 30) rfl W.heap.size _ 0 [] rfl (World.ownsRow_made W #[] 0 (Nat.le_refl _) (by decide) rfl) (some ⟨b, off, none⟩) 8 8 (xs.take 8) rfl (R8.out.keep (Below.alloc (Below.refl _ _) (Nat.le_refl _) _)) (by omega) (by simp) ?_; intro v1 w1 ho1 hb1; obtain ⟨ao1, c1, rfl, hr1⟩ := rd_owned ho1; have O1 := hid (show w1.ownsRow W.heap.size 5 1 (.slice ao1 8 c1) 8 (bs (xs.take 8)) by simpa using ho1); have R1 := hid (show Rd w1 ao1 8 c1 (xs.take 8) by simpa using hr1); have B1 := hid ((Below.alloc (Below.refl _ _) (Nat.le_refl _) _).trans hb1); clear ho1 hr1 hb1 s0 s1 f1 s0a; obtain ⟨s0, s1, f1⟩ := rsrc_cells ((B1.out.block p (lt_of_block HP.out)).trans HP.out))
    go_ret
    have h := EN.out _ _ _ _ B1.out O1.out R1.out (.inl ⟨by first | trivial | rfl, rfl⟩)
    obtain ⟨b1, o1, rfl, _⟩ := R1.out.2.2.2 (by omega)
    exact ⟨_, _, _, rfl, h⟩
  · have hck' : ¬ (cap : Int) = 8 := by omega
    go_enter Try.func91, Try.ntmps91
    go_wp2_with (at_builtin; refine wpList_append_rd rfl (.tmp 24) (.tmp 30) rfl W.heap.size _ 0 [] rfl (World.ownsRow_made W #[] 0 (Nat.le_refl _) (by decide) rfl) (some ⟨b, off, none⟩) 8 cap (xs.take 8) rfl (R8.out.keep (Below.alloc (Below.refl _ _) (Nat.le_refl _) _)) (by omega) (by simp) ?_; intro v1 w1 ho1 hb1; obtain ⟨ao1, c1, rfl, hr1⟩ := rd_owned ho1; have O1 := hid (show w1.ownsRow W.heap.size 5 1 (.slice ao1 8 c1) 8 (bs (xs.take 8)) by simpa using ho1); have R1 := hid (show Rd w1 ao1 8 c1 (xs.take 8) by simpa using hr1); have B1 := hid ((Below.alloc (Below.refl _ _) (Nat.le_refl _) _).trans hb1); clear ho1 hr1 hb1 s0 s1 f1 s0a; obtain ⟨s0, s1, f1⟩ := rsrc_cells ((B1.out.block p (lt_of_block HP.out)).trans HP.out))
    go_ret
    have h := EN.out _ _ _ _ B1.out O1.out R1.out (.inr ⟨hck, rfl⟩)
    obtain ⟨b1, o1, rfl, _⟩ := R1.out.2.2.2 (by omega)
    exact ⟨_, _, _, rfl, h⟩
theorem psum_take (xs : List Nat) : psum (xs.take 8) 8 false 8 = psum xs 8 false 8 := by
  simp only [psum]
  simp [List.getD]
set_option maxRecDepth 100000 in
set_option maxHeartbeats 1000000 in
theorem rnum_ok (p : Nat) (xs : List Nat) (W : World) (h : RSrc W p xs) (hx : ∀ x ∈ xs, x < 256) (h8 : 8 ≤ xs.length) :
    Calls Try.prog 77 #[.pointer (some ⟨p, 0, none⟩), .int .i64 8, .bool false] W fun e w' => e = .returned (.int .u64 (psum xs 8 false 8 : Nat)) ∧ RSrc w' p (xs.drop 8) ∧ W.grownBy w' (some p) := by
  have C1 := hid (rbytes_ok p xs W h h8)
  have C2 := hid (fun (b off c : Nat) (w : World) (hr : Rd w (some ⟨b, off, none⟩) 8 c (xs.take 8)) => by
    have hat := hr.2.2.2 (by omega)
    obtain ⟨b', o', e, hc⟩ := hat
    simp only [Option.some.injEq, Addr.mk.injEq, and_true] at e
    obtain ⟨rfl, rfl⟩ := e
    have := rget_ok b off 8 c (xs.take 8) 8 false w hc (by simp; omega) (fun x hm => hx x (List.mem_of_mem_take hm)) (by omega) (by omega) (Nat.le_refl _)
    rw [hsum_eq _ 8 false (Nat.le_refl _), psum_take xs] at this
    exact this)
  generalize psum xs 8 false 8 = R at *
  clear h hx h8
  go_enter Try.func77, Try.ntmps77
  go_wp2_with (first | (go_at_call 91; refine C1.out.mono ?_; rintro e w1 ⟨b, o, c, rfl, hr, hS⟩; replace hr := hid hr; replace hS := hid hS) | (go_at_call 90; refine (C2.out _ _ _ _ hr.out).mono ?_; rintro e w2 ⟨rfl, rfl⟩))
  go_ret
  exact ⟨rfl, hS.out⟩
set_option maxRecDepth 100000 in
set_option maxHeartbeats 1000000 in
theorem rint_ok (p : Nat) (xs : List Nat) (W : World) (h : RSrc W p xs) (hx : ∀ x ∈ xs, x < 256) (h8 : 8 ≤ xs.length) :
    Calls Try.prog 62 #[.pointer (some ⟨p, 0, none⟩), .bool false] W fun e w' => e = .returned (.int .i64 (IntKind.i64.wrap (psum xs 8 false 8 : Nat))) ∧ RSrc w' p (xs.drop 8) ∧ W.grownBy w' (some p) := by
  have C := hid (rnum_ok p xs W h hx h8)
  have cv : ∀ W, (convert 26 3 (.int .u64 ((psum xs 8 false 8 : Nat) : Int))).run Try.prog W = .ok (.int .i64 (IntKind.i64.wrap (psum xs 8 false 8 : Nat))) W := fun W => by kernel_rfl
  generalize IntKind.i64.wrap (psum xs 8 false 8 : Nat) = r at *
  generalize psum xs 8 false 8 = v at *
  clear h hx h8
  go_enter Try.func62, Try.ntmps62
  go_wp2_with (go_at_call 77; refine C.out.mono ?_; rintro e w1 ⟨rfl, hS⟩; replace hS := hid hS)
  go_ret
  exact ⟨rfl, hS.out⟩
end Oct
end Go.Proofs.Ytjlahomjhadnkaa
