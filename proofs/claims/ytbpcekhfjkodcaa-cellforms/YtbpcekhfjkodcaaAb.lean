/- What cells are in memory, alone and in a row, and what spills and size of a cell return; no statement of the seat is proved here. -/
import Derived.Test.YtbpcekhfjkodcaaAa
namespace Go.Proofs.Ytbpcekhfjkodcaa
open Go.RowKit

/-- A cell: its numbers, where its bytes lie, and these. -/
structure C where
  k : Int
  c : Int
  l : Int
  o : Option Addr
  n : Nat
  m : Nat
  x : Int
  b : List Nat
  deriving Inhabited

def big : Nat := 140737488355328

/-- What is asked of a cell ahead of all: its bytes can be read. -/
structure Cok (w : World) (a : C) : Prop where
  rd : Rd w a.o a.n a.m a.b
  by8 : ∀ x ∈ a.b, x < 256
  kI : I64 a.k
  cI : I64 a.c
  lI : I64 a.l
  xI : I64 a.x
  nB : a.n ≤ big

theorem Cok.keep {w w' : World} {a : C} (h : Cok w a) (hb : Below w.heap.size w w') : Cok w' a := { h with rd := h.rd.keep hb }

/-- Five cells of memory. -/
def At5 (w : World) (b o : Nat) (a : C) : Prop :=
  w.cell? ⟨b, o, none⟩ = some (.int .i64 a.k) ∧ w.cell? ⟨b, o + 1, none⟩ = some (.int .i64 a.c) ∧ w.cell? ⟨b, o + 2, none⟩ = some (.int .i64 a.l) ∧ w.cell? ⟨b, o + 3, none⟩ = some (.slice a.o a.n a.m) ∧ w.cell? ⟨b, o + 4, none⟩ = some (.int .i64 a.x)

theorem At5.keep {w w' : World} {b o : Nat} {a : C} (h : At5 w b o a) (hb : Below w.heap.size w w') : At5 w' b o a :=
  ⟨keep_old hb h.1, keep_old hb h.2.1, keep_old hb h.2.2.1, keep_old hb h.2.2.2.1, keep_old hb h.2.2.2.2⟩

/-- A row of cells. -/
structure Cs (w : World) (ao : Option Addr) (n cap : Nat) (cs : List C) : Prop where
  len : cs.length = n
  le : n ≤ cap
  no : ao = none → n = 0 ∧ cap = 0
  at_ : 0 < n → ∃ b off, ao = some ⟨b, off, none⟩ ∧ ∀ t, t < n → At5 w b (off + t * 5) (cs.getD t default)
  ok : ∀ a ∈ cs, Cok w a

theorem Cs.keep {w w' : World} {ao : Option Addr} {n cap : Nat} {cs : List C} (h : Cs w ao n cap cs) (hb : Below w.heap.size w w') : Cs w' ao n cap cs :=
  { len := h.len, le := h.le, no := h.no, ok := fun a ha => (h.ok a ha).keep hb,
    at_ := fun hn => by
      obtain ⟨b, off, e, hc⟩ := h.at_ hn
      exact ⟨b, off, e, fun t ht => (hc t ht).keep hb⟩ }

theorem Cs.nil (w : World) : Cs w none 0 0 [] := ⟨rfl, Nat.le_refl _, fun _ => ⟨rfl, rfl⟩, fun h => by omega, fun a h => by cases h⟩

theorem dropC (cs : List C) (i : Nat) (h : i < cs.length) : cs.drop i = cs.getD i default :: cs.drop (i + 1) := by
  rw [List.drop_eq_getElem_cons h]
  simp [List.getD, List.getElem?_eq_getElem h]

theorem Cs.ok_at {w : World} {ao : Option Addr} {n cap : Nat} {cs : List C} (h : Cs w ao n cap cs) {i : Nat} (hi : i < n) : Cok w (cs.getD i default) := by
  apply h.ok
  have hl := h.len
  simp [List.getD, List.getElem?_eq_getElem (show i < cs.length by omega)]

/-- A box with a node in it. -/
def NB (t : TypeId) (W : World) (q : Nat) (leaf : Bool) (r : Int) (co : Option Addr) (cn cc : Nat) : Prop := W.heap[q]? = some (.cells #[.bool leaf, .int .i64 r, .slice co cn cc] t (0, 0))
section
variable {t : TypeId} {W W' : World} {q : Nat} {leaf : Bool} {r : Int} {co : Option Addr} {cn cc : Nat}
theorem NB.cells (h : NB t W q leaf r co cn cc) : W.cell? ⟨q, 0, none⟩ = some (.bool leaf) ∧ W.cell? ⟨q, 1, none⟩ = some (.int .i64 r) ∧ W.cell? ⟨q, 2, none⟩ = some (.slice co cn cc) := by
  unfold NB at h
  simp [World.cell?, h]
theorem NB.lt (h : NB t W q leaf r co cn cc) : q < W.heap.size := lt_of_block h
theorem NB.keep (h : NB t W q leaf r co cn cc) (hb : Below W.heap.size W W') : NB t W' q leaf r co cn cc := by
  unfold NB; rw [hb.block q h.lt]; exact h
theorem NB.new (t : TypeId) (w : World) (leaf : Bool) (r : Int) (co : Option Addr) (cn cc : Nat) : NB t (w.alloc (.cells #[.bool leaf, .int .i64 r, .slice co cn cc] t)) w.heap.size leaf r co cn cc := heap_alloc_new w _
end
theorem ext1 {w : World} (o : Obj) : Below w.heap.size w (w.alloc o) := Below.alloc (Below.refl _ _) (Nat.le_refl _) o

/-- What a box with a cell in it tells. -/
abbrev S5 (q : Nat) (a : C) (W : World) : Prop :=
  W.cell? ⟨q, 0, none⟩ = some (.int .i64 a.k) ∧ W.cell? ⟨q, 1, none⟩ = some (.int .i64 a.c) ∧ W.cell? ⟨q, 2, none⟩ = some (.int .i64 a.l) ∧ W.cell? ⟨q, 3, none⟩ = some (.slice a.o a.n a.m) ∧ W.cell? ⟨q, 4, none⟩ = some (.int .i64 a.x)
theorem S5.new (t : TypeId) (w : World) (a : C) : S5 w.heap.size a (w.alloc (.cells #[.int .i64 a.k, .int .i64 a.c, .int .i64 a.l, .slice a.o a.n a.m, .int .i64 a.x] t)) := by
  have h := heap_alloc_new w (.cells #[.int .i64 a.k, .int .i64 a.c, .int .i64 a.l, .slice a.o a.n a.m, .int .i64 a.x] t)
  refine ⟨?_, ?_, ?_, ?_, ?_⟩ <;> (unfold World.cell?; rw [h]; rfl)
theorem S5.keep {q : Nat} {a : C} {w w' : World} (h : S5 q a w) (hb : Below w.heap.size w w') : S5 q a w' :=
  ⟨keep_old hb h.1, keep_old hb h.2.1, keep_old hb h.2.2.1, keep_old hb h.2.2.2.1, keep_old hb h.2.2.2.2⟩

def spillB (a : C) : Bool := decide ((a.b.length : Int) < a.l)

set_option maxHeartbeats 400000 in
theorem spills_any (a : C) (w : World) (hn : a.b.length = a.n) : Calls Try.prog 67 #[.agg #[.int .i64 (a).k, .int .i64 (a).c, .int .i64 (a).l, .slice (a).o (a).n (a).m, .int .i64 (a).x]] w fun e w' => e = .returned (.bool (spillB a)) ∧ Below w.heap.size w w' := by
  obtain ⟨v, hv⟩ : ∃ v, v = spillB a := ⟨_, rfl⟩
  rw [← hv]
  unfold spillB at hv
  rw [hn] at hv
  by_cases h : (a.n : Int) < a.l
  · obtain rfl : v = true := by rw [hv]; simpa using h
    clear hv
    go_enter Try.func67, Try.ntmps67
    go_wp2
    go_ret
    exact ⟨rfl, ext1 _⟩
  · obtain rfl : v = false := by rw [hv]; simpa using h
    clear hv
    go_enter Try.func67, Try.ntmps67
    go_wp2
    go_ret
    exact ⟨rfl, ext1 _⟩

/-- The bytes of a cell. -/
def oneN (leaf : Bool) (a : C) : List Nat :=
  if leaf then varN (zigN a.k) ++ varN (uN a.l) ++ a.b ++ (if spillB a then putN (uN a.x) 4 false else []) else putN (uN a.c) 4 false ++ varN (zigN a.k)
theorem oneN_length (leaf : Bool) (a : C) : (oneN leaf a).length = if leaf then szN (zigN a.k) + szN (uN a.l) + a.b.length + (if spillB a then 4 else 0) else 4 + szN (zigN a.k) := by
  unfold oneN
  cases leaf <;> cases spillB a <;> simp [varN_length, putN_length] <;> omega

theorem size_wrap (z : Int) (w : World) : Calls Try.prog 68 #[.int .u64 (IntKind.u64.wrap z)] w fun e w' => e = .returned (.int .i64 (szN (uN z) : Nat)) ∧ w' = w := by
  rw [uN_wrap]; exact size_any _ (uN_lt z) w

set_option maxHeartbeats 1000000 in
theorem csize_any (leaf : Bool) (a : C) (w : World) (h : Cok w a) : Calls Try.prog 44 #[.agg #[.int .i64 (a).k, .int .i64 (a).c, .int .i64 (a).l, .slice (a).o (a).n (a).m, .int .i64 (a).x], .bool leaf] w fun e w' => e = .returned (.int .i64 ((oneN leaf a).length : Nat)) ∧ Below w.heap.size w w' := by
  obtain ⟨L, hL⟩ : ∃ L, L = (oneN leaf a).length := ⟨_, rfl⟩
  rw [← hL]
  rw [oneN_length] at hL
  have cz := hid (zig_any a.k h.kI)
  have cs := hid (size_any (zigN a.k) (zigN_lt a.k h.kI))
  have cl := hid (size_wrap a.l)
  have hsp := fun w => spills_any a w h.rd.1
  have sz1 := szN_le (zigN a.k)
  have sz2 := szN_le (uN a.l)
  have hB := h.nB
  have hb := h.rd.1
  unfold big at hB
  generalize szN (zigN a.k) = s1 at *
  generalize zigN a.k = z1 at *
  generalize szN (uN a.l) = s2 at *
  rw [hb] at hL
  have hL' := hid hL
  clear h hL hb
  cases leaf with
  | false =>
    go_enter Try.func44, Try.ntmps44
    go_wp2_with (first | (go_at_call 24; refine (cz.out _).mono ?_; rintro e w1 ⟨rfl, h1⟩; obtain rfl := h1.symm) | (go_at_call 68; refine (cs.out _).mono ?_; rintro e w1 ⟨rfl, h1⟩; obtain rfl := h1.symm))
    go_ret
    have := hL'.out
    simp at this
    subst this
    exact ⟨by simp, ext1 _⟩
  | true =>
    have g0 := S5.new 57 w a
    cases hsb : spillB a with
    | false =>
      rw [hsb] at hsp hL'
      have hsp' := hid hsp
      clear hsp hsb
      have g1 : S5 w.heap.size a (w.alloc (.cells #[.int .i64 a.k, .int .i64 a.c, .int .i64 a.l, .slice a.o a.n a.m, .int .i64 a.x] 57)).drew := g0.keep (Below.refl _ _).drew
      go_enter Try.func44, Try.ntmps44
      go_upto_region 4 with (first | (go_at_call 24; refine (cz.out _).mono ?_; rintro e w1 ⟨rfl, h1⟩; obtain rfl := h1.symm; clear cz) | (go_at_call 68; refine (cs.out _).mono ?_; rintro e w1 ⟨rfl, h1⟩; obtain rfl := h1.symm; clear cs))
      go_region_held3 (S5 w.heap.size a) (with_reducible assumption) (first | (go_at_call 68; refine (cl.out _).mono ?_; rintro e w1 ⟨rfl, h1⟩; obtain rfl := h1.symm))
      go_wp2_with (go_at_call 67; refine (hsp'.out _).mono ?_; rintro e w1 ⟨rfl, hb1⟩; have H1 := hid hb1; clear hb1)
      go_ret
      have := hL'.out
      simp at this
      subst this
      exact ⟨by simp <;> first | omega | (simp only [IntKind.wrap_i64]; omega), gt (ext1 _).drew H1.out⟩
    | true =>
      rw [hsb] at hsp hL'
      have hsp' := hid hsp
      clear hsp hsb
      have g1 : S5 w.heap.size a (w.alloc (.cells #[.int .i64 a.k, .int .i64 a.c, .int .i64 a.l, .slice a.o a.n a.m, .int .i64 a.x] 57)).drew := g0.keep (Below.refl _ _).drew
      go_enter Try.func44, Try.ntmps44
      go_upto_region 4 with (first | (go_at_call 24; refine (cz.out _).mono ?_; rintro e w1 ⟨rfl, h1⟩; obtain rfl := h1.symm; clear cz) | (go_at_call 68; refine (cs.out _).mono ?_; rintro e w1 ⟨rfl, h1⟩; obtain rfl := h1.symm; clear cs))
      go_region_held3 (S5 w.heap.size a) (with_reducible assumption) (first | (go_at_call 68; refine (cl.out _).mono ?_; rintro e w1 ⟨rfl, h1⟩; obtain rfl := h1.symm))
      go_wp2_with (go_at_call 67; refine (hsp'.out _).mono ?_; rintro e w1 ⟨rfl, hb1⟩; have H1 := hid hb1; clear hb1)
      go_ret
      have := hL'.out
      simp at this
      subst this
      exact ⟨by simp <;> first | omega | (simp only [IntKind.wrap_i64]; omega), gt (ext1 _).drew H1.out⟩

end Go.Proofs.Ytbpcekhfjkodcaa
