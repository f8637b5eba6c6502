/- Shapes, as they lie in memory, and all that lies in them; no statement of the seat is proved here. -/
import Derived.Test.YtjlahomjhadnkaaAa
namespace Go.Proofs.Ytjlahomjhadnkaa
open Go.RowKit Go.Maps

/-- A shape: its kind, where its points lie and what they are, where its parts lie and what they are. -/
inductive Sh where
  | mk (k : Int) (xo : Option Addr) (xn xc : Nat) (xy : List (Int × Int)) (po : Option Addr) (pn pc : Nat) (ps : List Sh)
namespace Sh
def k : Sh → Int | mk k _ _ _ _ _ _ _ _ => k
def xo : Sh → Option Addr | mk _ x _ _ _ _ _ _ _ => x
def xn : Sh → Nat | mk _ _ x _ _ _ _ _ _ => x
def xc : Sh → Nat | mk _ _ _ x _ _ _ _ _ => x
def xy : Sh → List (Int × Int) | mk _ _ _ _ x _ _ _ _ => x
def po : Sh → Option Addr | mk _ _ _ _ _ x _ _ _ => x
def pn : Sh → Nat | mk _ _ _ _ _ _ x _ _ => x
def pc : Sh → Nat | mk _ _ _ _ _ _ _ x _ => x
def ps : Sh → List Sh | mk _ _ _ _ _ _ _ _ x => x
instance : Inhabited Sh := ⟨mk 0 none 0 0 [] none 0 0 []⟩
end Sh

/-- How deep a part lies. -/
def din (k p : Int) (d : Nat) : Nat := if k = 3 ∧ p = 0 then d else d + 1
theorem din_le (k p : Int) (d : Nat) : din k p d ≤ d + 1 := by unfold din; split <;> omega
theorem din_ge (k p : Int) (d : Nat) : d ≤ din k p d := by unfold din; split <;> omega

mutual
def Sh.nodes : Sh → List Sh
  | .mk k xo xn xc xy po pn pc ps => .mk k xo xn xc xy po pn pc ps :: nodesL ps
def nodesL : List Sh → List Sh
  | [] => []
  | p :: r => p.nodes ++ nodesL r
end
mutual
def Sh.flat : Sh → Nat → List (Nat × Sh)
  | .mk k xo xn xc xy po pn pc ps, d => (d, .mk k xo xn xc xy po pn pc ps) :: flatL k d ps
def flatL (k : Int) (d : Nat) : List Sh → List (Nat × Sh)
  | [] => []
  | p :: r => (if din k p.k d ≤ 17 then p.flat (din k p.k d) else []) ++ flatL k d r
end
theorem nodes_eq (s : Sh) : s.nodes = s :: nodesL s.ps := by cases s; rw [Sh.nodes]; rfl
theorem nodesL_mem {l : List Sh} {p q : Sh} (hp : p ∈ l) (hq : q ∈ p.nodes) : q ∈ nodesL l := by
  induction l with
  | nil => cases hp
  | cons a r ih =>
    rw [nodesL, List.mem_append]
    rcases List.mem_cons.1 hp with rfl | h
    · exact .inl hq
    · exact .inr (ih h)
theorem nodesL_len {l : List Sh} {p : Sh} (hp : p ∈ l) : p.nodes.length ≤ (nodesL l).length := by
  induction l with
  | nil => cases hp
  | cons a r ih =>
    rw [nodesL, List.length_append]
    rcases List.mem_cons.1 hp with rfl | h
    · omega
    · have := ih h; omega
theorem nodes_self (s : Sh) : s ∈ s.nodes := by rw [nodes_eq]; simp
theorem nodes_part {s p : Sh} (hp : p ∈ s.ps) : ∀ q ∈ p.nodes, q ∈ s.nodes := fun q hq => by rw [nodes_eq]; exact List.mem_cons_of_mem _ (nodesL_mem hp hq)
theorem nodes_lt {s p : Sh} (hp : p ∈ s.ps) : p.nodes.length < s.nodes.length := by rw [nodes_eq s]; have := nodesL_len hp; simp; omega

/-- The parts that are looked at. -/
def seenL (d : Nat) (s : Sh) : List Sh := s.ps.filter fun p => decide (din s.k p.k d ≤ 17)
theorem seenL_all {d : Nat} (s : Sh) (h : d < 17) : seenL d s = s.ps := by
  unfold seenL
  rw [List.filter_eq_self]
  intro p _
  have := din_le s.k p.k d
  simp; omega
theorem seenL_mem {d : Nat} {s p : Sh} (h : p ∈ seenL d s) : p ∈ s.ps ∧ din s.k p.k d ≤ 17 := by
  unfold seenL at h
  rw [List.mem_filter] at h
  exact ⟨h.1, by simpa using h.2⟩
theorem flatL_eq (k : Int) (d : Nat) (l : List Sh) : flatL k d l = (l.filter fun p => decide (din k p.k d ≤ 17)).flatMap fun p => p.flat (din k p.k d) := by
  induction l with
  | nil => rw [flatL]; rfl
  | cons a r ih =>
    rw [flatL, ih]
    by_cases h : din k a.k d ≤ 17
    · simp [h]
    · simp [h]
theorem flat_eq (s : Sh) (d : Nat) : s.flat d = (d, s) :: (seenL d s).flatMap fun p => p.flat (din s.k p.k d) := by
  have : s.flat d = (d, s) :: flatL s.k d s.ps := by cases s; rw [Sh.flat]; rfl
  rw [this, flatL_eq]; rfl
/-- All that is told lies in the shape, and not too deep. -/
theorem flat_mem : ∀ (N : Nat) (s : Sh) (d : Nat), s.nodes.length ≤ N → d ≤ 17 → ∀ x ∈ s.flat d, x.2 ∈ s.nodes ∧ d ≤ x.1 ∧ x.1 ≤ 17 := by
  intro N
  induction N with
  | zero => intro s d h; rw [nodes_eq] at h; simp at h
  | succ N ih =>
    intro s d h hd x hx
    rw [flat_eq] at hx
    rcases List.mem_cons.1 hx with rfl | hx
    · exact ⟨nodes_self s, Nat.le_refl _, hd⟩
    · obtain ⟨p, hp, hx⟩ := List.mem_flatMap.1 hx
      obtain ⟨hp, h17⟩ := seenL_mem hp
      obtain ⟨h1, h2, h3⟩ := ih p _ (by have := nodes_lt hp; omega) h17 x hx
      exact ⟨nodes_part hp _ h1, Nat.le_trans (din_ge _ _ _) h2, h3⟩

/-- Three cells of a shape. -/
def At3 (w : World) (b o : Nat) (p : Sh) : Prop :=
  w.cell? ⟨b, o, none⟩ = some (.int .i64 p.k) ∧ w.cell? ⟨b, o + 1, none⟩ = some (.slice p.xo p.xn p.xc) ∧ w.cell? ⟨b, o + 2, none⟩ = some (.slice p.po p.pn p.pc)
theorem At3.of {w w' : World} {b o : Nat} {p : Sh} (h : At3 w b o p) (hb : w'.heap[b]? = w.heap[b]?) : At3 w' b o p := by
  have c : ∀ j, w'.cell? ⟨b, j, none⟩ = w.cell? ⟨b, j, none⟩ := fun j => World.cell?_of_block (a := ⟨b, j, none⟩) hb
  unfold At3 at h ⊢
  rw [c, c, c]; exact h
/-- A row of parts, in a block of S. -/
def PR (S : Nat → Prop) (w : World) (po : Option Addr) (ps : List Sh) : Prop :=
  ps = [] ∨ ∃ b off, po = some ⟨b, off, none⟩ ∧ S b ∧ ∀ i p, ps[i]? = some p → At3 w b (off + i * 3) p
theorem PR.of {S T : Nat → Prop} {w w' : World} {po : Option Addr} {ps : List Sh} (h : PR S w po ps) (hb : ∀ b, S b → w'.heap[b]? = w.heap[b]? ∧ T b) : PR T w' po ps := by
  rcases h with h | ⟨b, off, e, hS, h⟩
  · exact .inl h
  · exact .inr ⟨b, off, e, (hb b hS).2, fun i p hi => (h i p hi).of (hb b hS).1⟩
/-- A row of points. -/
def XR (S : Nat → Prop) (w : World) (xo : Option Addr) (l : List (Int × Int)) : Prop :=
  l = [] ∨ ∃ b off, xo = some ⟨b, off, none⟩ ∧ S b ∧ ∀ i p, l[i]? = some p → w.cell? ⟨b, off + i * 2, none⟩ = some (.int .i64 p.1) ∧ w.cell? ⟨b, off + i * 2 + 1, none⟩ = some (.int .i64 p.2)
theorem XR.of {S T : Nat → Prop} {w w' : World} {xo : Option Addr} {l : List (Int × Int)} (h : XR S w xo l) (hb : ∀ b, S b → w'.heap[b]? = w.heap[b]? ∧ T b) : XR T w' xo l := by
  rcases h with h | ⟨b, off, e, hS, h⟩
  · exact .inl h
  · refine .inr ⟨b, off, e, (hb b hS).2, fun i p hi => ?_⟩
    have c : ∀ j, w'.cell? ⟨b, j, none⟩ = w.cell? ⟨b, j, none⟩ := fun j => World.cell?_of_block (a := ⟨b, j, none⟩) (hb b hS).1
    rw [c, c]; exact h i p hi

/-- A shape lies here, in blocks of S, its parts' own lists not asked. -/
structure Here (S : Nat → Prop) (w : World) (s : Sh) : Prop where
  kI : -9223372036854775808 ≤ s.k ∧ s.k ≤ 9223372036854775807
  xl : s.xy.length = s.xn
  xm : s.xn ≤ s.xc
  xb : s.xn * 16 ≤ 140737488355328
  x0 : s.xo = none → s.xn = 0 ∧ s.xc = 0
  xr : XR S w s.xo s.xy
  pl : s.ps.length = s.pn
  pm : s.pn ≤ s.pc
  pb : s.pn * 56 ≤ 140737488355328
  p0 : s.po = none → s.pn = 0 ∧ s.pc = 0
  pr : PR S w s.po s.ps
theorem Here.of {S T : Nat → Prop} {w w' : World} {s : Sh} (h : Here S w s) (hb : ∀ b, S b → w'.heap[b]? = w.heap[b]? ∧ T b) : Here T w' s :=
  { h with xr := h.xr.of hb, pr := h.pr.of hb }
/-- A shape lies here, with all in it. -/
def In (S : Nat → Prop) (w : World) (s : Sh) : Prop := ∀ q ∈ s.nodes, Here S w q
theorem In.of {S T : Nat → Prop} {w w' : World} {s : Sh} (h : In S w s) (hb : ∀ b, S b → w'.heap[b]? = w.heap[b]? ∧ T b) : In T w' s := fun q hq => (h q hq).of hb
theorem In.here {S : Nat → Prop} {w : World} {s : Sh} (h : In S w s) : Here S w s := h s (nodes_self s)
theorem In.part {S : Nat → Prop} {w : World} {s p : Sh} (h : In S w s) (hp : p ∈ s.ps) : In S w p := fun q hq => h q (nodes_part hp q hq)
theorem In.node {S : Nat → Prop} {w : World} {s q : Sh} (h : In S w s) (hq : q ∈ s.nodes) : Here S w q := h q hq
theorem In.below {N : Nat} {w w' : World} {s : Sh} (h : In (fun b => b < N) w s) (hb : Below N w w') : In (fun b => b < N) w' s := h.of fun b hb' => ⟨hb.block b hb', hb'⟩

/-- A shape's box. -/
def Bx (w : World) (b : Nat) (s : Sh) : Prop := w.heap[b]? = some (.cells #[.int .i64 (s).k, .slice (s).xo (s).xn (s).xc, .slice (s).po (s).pn (s).pc] 45)
theorem Bx.cells {w : World} {b : Nat} {s : Sh} (h : Bx w b s) : w.cell? ⟨b, 0, none⟩ = some (.int .i64 s.k) ∧ w.cell? ⟨b, 1, none⟩ = some (.slice s.xo s.xn s.xc) ∧ w.cell? ⟨b, 2, none⟩ = some (.slice s.po s.pn s.pc) := by unfold Bx at h; simp [World.cell?, h]
theorem Bx.fz {w : World} {b : Nat} {s : Sh} (h : Bx w b s) (i : Nat) : w.frozen? ⟨b, i, none⟩ = false := by unfold Bx at h; simp [World.frozen?, h]
theorem Bx.lt {w : World} {b : Nat} {s : Sh} (h : Bx w b s) : b < w.heap.size := (Array.getElem?_eq_some_iff.1 h).1
theorem Bx.keep {w w' : World} {b : Nat} {s : Sh} (h : Bx w b s) (hb : Below w.heap.size w w') : Bx w' b s := (hb.block b h.lt).trans h
theorem Bx.new (w : World) (s : Sh) : Bx (w.alloc (.cells #[.int .i64 (s).k, .slice (s).xo (s).xn (s).xc, .slice (s).po (s).pn (s).pc] 45)) w.heap.size s := heap_alloc_new w _
theorem ext1 {w : World} (o : Obj) : Below w.heap.size w (w.alloc o) := (Below.refl _ w).alloc (Nat.le_refl _) _

set_option maxRecDepth 100000 in
set_option maxHeartbeats 1000000 in
theorem din_call (s p : Sh) (d : Nat) (w : World) (hd : d ≤ 1000000) : Calls Try.prog 83 #[.agg #[.int .i64 (s).k, .slice (s).xo (s).xn (s).xc, .slice (s).po (s).pn (s).pc], .agg #[.int .i64 (p).k, .slice (p).xo (p).xn (p).xc, .slice (p).po (p).pn (p).pc], .int .i64 (d : Int)] w fun e w' => e = .returned (.int .i64 (din s.k p.k d : Nat)) ∧ Below w.heap.size w w' := by
  have B1 := hid (Bx.new w s)
  have B2 := hid (Bx.new (w.alloc (.cells #[.int .i64 (s).k, .slice (s).xo (s).xn (s).xc, .slice (s).po (s).pn (s).pc] 45)) p)
  have B3 := hid (B1.out.keep (ext1 (.cells #[.int .i64 (p).k, .slice (p).xo (p).xn (p).xc, .slice (p).po (p).pn (p).pc] 45)))
  obtain ⟨x0, _, _⟩ := B3.out.cells
  obtain ⟨y0, _, _⟩ := B2.out.cells
  rw [World.size_alloc] at y0
  clear B1 B2 B3
  by_cases h3 : s.k = 3
  · by_cases h0 : p.k = 0
    · rw [show din s.k p.k d = d by simp [din, h3, h0]]
      rw [h3, h0] at *
      go_enter Try.func83, Try.ntmps83
      go_wp2
      go_ret
      exact ⟨rfl, gt (ext1 _) (ext1 _)⟩
    · rw [show din s.k p.k d = d + 1 by simp [din, h0]]
      have n1 : (p.k == 0) = false := by simp [h0]
      rw [h3] at *
      clear h0
      go_enter Try.func83, Try.ntmps83
      go_wp2
      go_ret
      exact ⟨by go_num, gt (ext1 _) (ext1 _)⟩
  · rw [show din s.k p.k d = d + 1 by simp [din, h3]]
    have n1 : (s.k == 3) = false := by simp [h3]
    clear h3
    go_enter Try.func83, Try.ntmps83
    go_wp2
    go_ret
    exact ⟨by go_num, gt (ext1 _) (ext1 _)⟩
end Go.Proofs.Ytjlahomjhadnkaa
