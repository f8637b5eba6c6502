/- A row of points is cloned; shapes that are alike; no statement of the seat is proved here. -/
import Derived.Test.YtcneadohpbeahaaDoorBc
import Derived.Test.YtcneadohpbeahaaDoorBg
namespace Go.Proofs.YtcneadohpbeahaaDoor
open Go.RowKit Go.Maps

theorem flat_def (s : Sh) (d : Nat) : s.flat d = (d, s) :: flatL s.k d s.ps := by rw [flatL_eq, flat_eq]; rfl
theorem eqS_all : ∀ (N : Nat) (a b : Sh), a.nodes.length ≤ N → eqS a b = true → ptsOf a = ptsOf b ∧ eqS b a = true ∧ ∀ d, (a.flat d).map (·.1) = (b.flat d).map (·.1) := by
  intro N
  induction N with
  | zero => intro a b h; rw [nodes_eq] at h; simp at h
  | succ N ih =>
    intro a b h he
    rw [eqS_eq, Bool.and_eq_true, Bool.and_eq_true] at he
    obtain ⟨hk, hx, hp⟩ := he
    have hk := eq_of_beq hk
    have hx := eq_of_beq hx
    have key : ∀ l l' : List Sh, (∀ p ∈ l, p ∈ a.ps) → eqL l l' = true → l.flatMap ptsOf = l'.flatMap ptsOf ∧ eqL l' l = true ∧ ∀ k d, (flatL k d l).map (·.1) = (flatL k d l').map (·.1) := by
      intro l
      induction l with
      | nil =>
        intro l' _ h
        cases l' with
        | nil => exact ⟨rfl, eqL_nil, fun _ _ => rfl⟩
        | cons q r' => rw [eqL] at h; cases h
      | cons p r ihl =>
        intro l' hm h
        cases l' with
        | nil => rw [eqL] at h; cases h
        | cons q r' =>
          rw [eqL_cons, Bool.and_eq_true] at h
          obtain ⟨h1, h2, h3⟩ := ih p q (by have := nodes_lt (hm p (by simp)); omega) h.1
          obtain ⟨g1, g2, g3⟩ := ihl r' (fun x hx => hm x (by simp [hx])) h.2
          have hpk : p.k = q.k := by
            have := h.1
            rw [eqS_eq, Bool.and_eq_true] at this
            exact eq_of_beq this.1
          refine ⟨by rw [List.flatMap_cons, List.flatMap_cons, h1, g1], by rw [eqL_cons, h2, g2]; rfl, fun k d => ?_⟩
          rw [flatL, flatL, List.map_append, List.map_append, g3, hpk]
          congr 1
          split
          · exact h3 _
          · rfl
    obtain ⟨k1, k2, k3⟩ := key a.ps b.ps (fun _ h => h) hp
    refine ⟨by rw [ptsOf_eq, ptsOf_eq b, hx, k1], by rw [eqS_eq, hk, hx, k2]; simp, fun d => ?_⟩
    rw [flat_def, flat_def b, List.map_cons, List.map_cons, k3, hk]
theorem eqS_depth {a b : Sh} (h : eqS a b = true) : depthN (a.flat 1) = depthN (b.flat 1) := by
  have e := (eqS_all _ a b (Nat.le_refl _) h).2.2 1
  have f : ∀ l : List (Nat × Sh), depthN l = (l.map (·.1)).foldl max 0 := fun l => by unfold depthN; rw [List.foldl_map]
  rw [f, f, e]

/-- The block that a row lies in. -/
def inB (ao : Option Addr) (b : Nat) : Prop := ∃ a, ao = some a ∧ a.block = b
/-- Blocks of cells that nobody else shares. -/
def NF (w : World) (S : Nat → Prop) : Prop := ∀ b, S b → ∃ cur t, w.heap[b]? = some (.cells cur t)
theorem NF.of {w w' : World} {S T : Nat → Prop} (h : NF w S) (hT : ∀ b, T b → S b ∧ w'.heap[b]? = w.heap[b]?) : NF w' T := fun b hb => by
  obtain ⟨cur, t, e⟩ := h b (hT b hb).1
  exact ⟨cur, t, (hT b hb).2.trans e⟩
theorem NF.fz {w : World} {S : Nat → Prop} (h : NF w S) {b : Nat} (hb : S b) (j : Nat) : w.frozen? ⟨b, j, none⟩ = false := by
  obtain ⟨cur, t, e⟩ := h b hb
  simp [World.frozen?, e]
theorem row_set {w : World} {B cap : Nat} {ao : Option Addr} {n : Nat} {l : List (Int × Int)} (h : w.ownsRow B 41 2 (.slice ao n cap) n (pv l)) (hl : l.length = n) : XR (inB ao) w ao l ∧ NF w (inB ao) ∧ ∀ b, inB ao b → B ≤ b ∧ b < w.heap.size := by
  rcases h.2 with ⟨h1, h2⟩ | ⟨g, cap', cur, h1, hb, hg, _⟩
  · have e : ao = none := by simp at h1; exact h1.1
    refine ⟨.inl (List.length_eq_zero_iff.1 (by omega)), fun b hb => ?_, fun b hb => ?_⟩ <;> (obtain ⟨a, ha, _⟩ := hb; rw [e] at ha; cases ha)
  · have e : ao = some ⟨g, 0, none⟩ := by simp at h1; exact h1.1
    have eb : ∀ b, inB ao b → b = g := fun b hb => by obtain ⟨a, ha, rfl⟩ := hb; rw [e] at ha; simp at ha; rw [← ha]
    have hlt : g < w.heap.size := (Array.getElem?_eq_some_iff.1 hg).1
    refine ⟨?_, fun b hb' => ⟨cur, 41, by rw [eb b hb']; exact hg⟩, fun b hb' => by rw [eb b hb']; exact ⟨hb, hlt⟩⟩
    rcases xr_own h hl with h9 | ⟨b, off, e9, _, hat⟩
    · exact .inl h9
    · exact .inr ⟨b, off, e9, ⟨_, e9, rfl⟩, hat⟩

set_option maxHeartbeats 2000000 in
theorem clone_call (S : Nat → Prop) (xo : Option Addr) (n c : Nat) (l : List (Int × Int)) (w : World) (hr : XR S w xo l) (hl : l.length = n) (h0 : xo = none → n = 0 ∧ c = 0) (hS : ∀ b, S b → b < w.heap.size) (hb : n ≤ 100000000) :
    Calls Tryd.prog 54 #[.slice xo n c] w fun e w' => (∃ ao cap, e = .returned (.slice ao n cap) ∧ w'.ownsRow w.heap.size 41 2 (.slice ao n cap) n (pv l)) ∧ Below w.heap.size w w' := by
  cases xo with
  | none =>
    obtain ⟨rfl, rfl⟩ := h0 rfl
    obtain rfl : l = [] := List.eq_nil_of_length_eq_zero hl
    have NN : ∀ W, (binOp .eql 22 (.slice none 0 0) (.slice none 0 0)).run Tryd.prog W = .ok (.bool true) W := fun W => by kernel_rfl
    clear hr hl h0 hS hb
    go_enter Tryd.func54, Tryd.ntmps54
    go_wp2
    go_ret
    exact ⟨⟨none, 0, rfl, World.ownsRow_nil _ _ _ _⟩, Below.refl _ _⟩
  | some ad =>
    have XH := hid (hr.of (w' := w.alloc (.cells #[] 41)) (T := S) fun b hb => ⟨(ext1 (w := w) _).block b (hS b hb), hb⟩)
    have OW := hid (World.ownsRow_lit (base := w.heap.size) (size := 2) (e := 41) w #[] 0 (by simp) (by unfold maxLen; omega) rfl)
    have HL := hid hl
    have NS : ∀ W, (binOp .eql 22 (.slice (some ad) n c) (.slice none 0 0)).run Tryd.prog W = .ok (.bool false) W := fun W => by kernel_rfl
    clear hr h0 hS hl
    go_enter Tryd.func54, Tryd.ntmps54
    go_wp2_with ((with_reducible refine here_op 7 ?_); refine append_pts rfl (.tmp 5) (.tmp 6) rfl w.heap.size _ 0 [] rfl OW.out S (some ad) n c l rfl XH.out HL.out (fun e => by cases e) (by omega) (by simp) ?_; intro v1 w1 ho1 hb1 _; have O1 := hid ho1; have K1 : Hid (Below w.heap.size w w1) := hid ((ext1 (w := w) (.cells #[] 41)).trans hb1); clear ho1 hb1)
    go_ret
    have h := O1.out
    rw [List.nil_append, Nat.zero_add] at h
    obtain ⟨ao, cap, rfl⟩ := row_form h
    exact ⟨⟨ao, cap, rfl, h⟩, K1.out⟩
end Go.Proofs.YtcneadohpbeahaaDoor
