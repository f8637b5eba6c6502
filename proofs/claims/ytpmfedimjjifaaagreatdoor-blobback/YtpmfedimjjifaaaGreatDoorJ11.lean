/- What Check says hangs on the shape alone; a shape that it lets by is as the readers want it; no statement of the seat is proved here. -/
import Derived.Test.YtpmfedimjjifaaaGreatDoorJ10
namespace Go.Proofs.YtpmfedimjjifaaaGreatDoor
open Go.RowKit

mutual
def T.flat : T → Nat → List (Nat × T)
  | .mk k xy ps, d => (d, .mk k xy ps) :: flatTL k d ps
def flatTL (k : Int) (d : Nat) : List T → List (Nat × T)
  | [] => []
  | p :: r => (if din k p.k d ≤ 17 then p.flat (din k p.k d) else []) ++ flatTL k d r
end
set_option maxRecDepth 100000 in
theorem t_k (s : Sh) : s.t.k = s.k := by cases s; rw [Sh.t]; rfl
set_option maxRecDepth 100000 in
theorem t_xy (s : Sh) : s.t.xy = s.xy := by cases s; rw [Sh.t]; rfl
set_option maxRecDepth 100000 in
theorem t_ps (s : Sh) : s.t.ps = s.ps.map Sh.t := by cases s; rw [Sh.t, tL_map]; rfl
set_option maxRecDepth 100000 in
theorem flatL_map (N : Nat) (ih : ∀ (s : Sh) (d : Nat), s.nodes.length ≤ N → (s.flat d).map (fun x => (x.1, x.2.t)) = s.t.flat d) (k : Int) (d : Nat) (l : List Sh) (hl : ∀ p ∈ l, p.nodes.length ≤ N) : (flatL k d l).map (fun x => (x.1, x.2.t)) = flatTL k d (tL l) := by
  induction l with
  | nil => rw [flatL, tL, flatTL]; rfl
  | cons a r ihr =>
    rw [flatL, tL, flatTL, List.map_append, ihr fun p hp => hl p (by simp [hp]), t_k]
    congr 1
    split
    · exact ih a _ (hl a (by simp))
    · rfl
set_option maxRecDepth 100000 in
theorem flat_t : ∀ (N : Nat) (s : Sh) (d : Nat), s.nodes.length ≤ N → (s.flat d).map (fun x => (x.1, x.2.t)) = s.t.flat d := by
  intro N
  induction N with
  | zero => intro s d h; rw [nodes_eq] at h; simp at h
  | succ N ih =>
    intro s d h
    have hp : ∀ p ∈ s.ps, p.nodes.length ≤ N := fun p hp => by have := nodes_lt hp; omega
    cases s with
    | mk k xo xn xc xy po pn pc ps =>
      rw [Sh.flat, List.map_cons, flatL_map N ih k d ps hp, Sh.t, T.flat]

def depthT (l : List (Nat × T)) : Nat := l.foldl (fun a x => max a x.1) 0
def sumT (l : List (Nat × T)) : Nat := (l.map fun x => x.2.xy.length).sum
def good1 (t : T) : Bool := isK t.k && gpB t.k t.xy && t.ps.all fun p => decide (rlo t.k ≤ p.k) && decide (p.k ≤ rhi t.k)
/-- What Check says of a shape by itself. -/
def chk (t : T) : Int := checkV (depthT (t.flat 1)) (min 1001 ((t.flat 1).length - 1)) (min 4001 (sumT (t.flat 1))) t.k ((t.flat 1).all fun x => good1 x.2) ((t.flat 1).all fun x => placedB x.2.xy)
set_option maxRecDepth 100000 in
theorem good1_t (s : Sh) : good1 s.t = goodB s := by
  unfold good1 goodB
  rw [t_k, t_xy, t_ps, List.all_map]
  congr 1
  congr 1
  funext p
  simp only [Function.comp, t_k]
set_option maxRecDepth 100000 in
theorem chk_eq {S : Nat → Prop} {w : World} {s : Sh} (h : In S w s) : checkN s = chk s.t := by
  have hf := flat_t s.nodes.length s 1 (Nat.le_refl _)
  unfold checkN chk
  have e1 : depthN (s.flat 1) = depthT (s.t.flat 1) := by unfold depthN depthT; rw [← hf, List.foldl_map]
  have e2 : partsN (s.flat 1) = min 1001 ((s.t.flat 1).length - 1) := by unfold partsN; rw [← hf, List.length_map]
  have e3 : ptsN (s.flat 1) = min 4001 (sumT (s.t.flat 1)) := by
    unfold ptsN sumX sumT
    rw [← hf, List.map_map]
    congr 2
    refine List.map_congr_left fun x hx => ?_
    have := (h x.2 (flat_mem _ s 1 (Nat.le_refl _) (by omega) x hx).1).xl
    simp only [Function.comp, t_xy]
    exact this.symm
  have e4 : allB goodB (s.flat 1) = (s.t.flat 1).all fun x => good1 x.2 := by
    unfold allB
    rw [← hf, List.all_map]
    congr 1
    funext x
    simp only [Function.comp, good1_t]
  have e5 : allB (fun q => placedB q.xy) (s.flat 1) = (s.t.flat 1).all fun x => placedB x.2.xy := by
    unfold allB
    rw [← hf, List.all_map]
    congr 1
    funext x
    simp only [Function.comp, t_xy]
  rw [e1, e2, e3, e4, e5, t_k]

/-- All ordinates are whole numbers of 64 bits. -/
def Rg (s : Sh) : Prop := ∀ q ∈ s.nodes, ∀ p ∈ q.xy, InR p
set_option maxRecDepth 100000 in
theorem Rg.part {s p : Sh} (h : Rg s) (hp : p ∈ s.ps) : Rg p := fun q hq => h q (nodes_part hp q hq)
set_option maxRecDepth 100000 in
theorem pts_t : ∀ (N : Nat) (s : Sh), s.nodes.length ≤ N → s.t.pts = (ptsOf s).length ∧ s.t.prt + 1 = s.nodes.length := by
  intro N
  induction N with
  | zero => intro s h; rw [nodes_eq] at h; simp at h
  | succ N ih =>
    intro s h
    have hp : ∀ p ∈ s.ps, p.nodes.length ≤ N := fun p hp => by have := nodes_lt hp; omega
    constructor
    · rw [pts_eq, t_xy, t_ps, ptsOf_eq, List.length_append, List.map_map, List.length_flatMap]
      congr 2
      exact List.map_congr_left fun p h => (ih p (hp p h)).1
    · rw [prt_eq, t_ps, List.length_map, List.map_map, nodes_eq, List.length_cons]
      have : ∀ l : List Sh, (∀ p ∈ l, p.nodes.length ≤ N) → l.length + (l.map (T.prt ∘ Sh.t)).sum = (nodesL l).length := by
        intro l
        induction l with
        | nil => intro _; rw [nodesL]; rfl
        | cons a r ihr =>
          intro hl
          have h1 := (ih a (hl a (by simp))).2
          have h2 := ihr fun p hp => hl p (by simp [hp])
          rw [nodesL, List.length_append, List.map_cons, List.sum_cons, List.length_cons]
          simp only [Function.comp] at *
          omega
      rw [this s.ps hp]
set_option maxRecDepth 100000 in
theorem placed_ne {l : List (Int × Int)} (h : placedB l = true) : ∀ p ∈ l, p ≠ (NW, NW) := by
  intro p hp e
  unfold placedB at h
  have := List.all_eq_true.1 h p hp
  rw [e] at this
  simp [NW] at this
set_option maxRecDepth 100000 in
theorem mem_sum {l : List Nat} {x : Nat} (h : x ∈ l) : x ≤ l.sum := by
  induction l with
  | nil => cases h
  | cons a r ih =>
    rw [List.sum_cons]
    rcases List.mem_cons.1 h with rfl | h
    · omega
    · have := ih h; omega
set_option maxRecDepth 100000 in
theorem part_vals : partK 3 = 0 ∧ partK 7 = -1 := by constructor <;> decide
set_option maxRecDepth 100000 in
theorem good_of : ∀ (N : Nat) (s : Sh) (d f : Nat), s.nodes.length ≤ N → d + f = 17 → (∀ x ∈ s.flat d, x.1 ≤ 16) → rightB s = true → 1 ≤ s.k → (∀ q ∈ s.nodes, placedB q.xy = true) → Rg s → (∀ q ∈ s.nodes, q.xy.length < 4294967296 ∧ q.ps.length < 4294967296) → GoodT f s.t := by
  intro N
  induction N with
  | zero => intro s d f h; rw [nodes_eq] at h; simp at h
  | succ N ih =>
    intro s d f h hd hx hr hk hp hg hl
    have hd16 : d ≤ 16 := hx (d, s) (by rw [flat_eq]; simp)
    obtain ⟨f, rfl⟩ : ∃ f', f = f' + 1 := ⟨f - 1, by omega⟩
    rw [rightB_eq] at hr
    obtain ⟨hf, hps⟩ := Bool.and_eq_true_iff.1 hr
    have h7 := fitB_le hf
    have hl0 := hl s (nodes_self s)
    have hpl := hp s (nodes_self s)
    have hgs := hg s (nodes_self s)
    have hparts : ∀ p ∈ s.ps, ok2 s.k p.k = true ∧ rightB p = true := fun p h => Bool.and_eq_true_iff.1 (List.all_eq_true.1 hps p h)
    unfold GoodT
    rw [t_k, t_xy, t_ps]
    unfold fitB at hf
    rw [if_neg (show ¬ s.k = 0 by omega)] at hf
    by_cases h1 : s.k = 1
    · rw [if_pos h1] at hf
      simp only [Bool.and_eq_true, decide_eq_true_eq, beq_iff_eq] at hf
      left
      refine ⟨h1, by rw [List.eq_nil_of_length_eq_zero hf.2]; rfl, ?_⟩
      match hxy : s.xy, hf.1 with
      | [], _ => exact .inl rfl
      | [p], _ => exact .inr ⟨p, rfl, placed_ne hpl p (by rw [hxy]; simp), hgs p (by rw [hxy]; simp)⟩
    · rw [if_neg h1] at hf
      by_cases h2 : s.k = 2
      · rw [if_pos h2] at hf
        simp only [Bool.and_eq_true, beq_iff_eq] at hf
        right; left
        exact ⟨h2, by rw [List.eq_nil_of_length_eq_zero hf.2]; rfl, hl0.1, hgs⟩
      · rw [if_neg h2] at hf
        simp only [Bool.and_eq_true, beq_iff_eq, decide_eq_true_eq] at hf
        have hxy : s.xy = [] := List.eq_nil_of_length_eq_zero hf.2
        by_cases h3 : s.k = 3
        · right; right; left
          refine ⟨h3, hxy, by rw [List.length_map]; exact hl0.2, fun r hr => ?_⟩
          obtain ⟨p, hpm, rfl⟩ := List.mem_map.1 hr
          obtain ⟨o1, o2⟩ := hparts p hpm
          rw [h3] at o1
          have k0 : p.k = 0 := by simpa [ok2, part_vals.1] using o1
          rw [rightB_eq] at o2
          have f0 := (Bool.and_eq_true_iff.1 o2).1
          unfold fitB at f0
          rw [if_pos k0] at f0
          simp only [Bool.and_eq_true, beq_iff_eq] at f0
          have hpn := nodes_part hpm p (nodes_self p)
          exact ⟨by rw [t_k, k0], by rw [t_ps, List.eq_nil_of_length_eq_zero f0.2]; rfl, by rw [t_xy]; exact (hl p hpn).1, by rw [t_xy]; exact hg p hpn⟩
        · right; right; right
          refine ⟨by omega, hxy, by rw [List.length_map]; exact hl0.2, fun r hr => ?_⟩
          obtain ⟨p, hpm, rfl⟩ := List.mem_map.1 hr
          obtain ⟨o1, o2⟩ := hparts p hpm
          have hdin : din s.k p.k d = d + 1 := by unfold din; rw [if_neg (by omega)]
          have hfl : ∀ x ∈ p.flat (d + 1), x.1 ≤ 16 := fun x hx' => hx x (by
            rw [flat_eq]
            refine List.mem_cons_of_mem _ (List.mem_flatMap.2 ⟨p, ?_, by rw [hdin]; exact hx'⟩)
            rw [seenL_all s (by omega)]; exact hpm)
          have pk : 1 ≤ p.k := by
            unfold ok2 at o1
            split at o1
            · simpa using o1
            · have e := beq_iff_eq.1 o1
              have : s.k = 4 ∨ s.k = 5 ∨ s.k = 6 := by omega
              rcases this with h | h | h <;> rw [h] at e <;> rw [e] <;> decide
          refine ⟨?_, ih p (d + 1) f (by have := nodes_lt hpm; omega) (by omega) hfl o2 pk (fun q hq => hp q (nodes_part hpm q hq)) (hg.part hpm) (fun q hq => hl q (nodes_part hpm q hq))⟩
          rw [t_k]
          unfold ok2 at o1
          split at o1
          · rename_i h77
            left; rw [h77]; exact part_vals.2
          · right; exact beq_iff_eq.1 o1
set_option maxRecDepth 100000 in
theorem good16 {S : Nat → Prop} {w : World} {s : Sh} (h : In S w s) (hr : Rg s) (hc : checkN s = 0) : GoodT 16 s.t ∧ s.t.pts ≤ 4000 ∧ s.t.prt ≤ 1000 ∧ rightB s = true ∧ 1 ≤ s.k := by
  rw [check_eq] at hc
  split at hc
  · cases hc
  rename_i h16
  split at hc
  · cases hc
  rename_i hl
  split at hc
  · cases hc
  rename_i hk
  split at hc
  · cases hc
  rename_i hp
  have h16' : depthN (s.flat 1) ≤ 16 := by omega
  have hpts := pts_le h h16' (by omega)
  have hnod := congrArg List.length (depth_nodes h16')
  rw [List.length_map] at hnod
  have hprt : s.nodes.length ≤ 1001 := by
    have : ¬ 1000 < partsN (s.flat 1) := fun e => hl (.inr e)
    unfold partsN at this; omega
  have hright : rightB s = true := by cases h : rightB s with | true => rfl | false => exact absurd (Or.inr h) hk
  have hk1 : 1 ≤ s.k := by
    have : ¬ s.k < 1 := fun e => hk (.inl e)
    omega
  have hplaced : ∀ q ∈ s.nodes, placedB q.xy = true := by
    have : placedB (ptsOf s) = true := by cases h : placedB (ptsOf s) with | true => rfl | false => exact absurd h hp
    rw [placed_pts] at this
    exact fun q hq => List.all_eq_true.1 this q hq
  obtain ⟨e1, e2⟩ := pts_t _ s (Nat.le_refl _)
  refine ⟨good_of _ s 1 16 (Nat.le_refl _) rfl (fun x hx => Nat.le_trans (le_foldl _ 0 x hx) h16') hright hk1 hplaced hr fun q hq => ?_, by omega, by omega, hright, hk1⟩
  have := (h q hq).xb; have := (h q hq).xl; have := (h q hq).pl
  constructor
  · have : q.xy.length ≤ (ptsOf s).length := by
      unfold ptsOf
      rw [List.length_flatMap]
      exact mem_sum (List.mem_map_of_mem (f := fun q : Sh => q.xy.length) hq)
    omega
  · have hps : q.ps.length ≤ (nodesL q.ps).length := by
      have : ∀ l : List Sh, l.length ≤ (nodesL l).length := by
        intro l
        induction l with
        | nil => simp
        | cons a r ih => rw [nodesL, List.length_append, nodes_eq]; simp; omega
      exact this _
    have hq2 : (nodesL q.ps).length ≤ s.nodes.length := by
      have : ∀ (N : Nat) (s q : Sh), s.nodes.length ≤ N → q ∈ s.nodes → q.nodes.length ≤ s.nodes.length := by
        intro N
        induction N with
        | zero => intro s q h; rw [nodes_eq] at h; simp at h
        | succ N ih =>
          intro s q hN hq
          rw [nodes_eq] at hq
          rcases List.mem_cons.1 hq with rfl | hq
          · exact Nat.le_refl _
          · have : ∃ p ∈ s.ps, q ∈ p.nodes := by
              have key : ∀ l : List Sh, q ∈ nodesL l → ∃ p ∈ l, q ∈ p.nodes := by
                intro l
                induction l with
                | nil => intro h; rw [nodesL] at h; cases h
                | cons a r ihr =>
                  intro h
                  rw [nodesL, List.mem_append] at h
                  rcases h with h | h
                  · exact ⟨a, by simp, h⟩
                  · obtain ⟨p, h1, h2⟩ := ihr h
                    exact ⟨p, by simp [h1], h2⟩
              exact key _ hq
            obtain ⟨p, hp, hq⟩ := this
            have h1 := nodes_lt hp
            have h2 := ih p q (by omega) hq
            omega
      have := this _ s q (Nat.le_refl _) hq
      rw [nodes_eq q, List.length_cons] at this
      omega
    omega

set_option maxRecDepth 100000 in
/-- Shapes that are alike by themselves are alike. -/
theorem eqS_t : ∀ (N : Nat) (a b : Sh), a.nodes.length ≤ N → a.t = b.t → eqS a b = true := by
  intro N
  induction N with
  | zero => intro a b h; rw [nodes_eq] at h; simp at h
  | succ N ih =>
    intro a b h e
    have hk : a.k = b.k := by rw [← t_k, ← t_k, e]
    have hxy : a.xy = b.xy := by rw [← t_xy, ← t_xy, e]
    have hps : a.ps.map Sh.t = b.ps.map Sh.t := by rw [← t_ps, ← t_ps, e]
    rw [eqS_eq, hk, hxy]
    simp only [beq_self_eq_true, Bool.true_and]
    have : ∀ (l m : List Sh), (∀ p ∈ l, p.nodes.length ≤ N) → l.map Sh.t = m.map Sh.t → eqL l m = true := by
      intro l
      induction l with
      | nil => intro m _ h; cases m with
        | nil => exact eqL_nil
        | cons b r => simp at h
      | cons a r ihr => intro m hl h; cases m with
        | nil => simp at h
        | cons b r' =>
          simp only [List.map_cons, List.cons.injEq] at h
          rw [eqL_cons, ih a b (hl a (by simp)) h.1, ihr r' (fun p hp => hl p (by simp [hp])) h.2]; rfl
    exact this _ _ (fun p hp => by have := nodes_lt hp; omega) hps

/-- Collections within collections. -/
def nest : Nat → T
  | 0 => .mk 7 [] []
  | n + 1 => .mk 7 [] [nest n]
set_option maxRecDepth 100000 in
theorem nest_k (n : Nat) : (nest n).k = 7 := by cases n <;> rfl
set_option maxRecDepth 100000 in
theorem nest_good : ∀ (f n : Nat), n ≤ f → GoodT (f + 1) (nest n) := by
  intro f
  induction f with
  | zero =>
    intro n h
    obtain rfl : n = 0 := by omega
    exact .inr (.inr (.inr ⟨by simp [nest, T.k], rfl, by simp [nest, T.ps], fun r hr => by cases hr⟩))
  | succ f ih =>
    intro n h
    cases n with
    | zero => exact .inr (.inr (.inr ⟨by simp [nest, T.k], rfl, by simp [nest, T.ps], fun r hr => by cases hr⟩))
    | succ n =>
      refine .inr (.inr (.inr ⟨by simp [nest, T.k], rfl, by simp [nest, T.ps], fun r hr => ?_⟩))
      obtain rfl : r = nest n := by simpa [nest, T.ps] using hr
      exact ⟨.inl part_vals.2, ih n (by omega)⟩
set_option maxRecDepth 100000 in
theorem nest_count (n : Nat) : (nest n).pts = 0 ∧ (nest n).prt = n := by
  induction n with
  | zero => constructor <;> simp [nest, T.pts, T.prt, ptsTL, prtTL]
  | succ n ih => constructor <;> simp [nest, T.pts, T.prt, ptsTL, prtTL, ih]; omega
set_option maxRecDepth 100000 in
theorem nest_chk : ∀ n : Fin 16, chk (nest n.val) = 0 := by decide +kernel
set_option maxRecDepth 100000 in
theorem nest_items (l : Bool) (n : Nat) : (nest n).items l = [(if l then 1 else 0, 1), (7, 4), (if n = 0 then 0 else 1, 4)] ++ (if n = 0 then [] else (nest (n - 1)).items l) := by
  cases n with
  | zero => rw [items_parts l _ (by rw [nest_k]; omega)]; rfl
  | succ n =>
    rw [items_parts l _ (by rw [nest_k]; omega)]
    simp [nest, T.k, T.ps, U]
set_option maxRecDepth 100000 in
theorem nest_size (l : Bool) (n : Nat) : sizeI ((nest n).items l) = 9 * (n + 1) := by
  induction n with
  | zero => rw [nest_items]; rfl
  | succ n ih =>
    rw [nest_items, sizeI_append]
    simp only [Nat.add_sub_cancel, if_neg (Nat.succ_ne_zero n)]
    rw [ih]
    simp [sizeI]; omega
set_option maxRecDepth 100000 in
theorem deep_bad (l : Bool) : ∀ (f n P Q : Nat), f ≤ n → f ≤ Q → shapeD f (-1) ⟨bytesI l ((nest n).items l), P, Q⟩ = .bad 10 := by
  intro f
  induction f with
  | zero =>
    intro n P Q _ _
    have e : bytesI l ((nest n).items l) = (if l then 1 else 0) :: bytesI l (((nest n).items l).tail) := by
      rw [nest_items]
      show bytesI l (_ :: _) = _
      rw [bytesI_cons, putN_one]
      cases l <;> rfl
    rw [e]
    unfold shapeD orderD
    cases l <;> rfl
  | succ f ih =>
    intro n P Q hn hQ
    obtain ⟨n, rfl⟩ : ∃ m, n = m + 1 := ⟨n - 1, by omega⟩
    rw [nest_items]
    simp only [Nat.add_sub_cancel, if_neg (Nat.succ_ne_zero n)]
    have e : bytesI l ([(if l then 1 else 0, 1), (7, 4), (1, 4)] ++ (nest n).items l) = putN (if l then 1 else 0) 1 l ++ (putN (U 7) 4 l ++ (putN 1 4 l ++ bytesI l ((nest n).items l))) := by
      simp only [bytesI_append, bytesI_cons, bytesI_nil, List.append_nil, List.append_assoc]; rfl
    rw [e]
    show (orderD false ⟨_, P, Q⟩).bind _ = _
    rw [(Dec.order l P Q (Nat.zero_le _) (Nat.zero_le _)).1, bind_ok]
    show (kindD (-1) l ⟨_, P, Q⟩).bind _ = _
    rw [(Dec.kind l 7 (-1) (by omega) (by omega) (.inl rfl) P Q (Nat.zero_le _) (Nat.zero_le _)).1, bind_ok]
    unfold bodyD
    rw [if_neg (by omega), if_neg (by omega), if_neg (by omega)]
    have hb : listD 9 l (shapeD f (partK 7)) ⟨putN 1 4 l ++ bytesI l ((nest n).items l), P, Q⟩ = .bad 10 := by
      unfold listD countD
      show (((numD l 4 ⟨_, P, Q⟩).bind _).bind _) = _
      rw [(Dec.num4 l 1 (by omega) P Q (Nat.zero_le _) (Nat.zero_le _)).1, bind_ok]
      show ((tallyD true 1 ⟨_, P, Q⟩).bind _).bind _ = _
      have ht : tallyD true 1 ⟨bytesI l ((nest n).items l), P, Q⟩ = .ok () ⟨bytesI l ((nest n).items l), P, Q - 1⟩ := by
        unfold tallyD; simp; omega
      rw [ht, bind_ok]
      simp only
      rw [if_neg (by rw [bytesI_length, nest_size]; omega), bind_ok]
      show (shapeD f (partK 7) ⟨_, P, Q - 1⟩).bind _ = _
      rw [part_vals.2, ih n P (Q - 1) (by omega) (by omega)]; rfl
    simp only [Nat.sub_zero] at *
    rw [hb]; rfl
end Go.Proofs.YtpmfedimjjifaaaGreatDoor

/- The point that stands for a shape's, and the byte of order; no statement of the seat is proved here. -/
namespace Go.Proofs.YtpmfedimjjifaaaGreatDoor
open Go.RowKit Go.Maps

/-- A box: what its cells hold. -/
def Bo (w : World) (b : Nat) (cs : Array Value) (t : TypeId) : Prop := w.heap[b]? = some (.cells cs t (0, 0))
set_option maxRecDepth 100000 in
theorem Bo.cell {w : World} {b : Nat} {cs : Array Value} {t : TypeId} (h : Bo w b cs t) (i : Nat) (v : Value) (hi : cs[i]? = some v) : w.cell? ⟨b, i, none⟩ = some v := by unfold Bo at h; simp [World.cell?, h, hi]
set_option maxRecDepth 100000 in
theorem Bo.fz {w : World} {b : Nat} {cs : Array Value} {t : TypeId} (h : Bo w b cs t) (i : Nat) : w.frozen? ⟨b, i, none⟩ = false := by unfold Bo at h; simp [World.frozen?, h]
set_option maxRecDepth 100000 in
theorem Bo.lt {w : World} {b : Nat} {cs : Array Value} {t : TypeId} (h : Bo w b cs t) : b < w.heap.size := (Array.getElem?_eq_some_iff.1 h).1
set_option maxRecDepth 100000 in
theorem Bo.keep {w w' : World} {b : Nat} {cs : Array Value} {t : TypeId} (h : Bo w b cs t) (hb : Below w.heap.size w w') : Bo w' b cs t := (hb.block b h.lt).trans h
set_option maxRecDepth 100000 in
theorem Bo.set {w : World} {b : Nat} {cs : Array Value} {t : TypeId} (h : Bo w b cs t) (i : Nat) (v : Value) : Bo (w.setCell ⟨b, i, none⟩ v) b (cs.setIfInBounds i v) t := heap_setCell_same w b i cs t v h
set_option maxRecDepth 100000 in
theorem Bo.new (w : World) (cs : Array Value) (t : TypeId) : Bo (w.alloc (.cells cs t)) w.heap.size cs t := heap_alloc_new w _
set_option maxRecDepth 100000 in
theorem Bo.other {w : World} {b b' i : Nat} {v : Value} {cs : Array Value} {t : TypeId} (h : Bo w b cs t) (hn : b ≠ b') : Bo (w.setCell ⟨b', i, none⟩ v) b cs t := (heap_setCell_other w ⟨b', i, none⟩ b v hn).trans h
set_option maxRecDepth 100000 in
theorem load2 {t t' : TypeId} (ha : ∀ W, (isAgg t).run Tryz.prog W = .ok true W) (hs : ∀ W, (Go.sizeOf t).run Tryz.prog W = .ok 2 W) {W : World} {q : Nat} {a b : Value} (h : W.heap[q]? = some (.cells #[a, b] t')) :
    (loadVar t ⟨q, 0, none⟩).run Tryz.prog W = .ok (.agg #[a, b]) W := by
  have hl := run_loadCells_list (P := Tryz.prog) W ⟨q, 0, none⟩ [a, b] (by
    intro j v hj
    have e : W.cell? ((⟨q, 0, none⟩ : Addr).add j) = [a, b][j]? := by rw [Addr.add_lit]; simp [World.cell?, h]
    rw [e]; exact hj)
  simp at hl
  simp [loadVar, ha, hs, hl]
set_option maxRecDepth 100000 in
theorem ret_pt {fn : Func} {p : Tmp} (h : fn.results = #[.cell p 25]) {tmps : Array Value} {W : World} {q : Nat} {t' : TypeId} {a b : Value}
    (hp : tmps.getD p undef = .pointer (some ⟨q, 0, none⟩)) (hb : W.heap[q]? = some (.cells #[a, b] t')) : (results fn tmps).run Tryz.prog W = .ok (.agg #[a, b]) W := by
  rw [results_cell1 h, hp]
  simp [asAddr, load2 Tryz.isAgg25 Tryz.sizeOf25 hb]

set_option maxRecDepth 100000 in
theorem orderByte_call (l : Bool) (w : World) : Calls Tryz.prog 100 #[.bool l] w fun e w' => e = .returned (.int .u64 (((if l then 1 else 0 : Nat)) : Int)) ∧ w' = w := by
  cases l <;> (go_enter Tryz.func100, Tryz.ntmps100; go_wp2; go_ret; exact ⟨rfl, rfl⟩)
set_option maxRecDepth 100000 in
theorem nowhere_call (w : World) : Calls Tryz.prog 125 #[] w fun e w' => e = .returned (.agg #[.int .i64 NW, .int .i64 NW]) ∧ Below w.heap.size w w' := by
  unfold NW
  go_enter Tryz.func125, Tryz.ntmps125
  go_wp2
  refine bodyPost_ret (ret_pt rfl rfl (heap_alloc_new _ _)) rfl ?_
  exact ⟨rfl, ext1 _⟩
set_option maxRecDepth 100000 in
theorem items_other (l : Bool) (t : T) (h : t.k ≠ 0 ∧ t.k ≠ 1 ∧ t.k ≠ 2) : t.items l = [(if l then 1 else 0, 1), (U t.k, 4)] ++ (t.ps.length, 4) :: t.ps.flatMap (T.items l) := by rw [items_eq, if_neg h.1, if_neg h.2.1, if_neg (show ¬ (t.k = 0 ∨ t.k = 2) from fun e => e.elim h.1 h.2.2)]
/-- The point that is written for a list of points. -/
def one1 (l : List (Int × Int)) : Value := .agg #[.int .i64 (one l).1, .int .i64 (one l).2]
set_option maxRecDepth 100000 in
set_option maxHeartbeats 1000000 in
theorem only_call (S : Nat → Prop) (w : World) (xo : Option Addr) (xn xc : Nat) (xy : List (Int × Int)) (hl : xy.length = xn) (hn : xn ≤ 9223372036854775806) (hx : XR S w xo xy) : Calls Tryz.prog 102 #[.slice xo xn xc] w fun e w' => e = .returned (one1 xy) ∧ Below w.heap.size w w' := by
  cases xy with
  | nil =>
    obtain rfl : xn = 0 := by simpa using hl.symm
    have C := hid (fun W => nowhere_call W)
    clear hx hl
    have e : one1 [] = .agg #[.int .i64 NW, .int .i64 NW] := rfl
    rw [e]
    generalize NW = z at *
    go_enter Tryz.func102, Tryz.ntmps102
    go_wp2_with (go_at_call 125; refine (C.out _).mono ?_; rintro e w1 ⟨rfl, hb1⟩; have B1 := hid ((Bo.new w #[.int .i64 0, .int .i64 0] 25).keep hb1); have c0 := B1.out.cell 0 _ rfl; have c1 := B1.out.cell 1 _ rfl; have f0 := B1.out.fz 0; have f1 := B1.out.fz 1; have z1 := B1.out.lt; have H1 := hid hb1; clear hb1)
    refine bodyPost_ret (ret_pt rfl rfl ((B1.out.set 0 _).set 1 _)) rfl ?_
    exact ⟨rfl, (((ext1 _).trans (H1.out.mono (by simp))).setCell (Nat.le_refl _) _).setCell (Nat.le_refl _) _⟩
  | cons p r =>
    rcases hx with h | ⟨b, off, rfl, hS, hc⟩
    · cases h
    obtain ⟨c0, c1⟩ := hc 0 p rfl
    have lb := lt_cell c0
    have d0 := keep_old (ext1 (.cells #[.int .i64 0, .int .i64 0] 25)) c0
    have d1 := keep_old (ext1 (.cells #[.int .i64 0, .int .i64 0] 25)) c1
    obtain ⟨n, rfl⟩ : ∃ n, xn = n + 1 := ⟨xn - 1, by simp at hl; omega⟩
    have e : one1 (p :: r) = .agg #[.int .i64 p.1, .int .i64 p.2] := rfl
    rw [e]
    simp only [Nat.zero_mul, Nat.add_zero] at c0 c1 d0 d1
    clear hl hc hS
    have z1 : (((n + 1 : Nat) : Int) == 0) = false := by simp; omega
    go_enter Tryz.func102, Tryz.ntmps102
    go_wp2
    refine bodyPost_ret (ret_pt rfl rfl (heap_alloc_new _ _)) rfl ?_
    exact ⟨rfl, ext1 _⟩
end Go.Proofs.YtpmfedimjjifaaaGreatDoor
