/- A shape that may be comes back from its bytes, and what is cut is too short: the readers by themselves; no statement of the seat is proved here. -/
import Derived.Test.YtpmfedimjjifaaaGreatDoorJ09
namespace Go.Proofs.YtpmfedimjjifaaaGreatDoor
open Go.RowKit

set_option maxRecDepth 100000 in
theorem Dec.congr {α : Type} {m m' : St → Re α} {e e' : List Nat} {a : α} {p q p' q' : Nat} (h : Dec m e a p q) (hm : ∀ s, m' s = m s) (he : e' = e) (hp : p' = p) (hq : q' = q) : Dec m' e' a p' q' := by
  subst he hp hq
  rw [show m' = m from funext hm]; exact h
set_option maxRecDepth 100000 in
theorem putN_one (v : Nat) (l : Bool) : putN v 1 l = [v % 256] := by cases l <;> simp [putN, up, place]
set_option maxRecDepth 100000 in
theorem Dec.order (l : Bool) : Dec (orderD false) (putN (if l then 1 else 0) 1 l) l 0 0 := by
  intro P Q _ _
  rw [putN_one]
  refine ⟨fun more => ?_, fun ys z zs h => ?_⟩
  · cases l <;> simp [orderD]
  · have := congrArg List.length h
    have hy : ys = [] := by
      apply List.eq_nil_of_length_eq_zero
      simp at this; omega
    subst hy; rfl
set_option maxRecDepth 100000 in
theorem Dec.kind (l : Bool) (k want : Int) (h1 : 1 ≤ k) (h7 : k ≤ 7) (hw : want = -1 ∨ k = want) : Dec (kindD want l) (putN (U k) 4 l) k 0 0 := by
  obtain ⟨n, rfl⟩ : ∃ n : Nat, k = (n : Int) := ⟨k.toNat, by omega⟩
  have hU : U (n : Int) = n := by unfold U; omega
  rw [hU]
  have h4 := Dec.num4 l n (by omega)
  have : Dec (fun s => (numD l 4 s).bind fun n s => if n < 1 ∨ 7 < n then Re.bad 9 else if want ≠ -1 ∧ (n : Int) ≠ want then .bad 9 else .ok (n : Int) s) (putN n 4 l ++ []) (n : Int) (0 + 0) (0 + 0) := by
    refine h4.bind ?_
    refine (Dec.ret (n : Int)).congr (fun s => ?_) rfl rfl rfl
    rw [if_neg (by omega), if_neg (by omega)]
  exact this.congr (fun s => rfl) (by simp) rfl rfl
set_option maxRecDepth 100000 in
theorem bytesI_flat {α : Type} (l : Bool) (f : α → List (Nat × Nat)) (xs : List α) : bytesI l (xs.flatMap f) = xs.flatMap fun x => bytesI l (f x) := by
  induction xs with
  | nil => rfl
  | cons a r ih => simp only [List.flatMap_cons, bytesI_append, ih]
set_option maxRecDepth 100000 in
theorem sizeI_pts (xy : List (Int × Int)) : sizeI (xy.flatMap ptI) = 16 * xy.length := by
  induction xy with
  | nil => rfl
  | cons a r ih => rw [List.flatMap_cons, sizeI_append, ih]; simp [sizeI, ptI]; omega
set_option maxRecDepth 100000 in
theorem sum_zero {α : Type} (l : List α) : (l.map fun _ => 0).sum = 0 := by
  induction l with
  | nil => rfl
  | cons a r ih => simpa using ih
set_option maxRecDepth 100000 in
theorem Dec.row (l : Bool) (xy : List (Int × Int)) (hn : xy.length < 4294967296) (h : ∀ p ∈ xy, InR p) : Dec (rowD l) (bytesI l ((xy.length, 4) :: xy.flatMap ptI)) xy xy.length 0 := by
  have ht := Dec.times (m := pointD l) (fun p => bytesI l (ptI p)) (fun _ => 0) (fun _ => 0) xy (fun p hp => Dec.point l p (h p hp))
  have hc := Dec.count (g := fun n s => timesD (pointD l) n s) false 16 l xy.length hn (by rw [← bytesI_flat, bytesI_length, sizeI_pts]; omega) (by omega) ht
  refine hc.congr (fun s => rfl) ?_ ?_ ?_
  · rw [bytesI_cons, bytesI_flat]
  · rw [sum_zero]; simp
  · rw [sum_zero]; simp
set_option maxRecDepth 100000 in
theorem Dec.spot (l : Bool) (xy : List (Int × Int)) (h : xy = [] ∨ ∃ p, xy = [p] ∧ p ≠ (NW, NW) ∧ InR p) : Dec (spotD l) (bytesI l (ptI (one xy))) xy xy.length 0 := by
  rcases h with rfl | ⟨p, rfl, hne, hr⟩
  · have hp := Dec.point l (NW, NW) ⟨by unfold NW; omega, by unfold NW; omega⟩
    refine (hp.bind (g := fun p s => if p = (NW, NW) then .ok [] s else (tallyD false 1 s).bind fun _ s => .ok [p] s) (e' := []) (b := []) (p' := 0) (q' := 0) ?_).congr (fun s => rfl) (by simp [one]) rfl rfl
    refine (Dec.ret ([] : List (Int × Int))).congr (fun s => ?_) rfl rfl rfl
    rw [if_pos rfl]
  · have hp := Dec.point l p hr
    refine (hp.bind (g := fun p s => if p = (NW, NW) then .ok [] s else (tallyD false 1 s).bind fun _ s => .ok [p] s) (e' := []) (b := [p]) (p' := 1) (q' := 0) ?_).congr (fun s => rfl) (by simp [one]) rfl rfl
    intro P Q hP hQ
    refine ⟨fun more => ?_, fun ys z zs h => by simp at h⟩
    show (if p = (NW, NW) then Re.ok [] _ else (tallyD false 1 _).bind fun _ s => .ok [p] s) = _
    rw [if_neg hne]
    have : tallyD false 1 ⟨[] ++ more, P, Q⟩ = .ok () ⟨more, P - 1, Q⟩ := by unfold tallyD; rw [if_pos (by simpa using hP)]; rfl
    rw [this]; rfl

mutual
def T.pts : T → Nat
  | .mk _ xy ps => xy.length + ptsTL ps
def ptsTL : List T → Nat
  | [] => 0
  | p :: r => p.pts + ptsTL r
end
mutual
def T.prt : T → Nat
  | .mk _ _ ps => ps.length + prtTL ps
def prtTL : List T → Nat
  | [] => 0
  | p :: r => p.prt + prtTL r
end
set_option maxRecDepth 100000 in
theorem ptsTL_map (l : List T) : ptsTL l = (l.map T.pts).sum := by
  induction l with
  | nil => rw [ptsTL]; rfl
  | cons a r ih => rw [ptsTL, ih]; simp
set_option maxRecDepth 100000 in
theorem prtTL_map (l : List T) : prtTL l = (l.map T.prt).sum := by
  induction l with
  | nil => rw [prtTL]; rfl
  | cons a r ih => rw [prtTL, ih]; simp
set_option maxRecDepth 100000 in
theorem pts_eq (t : T) : t.pts = t.xy.length + (t.ps.map T.pts).sum := by cases t; rw [T.pts, ptsTL_map]; rfl
set_option maxRecDepth 100000 in
theorem prt_eq (t : T) : t.prt = t.ps.length + (t.ps.map T.prt).sum := by cases t; rw [T.prt, prtTL_map]; rfl
set_option maxRecDepth 100000 in
theorem T.eta (t : T) : t = .mk t.k t.xy t.ps := by cases t; rfl

/-- A shape that is as told, no deeper than f. -/
def GoodT : Nat → T → Prop
  | 0, _ => False
  | f + 1, t => (t.k = 1 ∧ t.ps = [] ∧ (t.xy = [] ∨ ∃ p, t.xy = [p] ∧ p ≠ (NW, NW) ∧ InR p)) ∨ (t.k = 2 ∧ t.ps = [] ∧ t.xy.length < 4294967296 ∧ ∀ p ∈ t.xy, InR p) ∨
      (t.k = 3 ∧ t.xy = [] ∧ t.ps.length < 4294967296 ∧ ∀ r ∈ t.ps, r.k = 0 ∧ r.ps = [] ∧ r.xy.length < 4294967296 ∧ ∀ p ∈ r.xy, InR p) ∨
      ((4 ≤ t.k ∧ t.k ≤ 7) ∧ t.xy = [] ∧ t.ps.length < 4294967296 ∧ ∀ r ∈ t.ps, (partK t.k = -1 ∨ r.k = partK t.k) ∧ GoodT f r)
set_option maxRecDepth 100000 in
theorem GoodT.k {f : Nat} {t : T} (h : GoodT f t) : 1 ≤ t.k ∧ t.k ≤ 7 := by
  cases f with
  | zero => exact h.elim
  | succ f => rcases h with ⟨h, _⟩ | ⟨h, _⟩ | ⟨h, _⟩ | ⟨h, _⟩ <;> omega
set_option maxRecDepth 100000 in
theorem items_point (l : Bool) (t : T) (h : t.k = 1) : t.items l = [(if l then 1 else 0, 1), (U t.k, 4)] ++ ptI (one t.xy) := by rw [items_eq, if_neg (show ¬ t.k = 0 by omega), if_pos h]
set_option maxRecDepth 100000 in
theorem items_line (l : Bool) (t : T) (h : t.k = 2) : t.items l = [(if l then 1 else 0, 1), (U t.k, 4)] ++ (t.xy.length, 4) :: t.xy.flatMap ptI := by rw [items_eq, if_neg (show ¬ t.k = 0 by omega), if_neg (show ¬ t.k = 1 by omega), if_pos (Or.inr h)]
set_option maxRecDepth 100000 in
theorem items_parts (l : Bool) (t : T) (h : 3 ≤ t.k) : t.items l = [(if l then 1 else 0, 1), (U t.k, 4)] ++ (t.ps.length, 4) :: t.ps.flatMap (T.items l) := by rw [items_eq, if_neg (show ¬ t.k = 0 by omega), if_neg (show ¬ t.k = 1 by omega), if_neg (show ¬ (t.k = 0 ∨ t.k = 2) by omega)]
set_option maxRecDepth 100000 in
theorem size_head (l : Bool) (t : T) (h : t.k ≠ 0) : 9 ≤ sizeI (t.items l) := by
  rw [items_eq, if_neg h, sizeI_append]
  have : sizeI [(if l then 1 else 0, 1), (U t.k, 4)] = 5 := rfl
  rw [this]
  split
  · simp [sizeI, ptI]
  · split
    · rw [sizeI_cons]; simp only; omega
    · rw [sizeI_cons]; simp only; omega
set_option maxRecDepth 100000 in
theorem sum_ge (l : List T) (enc : T → List Nat) (n : Nat) (h : ∀ t ∈ l, n ≤ (enc t).length) : l.length * n ≤ (l.flatMap enc).length := by
  induction l with
  | nil => simp
  | cons a r ih =>
    have h1 := h a (by simp)
    have h2 := ih fun t ht => h t (by simp [ht])
    rw [List.flatMap_cons, List.length_append, List.length_cons, Nat.succ_mul]
    omega
set_option maxRecDepth 100000 in
theorem Dec.list (few : Nat) (l : Bool) (m : St → Re T) (ps : List T) (hn : ps.length < 4294967296) (h0 : 0 < few) (h : ∀ t ∈ ps, few ≤ sizeI (t.items l) ∧ Dec m (bytesI l (t.items l)) t t.pts t.prt) :
    Dec (listD few l m) (bytesI l ((ps.length, 4) :: ps.flatMap (T.items l))) ps (ps.map T.pts).sum (ps.length + (ps.map T.prt).sum) := by
  have ht := Dec.times (m := m) (fun t => bytesI l (t.items l)) T.pts T.prt ps (fun t ht => (h t ht).2)
  have hc := Dec.count (g := fun n s => timesD m n s) true few l ps.length hn (sum_ge _ _ _ fun t ht => by rw [bytesI_length]; exact (h t ht).1) h0 ht
  refine hc.congr (fun s => rfl) ?_ ?_ ?_
  · rw [bytesI_cons, bytesI_flat]
  · simp
  · simp; omega
set_option maxRecDepth 100000 in
theorem ring_items (l : Bool) (r : T) (h : r.k = 0) : r.items l = (r.xy.length, 4) :: r.xy.flatMap ptI := by rw [items_eq, h]; rfl
set_option maxRecDepth 100000 in
theorem Dec.ring (l : Bool) (r : T) (h : r.k = 0 ∧ r.ps = [] ∧ r.xy.length < 4294967296 ∧ ∀ p ∈ r.xy, InR p) : Dec (ringD l) (bytesI l (r.items l)) r r.pts r.prt := by
  obtain ⟨h0, h1, h2, h3⟩ := h
  have := (Dec.row l r.xy h2 h3).map (f := fun xy => T.mk 0 xy [])
  rw [ring_items l r h0]
  have e : T.mk 0 r.xy [] = r := by rw [T.eta r, h0, h1]; rfl
  rw [e] at this
  refine this.congr (fun s => rfl) rfl ?_ ?_
  · rw [pts_eq, h1]; rfl
  · rw [prt_eq, h1]; rfl

set_option maxRecDepth 100000 in
theorem dec_shape : ∀ (f : Nat) (t : T) (l : Bool) (want : Int), GoodT f t → (want = -1 ∨ t.k = want) → Dec (shapeD f want) (bytesI l (t.items l)) t t.pts t.prt := by
  intro f
  induction f with
  | zero => intro t l want h; exact h.elim
  | succ f ih =>
    intro t l want h hw
    have hk := h.k
    have body : ∀ (b : List (Nat × Nat)) (a p q : Nat), t.items l = [(if l then 1 else 0, 1), (U t.k, 4)] ++ b → Dec (bodyD (shapeD f) t.k l) (bytesI l b) t p q → Dec (shapeD (f + 1) want) (bytesI l (t.items l)) t p q := by
      intro b a p q hb hd
      have h1 := (Dec.order l).bind (g := fun l s => (kindD want l s).bind fun k s => bodyD (shapeD f) k l s) ((Dec.kind l t.k want hk.1 hk.2 hw).bind (g := fun k s => bodyD (shapeD f) k l s) hd)
      refine h1.congr (fun s => rfl) ?_ (by omega) (by omega)
      rw [hb, bytesI_append, bytesI_cons, bytesI_cons, bytesI_nil, List.append_nil, List.append_assoc]
    rcases h with ⟨h1, h2, h3⟩ | ⟨h1, h2, h3, h4⟩ | ⟨h1, h2, h3, h4⟩ | ⟨h1, h2, h3, h4⟩
    · refine body (ptI (one t.xy)) 0 _ _ (items_point l t h1) ?_
      have := (Dec.spot l t.xy h3).map (f := fun xy => T.mk t.k xy [])
      rw [show T.mk t.k t.xy [] = t by rw [← h2, ← T.eta]] at this
      refine this.congr (fun s => by unfold bodyD; rw [if_pos h1]) rfl ?_ ?_
      · rw [pts_eq, h2]; rfl
      · rw [prt_eq, h2]; rfl
    · refine body ((t.xy.length, 4) :: t.xy.flatMap ptI) 0 _ _ (items_line l t h1) ?_
      have := (Dec.row l t.xy h3 h4).map (f := fun xy => T.mk t.k xy [])
      rw [show T.mk t.k t.xy [] = t by rw [← h2, ← T.eta]] at this
      refine this.congr (fun s => by unfold bodyD; rw [if_neg (by omega), if_pos h1]) rfl ?_ ?_
      · rw [pts_eq, h2]; rfl
      · rw [prt_eq, h2]; rfl
    · refine body ((t.ps.length, 4) :: t.ps.flatMap (T.items l)) 0 _ _ (items_parts l t (by omega)) ?_
      have := (Dec.list 4 l (ringD l) t.ps h3 (by omega) fun r hr => ⟨by rw [ring_items l r (h4 r hr).1, sizeI_cons]; simp only; omega, Dec.ring l r (h4 r hr)⟩).map (f := fun ps => T.mk t.k [] ps)
      rw [show T.mk t.k [] t.ps = t by rw [← h2, ← T.eta]] at this
      refine this.congr (fun s => by unfold bodyD; rw [if_neg (by omega), if_neg (by omega), if_pos h1]) rfl ?_ ?_
      · rw [pts_eq, h2]; simp
      · rw [prt_eq]
    · refine body ((t.ps.length, 4) :: t.ps.flatMap (T.items l)) 0 _ _ (items_parts l t (by omega)) ?_
      have := (Dec.list 9 l (shapeD f (partK t.k)) t.ps h3 (by omega) fun r hr => ⟨size_head l r (by have := (h4 r hr).2.k; omega), ih r l _ (h4 r hr).2 (h4 r hr).1⟩).map (f := fun ps => T.mk t.k [] ps)
      rw [show T.mk t.k [] t.ps = t by rw [← h2, ← T.eta]] at this
      refine this.congr (fun s => by unfold bodyD; rw [if_neg (by omega), if_neg (by omega), if_neg (by omega)]) rfl ?_ ?_
      · rw [pts_eq, h2]; simp
      · rw [prt_eq]

/-- How many bytes a reader takes. -/
def Len {α : Type} (m : St → Re α) (sz : α → Nat) : Prop := ∀ s a s', m s = .ok a s' → s.xs.length = sz a + s'.xs.length
set_option maxRecDepth 100000 in
theorem bind_inv {α β : Type} {m : Re α} {g : α → St → Re β} {b : β} {s' : St} (h : m.bind g = .ok b s') : ∃ a s1, m = .ok a s1 ∧ g a s1 = .ok b s' := by
  cases m with
  | ok a s1 => exact ⟨a, s1, rfl, h⟩
  | bad e => cases h
set_option maxRecDepth 100000 in
theorem Len.num (l : Bool) (n : Nat) : Len (numD l n) (fun _ => n) := by
  intro s a s' h
  unfold numD at h
  split at h
  · injection h with h1 h2
    subst h2
    simp; omega
  · cases h
set_option maxRecDepth 100000 in
theorem Len.point (l : Bool) : Len (pointD l) (fun _ => 16) := by
  intro s a s' h
  obtain ⟨x, s1, h1, h⟩ := bind_inv h
  obtain ⟨y, s2, h2, h⟩ := bind_inv h
  injection h with h3 h4
  subst h4
  have := Len.num l 8 _ _ _ h1
  have := Len.num l 8 _ _ _ h2
  simp only at *; omega
set_option maxRecDepth 100000 in
theorem Len.tally (parts : Bool) (n : Nat) : Len (tallyD parts n) (fun _ => 0) := by
  intro s a s' h
  unfold tallyD at h
  by_cases hc : n ≤ (if parts then s.Q else s.P)
  · rw [if_pos hc] at h
    injection h with h1 h2
    subst h2
    cases parts <;> simp
  · rw [if_neg hc] at h
    cases h
set_option maxRecDepth 100000 in
theorem Len.count (parts : Bool) (few : Nat) (l : Bool) : Len (countD parts few l) (fun _ => 4) := by
  intro s a s' h
  obtain ⟨n, s1, h1, h⟩ := bind_inv h
  obtain ⟨u, s2, h2, h⟩ := bind_inv h
  have e1 := Len.num l 4 _ _ _ h1
  have e2 := Len.tally parts n _ _ _ h2
  split at h
  · cases h
  · injection h with h3 h4
    subst h4
    simp only at *; omega
set_option maxRecDepth 100000 in
theorem Len.times {α : Type} {m : St → Re α} {sz : α → Nat} (hm : Len m sz) : ∀ n, Len (timesD m n) (fun l => (l.map sz).sum) ∧ ∀ s l s', timesD m n s = .ok l s' → l.length = n := by
  intro n
  induction n with
  | zero =>
    refine ⟨fun s a s' h => ?_, fun s a s' h => ?_⟩
    · injection h with h1 h2; subst h1 h2; simp
    · injection h with h1 h2; subst h1; rfl
  | succ n ih =>
    refine ⟨fun s a s' h => ?_, fun s a s' h => ?_⟩
    · obtain ⟨x, s1, h1, h⟩ := bind_inv h
      obtain ⟨r, s2, h2, h⟩ := bind_inv h
      injection h with h3 h4
      subst h3 h4
      have := hm _ _ _ h1
      have := ih.1 _ _ _ h2
      simp only [List.map_cons, List.sum_cons] at *; omega
    · obtain ⟨x, s1, h1, h⟩ := bind_inv h
      obtain ⟨r, s2, h2, h⟩ := bind_inv h
      injection h with h3 h4
      subst h3
      have := ih.2 _ _ _ h2
      simp; omega
set_option maxRecDepth 100000 in
theorem sum_const {α : Type} (l : List α) (n : Nat) : (l.map fun _ => n).sum = n * l.length := by
  induction l with
  | nil => rfl
  | cons a r ih => simp only [List.map_cons, List.sum_cons, ih, List.length_cons, Nat.mul_succ]; omega
set_option maxRecDepth 100000 in
theorem Len.row (l : Bool) : Len (rowD l) (fun xy => 4 + 16 * xy.length) := by
  intro s a s' h
  obtain ⟨n, s1, h1, h⟩ := bind_inv h
  have e1 := Len.count _ _ _ _ _ _ h1
  have e2 := (Len.times (Len.point l) n).1 _ _ _ h
  simp only [sum_const] at *
  omega
set_option maxRecDepth 100000 in
theorem Len.spot (l : Bool) : Len (spotD l) (fun _ => 16) := by
  intro s a s' h
  obtain ⟨p, s1, h1, h⟩ := bind_inv h
  have e1 := Len.point l _ _ _ h1
  split at h
  · injection h with h3 h4
    subst h4; simpa using e1
  · obtain ⟨u, s2, h2, h⟩ := bind_inv h
    have e2 := Len.tally false 1 _ _ _ h2
    injection h with h3 h4
    subst h4
    simp only at *; omega
set_option maxRecDepth 100000 in
theorem sizeI_flat (l : Bool) (ps : List T) : sizeI (ps.flatMap (T.items l)) = (ps.map fun t => sizeI (t.items l)).sum := by
  induction ps with
  | nil => rfl
  | cons a r ih => rw [List.flatMap_cons, sizeI_append, ih]; rfl
set_option maxRecDepth 100000 in
theorem Len.list (few : Nat) (l l' : Bool) {m : St → Re T} (hm : Len m (fun t => sizeI (t.items l'))) : Len (listD few l m) (fun ps => 4 + sizeI (ps.flatMap (T.items l'))) := by
  intro s a s' h
  obtain ⟨n, s1, h1, h⟩ := bind_inv h
  have e1 := Len.count _ _ _ _ _ _ h1
  have e2 := (Len.times hm n).1 _ _ _ h
  simp only [← sizeI_flat] at *
  omega
set_option maxRecDepth 100000 in
theorem Len.ring (l l' : Bool) : Len (ringD l) (fun t => sizeI (t.items l')) := by
  intro s a s' h
  obtain ⟨xy, s1, h1, h⟩ := bind_inv h
  have e1 := Len.row l _ _ _ h1
  injection h with h3 h4
  subst h3 h4
  show s.xs.length = sizeI ((T.mk 0 xy []).items l') + s1.xs.length
  rw [ring_items l' (.mk 0 xy []) rfl, sizeI_cons]
  show _ = 4 + sizeI (xy.flatMap ptI) + _
  rw [sizeI_pts]; exact e1
set_option maxRecDepth 100000 in
theorem Len.order (d : Bool) : Len (orderD d) (fun _ => 1) := by
  intro s a s' h
  unfold orderD at h
  split at h
  · cases h
  · rename_i b r hb
    split at h
    · cases h
    · split at h
      · cases h
      · injection h with h1 h2
        subst h2
        rw [hb]; simp; omega
set_option maxRecDepth 100000 in
theorem Len.kind (want : Int) (l : Bool) : Len (kindD want l) (fun _ => 4) ∧ ∀ s k s', kindD want l s = .ok k s' → 1 ≤ k ∧ k ≤ 7 := by
  refine ⟨fun s a s' h => ?_, fun s a s' h => ?_⟩
  · obtain ⟨n, s1, h1, h⟩ := bind_inv h
    have e1 := Len.num l 4 _ _ _ h1
    split at h
    · cases h
    · split at h
      · cases h
      · injection h with h3 h4
        subst h4; exact e1
  · obtain ⟨n, s1, h1, h⟩ := bind_inv h
    split at h
    · cases h
    · split at h
      · cases h
      · injection h with h3 h4
        subst h3; omega
set_option maxRecDepth 100000 in
theorem Len.body (l l' : Bool) (next : Int → St → Re T) (hm : ∀ k, Len (next k) (fun t => sizeI (t.items l'))) (k : Int) (hk : 1 ≤ k ∧ k ≤ 7) : Len (bodyD next k l) (fun t => sizeI (t.items l') - 5) ∧ ∀ s t s', bodyD next k l s = .ok t s' → 5 ≤ sizeI (t.items l') := by
  have key : ∀ s t s', bodyD next k l s = .ok t s' → s.xs.length + 5 = sizeI (t.items l') + s'.xs.length := by
    intro s t s' h
    have head : ∀ k, sizeI [(if l' then 1 else 0, 1), (U k, 4)] = 5 := fun _ => rfl
    unfold bodyD at h
    split at h
    · rename_i h1
      obtain ⟨xy, s1, h2, h⟩ := bind_inv h
      have e := Len.spot l _ _ _ h2
      injection h with h3 h4
      subst h3 h4
      rw [items_point l' (T.mk k xy []) h1, sizeI_append, head]
      have : sizeI (ptI (one (T.mk k xy []).xy)) = 16 := rfl
      simp only at e
      omega
    · split at h
      · rename_i h1
        obtain ⟨xy, s1, h2, h⟩ := bind_inv h
        have e := Len.row l _ _ _ h2
        injection h with h3 h4
        subst h3 h4
        rw [items_line l' (T.mk k xy []) h1, sizeI_append, head, sizeI_cons, sizeI_pts]
        simp only [T.xy] at e ⊢
        omega
      · split at h
        · rename_i h1
          obtain ⟨ps, s1, h2, h⟩ := bind_inv h
          have e := Len.list 4 l l' (Len.ring l l') _ _ _ h2
          injection h with h3 h4
          subst h3 h4
          rw [items_parts l' (T.mk k [] ps) (show 3 ≤ k by omega), sizeI_append, head, sizeI_cons]
          simp only [T.ps] at e ⊢
          omega
        · obtain ⟨ps, s1, h2, h⟩ := bind_inv h
          have e := Len.list 9 l l' (hm _) _ _ _ h2
          injection h with h3 h4
          subst h3 h4
          rw [items_parts l' (T.mk k [] ps) (show 3 ≤ k by omega), sizeI_append, head, sizeI_cons]
          simp only [T.ps] at e ⊢
          omega
  have key2 : ∀ s t s', bodyD next k l s = .ok t s' → 5 ≤ sizeI (t.items l') := by
    intro s t s' h
    have : t.k = k := by
      unfold bodyD at h
      split at h
      · obtain ⟨xy, s1, h2, h⟩ := bind_inv h; injection h with h3 h4; subst h3; rfl
      · split at h
        · obtain ⟨xy, s1, h2, h⟩ := bind_inv h; injection h with h3 h4; subst h3; rfl
        · split at h
          · obtain ⟨xy, s1, h2, h⟩ := bind_inv h; injection h with h3 h4; subst h3; rfl
          · obtain ⟨xy, s1, h2, h⟩ := bind_inv h; injection h with h3 h4; subst h3; rfl
    have := size_head l' t (by omega)
    omega
  exact ⟨fun s t s' h => by have := key s t s' h; have := key2 s t s' h; simp only; omega, key2⟩
set_option maxRecDepth 100000 in
/-- What was read has as many bytes as its numbers. -/
theorem shapeD_len (l' : Bool) : ∀ (f : Nat) (want : Int), Len (shapeD f want) (fun t => sizeI (t.items l')) := by
  intro f
  induction f with
  | zero =>
    intro want s t s' h
    obtain ⟨l, s1, h1, h⟩ := bind_inv h
    unfold orderD at h1
    split at h1
    · cases h1
    · split at h1
      · cases h1
      · cases h1
  | succ f ih =>
    intro want s t s' h
    obtain ⟨l, s1, h1, h⟩ := bind_inv h
    obtain ⟨k, s2, h2, h⟩ := bind_inv h
    have e1 := Len.order false _ _ _ h1
    have e2 := (Len.kind want l).1 _ _ _ h2
    have hk := (Len.kind want l).2 _ _ _ h2
    have e3 := (Len.body l l' (shapeD f) (fun k => ih k) k hk).1 _ _ _ h
    have e4 := (Len.body l l' (shapeD f) (fun k => ih k) k hk).2 _ _ _ h
    simp only at *
    omega
end Go.Proofs.YtpmfedimjjifaaaGreatDoor

/- Rows of points are compared; no statement of the seat is proved here. -/
namespace Go.Proofs.YtpmfedimjjifaaaGreatDoor
open Go.RowKit Go.Maps

set_option maxRecDepth 100000 in
theorem eq_len {α : Type} [BEq α] [LawfulBEq α] {a b : List α} (h : a.length ≠ b.length) : (a == b) = false := by
  rw [Bool.eq_false_iff]
  intro h2
  exact h (by rw [eq_of_beq h2])
def SmI (xs ys : List (Int × Int)) (n : Nat) (w : World) (c : Value) (W : World) : Prop := ∃ i : Nat, i ≤ n ∧ c = .int .i64 (i : Int) ∧ Hid ((xs == ys) = (xs.drop i == ys.drop i)) ∧ Hid (Below w.heap.size w W)
end Go.Proofs.YtpmfedimjjifaaaGreatDoor

/- Shapes are compared, as the document has it; no statement of the seat is proved here. -/
namespace Go.Proofs.YtpmfedimjjifaaaGreatDoor
open Go.RowKit Go.Maps

mutual
def eqS : Sh → Sh → Bool
  | .mk k _ _ _ xy _ _ _ ps, .mk k' _ _ _ xy' _ _ _ ps' => (k == k') && ((xy == xy') && eqL ps ps')
def eqL : List Sh → List Sh → Bool
  | [], [] => true
  | p :: r, q :: r' => eqS p q && eqL r r'
  | [], _ :: _ => false
  | _ :: _, [] => false
end
set_option maxRecDepth 100000 in
theorem eqS_eq (a b : Sh) : eqS a b = ((a.k == b.k) && ((a.xy == b.xy) && eqL a.ps b.ps)) := by cases a; cases b; rw [eqS]; rfl
set_option maxRecDepth 100000 in
theorem eqL_len : ∀ {a b : List Sh}, a.length ≠ b.length → eqL a b = false
  | [], [], h => absurd rfl h
  | p :: r, q :: r', h => by rw [eqL, eqL_len (a := r) (b := r') (by simpa using h), Bool.and_false]
  | [], _ :: _, _ => by rw [eqL]
  | _ :: _, [], _ => by rw [eqL]
set_option maxRecDepth 100000 in
theorem eqL_cons (p q : Sh) (r r' : List Sh) : eqL (p :: r) (q :: r') = (eqS p q && eqL r r') := by rw [eqL]
set_option maxRecDepth 100000 in
theorem eqL_nil : eqL [] [] = true := by rw [eqL]

def QxI (a b : Sh) (w : World) (c : Value) (W : World) : Prop := ∃ i : Nat, i ≤ a.xn ∧ c = .int .i64 (i : Int) ∧ Hid ((a.xy == b.xy) = (a.xy.drop i == b.xy.drop i)) ∧ Hid (Below w.heap.size w W) ∧ Hid (Bx W w.heap.size a) ∧ Hid (Bx W (w.heap.size + 1) b)
def QpI (a b : Sh) (w : World) (c : Value) (W : World) : Prop := ∃ i : Nat, i ≤ a.pn ∧ c = .int .i64 (i : Int) ∧ Hid (eqL a.ps b.ps = eqL (a.ps.drop i) (b.ps.drop i)) ∧ Hid (Below w.heap.size w W) ∧ Hid (Bx W w.heap.size a) ∧ Hid (Bx W (w.heap.size + 1) b)

set_option maxRecDepth 100000 in
set_option maxHeartbeats 8000000 in
theorem refEqual_call : ∀ (N : Nat) (a b : Sh), a.nodes.length ≤ N → ∀ (w : World), In (fun b => b < w.heap.size) w a → In (fun b => b < w.heap.size) w b →
    Calls Tryz.prog 10 #[.agg #[.int .i64 (a).k, .slice (a).xo (a).xn (a).xc, .slice (a).po (a).pn (a).pc], .agg #[.int .i64 (b).k, .slice (b).xo (b).xn (b).xc, .slice (b).po (b).pn (b).pc]] w fun e w' => e = .returned (.bool (eqS a b)) ∧ Below w.heap.size w w' := by
  intro N
  induction N with
  | zero => intro a b h; rw [nodes_eq] at h; simp at h
  | succ N ih =>
    intro a b ha w hA hB
    have IH := hid ih
    have HN := hid ha
    have HA := hid hA; have HB := hid hB
    have A1 := hid ((Bx.new w a).keep (ext1 (.cells #[.int .i64 (b).k, .slice (b).xo (b).xn (b).xc, .slice (b).po (b).pn (b).pc] 39)))
    have B1 := hid (show Bx ((w.alloc (.cells #[.int .i64 (a).k, .slice (a).xo (a).xn (a).xc, .slice (a).po (a).pn (a).pc] 39)).alloc (.cells #[.int .i64 (b).k, .slice (b).xo (b).xn (b).xc, .slice (b).po (b).pn (b).pc] 39)) (w.heap.size + 1) b from (by have h := Bx.new (w.alloc (.cells #[.int .i64 (a).k, .slice (a).xo (a).xn (a).xc, .slice (a).po (a).pn (a).pc] 39)) b; rw [World.size_alloc] at h; exact h))
    have b0 : Hid (Below w.heap.size w ((w.alloc (.cells #[.int .i64 (a).k, .slice (a).xo (a).xn (a).xc, .slice (a).po (a).pn (a).pc] 39)).alloc (.cells #[.int .i64 (b).k, .slice (b).xo (b).xn (b).xc, .slice (b).po (b).pn (b).pc] 39))) := hid (gt (ext1 _) (ext1 _))
    obtain ⟨x0, x1, x2⟩ := A1.out.cells
    obtain ⟨y0, y1, y2⟩ := B1.out.cells
    have la := hA.here.lenI; have lb := hB.here.lenI
    have hmx : Tryz.prog.follows .mixedOrders = true := follows_mixed
    obtain ⟨R, hR⟩ : ∃ R, R = eqS a b := ⟨_, rfl⟩
    rw [← hR]
    have HR := hid (hR.trans (eqS_eq a b))
    clear ih ha hA hB hR
    by_cases hk : a.k = b.k
    · have n1 : (a.k == b.k) = true := by simp [hk]
      have n1' : (a.k != b.k) = false := by simp [hk]
      rw [n1, Bool.true_and] at HR
      clear hk n1
      by_cases hx : a.xn = b.xn
      · have n2 : ((a.xn : Int) != (b.xn : Int)) = false := by simp [hx]
        have HX := hid hx
        clear hx
        by_cases hp : a.pn = b.pn
        · have n3 : ((a.pn : Int) != (b.pn : Int)) = false := by simp [hp]
          have HP := hid hp
          clear hp
          go_enter Tryz.func10, Tryz.ntmps10
          go_wp2
          go_loopw [33] (QxI a b w) (fun c _ => a.xn - (intOf c).toNat)
          case atStart => exact ⟨0, by omega, rfl, hid rfl, b0, A1, B1⟩
          case round =>
            clear x0 x1 x2 y0 y1 y2
            obtain ⟨i, hi, rfl, he, hb, hBa, hBb⟩ := hrel
            obtain ⟨x0, x1, x2⟩ := hBa.out.cells
            obtain ⟨y0, y1, y2⟩ := hBb.out.cells
            by_cases hik : i < a.xn
            · have hik2 : i < b.xn := by have := HX.out; omega
              obtain ⟨p, hp⟩ : ∃ p, a.xy[i]? = some p := ⟨_, List.getElem?_eq_getElem (by rw [HA.out.here.xl]; exact hik)⟩
              obtain ⟨q, hq⟩ : ∃ q, b.xy[i]? = some q := ⟨_, List.getElem?_eq_getElem (by rw [HB.out.here.xl]; exact hik2)⟩
              obtain ⟨ab, ao, exo, hSb, hat⟩ := HA.out.here.xr.resolve_left (by intro e; rw [e] at hp; simp at hp)
              obtain ⟨bb, bo, eyo, hTb, hbt⟩ := HB.out.here.xr.resolve_left (by intro e; rw [e] at hq; simp at hq)
              obtain ⟨z0, z1⟩ := hat i p hp
              obtain ⟨v0, v1⟩ := hbt i q hq
              replace z0 := keep_old hb.out z0; replace z1 := keep_old hb.out z1; replace v0 := keep_old hb.out v0; replace v1 := keep_old hb.out v1
              have HE := hid (show (a.xy == b.xy) = ((p == q) && (a.xy.drop (i + 1) == b.xy.drop (i + 1))) by rw [he.out, drop_at hp, drop_at hq]; rfl)
              have PN := point_neq p.1 p.2 q.1 q.2
              have HD := hid (Below.drew hb.out)
              have hik' : (i : Int) < (b.xn : Int) := by omega
              rw [exo] at x1
              rw [eyo] at y1
              clear hat hbt hp hq he hb
              cases hpq : (p == q) with
              | true =>
                have hpq' : ((p.1, p.2) == (q.1, q.2)) = true := hpq
                rw [hpq] at HE
                rw [hpq'] at PN
                rw [Bool.true_and] at HE
                clear hpq hpq'
                go_wp2
                refine wp_region_K (S := (fun W : World => (W.cell? ⟨w.heap.size, 1, none⟩ = some (.slice (some ⟨ab, ao, none⟩) a.xn a.xc) ∧ W.cell? ⟨w.heap.size + 1, 1, none⟩ = some (.slice (some ⟨bb, bo, none⟩) b.xn b.xc)) ∧ (W.cell? ⟨ab, ao + i * 2, none⟩ = some (.int .i64 p.1) ∧ W.cell? ⟨ab, ao + i * 2 + 1, none⟩ = some (.int .i64 p.2)) ∧ W.cell? ⟨bb, bo + i * 2, none⟩ = some (.int .i64 q.1) ∧ W.cell? ⟨bb, bo + i * 2 + 1, none⟩ = some (.int .i64 q.2))) (fun _ => false) (by kernel_rfl) (by exact ⟨⟨x1, y1⟩, ⟨z0, z1⟩, v0, v1⟩) (fun hHeld => ?_)
                refine gkp 0 ?_
                refine gkt 1 ?_ (h := by intro W hSw; obtain ⟨⟨u0, u1⟩, ⟨r0, r1⟩, s0, s1⟩ := hSw; go_simp; first | done | with_reducible rfl)
                refine gkp 2 ?_
                refine gkp 3 ?_
                refine gkt 4 ?_ (h := by intro W hSw; obtain ⟨⟨u0, u1⟩, ⟨r0, r1⟩, s0, s1⟩ := hSw; go_simp; first | done | with_reducible rfl)
                refine gkp 5 ?_
                refine gkt 6 ?_ (h := by intro W hSw; obtain ⟨⟨u0, u1⟩, ⟨r0, r1⟩, s0, s1⟩ := hSw; go_simp; first | done | with_reducible rfl)
                refine gkp 7 ?_
                refine gkp 8 ?_
                refine gkt 9 ?_ (h := by intro W hSw; obtain ⟨⟨u0, u1⟩, ⟨r0, r1⟩, s0, s1⟩ := hSw; go_simp; first | done | with_reducible rfl)
                refine gkp 10 ?_ (v := .bool false) (h := by intro W hSw; go_simp; first | done | with_reducible rfl)
                refine wpAnyK_done (by kernel_rfl) ?_ _
                go_wp2
                go_roundw
                case measure => simp [intOf]; omega
                case rel => exact ⟨i + 1, by omega, by go_num, HE, HD, hBa, hBb⟩
              | false =>
                have hpq' : ((p.1, p.2) == (q.1, q.2)) = false := hpq
                rw [hpq] at HE
                rw [hpq'] at PN
                rw [Bool.false_and] at HE
                clear hpq hpq'
                go_wp2
                refine wp_region_K (S := (fun W : World => (W.cell? ⟨w.heap.size, 1, none⟩ = some (.slice (some ⟨ab, ao, none⟩) a.xn a.xc) ∧ W.cell? ⟨w.heap.size + 1, 1, none⟩ = some (.slice (some ⟨bb, bo, none⟩) b.xn b.xc)) ∧ (W.cell? ⟨ab, ao + i * 2, none⟩ = some (.int .i64 p.1) ∧ W.cell? ⟨ab, ao + i * 2 + 1, none⟩ = some (.int .i64 p.2)) ∧ W.cell? ⟨bb, bo + i * 2, none⟩ = some (.int .i64 q.1) ∧ W.cell? ⟨bb, bo + i * 2 + 1, none⟩ = some (.int .i64 q.2))) (fun _ => false) (by kernel_rfl) (by exact ⟨⟨x1, y1⟩, ⟨z0, z1⟩, v0, v1⟩) (fun hHeld => ?_)
                refine gkp 0 ?_
                refine gkt 1 ?_ (h := by intro W hSw; obtain ⟨⟨u0, u1⟩, ⟨r0, r1⟩, s0, s1⟩ := hSw; go_simp; first | done | with_reducible rfl)
                refine gkp 2 ?_
                refine gkp 3 ?_
                refine gkt 4 ?_ (h := by intro W hSw; obtain ⟨⟨u0, u1⟩, ⟨r0, r1⟩, s0, s1⟩ := hSw; go_simp; first | done | with_reducible rfl)
                refine gkp 5 ?_
                refine gkt 6 ?_ (h := by intro W hSw; obtain ⟨⟨u0, u1⟩, ⟨r0, r1⟩, s0, s1⟩ := hSw; go_simp; first | done | with_reducible rfl)
                refine gkp 7 ?_
                refine gkp 8 ?_
                refine gkt 9 ?_ (h := by intro W hSw; obtain ⟨⟨u0, u1⟩, ⟨r0, r1⟩, s0, s1⟩ := hSw; go_simp; first | done | with_reducible rfl)
                refine gkp 10 ?_ (v := .bool true) (h := by intro W hSw; go_simp; first | done | with_reducible rfl)
                refine wpAnyK_done (by kernel_rfl) ?_ _
                go_wp2
                go_ret
                exact ⟨by rw [HR.out, HE.out]; rfl, HD.out⟩
            · obtain rfl : i = a.xn := by omega
              have HE := hid (show (a.xy == b.xy) = true by rw [he.out, List.drop_of_length_le (by rw [HA.out.here.xl]; omega), List.drop_of_length_le (by rw [HB.out.here.xl]; have := HX.out; omega)]; rfl)
              have BW := hb
              clear he
              go_wp2
              go_loopw [51] (QpI a b w) (fun c _ => a.pn - (intOf c).toNat)
              case atStart => exact ⟨0, by omega, rfl, hid rfl, BW, hBa, hBb⟩
              case round =>
                clear x0 x1 x2 y0 y1 y2 BW hBa hBb hb
                obtain ⟨i, hi, rfl, he, hb, hBa, hBb⟩ := hrel
                obtain ⟨x0, x1, x2⟩ := hBa.out.cells
                obtain ⟨y0, y1, y2⟩ := hBb.out.cells
                by_cases hik : i < a.pn
                · have hik2 : i < b.pn := by have := HP.out; omega
                  obtain ⟨p, hp⟩ : ∃ p, a.ps[i]? = some p := ⟨_, List.getElem?_eq_getElem (by rw [HA.out.here.pl]; exact hik)⟩
                  obtain ⟨q, hq⟩ : ∃ q, b.ps[i]? = some q := ⟨_, List.getElem?_eq_getElem (by rw [HB.out.here.pl]; exact hik2)⟩
                  obtain ⟨ab, ao, exo, hSb, hat⟩ := HA.out.here.pr.resolve_left (by intro e; rw [e] at hp; simp at hp)
                  obtain ⟨bb, bo, eyo, hTb, hbt⟩ := HB.out.here.pr.resolve_left (by intro e; rw [e] at hq; simp at hq)
                  obtain ⟨z0, z1, z2⟩ := (hat i p hp).of (w' := wr) (hb.out.block ab hSb)
                  obtain ⟨v0, v1, v2⟩ := (hbt i q hq).of (w' := wr) (hb.out.block bb hTb)
                  have HE2 := hid (show eqL a.ps b.ps = (eqS p q && eqL (a.ps.drop (i + 1)) (b.ps.drop (i + 1))) by rw [he.out, drop_at hp, drop_at hq, eqL_cons])
                  have CC := hid (fun W (hw : Below w.heap.size w W) => IH.out p q (by have := nodes_lt (s := a) (List.mem_of_getElem? hp); have := HN.out; omega) W ((HA.out.part (List.mem_of_getElem? hp)).grow hw) ((HB.out.part (List.mem_of_getElem? hq)).grow hw))
                  have HD := hid (Below.drew hb.out)
                  have hik' : (i : Int) < (b.pn : Int) := by omega
                  rw [exo] at x2
                  rw [eyo] at y2
                  clear hat hbt hp hq he
                  cases hpq : eqS p q with
                  | true =>
                    rw [hpq] at HE2 CC
                    rw [Bool.true_and] at HE2
                    clear hpq
                    go_wp2
                    refine wp_region_K (S := (fun W : World => (W.cell? ⟨w.heap.size, 2, none⟩ = some (.slice (some ⟨ab, ao, none⟩) a.pn a.pc) ∧ W.cell? ⟨w.heap.size + 1, 2, none⟩ = some (.slice (some ⟨bb, bo, none⟩) b.pn b.pc)) ∧ (W.cell? ⟨ab, ao + i * 3, none⟩ = some (.int .i64 p.k) ∧ W.cell? ⟨ab, ao + i * 3 + 1, none⟩ = some (.slice p.xo p.xn p.xc) ∧ W.cell? ⟨ab, ao + i * 3 + 2, none⟩ = some (.slice p.po p.pn p.pc)) ∧ W.cell? ⟨bb, bo + i * 3, none⟩ = some (.int .i64 q.k) ∧ W.cell? ⟨bb, bo + i * 3 + 1, none⟩ = some (.slice q.xo q.xn q.xc) ∧ W.cell? ⟨bb, bo + i * 3 + 2, none⟩ = some (.slice q.po q.pn q.pc))) (fun _ => false) (by kernel_rfl) (by exact ⟨⟨x2, y2⟩, ⟨z0, z1, z2⟩, v0, v1, v2⟩) (fun hHeld => ?_)
                    refine gkp 0 ?_
                    refine gkt 1 ?_ (h := by intro W hSw; obtain ⟨⟨u0, u1⟩, ⟨r0, r1, r2⟩, s0, s1, s2⟩ := hSw; go_simp; first | done | with_reducible rfl)
                    refine gkp 2 ?_
                    refine gkp 3 ?_
                    refine gkt 4 ?_ (h := by intro W hSw; obtain ⟨⟨u0, u1⟩, ⟨r0, r1, r2⟩, s0, s1, s2⟩ := hSw; go_simp; first | done | with_reducible rfl)
                    refine gkp 5 ?_
                    refine gkt 6 ?_ (h := by intro W hSw; obtain ⟨⟨u0, u1⟩, ⟨r0, r1, r2⟩, s0, s1, s2⟩ := hSw; go_simp; first | done | with_reducible rfl)
                    refine gkp 7 ?_
                    refine gkp 8 ?_
                    refine gkt 9 ?_ (h := by intro W hSw; obtain ⟨⟨u0, u1⟩, ⟨r0, r1, r2⟩, s0, s1, s2⟩ := hSw; go_simp; first | done | with_reducible rfl)
                    refine gk1 10 (fun K hK => ?_)
                    go_simp
                    go_at_call 10; refine (CC.out _ HD.out).mono ?_; rintro e w9 ⟨rfl, hb9⟩; have H9 := hid hb9; clear hb9; have hR : (fun W : World => (W.cell? ⟨w.heap.size, 2, none⟩ = some (.slice (some ⟨ab, ao, none⟩) a.pn a.pc) ∧ W.cell? ⟨w.heap.size + 1, 2, none⟩ = some (.slice (some ⟨bb, bo, none⟩) b.pn b.pc)) ∧ (W.cell? ⟨ab, ao + i * 3, none⟩ = some (.int .i64 p.k) ∧ W.cell? ⟨ab, ao + i * 3 + 1, none⟩ = some (.slice p.xo p.xn p.xc) ∧ W.cell? ⟨ab, ao + i * 3 + 2, none⟩ = some (.slice p.po p.pn p.pc)) ∧ W.cell? ⟨bb, bo + i * 3, none⟩ = some (.int .i64 q.k) ∧ W.cell? ⟨bb, bo + i * 3 + 1, none⟩ = some (.slice q.xo q.xn q.xc) ∧ W.cell? ⟨bb, bo + i * 3 + 2, none⟩ = some (.slice q.po q.pn q.pc)) w9 := ⟨⟨keep_old H9.out hHeld.1.1, keep_old H9.out hHeld.1.2⟩, ⟨keep_old H9.out hHeld.2.1.1, keep_old H9.out hHeld.2.1.2.1, keep_old H9.out hHeld.2.1.2.2⟩, keep_old H9.out hHeld.2.2.1, keep_old H9.out hHeld.2.2.2.1, keep_old H9.out hHeld.2.2.2.2⟩
                    refine hK.out _ _ hR (fun hHeld => ?_)
                    clear hK K
                    (try simp only [Act.put, sA, sZ, sS])
                    refine gkp 11 ?_ (v := .bool false) (h := by intro W hSw; go_simp; first | done | with_reducible rfl)
                    refine wpAnyK_done (by kernel_rfl) ?_ _
                    go_wp2
                    go_roundw
                    case measure => simp [intOf]; omega
                    case rel => exact ⟨_, _, .int .i64 ((i : Int) + 1), ⟨i + 1, by omega, by go_num, HE2, hid (gt HD.out H9.out), hid (Bx.keep (show Bx wr.drew w.heap.size a from hBa.out) H9.out), hid (Bx.keep (show Bx wr.drew (w.heap.size + 1) b from hBb.out) H9.out)⟩, rfl, rfl, rfl⟩
                  | false =>
                    rw [hpq] at HE2 CC
                    rw [Bool.false_and] at HE2
                    clear hpq
                    go_wp2
                    refine wp_region_K (S := (fun W : World => (W.cell? ⟨w.heap.size, 2, none⟩ = some (.slice (some ⟨ab, ao, none⟩) a.pn a.pc) ∧ W.cell? ⟨w.heap.size + 1, 2, none⟩ = some (.slice (some ⟨bb, bo, none⟩) b.pn b.pc)) ∧ (W.cell? ⟨ab, ao + i * 3, none⟩ = some (.int .i64 p.k) ∧ W.cell? ⟨ab, ao + i * 3 + 1, none⟩ = some (.slice p.xo p.xn p.xc) ∧ W.cell? ⟨ab, ao + i * 3 + 2, none⟩ = some (.slice p.po p.pn p.pc)) ∧ W.cell? ⟨bb, bo + i * 3, none⟩ = some (.int .i64 q.k) ∧ W.cell? ⟨bb, bo + i * 3 + 1, none⟩ = some (.slice q.xo q.xn q.xc) ∧ W.cell? ⟨bb, bo + i * 3 + 2, none⟩ = some (.slice q.po q.pn q.pc))) (fun _ => false) (by kernel_rfl) (by exact ⟨⟨x2, y2⟩, ⟨z0, z1, z2⟩, v0, v1, v2⟩) (fun hHeld => ?_)
                    refine gkp 0 ?_
                    refine gkt 1 ?_ (h := by intro W hSw; obtain ⟨⟨u0, u1⟩, ⟨r0, r1, r2⟩, s0, s1, s2⟩ := hSw; go_simp; first | done | with_reducible rfl)
                    refine gkp 2 ?_
                    refine gkp 3 ?_
                    refine gkt 4 ?_ (h := by intro W hSw; obtain ⟨⟨u0, u1⟩, ⟨r0, r1, r2⟩, s0, s1, s2⟩ := hSw; go_simp; first | done | with_reducible rfl)
                    refine gkp 5 ?_
                    refine gkt 6 ?_ (h := by intro W hSw; obtain ⟨⟨u0, u1⟩, ⟨r0, r1, r2⟩, s0, s1, s2⟩ := hSw; go_simp; first | done | with_reducible rfl)
                    refine gkp 7 ?_
                    refine gkp 8 ?_
                    refine gkt 9 ?_ (h := by intro W hSw; obtain ⟨⟨u0, u1⟩, ⟨r0, r1, r2⟩, s0, s1, s2⟩ := hSw; go_simp; first | done | with_reducible rfl)
                    refine gk1 10 (fun K hK => ?_)
                    go_simp
                    go_at_call 10; refine (CC.out _ HD.out).mono ?_; rintro e w9 ⟨rfl, hb9⟩; have H9 := hid hb9; clear hb9; have hR : (fun W : World => (W.cell? ⟨w.heap.size, 2, none⟩ = some (.slice (some ⟨ab, ao, none⟩) a.pn a.pc) ∧ W.cell? ⟨w.heap.size + 1, 2, none⟩ = some (.slice (some ⟨bb, bo, none⟩) b.pn b.pc)) ∧ (W.cell? ⟨ab, ao + i * 3, none⟩ = some (.int .i64 p.k) ∧ W.cell? ⟨ab, ao + i * 3 + 1, none⟩ = some (.slice p.xo p.xn p.xc) ∧ W.cell? ⟨ab, ao + i * 3 + 2, none⟩ = some (.slice p.po p.pn p.pc)) ∧ W.cell? ⟨bb, bo + i * 3, none⟩ = some (.int .i64 q.k) ∧ W.cell? ⟨bb, bo + i * 3 + 1, none⟩ = some (.slice q.xo q.xn q.xc) ∧ W.cell? ⟨bb, bo + i * 3 + 2, none⟩ = some (.slice q.po q.pn q.pc)) w9 := ⟨⟨keep_old H9.out hHeld.1.1, keep_old H9.out hHeld.1.2⟩, ⟨keep_old H9.out hHeld.2.1.1, keep_old H9.out hHeld.2.1.2.1, keep_old H9.out hHeld.2.1.2.2⟩, keep_old H9.out hHeld.2.2.1, keep_old H9.out hHeld.2.2.2.1, keep_old H9.out hHeld.2.2.2.2⟩
                    refine hK.out _ _ hR (fun hHeld => ?_)
                    clear hK K
                    (try simp only [Act.put, sA, sZ, sS])
                    refine gkp 11 ?_ (v := .bool true) (h := by intro W hSw; go_simp; first | done | with_reducible rfl)
                    refine wpAnyK_done (by kernel_rfl) ?_ _
                    go_wp2
                    go_ret
                    exact ⟨by rw [HR.out, HE.out, HE2.out]; rfl, gt HD.out H9.out⟩
                · obtain rfl : i = a.pn := by omega
                  have HE2 := hid (show eqL a.ps b.ps = true by rw [he.out, List.drop_of_length_le (by rw [HA.out.here.pl]; omega), List.drop_of_length_le (by rw [HB.out.here.pl]; have := HP.out; omega)]; exact eqL_nil)
                  go_wp2
                  go_ret
                  exact ⟨by rw [HR.out, HE.out, HE2.out]; rfl, hb.out⟩
        · have n3 : ((a.pn : Int) != (b.pn : Int)) = true := by simp only [bne, Bool.not_eq_true', beq_eq_false_iff_ne]; omega
          have n3' : ¬ (a.pn : Int) = (b.pn : Int) := by omega
          rw [eqL_len (by rw [HA.out.here.pl, HB.out.here.pl]; exact hp), Bool.and_false] at HR
          rw [HR.out]
          clear hp HR
          go_enter Tryz.func10, Tryz.ntmps10
          go_wp2
          go_ret
          exact ⟨rfl, b0.out⟩
      · have n2 : ((a.xn : Int) != (b.xn : Int)) = true := by simp only [bne, Bool.not_eq_true', beq_eq_false_iff_ne]; omega
        have n2' : ¬ (a.xn : Int) = (b.xn : Int) := by omega
        rw [eq_len (by rw [HA.out.here.xl, HB.out.here.xl]; exact hx), Bool.false_and] at HR
        rw [HR.out]
        clear hx HR
        go_enter Tryz.func10, Tryz.ntmps10
        go_wp2
        go_ret
        exact ⟨rfl, b0.out⟩
    · have n1 : (a.k == b.k) = false := by simp [hk]
      have n1' : (a.k != b.k) = true := by simp [hk]
      rw [n1, Bool.false_and] at HR
      rw [HR.out]
      clear n1 HR
      go_enter Tryz.func10, Tryz.ntmps10
      go_wp2
      go_ret
      exact ⟨rfl, b0.out⟩
end Go.Proofs.YtpmfedimjjifaaaGreatDoor
