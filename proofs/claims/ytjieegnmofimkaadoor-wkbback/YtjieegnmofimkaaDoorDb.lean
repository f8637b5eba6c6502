/- A shape that may be comes back from its bytes, and what is cut is too short: the readers by themselves; no statement of the seat is proved here. -/
import Derived.Test.YtjieegnmofimkaaDoorDa
namespace Go.Proofs.YtjieegnmofimkaaDoor
open Go.RowKit

theorem Dec.congr {α : Type} {m m' : St → Re α} {e e' : List Nat} {a : α} {p q p' q' : Nat} (h : Dec m e a p q) (hm : ∀ s, m' s = m s) (he : e' = e) (hp : p' = p) (hq : q' = q) : Dec m' e' a p' q' := by
  subst he hp hq
  rw [show m' = m from funext hm]; exact h
theorem putN_one (v : Nat) (l : Bool) : putN v 1 l = [v % 256] := by cases l <;> simp [putN, up, place]
theorem Dec.order (l : Bool) : Dec (orderD false) (putN (if l then 1 else 0) 1 l) l 0 0 := by
  intro P Q _ _
  rw [putN_one]
  refine ⟨fun more => ?_, fun ys z zs h => ?_⟩
  · cases l <;> simp [orderD]
  · have := congrArg List.length h
    have hy : ys = [] := by
      apply List.eq_nil_of_length_eq_zero
      simp at this; omega
    subst hy; rfl
theorem Dec.kind (l : Bool) (k want : Int) (h1 : 1 ≤ k) (h7 : k ≤ 7) (hw : want = -1 ∨ k = want) : Dec (kindD want l) (putN (U k) 4 l) k 0 0 := by
  obtain ⟨n, rfl⟩ : ∃ n : Nat, k = (n : Int) := ⟨k.toNat, by omega⟩
  have hU : U (n : Int) = n := by unfold U; omega
  rw [hU]
  have h4 := Dec.num4 l n (by omega)
  have : Dec (fun s => (numD l 4 s).bind fun n s => if n < 1 ∨ 7 < n then Re.bad 9 else if want ≠ -1 ∧ (n : Int) ≠ want then .bad 9 else .ok (n : Int) s) (putN n 4 l ++ []) (n : Int) (0 + 0) (0 + 0) := by
    refine h4.bind ?_
    refine (Dec.ret (n : Int)).congr (fun s => ?_) rfl rfl rfl
    rw [if_neg (by omega), if_neg (by omega)]
  exact this.congr (fun s => rfl) (by simp) rfl rfl
theorem bytesI_flat {α : Type} (l : Bool) (f : α → List (Nat × Nat)) (xs : List α) : bytesI l (xs.flatMap f) = xs.flatMap fun x => bytesI l (f x) := by
  induction xs with
  | nil => rfl
  | cons a r ih => simp only [List.flatMap_cons, bytesI_append, ih]
theorem sizeI_pts (xy : List (Int × Int)) : sizeI (xy.flatMap ptI) = 16 * xy.length := by
  induction xy with
  | nil => rfl
  | cons a r ih => rw [List.flatMap_cons, sizeI_append, ih]; simp [sizeI, ptI]; omega
theorem sum_zero {α : Type} (l : List α) : (l.map fun _ => 0).sum = 0 := by
  induction l with
  | nil => rfl
  | cons a r ih => simpa using ih
theorem Dec.row (l : Bool) (xy : List (Int × Int)) (hn : xy.length < 4294967296) (h : ∀ p ∈ xy, InR p) : Dec (rowD l) (bytesI l ((xy.length, 4) :: xy.flatMap ptI)) xy xy.length 0 := by
  have ht := Dec.times (m := pointD l) (fun p => bytesI l (ptI p)) (fun _ => 0) (fun _ => 0) xy (fun p hp => Dec.point l p (h p hp))
  have hc := Dec.count (g := fun n s => timesD (pointD l) n s) false 16 l xy.length hn (by rw [← bytesI_flat, bytesI_length, sizeI_pts]; omega) (by omega) ht
  refine hc.congr (fun s => rfl) ?_ ?_ ?_
  · rw [bytesI_cons, bytesI_flat]
  · rw [sum_zero]; simp
  · rw [sum_zero]; simp
theorem Dec.spot (l : Bool) (xy : List (Int × Int)) (h : xy = [] ∨ ∃ p, xy = [p] ∧ p ≠ (NW, NW) ∧ InR p) : Dec (spotD l) (bytesI l (ptI (one xy))) xy xy.length 0 := by
  rcases h with rfl | ⟨p, rfl, hne, hr⟩
  · have hp := Dec.point l (NW, NW) ⟨by unfold NW; omega, by unfold NW; omega⟩
    refine (hp.bind (g := fun p s => if p = (NW, NW) then .ok [] s else (tallyD false 1 s).bind fun _ s => .ok [p] s) (e' := []) (b := []) (p' := 0) (q' := 0) ?_).congr (fun s => rfl) (by simp [one]) rfl rfl
    refine (Dec.ret ([] : List (Int × Int))).congr (fun s => ?_) rfl rfl rfl
    rw [if_pos rfl]
  · have hp := Dec.point l p hr
    refine (hp.bind (g := fun p s => if p = (NW, NW) then .ok [] s else (tallyD false 1 s).bind fun _ s => .ok [p] s) (e' := []) (b := [p]) (p' := 1) (q' := 0) ?_).congr (fun s => rfl) (by simp [one]) rfl rfl
    intro P Q hP hQ
    refine ⟨fun more => ?_, fun ys z zs h => by simp at h⟩
    show (if p = (NW, NW) then Re.ok [] _ else (tallyD false 1 _).bind fun _ s => .ok [p] s) = _
    rw [if_neg hne]
    have : tallyD false 1 ⟨[] ++ more, P, Q⟩ = .ok () ⟨more, P - 1, Q⟩ := by unfold tallyD; rw [if_pos (by simpa using hP)]; rfl
    rw [this]; rfl

mutual
def T.pts : T → Nat
  | .mk _ xy ps => xy.length + ptsTL ps
def ptsTL : List T → Nat
  | [] => 0
  | p :: r => p.pts + ptsTL r
end
mutual
def T.prt : T → Nat
  | .mk _ _ ps => ps.length + prtTL ps
def prtTL : List T → Nat
  | [] => 0
  | p :: r => p.prt + prtTL r
end
theorem ptsTL_map (l : List T) : ptsTL l = (l.map T.pts).sum := by
  induction l with
  | nil => rw [ptsTL]; rfl
  | cons a r ih => rw [ptsTL, ih]; simp
theorem prtTL_map (l : List T) : prtTL l = (l.map T.prt).sum := by
  induction l with
  | nil => rw [prtTL]; rfl
  | cons a r ih => rw [prtTL, ih]; simp
theorem pts_eq (t : T) : t.pts = t.xy.length + (t.ps.map T.pts).sum := by cases t; rw [T.pts, ptsTL_map]; rfl
theorem prt_eq (t : T) : t.prt = t.ps.length + (t.ps.map T.prt).sum := by cases t; rw [T.prt, prtTL_map]; rfl
theorem T.eta (t : T) : t = .mk t.k t.xy t.ps := by cases t; rfl

/-- A shape that is as told, no deeper than f. -/
def GoodT : Nat → T → Prop
  | 0, _ => False
  | f + 1, t => (t.k = 1 ∧ t.ps = [] ∧ (t.xy = [] ∨ ∃ p, t.xy = [p] ∧ p ≠ (NW, NW) ∧ InR p)) ∨ (t.k = 2 ∧ t.ps = [] ∧ t.xy.length < 4294967296 ∧ ∀ p ∈ t.xy, InR p) ∨
      (t.k = 3 ∧ t.xy = [] ∧ t.ps.length < 4294967296 ∧ ∀ r ∈ t.ps, r.k = 0 ∧ r.ps = [] ∧ r.xy.length < 4294967296 ∧ ∀ p ∈ r.xy, InR p) ∨
      ((4 ≤ t.k ∧ t.k ≤ 7) ∧ t.xy = [] ∧ t.ps.length < 4294967296 ∧ ∀ r ∈ t.ps, (partK t.k = -1 ∨ r.k = partK t.k) ∧ GoodT f r)
theorem GoodT.k {f : Nat} {t : T} (h : GoodT f t) : 1 ≤ t.k ∧ t.k ≤ 7 := by
  cases f with
  | zero => exact h.elim
  | succ f => rcases h with ⟨h, _⟩ | ⟨h, _⟩ | ⟨h, _⟩ | ⟨h, _⟩ <;> omega
theorem items_point (l : Bool) (t : T) (h : t.k = 1) : t.items l = [(if l then 1 else 0, 1), (U t.k, 4)] ++ ptI (one t.xy) := by rw [items_eq, if_neg (show ¬ t.k = 0 by omega), if_pos h]
theorem items_line (l : Bool) (t : T) (h : t.k = 2) : t.items l = [(if l then 1 else 0, 1), (U t.k, 4)] ++ (t.xy.length, 4) :: t.xy.flatMap ptI := by rw [items_eq, if_neg (show ¬ t.k = 0 by omega), if_neg (show ¬ t.k = 1 by omega), if_pos (Or.inr h)]
theorem items_parts (l : Bool) (t : T) (h : 3 ≤ t.k) : t.items l = [(if l then 1 else 0, 1), (U t.k, 4)] ++ (t.ps.length, 4) :: t.ps.flatMap (T.items l) := by rw [items_eq, if_neg (show ¬ t.k = 0 by omega), if_neg (show ¬ t.k = 1 by omega), if_neg (show ¬ (t.k = 0 ∨ t.k = 2) by omega)]
theorem size_head (l : Bool) (t : T) (h : t.k ≠ 0) : 9 ≤ sizeI (t.items l) := by
  rw [items_eq, if_neg h, sizeI_append]
  have : sizeI [(if l then 1 else 0, 1), (U t.k, 4)] = 5 := rfl
  rw [this]
  split
  · simp [sizeI, ptI]
  · split
    · rw [sizeI_cons]; simp only; omega
    · rw [sizeI_cons]; simp only; omega
theorem sum_ge (l : List T) (enc : T → List Nat) (n : Nat) (h : ∀ t ∈ l, n ≤ (enc t).length) : l.length * n ≤ (l.flatMap enc).length := by
  induction l with
  | nil => simp
  | cons a r ih =>
    have h1 := h a (by simp)
    have h2 := ih fun t ht => h t (by simp [ht])
    rw [List.flatMap_cons, List.length_append, List.length_cons, Nat.succ_mul]
    omega
theorem Dec.list (few : Nat) (l : Bool) (m : St → Re T) (ps : List T) (hn : ps.length < 4294967296) (h0 : 0 < few) (h : ∀ t ∈ ps, few ≤ sizeI (t.items l) ∧ Dec m (bytesI l (t.items l)) t t.pts t.prt) :
    Dec (listD few l m) (bytesI l ((ps.length, 4) :: ps.flatMap (T.items l))) ps (ps.map T.pts).sum (ps.length + (ps.map T.prt).sum) := by
  have ht := Dec.times (m := m) (fun t => bytesI l (t.items l)) T.pts T.prt ps (fun t ht => (h t ht).2)
  have hc := Dec.count (g := fun n s => timesD m n s) true few l ps.length hn (sum_ge _ _ _ fun t ht => by rw [bytesI_length]; exact (h t ht).1) h0 ht
  refine hc.congr (fun s => rfl) ?_ ?_ ?_
  · rw [bytesI_cons, bytesI_flat]
  · simp
  · simp; omega
theorem ring_items (l : Bool) (r : T) (h : r.k = 0) : r.items l = (r.xy.length, 4) :: r.xy.flatMap ptI := by rw [items_eq, h]; rfl
theorem Dec.ring (l : Bool) (r : T) (h : r.k = 0 ∧ r.ps = [] ∧ r.xy.length < 4294967296 ∧ ∀ p ∈ r.xy, InR p) : Dec (ringD l) (bytesI l (r.items l)) r r.pts r.prt := by
  obtain ⟨h0, h1, h2, h3⟩ := h
  have := (Dec.row l r.xy h2 h3).map (f := fun xy => T.mk 0 xy [])
  rw [ring_items l r h0]
  have e : T.mk 0 r.xy [] = r := by rw [T.eta r, h0, h1]; rfl
  rw [e] at this
  refine this.congr (fun s => rfl) rfl ?_ ?_
  · rw [pts_eq, h1]; rfl
  · rw [prt_eq, h1]; rfl

theorem dec_shape : ∀ (f : Nat) (t : T) (l : Bool) (want : Int), GoodT f t → (want = -1 ∨ t.k = want) → Dec (shapeD f want) (bytesI l (t.items l)) t t.pts t.prt := by
  intro f
  induction f with
  | zero => intro t l want h; exact h.elim
  | succ f ih =>
    intro t l want h hw
    have hk := h.k
    have body : ∀ (b : List (Nat × Nat)) (a p q : Nat), t.items l = [(if l then 1 else 0, 1), (U t.k, 4)] ++ b → Dec (bodyD (shapeD f) t.k l) (bytesI l b) t p q → Dec (shapeD (f + 1) want) (bytesI l (t.items l)) t p q := by
      intro b a p q hb hd
      have h1 := (Dec.order l).bind (g := fun l s => (kindD want l s).bind fun k s => bodyD (shapeD f) k l s) ((Dec.kind l t.k want hk.1 hk.2 hw).bind (g := fun k s => bodyD (shapeD f) k l s) hd)
      refine h1.congr (fun s => rfl) ?_ (by omega) (by omega)
      rw [hb, bytesI_append, bytesI_cons, bytesI_cons, bytesI_nil, List.append_nil, List.append_assoc]
    rcases h with ⟨h1, h2, h3⟩ | ⟨h1, h2, h3, h4⟩ | ⟨h1, h2, h3, h4⟩ | ⟨h1, h2, h3, h4⟩
    · refine body (ptI (one t.xy)) 0 _ _ (items_point l t h1) ?_
      have := (Dec.spot l t.xy h3).map (f := fun xy => T.mk t.k xy [])
      rw [show T.mk t.k t.xy [] = t by rw [← h2, ← T.eta]] at this
      refine this.congr (fun s => by unfold bodyD; rw [if_pos h1]) rfl ?_ ?_
      · rw [pts_eq, h2]; rfl
      · rw [prt_eq, h2]; rfl
    · refine body ((t.xy.length, 4) :: t.xy.flatMap ptI) 0 _ _ (items_line l t h1) ?_
      have := (Dec.row l t.xy h3 h4).map (f := fun xy => T.mk t.k xy [])
      rw [show T.mk t.k t.xy [] = t by rw [← h2, ← T.eta]] at this
      refine this.congr (fun s => by unfold bodyD; rw [if_neg (by omega), if_pos h1]) rfl ?_ ?_
      · rw [pts_eq, h2]; rfl
      · rw [prt_eq, h2]; rfl
    · refine body ((t.ps.length, 4) :: t.ps.flatMap (T.items l)) 0 _ _ (items_parts l t (by omega)) ?_
      have := (Dec.list 4 l (ringD l) t.ps h3 (by omega) fun r hr => ⟨by rw [ring_items l r (h4 r hr).1, sizeI_cons]; simp only; omega, Dec.ring l r (h4 r hr)⟩).map (f := fun ps => T.mk t.k [] ps)
      rw [show T.mk t.k [] t.ps = t by rw [← h2, ← T.eta]] at this
      refine this.congr (fun s => by unfold bodyD; rw [if_neg (by omega), if_neg (by omega), if_pos h1]) rfl ?_ ?_
      · rw [pts_eq, h2]; simp
      · rw [prt_eq]
    · refine body ((t.ps.length, 4) :: t.ps.flatMap (T.items l)) 0 _ _ (items_parts l t (by omega)) ?_
      have := (Dec.list 9 l (shapeD f (partK t.k)) t.ps h3 (by omega) fun r hr => ⟨size_head l r (by have := (h4 r hr).2.k; omega), ih r l _ (h4 r hr).2 (h4 r hr).1⟩).map (f := fun ps => T.mk t.k [] ps)
      rw [show T.mk t.k [] t.ps = t by rw [← h2, ← T.eta]] at this
      refine this.congr (fun s => by unfold bodyD; rw [if_neg (by omega), if_neg (by omega), if_neg (by omega)]) rfl ?_ ?_
      · rw [pts_eq, h2]; simp
      · rw [prt_eq]

/-- How many bytes a reader takes. -/
def Len {α : Type} (m : St → Re α) (sz : α → Nat) : Prop := ∀ s a s', m s = .ok a s' → s.xs.length = sz a + s'.xs.length
theorem bind_inv {α β : Type} {m : Re α} {g : α → St → Re β} {b : β} {s' : St} (h : m.bind g = .ok b s') : ∃ a s1, m = .ok a s1 ∧ g a s1 = .ok b s' := by
  cases m with
  | ok a s1 => exact ⟨a, s1, rfl, h⟩
  | bad e => cases h
theorem Len.num (l : Bool) (n : Nat) : Len (numD l n) (fun _ => n) := by
  intro s a s' h
  unfold numD at h
  split at h
  · injection h with h1 h2
    subst h2
    simp; omega
  · cases h
theorem Len.point (l : Bool) : Len (pointD l) (fun _ => 16) := by
  intro s a s' h
  obtain ⟨x, s1, h1, h⟩ := bind_inv h
  obtain ⟨y, s2, h2, h⟩ := bind_inv h
  injection h with h3 h4
  subst h4
  have := Len.num l 8 _ _ _ h1
  have := Len.num l 8 _ _ _ h2
  simp only at *; omega
theorem Len.tally (parts : Bool) (n : Nat) : Len (tallyD parts n) (fun _ => 0) := by
  intro s a s' h
  unfold tallyD at h
  by_cases hc : n ≤ (if parts then s.Q else s.P)
  · rw [if_pos hc] at h
    injection h with h1 h2
    subst h2
    cases parts <;> simp
  · rw [if_neg hc] at h
    cases h
theorem Len.count (parts : Bool) (few : Nat) (l : Bool) : Len (countD parts few l) (fun _ => 4) := by
  intro s a s' h
  obtain ⟨n, s1, h1, h⟩ := bind_inv h
  obtain ⟨u, s2, h2, h⟩ := bind_inv h
  have e1 := Len.num l 4 _ _ _ h1
  have e2 := Len.tally parts n _ _ _ h2
  split at h
  · cases h
  · injection h with h3 h4
    subst h4
    simp only at *; omega
theorem Len.times {α : Type} {m : St → Re α} {sz : α → Nat} (hm : Len m sz) : ∀ n, Len (timesD m n) (fun l => (l.map sz).sum) ∧ ∀ s l s', timesD m n s = .ok l s' → l.length = n := by
  intro n
  induction n with
  | zero =>
    refine ⟨fun s a s' h => ?_, fun s a s' h => ?_⟩
    · injection h with h1 h2; subst h1 h2; simp
    · injection h with h1 h2; subst h1; rfl
  | succ n ih =>
    refine ⟨fun s a s' h => ?_, fun s a s' h => ?_⟩
    · obtain ⟨x, s1, h1, h⟩ := bind_inv h
      obtain ⟨r, s2, h2, h⟩ := bind_inv h
      injection h with h3 h4
      subst h3 h4
      have := hm _ _ _ h1
      have := ih.1 _ _ _ h2
      simp only [List.map_cons, List.sum_cons] at *; omega
    · obtain ⟨x, s1, h1, h⟩ := bind_inv h
      obtain ⟨r, s2, h2, h⟩ := bind_inv h
      injection h with h3 h4
      subst h3
      have := ih.2 _ _ _ h2
      simp; omega
theorem sum_const {α : Type} (l : List α) (n : Nat) : (l.map fun _ => n).sum = n * l.length := by
  induction l with
  | nil => rfl
  | cons a r ih => simp only [List.map_cons, List.sum_cons, ih, List.length_cons, Nat.mul_succ]; omega
theorem Len.row (l : Bool) : Len (rowD l) (fun xy => 4 + 16 * xy.length) := by
  intro s a s' h
  obtain ⟨n, s1, h1, h⟩ := bind_inv h
  have e1 := Len.count _ _ _ _ _ _ h1
  have e2 := (Len.times (Len.point l) n).1 _ _ _ h
  simp only [sum_const] at *
  omega
theorem Len.spot (l : Bool) : Len (spotD l) (fun _ => 16) := by
  intro s a s' h
  obtain ⟨p, s1, h1, h⟩ := bind_inv h
  have e1 := Len.point l _ _ _ h1
  split at h
  · injection h with h3 h4
    subst h4; simpa using e1
  · obtain ⟨u, s2, h2, h⟩ := bind_inv h
    have e2 := Len.tally false 1 _ _ _ h2
    injection h with h3 h4
    subst h4
    simp only at *; omega
theorem sizeI_flat (l : Bool) (ps : List T) : sizeI (ps.flatMap (T.items l)) = (ps.map fun t => sizeI (t.items l)).sum := by
  induction ps with
  | nil => rfl
  | cons a r ih => rw [List.flatMap_cons, sizeI_append, ih]; rfl
theorem Len.list (few : Nat) (l l' : Bool) {m : St → Re T} (hm : Len m (fun t => sizeI (t.items l'))) : Len (listD few l m) (fun ps => 4 + sizeI (ps.flatMap (T.items l'))) := by
  intro s a s' h
  obtain ⟨n, s1, h1, h⟩ := bind_inv h
  have e1 := Len.count _ _ _ _ _ _ h1
  have e2 := (Len.times hm n).1 _ _ _ h
  simp only [← sizeI_flat] at *
  omega
theorem Len.ring (l l' : Bool) : Len (ringD l) (fun t => sizeI (t.items l')) := by
  intro s a s' h
  obtain ⟨xy, s1, h1, h⟩ := bind_inv h
  have e1 := Len.row l _ _ _ h1
  injection h with h3 h4
  subst h3 h4
  show s.xs.length = sizeI ((T.mk 0 xy []).items l') + s1.xs.length
  rw [ring_items l' (.mk 0 xy []) rfl, sizeI_cons]
  show _ = 4 + sizeI (xy.flatMap ptI) + _
  rw [sizeI_pts]; exact e1
theorem Len.order (d : Bool) : Len (orderD d) (fun _ => 1) := by
  intro s a s' h
  unfold orderD at h
  split at h
  · cases h
  · rename_i b r hb
    split at h
    · cases h
    · split at h
      · cases h
      · injection h with h1 h2
        subst h2
        rw [hb]; simp; omega
theorem Len.kind (want : Int) (l : Bool) : Len (kindD want l) (fun _ => 4) ∧ ∀ s k s', kindD want l s = .ok k s' → 1 ≤ k ∧ k ≤ 7 := by
  refine ⟨fun s a s' h => ?_, fun s a s' h => ?_⟩
  · obtain ⟨n, s1, h1, h⟩ := bind_inv h
    have e1 := Len.num l 4 _ _ _ h1
    split at h
    · cases h
    · split at h
      · cases h
      · injection h with h3 h4
        subst h4; exact e1
  · obtain ⟨n, s1, h1, h⟩ := bind_inv h
    split at h
    · cases h
    · split at h
      · cases h
      · injection h with h3 h4
        subst h3; omega
theorem Len.body (l l' : Bool) (next : Int → St → Re T) (hm : ∀ k, Len (next k) (fun t => sizeI (t.items l'))) (k : Int) (hk : 1 ≤ k ∧ k ≤ 7) : Len (bodyD next k l) (fun t => sizeI (t.items l') - 5) ∧ ∀ s t s', bodyD next k l s = .ok t s' → 5 ≤ sizeI (t.items l') := by
  have key : ∀ s t s', bodyD next k l s = .ok t s' → s.xs.length + 5 = sizeI (t.items l') + s'.xs.length := by
    intro s t s' h
    have head : ∀ k, sizeI [(if l' then 1 else 0, 1), (U k, 4)] = 5 := fun _ => rfl
    unfold bodyD at h
    split at h
    · rename_i h1
      obtain ⟨xy, s1, h2, h⟩ := bind_inv h
      have e := Len.spot l _ _ _ h2
      injection h with h3 h4
      subst h3 h4
      rw [items_point l' (T.mk k xy []) h1, sizeI_append, head]
      have : sizeI (ptI (one (T.mk k xy []).xy)) = 16 := rfl
      simp only at e
      omega
    · split at h
      · rename_i h1
        obtain ⟨xy, s1, h2, h⟩ := bind_inv h
        have e := Len.row l _ _ _ h2
        injection h with h3 h4
        subst h3 h4
        rw [items_line l' (T.mk k xy []) h1, sizeI_append, head, sizeI_cons, sizeI_pts]
        simp only [T.xy] at e ⊢
        omega
      · split at h
        · rename_i h1
          obtain ⟨ps, s1, h2, h⟩ := bind_inv h
          have e := Len.list 4 l l' (Len.ring l l') _ _ _ h2
          injection h with h3 h4
          subst h3 h4
          rw [items_parts l' (T.mk k [] ps) (show 3 ≤ k by omega), sizeI_append, head, sizeI_cons]
          simp only [T.ps] at e ⊢
          omega
        · obtain ⟨ps, s1, h2, h⟩ := bind_inv h
          have e := Len.list 9 l l' (hm _) _ _ _ h2
          injection h with h3 h4
          subst h3 h4
          rw [items_parts l' (T.mk k [] ps) (show 3 ≤ k by omega), sizeI_append, head, sizeI_cons]
          simp only [T.ps] at e ⊢
          omega
  have key2 : ∀ s t s', bodyD next k l s = .ok t s' → 5 ≤ sizeI (t.items l') := by
    intro s t s' h
    have : t.k = k := by
      unfold bodyD at h
      split at h
      · obtain ⟨xy, s1, h2, h⟩ := bind_inv h; injection h with h3 h4; subst h3; rfl
      · split at h
        · obtain ⟨xy, s1, h2, h⟩ := bind_inv h; injection h with h3 h4; subst h3; rfl
        · split at h
          · obtain ⟨xy, s1, h2, h⟩ := bind_inv h; injection h with h3 h4; subst h3; rfl
          · obtain ⟨xy, s1, h2, h⟩ := bind_inv h; injection h with h3 h4; subst h3; rfl
    have := size_head l' t (by omega)
    omega
  exact ⟨fun s t s' h => by have := key s t s' h; have := key2 s t s' h; simp only; omega, key2⟩
/-- What was read has as many bytes as its numbers. -/
theorem shapeD_len (l' : Bool) : ∀ (f : Nat) (want : Int), Len (shapeD f want) (fun t => sizeI (t.items l')) := by
  intro f
  induction f with
  | zero =>
    intro want s t s' h
    obtain ⟨l, s1, h1, h⟩ := bind_inv h
    unfold orderD at h1
    split at h1
    · cases h1
    · split at h1
      · cases h1
      · cases h1
  | succ f ih =>
    intro want s t s' h
    obtain ⟨l, s1, h1, h⟩ := bind_inv h
    obtain ⟨k, s2, h2, h⟩ := bind_inv h
    have e1 := Len.order false _ _ _ h1
    have e2 := (Len.kind want l).1 _ _ _ h2
    have hk := (Len.kind want l).2 _ _ _ h2
    have e3 := (Len.body l l' (shapeD f) (fun k => ih k) k hk).1 _ _ _ h
    have e4 := (Len.body l l' (shapeD f) (fun k => ih k) k hk).2 _ _ _ h
    simp only at *
    omega
end Go.Proofs.YtjieegnmofimkaaDoor
