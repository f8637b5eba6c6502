/- What is written of a shape, number by number, by Size's closure; no statement of the seat is proved here. -/
import Derived.Test.YtjieegnmofimkaaDoorEa
namespace Go.Proofs.YtjieegnmofimkaaDoor.Siz
open Go.RowKit Go.Maps

theorem wrapU (z : Int) : IntKind.u64.wrap z = ((U z : Nat) : Int) := by rw [IntKind.wrap_u64]; unfold U; omega
theorem wrapN (n : Nat) (h : n ≤ 9223372036854775807) : IntKind.u64.wrap (n : Int) = (n : Int) := by rw [IntKind.wrap_u64]; omega
theorem kI {a b : Int} (h : a = b) : (some (Value.int .i64 a)) = some (.int .i64 b) := by rw [h]
/-- What is asked of the function that takes the numbers. -/
def Puts (oa : Nat) (J : List (Nat × Nat) → (Nat → Prop) → World → Prop) : Prop :=
  ∀ (L : List (Nat × Nat)) (G : Nat → Prop) (W : World) (v n : Nat), J L G W → v < 18446744073709551616 → 0 < n ∧ n ≤ 8 → sizeI L + n ≤ 1000000000 → Calls Tryd.prog 27 #[.int .u64 (v : Int), .int .i64 (n : Int), .pointer (some ⟨oa, 0, none⟩)] W fun e W' => (∃ x, e = .returned x) ∧ Sm G W W' ∧ J (L ++ [(v, n)]) G W'

section
variable {N : Nat} {w0 : World} {J : List (Nat × Nat) → (Nat → Prop) → World → Prop} (hJ : ∀ L, Cns N w0 (J L)) {oa : Nat} (hput : Puts oa J)
include hJ hput

omit hput in
/-- A block of one's own is beside what is held. -/
theorem grow1 {L : List (Nat × Nat)} {G : Nat → Prop} {W : World} (h : J L G W) (o : Obj) : J L (fun i => G i ∨ i = W.heap.size) (W.alloc o) :=
  (hJ L).mv _ _ _ _ h (Fr.alloc _ _ _) fun i hi => hi.imp id fun e => ⟨by omega, by simp; omega⟩

set_option maxRecDepth 100000 in
set_option maxHeartbeats 1000000 in
theorem wpt_call (p : Int × Int) (L : List (Nat × Nat)) (G : Nat → Prop) (W : World) (h : J L G W) (hB : sizeI L + 16 ≤ 1000000000) : Calls Tryd.prog 45 #[.agg #[.int .i64 p.1, .int .i64 p.2], .func (.func 27) #[] #[.pointer (some ⟨oa, 0, none⟩)]] W fun e W' => (∃ x, e = .returned x) ∧ Sm G W W' ∧ J (L ++ ptI p) G W' := by
  have e : L ++ ptI p = (L ++ [(U p.1, 8)]) ++ [(U p.2, 8)] := by simp [ptI]
  rw [e]
  clear e
  have h1 := hid (grow1 hJ h (.cells #[.int .i64 p.1, .int .i64 p.2] 56))
  have HB := hid hB
  have P := hid hput
  have HJ := hid hJ
  have lt1 := hid (fun i hi => ((hJ L).gd _ _ h i hi).2)
  have x1 := wrapU p.1
  have x2 := wrapU p.2
  have u1 := U_lt p.1
  have u2 := U_lt p.2
  generalize U p.1 = n1 at *
  generalize U p.2 = n2 at *
  obtain ⟨a, b⟩ := p
  simp only at *
  have t1 := hid True.intro
  have t2 := hid True.intro
  have hh := hid h
  clear h hput hJ hB
  go_enter Tryd.func45, Tryd.ntmps45
  go_wp2_with (first
    | (go_at_call 27; clear t1; refine (P.out _ _ _ n1 8 h1.out u1 (by decide) (by have := HB.out; omega)).mono ?_; rintro e w1 ⟨⟨y1, rfl⟩, s1, j1⟩; have S1 := hid s1; have J1 := hid j1; have B1 := hid (show Bo w1 W.heap.size #[.int .i64 a, .int .i64 b] 56 from (s1.same _ (Or.inr rfl)).trans (Bo.new _ _ _)); have c1 := B1.out.cell 1 _ rfl; have z1 := B1.out.lt; clear s1 j1)
    | (go_at_call 27; clear t2; refine (P.out _ _ _ n2 8 J1.out u2 (by decide) (by have := HB.out; rw [sizeI_append, show sizeI [(n1, 8)] = 8 from rfl]; omega)).mono ?_; rintro e w2 ⟨⟨y2, rfl⟩, s2, j2⟩; have S2 := hid s2; have J2 := hid j2; clear s2 j2))
  refine bodyPost_end (results_none rfl _ _ _) rfl ?_
  refine ⟨⟨_, rfl⟩, ?_, (HJ.out _).less J2.out fun i hi => .inl hi⟩
  exact ((Fr.alloc (fun _ => False) W _).sm fun i hi => ⟨lt1.out i hi, fun h => h⟩).trans ((S1.out.mono fun i hi => .inl hi).trans (S2.out.mono fun i hi => .inl hi))

omit hJ hput in
theorem sizeI_one (x : Nat × Nat) : sizeI [x] = x.2 := by simp [sizeI]
omit hJ hput in
theorem size_take {α : Type} (f : α → List (Nat × Nat)) (l : List α) (i : Nat) (p : α) (h : l[i]? = some p) : sizeI ((l.take i).flatMap f) + sizeI (f p) ≤ sizeI (l.flatMap f) := by
  conv => rhs; rw [← List.take_append_drop (i + 1) l, List.flatMap_append, sizeI_append, List.take_add_one, h, List.flatMap_append, sizeI_append]
  simp only [Option.toList_some, List.flatMap_cons, List.flatMap_nil, List.append_nil]
  omega
omit hput in
theorem held_sm {L : List (Nat × Nat)} {G : Nat → Prop} {W W' : World} (h : J L G W) {o : Obj} (s : Sm (fun i => G i ∨ i = W.heap.size) (W.alloc o) W') : Sm G W W' :=
  ((Fr.alloc (fun _ => False) W o).sm fun i hi => ⟨((hJ L).gd _ _ h i hi).2, fun h => h⟩).trans (s.mono fun _ hi => .inl hi)
omit hJ hput in
theorem bx_same {G : Nat → Prop} {W W' : World} {b : Nat} {s : Sh} (h : Bx W b s) (k : Sm G W W') (hb : G b) : Bx W' b s := (k.same b hb).trans h
omit hput in
theorem xr_at {s : Sh} (hS : Here (fun b => b < N) w0 s) {L : List (Nat × Nat)} {G : Nat → Prop} {W : World} (h : J L G W) : XR (fun b => b < N) W s.xo s.xy := hS.xr.of fun b hb => ⟨((hJ L).base _ _ h).block b hb, hb⟩
omit hput in
theorem pr_at {s : Sh} (hS : Here (fun b => b < N) w0 s) {L : List (Nat × Nat)} {G : Nat → Prop} {W : World} (h : J L G W) : PR (fun b => b < N) W s.po s.ps := hS.pr.of fun b hb => ⟨((hJ L).base _ _ h).block b hb, hb⟩
omit hJ hput in
theorem take_flat {α β : Type} (f : α → List β) (l : List α) (i : Nat) (p : α) (h : l[i]? = some p) : (l.take (i + 1)).flatMap f = (l.take i).flatMap f ++ f p := by
  rw [List.take_add_one, h, List.flatMap_append]; simp

def PI (J : List (Nat × Nat) → (Nat → Prop) → World → Prop) (xy : List (Int × Int)) (L : List (Nat × Nat)) (G : Nat → Prop) (W0 : World) (b : Nat) (s : Sh) (c : Value) (W : World) : Prop :=
  ∃ i : Nat, i ≤ s.xn ∧ c = .int .i64 (i : Int) ∧ Hid (J (L ++ (xy.take i).flatMap ptI) G W) ∧ Hid (Sm G W0 W) ∧ Hid (Bx W b s)
def SI (J : List (Nat × Nat) → (Nat → Prop) → World → Prop) (l : Bool) (L : List (Nat × Nat)) (G : Nat → Prop) (W0 : World) (b : Nat) (s : Sh) (c : Value) (W : World) : Prop :=
  ∃ i : Nat, i ≤ s.pn ∧ c = .int .i64 (i : Int) ∧ Hid (J (L ++ (s.ps.take i).flatMap fun p => p.t.items l) G W) ∧ Hid (Sm G W0 W) ∧ Hid (Bx W b s)

set_option maxRecDepth 100000 in
set_option maxHeartbeats 4000000 in
theorem write_point (s : Sh) (l : Bool) (hk : s.k = 1) (hS : Here (fun b => b < N) w0 s) (L : List (Nat × Nat)) (G : Nat → Prop) (W : World) (h : J L G W) (hB : sizeI L + sizeI (s.t.items l) ≤ 1000000000) :
    Calls Tryd.prog 24 #[.agg #[.int .i64 (s).k, .slice (s).xo (s).xn (s).xc, .slice (s).po (s).pn (s).pc], .bool l, .func (.func 27) #[] #[.pointer (some ⟨oa, 0, none⟩)]] W fun e W' => (∃ x, e = .returned x) ∧ Sm G W W' ∧ J (L ++ s.t.items l) G W' := by
  rw [items_point l s.t (by rw [t_k, hk]), t_xy, t_k] at hB ⊢
  have HB := hid (show sizeI L + 21 ≤ 1000000000 from hB)
  have B1 := hid (Bx.new W s)
  obtain ⟨x0, x1, x2⟩ := B1.out.cells
  have h1 := hid (grow1 hJ h (.cells #[.int .i64 (s).k, .slice (s).xo (s).xn (s).xc, .slice (s).po (s).pn (s).pc] 25))
  have P := hid hput
  have HJ := hid hJ
  have hh := hid h
  have HS := hid hS
  have OB := hid (fun W => orderByte_call l W)
  have ON := hid (fun w hx => only_call (fun b => b < N) w s.xo s.xn s.xc s.xy hS.xl hS.lenI.1 hx)
  have WP := hid (fun L G W h hb => wpt_call hJ hput (one s.xy) L G W h hb)
  have uk : U s.k = 1 := by rw [hk]; rfl
  rw [uk]
  have e1 : one1 s.xy = .agg #[.int .i64 (one s.xy).1, .int .i64 (one s.xy).2] := rfl
  rw [e1] at ON
  generalize one s.xy = o1 at *
  obtain ⟨ov, hov⟩ : ∃ ov : Nat, ov = if l then 1 else 0 := ⟨_, rfl⟩
  have hov1 : ov < 18446744073709551616 := by rw [hov]; split <;> omega
  rw [← hov] at OB ⊢
  have e : L ++ ([(ov, 1), (1, 4)] ++ ptI o1) = ((L ++ [(ov, 1)]) ++ [(1, 4)]) ++ ptI o1 := by simp
  rw [e]
  replace x0 := x0.trans (kI hk)
  have HK := hid hk
  clear e e1 hov h hS hJ hput uk hk hB
  have t1 := hid True.intro
  have t2 := hid True.intro
  go_enter Tryd.func24, Tryd.ntmps24
  go_wp2_with (first
    | (go_at_call 44; refine (OB.out _).mono ?_; rintro e w0' ⟨rfl, rfl⟩)
    | (go_at_call 27; clear t1; refine (P.out _ _ _ ov 1 h1.out hov1 (by decide) (by have := HB.out; first | omega | (simp only [sizeI_append, sizeI_one]; omega))).mono ?_; rintro e w1 ⟨⟨y1, rfl⟩, s1, j1⟩; have S1 := hid s1; have J1 := hid j1; have B2 := hid (bx_same B1.out s1 (.inr rfl)); obtain ⟨x0, x1, x2⟩ := B2.out.cells; replace x0 := x0.trans (kI HK.out); clear s1 j1)
    | (go_at_call 27; clear t2; refine (P.out _ _ _ 1 4 J1.out (by decide) (by decide) (by have := HB.out; first | omega | (simp only [sizeI_append, sizeI_one]; omega))).mono ?_; rintro e w2 ⟨⟨y2, rfl⟩, s2, j2⟩; have S2 := hid s2; have J2 := hid j2; have B3 := hid (bx_same B2.out s2 (.inr rfl)); obtain ⟨x0, x1, x2⟩ := B3.out.cells; replace x0 := x0.trans (kI HK.out); clear s2 j2)
    | (go_at_call 46; refine (ON.out _ (xr_at HJ.out HS.out J2.out)).mono ?_; rintro e w3 ⟨rfl, b3⟩; have J3 := hid ((HJ.out _).mv _ _ _ _ J2.out (Fr.of_below b3) fun i hi => .inl hi); have S3 := hid ((Fr.of_below (S := fun _ => False) b3).sm fun i (hi : G i ∨ i = W.heap.size) => ⟨((HJ.out _).gd _ _ J2.out i hi).2, fun h => h⟩); clear b3)
    | (go_at_call 45; refine (WP.out _ _ _ J3.out (by have := HB.out; first | omega | (simp only [sizeI_append, sizeI_one]; omega))).mono ?_; rintro e w4 ⟨⟨y4, rfl⟩, s4, j4⟩; have S4 := hid s4; have J4 := hid j4; clear s4 j4))
  refine bodyPost_end (results_none rfl _ _ _) rfl ?_
  exact ⟨⟨_, rfl⟩, held_sm HJ.out hh.out (S1.out.trans (S2.out.trans (S3.out.trans S4.out))), (HJ.out _).less J4.out fun i hi => .inl hi⟩

set_option maxRecDepth 100000 in
set_option maxHeartbeats 4000000 in
theorem write_ring (s : Sh) (l : Bool) (hk : s.k = 0) (hS : Here (fun b => b < N) w0 s) (L : List (Nat × Nat)) (G : Nat → Prop) (W : World) (h : J L G W) (hB : sizeI L + sizeI (s.t.items l) ≤ 1000000000) :
    Calls Tryd.prog 24 #[.agg #[.int .i64 (s).k, .slice (s).xo (s).xn (s).xc, .slice (s).po (s).pn (s).pc], .bool l, .func (.func 27) #[] #[.pointer (some ⟨oa, 0, none⟩)]] W fun e W' => (∃ x, e = .returned x) ∧ Sm G W W' ∧ J (L ++ s.t.items l) G W' := by
  have EE := hid (show s.t.items l = (s.xn, 4) :: s.xy.flatMap ptI by rw [ring_items l s.t (by rw [t_k, hk]), t_xy, hS.xl])
  have B1 := hid (Bx.new W s)
  obtain ⟨x0, x1, x2⟩ := B1.out.cells
  have h1 := hid (grow1 hJ h (.cells #[.int .i64 (s).k, .slice (s).xo (s).xn (s).xc, .slice (s).po (s).pn (s).pc] 25))
  have P := hid hput
  have HJ := hid hJ
  have hh := hid h
  have HS := hid hS
  have OB := hid (fun W => orderByte_call l W)
  have WP := hid (fun p L G W h hb => wpt_call hJ hput p L G W h hb)
  have xI := hS.lenI
  have xb := hS.xb
  have pb := hS.pb
  have xw := wrapN s.xn (by omega)
  have pw := wrapN s.pn (by omega)
  have HB := hid hB
  obtain ⟨ov, hov⟩ : ∃ ov : Nat, ov = if l then 1 else 0 := ⟨_, rfl⟩
  have hov1 : ov < 18446744073709551616 := by rw [hov]; split <;> omega
  rw [← hov] at OB
  have t1 := hid True.intro
  have t2 := hid True.intro
  have t3 := hid True.intro
  have HB := hid (show sizeI L + (4 + sizeI (s.xy.flatMap ptI)) ≤ 1000000000 by have := HB.out; rw [EE.out] at this; simp only [sizeI_cons] at this; omega)
  have EE := hid (show ∀ L, L ++ s.t.items l = (L ++ [(s.xn, 4)]) ++ s.xy.flatMap ptI by intro L; rw [EE.out]; simp)
  replace x0 := x0.trans (kI hk)
  have HK := hid hk
  clear hov h hS hJ hput hk t1 t2 OB hov1 hB
  go_enter Tryd.func24, Tryd.ntmps24
  go_wp2_with (first
    | (go_at_call 27; clear t3; refine (P.out _ _ _ s.xn 4 h1.out (by omega) (by decide) (by have := HB.out; first | omega | (simp only [sizeI_append, sizeI_one]; omega))).mono ?_; rintro e w3 ⟨⟨y3, rfl⟩, s3, j3⟩; have S3 := hid s3; have J3 := hid j3; have B4 := hid (bx_same B1.out s3 (.inr rfl)); obtain ⟨x0, x1, x2⟩ := B4.out.cells; replace x0 := x0.trans (kI HK.out); clear s3 j3))
  clear h1
  go_loopw [61] (PI J s.xy (L ++ [(s.xn, 4)]) (fun i => G i ∨ i = W.heap.size) w3 W.heap.size s) (fun c _ => s.xn - (intOf c).toNat)
  case atStart => exact ⟨0, by omega, rfl, hid (by simpa using J3.out), hid (Sm.refl _ _), B4⟩
  case round =>
    obtain ⟨i, hi, rfl, hj, hs, hb⟩ := hrel
    clear x0 x1 x2
    by_cases hlt : i < s.xn
    · obtain ⟨p, hp⟩ : ∃ p, s.xy[i]? = some p := ⟨_, List.getElem?_eq_getElem (by rw [HS.out.xl]; exact hlt)⟩
      obtain ⟨b, off, hxo, -, hat⟩ := (xr_at HJ.out HS.out hj.out).resolve_left (by intro e; rw [e] at hp; simp at hp)
      obtain ⟨z0, z1⟩ := hat i p hp
      have HP := hid hp
      have HT := hid (size_take ptI s.xy i p hp)
      have g1 := hid (grow1 HJ.out hj.out (.cells #[.int .i64 p.1, .int .i64 p.2] 56))
      rw [hxo] at *
      clear hat hp hxo
      go_wp2_with (go_at_call 45; refine (WP.out p _ _ _ g1.out (by have := HB.out; have := HT.out; have : sizeI (ptI p) = 16 := rfl; first | omega | (simp only [sizeI_append, sizeI_one]; omega))).mono ?_; rintro e w5 ⟨⟨y5, rfl⟩, s5, j5⟩; have S5 := hid s5; have J5 := hid j5; clear s5 j5)
      go_roundw
      case measure => simp [intOf]; omega
      case rel =>
        have k5 := held_sm HJ.out hj.out S5.out
        exact ⟨i + 1, by omega, by go_num, hid (by rw [take_flat ptI s.xy i p HP.out, ← List.append_assoc]; exact (HJ.out _).less J5.out (fun i hi => .inl hi)), hid (hs.out.trans k5), hid (bx_same hb.out k5 (.inr rfl))⟩
    · obtain rfl : i = s.xn := by omega
      have hfin : s.xy.take s.xn = s.xy := by rw [← HS.out.xl]; simp
      rw [hfin] at hj
      go_wp2
      refine bodyPost_end (results_none rfl _ _ _) rfl ?_
      exact ⟨⟨_, rfl⟩, held_sm HJ.out hh.out (S3.out.trans hs.out), (by rw [EE.out L]; exact (HJ.out _).less hj.out fun i hi => .inl hi)⟩

set_option maxRecDepth 100000 in
set_option maxHeartbeats 4000000 in
theorem write_line (s : Sh) (l : Bool) (hk : s.k = 2) (hS : Here (fun b => b < N) w0 s) (L : List (Nat × Nat)) (G : Nat → Prop) (W : World) (h : J L G W) (hB : sizeI L + sizeI (s.t.items l) ≤ 1000000000) :
    Calls Tryd.prog 24 #[.agg #[.int .i64 (s).k, .slice (s).xo (s).xn (s).xc, .slice (s).po (s).pn (s).pc], .bool l, .func (.func 27) #[] #[.pointer (some ⟨oa, 0, none⟩)]] W fun e W' => (∃ x, e = .returned x) ∧ Sm G W W' ∧ J (L ++ s.t.items l) G W' := by
  have EE := hid (show s.t.items l = [(if l then 1 else 0, 1), (2, 4)] ++ (s.xn, 4) :: s.xy.flatMap ptI by rw [items_line l s.t (by rw [t_k, hk]), t_xy, t_k, hk, hS.xl]; rfl)
  have B1 := hid (Bx.new W s)
  obtain ⟨x0, x1, x2⟩ := B1.out.cells
  have h1 := hid (grow1 hJ h (.cells #[.int .i64 (s).k, .slice (s).xo (s).xn (s).xc, .slice (s).po (s).pn (s).pc] 25))
  have P := hid hput
  have HJ := hid hJ
  have hh := hid h
  have HS := hid hS
  have OB := hid (fun W => orderByte_call l W)
  have WP := hid (fun p L G W h hb => wpt_call hJ hput p L G W h hb)
  have xI := hS.lenI
  have xb := hS.xb
  have pb := hS.pb
  have xw := wrapN s.xn (by omega)
  have pw := wrapN s.pn (by omega)
  have HB := hid hB
  obtain ⟨ov, hov⟩ : ∃ ov : Nat, ov = if l then 1 else 0 := ⟨_, rfl⟩
  have hov1 : ov < 18446744073709551616 := by rw [hov]; split <;> omega
  rw [← hov] at OB
  have t1 := hid True.intro
  have t2 := hid True.intro
  have t3 := hid True.intro
  have HB := hid (show sizeI L + (9 + sizeI (s.xy.flatMap ptI)) ≤ 1000000000 by have := HB.out; rw [EE.out] at this; simp only [sizeI_append, sizeI_cons, show sizeI [] = 0 from rfl] at this; omega)
  have EE := hid (show ∀ L, L ++ s.t.items l = (((L ++ [(ov, 1)]) ++ [(2, 4)]) ++ [(s.xn, 4)]) ++ s.xy.flatMap ptI by intro L; rw [EE.out, hov]; simp)
  replace x0 := x0.trans (kI hk)
  have HK := hid hk
  clear hov h hS hJ hput hk hB
  go_enter Tryd.func24, Tryd.ntmps24
  go_wp2_with (first
    | (go_at_call 44; refine (OB.out _).mono ?_; rintro e w0' ⟨rfl, rfl⟩)
    | (go_at_call 27; clear t1; refine (P.out _ _ _ ov 1 h1.out hov1 (by decide) (by have := HB.out; first | omega | (simp only [sizeI_append, sizeI_one]; omega))).mono ?_; rintro e w1 ⟨⟨y1, rfl⟩, s1, j1⟩; have S1 := hid s1; have J1 := hid j1; have B2 := hid (bx_same B1.out s1 (.inr rfl)); obtain ⟨x0, x1, x2⟩ := B2.out.cells; replace x0 := x0.trans (kI HK.out); clear s1 j1)
    | (go_at_call 27; clear t2; refine (P.out _ _ _ 2 4 J1.out (by decide) (by decide) (by have := HB.out; first | omega | (simp only [sizeI_append, sizeI_one]; omega))).mono ?_; rintro e w2 ⟨⟨y2, rfl⟩, s2, j2⟩; have S2 := hid s2; have J2 := hid j2; have B3 := hid (bx_same B2.out s2 (.inr rfl)); obtain ⟨x0, x1, x2⟩ := B3.out.cells; replace x0 := x0.trans (kI HK.out); clear s2 j2)
    | (go_at_call 27; clear t3; refine (P.out _ _ _ s.xn 4 J2.out (by omega) (by decide) (by have := HB.out; first | omega | (simp only [sizeI_append, sizeI_one]; omega))).mono ?_; rintro e w3 ⟨⟨y3, rfl⟩, s3, j3⟩; have S3 := hid s3; have J3 := hid j3; have B4 := hid (bx_same B3.out s3 (.inr rfl)); obtain ⟨x0, x1, x2⟩ := B4.out.cells; replace x0 := x0.trans (kI HK.out); clear s3 j3))
  clear J1 J2 h1
  go_loopw [61] (PI J s.xy (((L ++ [(ov, 1)]) ++ [(2, 4)]) ++ [(s.xn, 4)]) (fun i => G i ∨ i = W.heap.size) w3 W.heap.size s) (fun c _ => s.xn - (intOf c).toNat)
  case atStart => exact ⟨0, by omega, rfl, hid (by simpa using J3.out), hid (Sm.refl _ _), B4⟩
  case round =>
    obtain ⟨i, hi, rfl, hj, hs, hb⟩ := hrel
    clear x0 x1 x2
    by_cases hlt : i < s.xn
    · obtain ⟨p, hp⟩ : ∃ p, s.xy[i]? = some p := ⟨_, List.getElem?_eq_getElem (by rw [HS.out.xl]; exact hlt)⟩
      obtain ⟨b, off, hxo, -, hat⟩ := (xr_at HJ.out HS.out hj.out).resolve_left (by intro e; rw [e] at hp; simp at hp)
      obtain ⟨z0, z1⟩ := hat i p hp
      have HP := hid hp
      have HT := hid (size_take ptI s.xy i p hp)
      have g1 := hid (grow1 HJ.out hj.out (.cells #[.int .i64 p.1, .int .i64 p.2] 56))
      rw [hxo] at *
      clear hat hp hxo
      go_wp2_with (go_at_call 45; refine (WP.out p _ _ _ g1.out (by have := HB.out; have := HT.out; have : sizeI (ptI p) = 16 := rfl; first | omega | (simp only [sizeI_append, sizeI_one]; omega))).mono ?_; rintro e w5 ⟨⟨y5, rfl⟩, s5, j5⟩; have S5 := hid s5; have J5 := hid j5; clear s5 j5)
      go_roundw
      case measure => simp [intOf]; omega
      case rel =>
        have k5 := held_sm HJ.out hj.out S5.out
        exact ⟨i + 1, by omega, by go_num, hid (by rw [take_flat ptI s.xy i p HP.out, ← List.append_assoc]; exact (HJ.out _).less J5.out (fun i hi => .inl hi)), hid (hs.out.trans k5), hid (bx_same hb.out k5 (.inr rfl))⟩
    · obtain rfl : i = s.xn := by omega
      have hfin : s.xy.take s.xn = s.xy := by rw [← HS.out.xl]; simp
      rw [hfin] at hj
      go_wp2
      refine bodyPost_end (results_none rfl _ _ _) rfl ?_
      exact ⟨⟨_, rfl⟩, held_sm HJ.out hh.out (S1.out.trans (S2.out.trans (S3.out.trans hs.out))), (by rw [EE.out L]; exact (HJ.out _).less hj.out fun i hi => .inl hi)⟩

set_option maxRecDepth 100000 in
set_option maxHeartbeats 4000000 in
theorem write_parts (s : Sh) (l : Bool) (hk : s.k ≠ 0 ∧ s.k ≠ 1 ∧ s.k ≠ 2) (hS : Here (fun b => b < N) w0 s) (ih : ∀ p ∈ s.ps, ∀ (L : List (Nat × Nat)) (G : Nat → Prop) (W : World), J L G W → sizeI L + sizeI (p.t.items l) ≤ 1000000000 → Calls Tryd.prog 24 #[.agg #[.int .i64 (p).k, .slice (p).xo (p).xn (p).xc, .slice (p).po (p).pn (p).pc], .bool l, .func (.func 27) #[] #[.pointer (some ⟨oa, 0, none⟩)]] W fun e W' => (∃ x, e = .returned x) ∧ Sm G W W' ∧ J (L ++ p.t.items l) G W') (L : List (Nat × Nat)) (G : Nat → Prop) (W : World) (h : J L G W) (hB : sizeI L + sizeI (s.t.items l) ≤ 1000000000) :
    Calls Tryd.prog 24 #[.agg #[.int .i64 (s).k, .slice (s).xo (s).xn (s).xc, .slice (s).po (s).pn (s).pc], .bool l, .func (.func 27) #[] #[.pointer (some ⟨oa, 0, none⟩)]] W fun e W' => (∃ x, e = .returned x) ∧ Sm G W W' ∧ J (L ++ s.t.items l) G W' := by
  have EE := hid (show s.t.items l = [(if l then 1 else 0, 1), (U s.k, 4)] ++ (s.pn, 4) :: s.ps.flatMap (fun p => p.t.items l) by rw [items_other l s.t (by rw [t_k]; exact hk), t_ps, t_k, List.length_map, hS.pl, List.flatMap_map])
  have B1 := hid (Bx.new W s)
  obtain ⟨x0, x1, x2⟩ := B1.out.cells
  have h1 := hid (grow1 hJ h (.cells #[.int .i64 (s).k, .slice (s).xo (s).xn (s).xc, .slice (s).po (s).pn (s).pc] 25))
  have P := hid hput
  have HJ := hid hJ
  have hh := hid h
  have HS := hid hS
  have OB := hid (fun W => orderByte_call l W)
  have WP := hid (fun p L G W h hb => wpt_call hJ hput p L G W h hb)
  have xI := hS.lenI
  have xb := hS.xb
  have pb := hS.pb
  have xw := wrapN s.xn (by omega)
  have pw := wrapN s.pn (by omega)
  have HB := hid hB
  obtain ⟨ov, hov⟩ : ∃ ov : Nat, ov = if l then 1 else 0 := ⟨_, rfl⟩
  have hov1 : ov < 18446744073709551616 := by rw [hov]; split <;> omega
  rw [← hov] at OB
  have t1 := hid True.intro
  have t2 := hid True.intro
  have t3 := hid True.intro
  have HB := hid (show sizeI L + (9 + sizeI (s.ps.flatMap (fun p => p.t.items l))) ≤ 1000000000 by have := HB.out; rw [EE.out] at this; simp only [sizeI_append, sizeI_cons, show sizeI [] = 0 from rfl] at this; omega)
  have EE := hid (show ∀ L, L ++ s.t.items l = (((L ++ [(ov, 1)]) ++ [(U s.k, 4)]) ++ [(s.pn, 4)]) ++ s.ps.flatMap (fun p => p.t.items l) by intro L; rw [EE.out, hov]; simp)
  have IH := hid ih
  have uk := wrapU s.k
  have ul := U_lt s.k
  generalize U s.k = uu at *
  have n0 : (s.k == 0) = false := by simp [hk.1]
  have n1 : (s.k == 1) = false := by simp [hk.2.1]
  have n2 : (s.k == 2) = false := by simp [hk.2.2]
  clear hov h hS hJ hput hk ih hB
  go_enter Tryd.func24, Tryd.ntmps24
  go_wp2_with (first
    | (go_at_call 44; refine (OB.out _).mono ?_; rintro e w0' ⟨rfl, rfl⟩)
    | (go_at_call 27; clear t1; refine (P.out _ _ _ ov 1 h1.out hov1 (by decide) (by have := HB.out; first | omega | (simp only [sizeI_append, sizeI_one]; omega))).mono ?_; rintro e w1 ⟨⟨y1, rfl⟩, s1, j1⟩; have S1 := hid s1; have J1 := hid j1; have B2 := hid (bx_same B1.out s1 (.inr rfl)); obtain ⟨x0, x1, x2⟩ := B2.out.cells; skip; clear s1 j1)
    | (go_at_call 27; clear t2; refine (P.out _ _ _ uu 4 J1.out ul (by decide) (by have := HB.out; first | omega | (simp only [sizeI_append, sizeI_one]; omega))).mono ?_; rintro e w2 ⟨⟨y2, rfl⟩, s2, j2⟩; have S2 := hid s2; have J2 := hid j2; have B3 := hid (bx_same B2.out s2 (.inr rfl)); obtain ⟨x0, x1, x2⟩ := B3.out.cells; skip; clear s2 j2)
    | (go_at_call 27; clear t3; refine (P.out _ _ _ s.pn 4 J2.out (by omega) (by decide) (by have := HB.out; first | omega | (simp only [sizeI_append, sizeI_one]; omega))).mono ?_; rintro e w3 ⟨⟨y3, rfl⟩, s3, j3⟩; have S3 := hid s3; have J3 := hid j3; have B4 := hid (bx_same B3.out s3 (.inr rfl)); obtain ⟨x0, x1, x2⟩ := B4.out.cells; skip; clear s3 j3))
  clear J1 J2 h1
  go_loopw [33] (SI J l (((L ++ [(ov, 1)]) ++ [(uu, 4)]) ++ [(s.pn, 4)]) (fun i => G i ∨ i = W.heap.size) w3 W.heap.size s) (fun c _ => s.pn - (intOf c).toNat)
  case atStart => exact ⟨0, by omega, rfl, hid (by simpa using J3.out), hid (Sm.refl _ _), B4⟩
  case round =>
    obtain ⟨i, hi, rfl, hj, hs, hb⟩ := hrel
    clear x0 x1 x2
    by_cases hlt : i < s.pn
    · obtain ⟨p, hp⟩ : ∃ p, s.ps[i]? = some p := ⟨_, List.getElem?_eq_getElem (by rw [HS.out.pl]; exact hlt)⟩
      obtain ⟨b, off, hpo, -, hat⟩ := (pr_at HJ.out HS.out hj.out).resolve_left (by intro e; rw [e] at hp; simp at hp)
      obtain ⟨z0, z1, z2⟩ := hat i p hp
      have HP := hid hp
      have HT := hid (size_take (fun p : Sh => p.t.items l) s.ps i p hp)
      have g1 := hid (grow1 HJ.out hj.out (.cells #[.int .i64 (p).k, .slice (p).xo (p).xn (p).xc, .slice (p).po (p).pn (p).pc] 25))
      have IP := hid (fun L G W h hb => IH.out p (List.mem_of_getElem? hp) L G W h hb)
      rw [hpo] at *
      clear hat hp hpo
      go_wp2_with (go_at_call 24; refine (IP.out _ _ _ g1.out (by have := HB.out; have := HT.out; first | omega | (simp only [sizeI_append, sizeI_one]; omega))).mono ?_; rintro e w5 ⟨⟨y5, rfl⟩, s5, j5⟩; have S5 := hid s5; have J5 := hid j5; clear s5 j5)
      go_roundw
      case measure => simp [intOf]; omega
      case rel =>
        have k5 := held_sm HJ.out hj.out S5.out
        exact ⟨i + 1, by omega, by go_num, hid (by rw [take_flat (fun p : Sh => p.t.items l) s.ps i p HP.out, ← List.append_assoc]; exact (HJ.out _).less J5.out (fun i hi => .inl hi)), hid (hs.out.trans k5), hid (bx_same hb.out k5 (.inr rfl))⟩
    · obtain rfl : i = s.pn := by omega
      have hfin : s.ps.take s.pn = s.ps := by rw [← HS.out.pl]; simp
      rw [hfin] at hj
      go_wp2
      refine bodyPost_end (results_none rfl _ _ _) rfl ?_
      exact ⟨⟨_, rfl⟩, held_sm HJ.out hh.out (S1.out.trans (S2.out.trans (S3.out.trans hs.out))), (by rw [EE.out L]; exact (HJ.out _).less hj.out fun i hi => .inl hi)⟩

theorem write_call (l : Bool) : ∀ (M : Nat) (s : Sh), s.nodes.length ≤ M → In (fun b => b < N) w0 s → ∀ (L : List (Nat × Nat)) (G : Nat → Prop) (W : World), J L G W → sizeI L + sizeI (s.t.items l) ≤ 1000000000 →
    Calls Tryd.prog 24 #[.agg #[.int .i64 (s).k, .slice (s).xo (s).xn (s).xc, .slice (s).po (s).pn (s).pc], .bool l, .func (.func 27) #[] #[.pointer (some ⟨oa, 0, none⟩)]] W fun e W' => (∃ x, e = .returned x) ∧ Sm G W W' ∧ J (L ++ s.t.items l) G W' := by
  intro M
  induction M with
  | zero => intro s h; rw [nodes_eq] at h; simp at h
  | succ M ih =>
    intro s hM hI L G W h hB
    by_cases h0 : s.k = 0
    · exact write_ring hJ hput s l h0 hI.here L G W h hB
    · by_cases h1 : s.k = 1
      · exact write_point hJ hput s l h1 hI.here L G W h hB
      · by_cases h2 : s.k = 2
        · exact write_line hJ hput s l h2 hI.here L G W h hB
        · exact write_parts hJ hput s l ⟨h0, h1, h2⟩ hI.here (fun p hp => ih p (by have := nodes_lt hp; omega) (hI.part hp)) L G W h hB
end
end Go.Proofs.YtjieegnmofimkaaDoor.Siz
