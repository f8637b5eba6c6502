/- What is written of a shape, number by number, by Encode's closure; no statement of the seat is proved here. -/
import Derived.Test.YtpmfedimjjifaaaGreatDoorJ11
namespace Go.Proofs.YtpmfedimjjifaaaGreatDoor.Enc
open Go.RowKit Go.Maps

set_option maxRecDepth 100000 in
theorem wrapU (z : Int) : IntKind.u64.wrap z = ((U z : Nat) : Int) := by rw [IntKind.wrap_u64]; unfold U; omega
set_option maxRecDepth 100000 in
theorem wrapN (n : Nat) (h : n ≤ 9223372036854775807) : IntKind.u64.wrap (n : Int) = (n : Int) := by rw [IntKind.wrap_u64]; omega
set_option maxRecDepth 100000 in
theorem kI {a b : Int} (h : a = b) : (some (Value.int .i64 a)) = some (.int .i64 b) := by rw [h]
/-- What is asked of the function that takes the numbers. -/
def Puts (oa ob : Nat) (J : List (Nat × Nat) → (Nat → Prop) → World → Prop) : Prop :=
  ∀ (L : List (Nat × Nat)) (G : Nat → Prop) (W : World) (v n : Nat), J L G W → v < 18446744073709551616 → 0 < n ∧ n ≤ 8 → sizeI L + n ≤ 1000000000 → Calls Tryz.prog 68 #[.int .u64 (v : Int), .int .i64 (n : Int), .pointer (some ⟨oa, 0, none⟩), .pointer (some ⟨ob, 0, none⟩)] W fun e W' => (∃ x, e = .returned x) ∧ Sm G W W' ∧ J (L ++ [(v, n)]) G W'

section
variable {N : Nat} {w0 : World} {J : List (Nat × Nat) → (Nat → Prop) → World → Prop} (hJ : ∀ L, Cns N w0 (J L)) {oa ob : Nat} (hput : Puts oa ob J)
include hJ hput

omit hput in
set_option maxRecDepth 100000 in
/-- A block of one's own is beside what is held. -/
theorem grow1 {L : List (Nat × Nat)} {G : Nat → Prop} {W : World} (h : J L G W) (o : Obj) : J L (fun i => G i ∨ i = W.heap.size) (W.alloc o) :=
  (hJ L).mv _ _ _ _ h (Fr.alloc _ _ _) fun i hi => hi.imp id fun e => ⟨by omega, by simp; omega⟩

set_option maxRecDepth 100000 in
set_option maxHeartbeats 1000000 in
theorem wpt_call (p : Int × Int) (L : List (Nat × Nat)) (G : Nat → Prop) (W : World) (h : J L G W) (hB : sizeI L + 16 ≤ 1000000000) : Calls Tryz.prog 101 #[.agg #[.int .i64 p.1, .int .i64 p.2], .func (.func 68) #[] #[.pointer (some ⟨oa, 0, none⟩), .pointer (some ⟨ob, 0, none⟩)]] W fun e W' => (∃ x, e = .returned x) ∧ Sm G W W' ∧ J (L ++ ptI p) G W' := by
  have e : L ++ ptI p = (L ++ [(U p.1, 8)]) ++ [(U p.2, 8)] := by simp [ptI]
  rw [e]
  clear e
  have h1 := hid (grow1 hJ h (.cells #[.int .i64 p.1, .int .i64 p.2] 25))
  have HB := hid hB
  have P := hid hput
  have HJ := hid hJ
  have lt1 := hid (fun i hi => ((hJ L).gd _ _ h i hi).2)
  have x1 := wrapU p.1
  have x2 := wrapU p.2
  have u1 := U_lt p.1
  have u2 := U_lt p.2
  generalize U p.1 = n1 at *
  generalize U p.2 = n2 at *
  obtain ⟨a, b⟩ := p
  simp only at *
  have t1 := hid True.intro
  have t2 := hid True.intro
  have hh := hid h
  clear h hput hJ hB
  go_enter Tryz.func101, Tryz.ntmps101
  go_wp2_with (first
    | (go_at_call 68; clear t1; refine (P.out _ _ _ n1 8 h1.out u1 (by decide) (by have := HB.out; omega)).mono ?_; rintro e w1 ⟨⟨y1, rfl⟩, s1, j1⟩; have S1 := hid s1; have J1 := hid j1; have B1 := hid (show Bo w1 W.heap.size #[.int .i64 a, .int .i64 b] 25 from (s1.same _ (Or.inr rfl)).trans (Bo.new _ _ _)); have c1 := B1.out.cell 1 _ rfl; have z1 := B1.out.lt; clear s1 j1)
    | (go_at_call 68; clear t2; refine (P.out _ _ _ n2 8 J1.out u2 (by decide) (by have := HB.out; rw [sizeI_append, show sizeI [(n1, 8)] = 8 from rfl]; omega)).mono ?_; rintro e w2 ⟨⟨y2, rfl⟩, s2, j2⟩; have S2 := hid s2; have J2 := hid j2; clear s2 j2))
  refine bodyPost_end (results_none rfl _ _ _) rfl ?_
  refine ⟨⟨_, rfl⟩, ?_, (HJ.out _).less J2.out fun i hi => .inl hi⟩
  exact ((Fr.alloc (fun _ => False) W _).sm fun i hi => ⟨lt1.out i hi, fun h => h⟩).trans ((S1.out.mono fun i hi => .inl hi).trans (S2.out.mono fun i hi => .inl hi))

omit hJ hput in
set_option maxRecDepth 100000 in
theorem sizeI_one (x : Nat × Nat) : sizeI [x] = x.2 := by simp [sizeI]
omit hJ hput in
set_option maxRecDepth 100000 in
theorem size_take {α : Type} (f : α → List (Nat × Nat)) (l : List α) (i : Nat) (p : α) (h : l[i]? = some p) : sizeI ((l.take i).flatMap f) + sizeI (f p) ≤ sizeI (l.flatMap f) := by
  conv => rhs; rw [← List.take_append_drop (i + 1) l, List.flatMap_append, sizeI_append, List.take_add_one, h, List.flatMap_append, sizeI_append]
  simp only [Option.toList_some, List.flatMap_cons, List.flatMap_nil, List.append_nil]
  omega
omit hput in
set_option maxRecDepth 100000 in
theorem held_sm {L : List (Nat × Nat)} {G : Nat → Prop} {W W' : World} (h : J L G W) {o : Obj} (s : Sm (fun i => G i ∨ i = W.heap.size) (W.alloc o) W') : Sm G W W' :=
  ((Fr.alloc (fun _ => False) W o).sm fun i hi => ⟨((hJ L).gd _ _ h i hi).2, fun h => h⟩).trans (s.mono fun _ hi => .inl hi)
omit hJ hput in
set_option maxRecDepth 100000 in
theorem bx_same {G : Nat → Prop} {W W' : World} {b : Nat} {s : Sh} (h : Bx W b s) (k : Sm G W W') (hb : G b) : Bx W' b s := (k.same b hb).trans h
omit hput in
set_option maxRecDepth 100000 in
theorem xr_at {s : Sh} (hS : Here (fun b => b < N) w0 s) {L : List (Nat × Nat)} {G : Nat → Prop} {W : World} (h : J L G W) : XR (fun b => b < N) W s.xo s.xy := hS.xr.of fun b hb => ⟨((hJ L).base _ _ h).block b hb, hb⟩
omit hput in
set_option maxRecDepth 100000 in
theorem pr_at {s : Sh} (hS : Here (fun b => b < N) w0 s) {L : List (Nat × Nat)} {G : Nat → Prop} {W : World} (h : J L G W) : PR (fun b => b < N) W s.po s.ps := hS.pr.of fun b hb => ⟨((hJ L).base _ _ h).block b hb, hb⟩
omit hJ hput in
set_option maxRecDepth 100000 in
theorem take_flat {α β : Type} (f : α → List β) (l : List α) (i : Nat) (p : α) (h : l[i]? = some p) : (l.take (i + 1)).flatMap f = (l.take i).flatMap f ++ f p := by
  rw [List.take_add_one, h, List.flatMap_append]; simp

def PI (J : List (Nat × Nat) → (Nat → Prop) → World → Prop) (xy : List (Int × Int)) (L : List (Nat × Nat)) (G : Nat → Prop) (W0 : World) (b : Nat) (s : Sh) (c : Value) (W : World) : Prop :=
  ∃ i : Nat, i ≤ s.xn ∧ c = .int .i64 (i : Int) ∧ Hid (J (L ++ (xy.take i).flatMap ptI) G W) ∧ Hid (Sm G W0 W) ∧ Hid (Bx W b s)
def SI (J : List (Nat × Nat) → (Nat → Prop) → World → Prop) (l : Bool) (L : List (Nat × Nat)) (G : Nat → Prop) (W0 : World) (b : Nat) (s : Sh) (c : Value) (W : World) : Prop :=
  ∃ i : Nat, i ≤ s.pn ∧ c = .int .i64 (i : Int) ∧ Hid (J (L ++ (s.ps.take i).flatMap fun p => p.t.items l) G W) ∧ Hid (Sm G W0 W) ∧ Hid (Bx W b s)

set_option maxRecDepth 100000 in
set_option maxHeartbeats 4000000 in
theorem write_point (s : Sh) (l : Bool) (hk : s.k = 1) (hS : Here (fun b => b < N) w0 s) (L : List (Nat × Nat)) (G : Nat → Prop) (W : World) (h : J L G W) (hB : sizeI L + sizeI (s.t.items l) ≤ 1000000000) :
    Calls Tryz.prog 67 #[.agg #[.int .i64 (s).k, .slice (s).xo (s).xn (s).xc, .slice (s).po (s).pn (s).pc], .bool l, .func (.func 68) #[] #[.pointer (some ⟨oa, 0, none⟩), .pointer (some ⟨ob, 0, none⟩)]] W fun e W' => (∃ x, e = .returned x) ∧ Sm G W W' ∧ J (L ++ s.t.items l) G W' := by
  rw [items_point l s.t (by rw [t_k, hk]), t_xy, t_k] at hB ⊢
  have HB := hid (show sizeI L + 21 ≤ 1000000000 from hB)
  have B1 := hid (Bx.new W s)
  obtain ⟨x0, x1, x2⟩ := B1.out.cells
  have h1 := hid (grow1 hJ h (.cells #[.int .i64 (s).k, .slice (s).xo (s).xn (s).xc, .slice (s).po (s).pn (s).pc] 39))
  have P := hid hput
  have HJ := hid hJ
  have hh := hid h
  have HS := hid hS
  have OB := hid (fun W => orderByte_call l W)
  have ON := hid (fun w hx => only_call (fun b => b < N) w s.xo s.xn s.xc s.xy hS.xl hS.lenI.1 hx)
  have WP := hid (fun L G W h hb => wpt_call hJ hput (one s.xy) L G W h hb)
  have uk : U s.k = 1 := by rw [hk]; rfl
  rw [uk]
  have e1 : one1 s.xy = .agg #[.int .i64 (one s.xy).1, .int .i64 (one s.xy).2] := rfl
  rw [e1] at ON
  generalize one s.xy = o1 at *
  obtain ⟨ov, hov⟩ : ∃ ov : Nat, ov = if l then 1 else 0 := ⟨_, rfl⟩
  have hov1 : ov < 18446744073709551616 := by rw [hov]; split <;> omega
  rw [← hov] at OB ⊢
  have e : L ++ ([(ov, 1), (1, 4)] ++ ptI o1) = ((L ++ [(ov, 1)]) ++ [(1, 4)]) ++ ptI o1 := by simp
  rw [e]
  replace x0 := x0.trans (kI hk)
  have HK := hid hk
  clear e e1 hov h hS hJ hput uk hk hB
  have t1 := hid True.intro
  have t2 := hid True.intro
  go_enter Tryz.func67, Tryz.ntmps67
  go_wp2_with (first
    | (go_at_call 100; refine (OB.out _).mono ?_; rintro e w0' ⟨rfl, rfl⟩)
    | (go_at_call 68; clear t1; refine (P.out _ _ _ ov 1 h1.out hov1 (by decide) (by have := HB.out; first | omega | (simp only [sizeI_append, sizeI_one]; omega))).mono ?_; rintro e w1 ⟨⟨y1, rfl⟩, s1, j1⟩; have S1 := hid s1; have J1 := hid j1; have B2 := hid (bx_same B1.out s1 (.inr rfl)); obtain ⟨x0, x1, x2⟩ := B2.out.cells; replace x0 := x0.trans (kI HK.out); clear s1 j1)
    | (go_at_call 68; clear t2; refine (P.out _ _ _ 1 4 J1.out (by decide) (by decide) (by have := HB.out; first | omega | (simp only [sizeI_append, sizeI_one]; omega))).mono ?_; rintro e w2 ⟨⟨y2, rfl⟩, s2, j2⟩; have S2 := hid s2; have J2 := hid j2; have B3 := hid (bx_same B2.out s2 (.inr rfl)); obtain ⟨x0, x1, x2⟩ := B3.out.cells; replace x0 := x0.trans (kI HK.out); clear s2 j2)
    | (go_at_call 102; refine (ON.out _ (xr_at HJ.out HS.out J2.out)).mono ?_; rintro e w3 ⟨rfl, b3⟩; have J3 := hid ((HJ.out _).mv _ _ _ _ J2.out (Fr.of_below b3) fun i hi => .inl hi); have S3 := hid ((Fr.of_below (S := fun _ => False) b3).sm fun i (hi : G i ∨ i = W.heap.size) => ⟨((HJ.out _).gd _ _ J2.out i hi).2, fun h => h⟩); clear b3)
    | (go_at_call 101; refine (WP.out _ _ _ J3.out (by have := HB.out; first | omega | (simp only [sizeI_append, sizeI_one]; omega))).mono ?_; rintro e w4 ⟨⟨y4, rfl⟩, s4, j4⟩; have S4 := hid s4; have J4 := hid j4; clear s4 j4))
  refine bodyPost_end (results_none rfl _ _ _) rfl ?_
  exact ⟨⟨_, rfl⟩, held_sm HJ.out hh.out (S1.out.trans (S2.out.trans (S3.out.trans S4.out))), (HJ.out _).less J4.out fun i hi => .inl hi⟩

set_option maxRecDepth 100000 in
set_option maxHeartbeats 4000000 in
theorem write_ring (s : Sh) (l : Bool) (hk : s.k = 0) (hS : Here (fun b => b < N) w0 s) (L : List (Nat × Nat)) (G : Nat → Prop) (W : World) (h : J L G W) (hB : sizeI L + sizeI (s.t.items l) ≤ 1000000000) :
    Calls Tryz.prog 67 #[.agg #[.int .i64 (s).k, .slice (s).xo (s).xn (s).xc, .slice (s).po (s).pn (s).pc], .bool l, .func (.func 68) #[] #[.pointer (some ⟨oa, 0, none⟩), .pointer (some ⟨ob, 0, none⟩)]] W fun e W' => (∃ x, e = .returned x) ∧ Sm G W W' ∧ J (L ++ s.t.items l) G W' := by
  have EE := hid (show s.t.items l = (s.xn, 4) :: s.xy.flatMap ptI by rw [ring_items l s.t (by rw [t_k, hk]), t_xy, hS.xl])
  have B1 := hid (Bx.new W s)
  obtain ⟨x0, x1, x2⟩ := B1.out.cells
  have h1 := hid (grow1 hJ h (.cells #[.int .i64 (s).k, .slice (s).xo (s).xn (s).xc, .slice (s).po (s).pn (s).pc] 39))
  have P := hid hput
  have HJ := hid hJ
  have hh := hid h
  have HS := hid hS
  have OB := hid (fun W => orderByte_call l W)
  have WP := hid (fun p L G W h hb => wpt_call hJ hput p L G W h hb)
  have xI := hS.lenI
  have xb := hS.xb
  have pb := hS.pb
  have xw := wrapN s.xn (by omega)
  have pw := wrapN s.pn (by omega)
  have HB := hid hB
  obtain ⟨ov, hov⟩ : ∃ ov : Nat, ov = if l then 1 else 0 := ⟨_, rfl⟩
  have hov1 : ov < 18446744073709551616 := by rw [hov]; split <;> omega
  rw [← hov] at OB
  have t1 := hid True.intro
  have t2 := hid True.intro
  have t3 := hid True.intro
  have HB := hid (show sizeI L + (4 + sizeI (s.xy.flatMap ptI)) ≤ 1000000000 by have := HB.out; rw [EE.out] at this; simp only [sizeI_cons] at this; omega)
  have EE := hid (show ∀ L, L ++ s.t.items l = (L ++ [(s.xn, 4)]) ++ s.xy.flatMap ptI by intro L; rw [EE.out]; simp)
  replace x0 := x0.trans (kI hk)
  have HK := hid hk
  clear hov h hS hJ hput hk t1 t2 OB hov1 hB
  go_enter Tryz.func67, Tryz.ntmps67
  go_wp2_with (first
    | (go_at_call 68; clear t3; refine (P.out _ _ _ s.xn 4 h1.out (by omega) (by decide) (by have := HB.out; first | omega | (simp only [sizeI_append, sizeI_one]; omega))).mono ?_; rintro e w3 ⟨⟨y3, rfl⟩, s3, j3⟩; have S3 := hid s3; have J3 := hid j3; have B4 := hid (bx_same B1.out s3 (.inr rfl)); obtain ⟨x0, x1, x2⟩ := B4.out.cells; replace x0 := x0.trans (kI HK.out); clear s3 j3))
  clear h1
  go_loopw [61] (PI J s.xy (L ++ [(s.xn, 4)]) (fun i => G i ∨ i = W.heap.size) w3 W.heap.size s) (fun c _ => s.xn - (intOf c).toNat)
  case atStart => exact ⟨0, by omega, rfl, hid (by simpa using J3.out), hid (Sm.refl _ _), B4⟩
  case round =>
    obtain ⟨i, hi, rfl, hj, hs, hb⟩ := hrel
    clear x0 x1 x2
    by_cases hlt : i < s.xn
    · obtain ⟨p, hp⟩ : ∃ p, s.xy[i]? = some p := ⟨_, List.getElem?_eq_getElem (by rw [HS.out.xl]; exact hlt)⟩
      obtain ⟨b, off, hxo, -, hat⟩ := (xr_at HJ.out HS.out hj.out).resolve_left (by intro e; rw [e] at hp; simp at hp)
      obtain ⟨z0, z1⟩ := hat i p hp
      have HP := hid hp
      have HT := hid (size_take ptI s.xy i p hp)
      have g1 := hid (grow1 HJ.out hj.out (.cells #[.int .i64 p.1, .int .i64 p.2] 25))
      rw [hxo] at *
      clear hat hp hxo
      go_wp2_with (go_at_call 101; refine (WP.out p _ _ _ g1.out (by have := HB.out; have := HT.out; have : sizeI (ptI p) = 16 := rfl; first | omega | (simp only [sizeI_append, sizeI_one]; omega))).mono ?_; rintro e w5 ⟨⟨y5, rfl⟩, s5, j5⟩; have S5 := hid s5; have J5 := hid j5; clear s5 j5)
      go_roundw
      case measure => simp [intOf]; omega
      case rel =>
        have k5 := held_sm HJ.out hj.out S5.out
        exact ⟨i + 1, by omega, by go_num, hid (by rw [take_flat ptI s.xy i p HP.out, ← List.append_assoc]; exact (HJ.out _).less J5.out (fun i hi => .inl hi)), hid (hs.out.trans k5), hid (bx_same hb.out k5 (.inr rfl))⟩
    · obtain rfl : i = s.xn := by omega
      have hfin : s.xy.take s.xn = s.xy := by rw [← HS.out.xl]; simp
      rw [hfin] at hj
      go_wp2
      refine bodyPost_end (results_none rfl _ _ _) rfl ?_
      exact ⟨⟨_, rfl⟩, held_sm HJ.out hh.out (S3.out.trans hs.out), (by rw [EE.out L]; exact (HJ.out _).less hj.out fun i hi => .inl hi)⟩

set_option maxRecDepth 100000 in
set_option maxHeartbeats 4000000 in
theorem write_line (s : Sh) (l : Bool) (hk : s.k = 2) (hS : Here (fun b => b < N) w0 s) (L : List (Nat × Nat)) (G : Nat → Prop) (W : World) (h : J L G W) (hB : sizeI L + sizeI (s.t.items l) ≤ 1000000000) :
    Calls Tryz.prog 67 #[.agg #[.int .i64 (s).k, .slice (s).xo (s).xn (s).xc, .slice (s).po (s).pn (s).pc], .bool l, .func (.func 68) #[] #[.pointer (some ⟨oa, 0, none⟩), .pointer (some ⟨ob, 0, none⟩)]] W fun e W' => (∃ x, e = .returned x) ∧ Sm G W W' ∧ J (L ++ s.t.items l) G W' := by
  have EE := hid (show s.t.items l = [(if l then 1 else 0, 1), (2, 4)] ++ (s.xn, 4) :: s.xy.flatMap ptI by rw [items_line l s.t (by rw [t_k, hk]), t_xy, t_k, hk, hS.xl]; rfl)
  have B1 := hid (Bx.new W s)
  obtain ⟨x0, x1, x2⟩ := B1.out.cells
  have h1 := hid (grow1 hJ h (.cells #[.int .i64 (s).k, .slice (s).xo (s).xn (s).xc, .slice (s).po (s).pn (s).pc] 39))
  have P := hid hput
  have HJ := hid hJ
  have hh := hid h
  have HS := hid hS
  have OB := hid (fun W => orderByte_call l W)
  have WP := hid (fun p L G W h hb => wpt_call hJ hput p L G W h hb)
  have xI := hS.lenI
  have xb := hS.xb
  have pb := hS.pb
  have xw := wrapN s.xn (by omega)
  have pw := wrapN s.pn (by omega)
  have HB := hid hB
  obtain ⟨ov, hov⟩ : ∃ ov : Nat, ov = if l then 1 else 0 := ⟨_, rfl⟩
  have hov1 : ov < 18446744073709551616 := by rw [hov]; split <;> omega
  rw [← hov] at OB
  have t1 := hid True.intro
  have t2 := hid True.intro
  have t3 := hid True.intro
  have HB := hid (show sizeI L + (9 + sizeI (s.xy.flatMap ptI)) ≤ 1000000000 by have := HB.out; rw [EE.out] at this; simp only [sizeI_append, sizeI_cons, show sizeI [] = 0 from rfl] at this; omega)
  have EE := hid (show ∀ L, L ++ s.t.items l = (((L ++ [(ov, 1)]) ++ [(2, 4)]) ++ [(s.xn, 4)]) ++ s.xy.flatMap ptI by intro L; rw [EE.out, hov]; simp)
  replace x0 := x0.trans (kI hk)
  have HK := hid hk
  clear hov h hS hJ hput hk hB
  go_enter Tryz.func67, Tryz.ntmps67
  go_wp2_with (first
    | (go_at_call 100; refine (OB.out _).mono ?_; rintro e w0' ⟨rfl, rfl⟩)
    | (go_at_call 68; clear t1; refine (P.out _ _ _ ov 1 h1.out hov1 (by decide) (by have := HB.out; first | omega | (simp only [sizeI_append, sizeI_one]; omega))).mono ?_; rintro e w1 ⟨⟨y1, rfl⟩, s1, j1⟩; have S1 := hid s1; have J1 := hid j1; have B2 := hid (bx_same B1.out s1 (.inr rfl)); obtain ⟨x0, x1, x2⟩ := B2.out.cells; replace x0 := x0.trans (kI HK.out); clear s1 j1)
    | (go_at_call 68; clear t2; refine (P.out _ _ _ 2 4 J1.out (by decide) (by decide) (by have := HB.out; first | omega | (simp only [sizeI_append, sizeI_one]; omega))).mono ?_; rintro e w2 ⟨⟨y2, rfl⟩, s2, j2⟩; have S2 := hid s2; have J2 := hid j2; have B3 := hid (bx_same B2.out s2 (.inr rfl)); obtain ⟨x0, x1, x2⟩ := B3.out.cells; replace x0 := x0.trans (kI HK.out); clear s2 j2)
    | (go_at_call 68; clear t3; refine (P.out _ _ _ s.xn 4 J2.out (by omega) (by decide) (by have := HB.out; first | omega | (simp only [sizeI_append, sizeI_one]; omega))).mono ?_; rintro e w3 ⟨⟨y3, rfl⟩, s3, j3⟩; have S3 := hid s3; have J3 := hid j3; have B4 := hid (bx_same B3.out s3 (.inr rfl)); obtain ⟨x0, x1, x2⟩ := B4.out.cells; replace x0 := x0.trans (kI HK.out); clear s3 j3))
  clear J1 J2 h1
  go_loopw [61] (PI J s.xy (((L ++ [(ov, 1)]) ++ [(2, 4)]) ++ [(s.xn, 4)]) (fun i => G i ∨ i = W.heap.size) w3 W.heap.size s) (fun c _ => s.xn - (intOf c).toNat)
  case atStart => exact ⟨0, by omega, rfl, hid (by simpa using J3.out), hid (Sm.refl _ _), B4⟩
  case round =>
    obtain ⟨i, hi, rfl, hj, hs, hb⟩ := hrel
    clear x0 x1 x2
    by_cases hlt : i < s.xn
    · obtain ⟨p, hp⟩ : ∃ p, s.xy[i]? = some p := ⟨_, List.getElem?_eq_getElem (by rw [HS.out.xl]; exact hlt)⟩
      obtain ⟨b, off, hxo, -, hat⟩ := (xr_at HJ.out HS.out hj.out).resolve_left (by intro e; rw [e] at hp; simp at hp)
      obtain ⟨z0, z1⟩ := hat i p hp
      have HP := hid hp
      have HT := hid (size_take ptI s.xy i p hp)
      have g1 := hid (grow1 HJ.out hj.out (.cells #[.int .i64 p.1, .int .i64 p.2] 25))
      rw [hxo] at *
      clear hat hp hxo
      go_wp2_with (go_at_call 101; refine (WP.out p _ _ _ g1.out (by have := HB.out; have := HT.out; have : sizeI (ptI p) = 16 := rfl; first | omega | (simp only [sizeI_append, sizeI_one]; omega))).mono ?_; rintro e w5 ⟨⟨y5, rfl⟩, s5, j5⟩; have S5 := hid s5; have J5 := hid j5; clear s5 j5)
      go_roundw
      case measure => simp [intOf]; omega
      case rel =>
        have k5 := held_sm HJ.out hj.out S5.out
        exact ⟨i + 1, by omega, by go_num, hid (by rw [take_flat ptI s.xy i p HP.out, ← List.append_assoc]; exact (HJ.out _).less J5.out (fun i hi => .inl hi)), hid (hs.out.trans k5), hid (bx_same hb.out k5 (.inr rfl))⟩
    · obtain rfl : i = s.xn := by omega
      have hfin : s.xy.take s.xn = s.xy := by rw [← HS.out.xl]; simp
      rw [hfin] at hj
      go_wp2
      refine bodyPost_end (results_none rfl _ _ _) rfl ?_
      exact ⟨⟨_, rfl⟩, held_sm HJ.out hh.out (S1.out.trans (S2.out.trans (S3.out.trans hs.out))), (by rw [EE.out L]; exact (HJ.out _).less hj.out fun i hi => .inl hi)⟩

set_option maxRecDepth 100000 in
set_option maxHeartbeats 4000000 in
theorem write_parts (s : Sh) (l : Bool) (hk : s.k ≠ 0 ∧ s.k ≠ 1 ∧ s.k ≠ 2) (hS : Here (fun b => b < N) w0 s) (ih : ∀ p ∈ s.ps, ∀ (L : List (Nat × Nat)) (G : Nat → Prop) (W : World), J L G W → sizeI L + sizeI (p.t.items l) ≤ 1000000000 → Calls Tryz.prog 67 #[.agg #[.int .i64 (p).k, .slice (p).xo (p).xn (p).xc, .slice (p).po (p).pn (p).pc], .bool l, .func (.func 68) #[] #[.pointer (some ⟨oa, 0, none⟩), .pointer (some ⟨ob, 0, none⟩)]] W fun e W' => (∃ x, e = .returned x) ∧ Sm G W W' ∧ J (L ++ p.t.items l) G W') (L : List (Nat × Nat)) (G : Nat → Prop) (W : World) (h : J L G W) (hB : sizeI L + sizeI (s.t.items l) ≤ 1000000000) :
    Calls Tryz.prog 67 #[.agg #[.int .i64 (s).k, .slice (s).xo (s).xn (s).xc, .slice (s).po (s).pn (s).pc], .bool l, .func (.func 68) #[] #[.pointer (some ⟨oa, 0, none⟩), .pointer (some ⟨ob, 0, none⟩)]] W fun e W' => (∃ x, e = .returned x) ∧ Sm G W W' ∧ J (L ++ s.t.items l) G W' := by
  have EE := hid (show s.t.items l = [(if l then 1 else 0, 1), (U s.k, 4)] ++ (s.pn, 4) :: s.ps.flatMap (fun p => p.t.items l) by rw [items_other l s.t (by rw [t_k]; exact hk), t_ps, t_k, List.length_map, hS.pl, List.flatMap_map])
  have B1 := hid (Bx.new W s)
  obtain ⟨x0, x1, x2⟩ := B1.out.cells
  have h1 := hid (grow1 hJ h (.cells #[.int .i64 (s).k, .slice (s).xo (s).xn (s).xc, .slice (s).po (s).pn (s).pc] 39))
  have P := hid hput
  have HJ := hid hJ
  have hh := hid h
  have HS := hid hS
  have OB := hid (fun W => orderByte_call l W)
  have WP := hid (fun p L G W h hb => wpt_call hJ hput p L G W h hb)
  have xI := hS.lenI
  have xb := hS.xb
  have pb := hS.pb
  have xw := wrapN s.xn (by omega)
  have pw := wrapN s.pn (by omega)
  have HB := hid hB
  obtain ⟨ov, hov⟩ : ∃ ov : Nat, ov = if l then 1 else 0 := ⟨_, rfl⟩
  have hov1 : ov < 18446744073709551616 := by rw [hov]; split <;> omega
  rw [← hov] at OB
  have t1 := hid True.intro
  have t2 := hid True.intro
  have t3 := hid True.intro
  have HB := hid (show sizeI L + (9 + sizeI (s.ps.flatMap (fun p => p.t.items l))) ≤ 1000000000 by have := HB.out; rw [EE.out] at this; simp only [sizeI_append, sizeI_cons, show sizeI [] = 0 from rfl] at this; omega)
  have EE := hid (show ∀ L, L ++ s.t.items l = (((L ++ [(ov, 1)]) ++ [(U s.k, 4)]) ++ [(s.pn, 4)]) ++ s.ps.flatMap (fun p => p.t.items l) by intro L; rw [EE.out, hov]; simp)
  have IH := hid ih
  have uk := wrapU s.k
  have ul := U_lt s.k
  generalize U s.k = uu at *
  have n0 : (s.k == 0) = false := by simp [hk.1]
  have n1 : (s.k == 1) = false := by simp [hk.2.1]
  have n2 : (s.k == 2) = false := by simp [hk.2.2]
  clear hov h hS hJ hput hk ih hB
  go_enter Tryz.func67, Tryz.ntmps67
  go_wp2_with (first
    | (go_at_call 100; refine (OB.out _).mono ?_; rintro e w0' ⟨rfl, rfl⟩)
    | (go_at_call 68; clear t1; refine (P.out _ _ _ ov 1 h1.out hov1 (by decide) (by have := HB.out; first | omega | (simp only [sizeI_append, sizeI_one]; omega))).mono ?_; rintro e w1 ⟨⟨y1, rfl⟩, s1, j1⟩; have S1 := hid s1; have J1 := hid j1; have B2 := hid (bx_same B1.out s1 (.inr rfl)); obtain ⟨x0, x1, x2⟩ := B2.out.cells; skip; clear s1 j1)
    | (go_at_call 68; clear t2; refine (P.out _ _ _ uu 4 J1.out ul (by decide) (by have := HB.out; first | omega | (simp only [sizeI_append, sizeI_one]; omega))).mono ?_; rintro e w2 ⟨⟨y2, rfl⟩, s2, j2⟩; have S2 := hid s2; have J2 := hid j2; have B3 := hid (bx_same B2.out s2 (.inr rfl)); obtain ⟨x0, x1, x2⟩ := B3.out.cells; skip; clear s2 j2)
    | (go_at_call 68; clear t3; refine (P.out _ _ _ s.pn 4 J2.out (by omega) (by decide) (by have := HB.out; first | omega | (simp only [sizeI_append, sizeI_one]; omega))).mono ?_; rintro e w3 ⟨⟨y3, rfl⟩, s3, j3⟩; have S3 := hid s3; have J3 := hid j3; have B4 := hid (bx_same B3.out s3 (.inr rfl)); obtain ⟨x0, x1, x2⟩ := B4.out.cells; skip; clear s3 j3))
  clear J1 J2 h1
  go_loopw [33] (SI J l (((L ++ [(ov, 1)]) ++ [(uu, 4)]) ++ [(s.pn, 4)]) (fun i => G i ∨ i = W.heap.size) w3 W.heap.size s) (fun c _ => s.pn - (intOf c).toNat)
  case atStart => exact ⟨0, by omega, rfl, hid (by simpa using J3.out), hid (Sm.refl _ _), B4⟩
  case round =>
    obtain ⟨i, hi, rfl, hj, hs, hb⟩ := hrel
    clear x0 x1 x2
    by_cases hlt : i < s.pn
    · obtain ⟨p, hp⟩ : ∃ p, s.ps[i]? = some p := ⟨_, List.getElem?_eq_getElem (by rw [HS.out.pl]; exact hlt)⟩
      obtain ⟨b, off, hpo, -, hat⟩ := (pr_at HJ.out HS.out hj.out).resolve_left (by intro e; rw [e] at hp; simp at hp)
      obtain ⟨z0, z1, z2⟩ := hat i p hp
      have HP := hid hp
      have HT := hid (size_take (fun p : Sh => p.t.items l) s.ps i p hp)
      have g1 := hid (grow1 HJ.out hj.out (.cells #[.int .i64 (p).k, .slice (p).xo (p).xn (p).xc, .slice (p).po (p).pn (p).pc] 39))
      have IP := hid (fun L G W h hb => IH.out p (List.mem_of_getElem? hp) L G W h hb)
      rw [hpo] at *
      clear hat hp hpo
      go_wp2_with (go_at_call 67; refine (IP.out _ _ _ g1.out (by have := HB.out; have := HT.out; first | omega | (simp only [sizeI_append, sizeI_one]; omega))).mono ?_; rintro e w5 ⟨⟨y5, rfl⟩, s5, j5⟩; have S5 := hid s5; have J5 := hid j5; clear s5 j5)
      go_roundw
      case measure => simp [intOf]; omega
      case rel =>
        have k5 := held_sm HJ.out hj.out S5.out
        exact ⟨i + 1, by omega, by go_num, hid (by rw [take_flat (fun p : Sh => p.t.items l) s.ps i p HP.out, ← List.append_assoc]; exact (HJ.out _).less J5.out (fun i hi => .inl hi)), hid (hs.out.trans k5), hid (bx_same hb.out k5 (.inr rfl))⟩
    · obtain rfl : i = s.pn := by omega
      have hfin : s.ps.take s.pn = s.ps := by rw [← HS.out.pl]; simp
      rw [hfin] at hj
      go_wp2
      refine bodyPost_end (results_none rfl _ _ _) rfl ?_
      exact ⟨⟨_, rfl⟩, held_sm HJ.out hh.out (S1.out.trans (S2.out.trans (S3.out.trans hs.out))), (by rw [EE.out L]; exact (HJ.out _).less hj.out fun i hi => .inl hi)⟩

set_option maxRecDepth 100000 in
theorem write_call (l : Bool) : ∀ (M : Nat) (s : Sh), s.nodes.length ≤ M → In (fun b => b < N) w0 s → ∀ (L : List (Nat × Nat)) (G : Nat → Prop) (W : World), J L G W → sizeI L + sizeI (s.t.items l) ≤ 1000000000 →
    Calls Tryz.prog 67 #[.agg #[.int .i64 (s).k, .slice (s).xo (s).xn (s).xc, .slice (s).po (s).pn (s).pc], .bool l, .func (.func 68) #[] #[.pointer (some ⟨oa, 0, none⟩), .pointer (some ⟨ob, 0, none⟩)]] W fun e W' => (∃ x, e = .returned x) ∧ Sm G W W' ∧ J (L ++ s.t.items l) G W' := by
  intro M
  induction M with
  | zero => intro s h; rw [nodes_eq] at h; simp at h
  | succ M ih =>
    intro s hM hI L G W h hB
    by_cases h0 : s.k = 0
    · exact write_ring hJ hput s l h0 hI.here L G W h hB
    · by_cases h1 : s.k = 1
      · exact write_point hJ hput s l h1 hI.here L G W h hB
      · by_cases h2 : s.k = 2
        · exact write_line hJ hput s l h2 hI.here L G W h hB
        · exact write_parts hJ hput s l ⟨h0, h1, h2⟩ hI.here (fun p hp => ih p (by have := nodes_lt hp; omega) (hI.part hp)) L G W h hB
end
end Go.Proofs.YtpmfedimjjifaaaGreatDoor.Enc

/- What Encode's closure puts, and what Size's counts; no statement of the seat is proved here. -/
namespace Go.Proofs.YtpmfedimjjifaaaGreatDoor
open Go.RowKit Go.Maps

set_option maxRecDepth 100000 in
theorem own_same {w w' : World} {base : Nat} {e : TypeId} {size : Nat} {v : Value} {n : Nat} {xs : List Value} (h : w.ownsRow base e size v n xs) (hb : ∀ g, v.ownBlock = some g → w'.heap[g]? = w.heap[g]?) : w'.ownsRow base e size v n xs := by
  refine ⟨h.1, ?_⟩
  rcases h.2 with h1 | ⟨g, cap, cur, rfl, h2, h3, h4⟩
  · exact .inl h1
  · exact .inr ⟨g, cap, cur, rfl, h2, (hb g rfl).trans h3, h4⟩
/-- What Encode's closure holds: a list of bytes that grows. -/
structure JE (N : Nat) (w0 : World) (oa ob : Nat) (l : Bool) (L : List (Nat × Nat)) (G : Nat → Prop) (W : World) : Prop where
  base : Below N w0 W
  at2 : N ≤ oa ∧ N ≤ ob ∧ oa ≠ ob
  lit : Bo W ob #[.bool l] 4
  row : ∃ v, Bo W oa #[v] 22 ∧ W.ownsRow N 5 1 v (sizeI L) (bs (bytesI l L)) ∧ v.ownBlock ≠ some oa ∧ v.ownBlock ≠ some ob ∧ ∀ i, G i → v.ownBlock ≠ some i
  gd : ∀ i, G i → (N ≤ i ∧ i < W.heap.size) ∧ i ≠ oa ∧ i ≠ ob
set_option maxRecDepth 100000 in
theorem own_lt {w : World} {base : Nat} {e : TypeId} {size : Nat} {v : Value} {n : Nat} {xs : List Value} (h : w.ownsRow base e size v n xs) {g : Nat} (hg : v.ownBlock = some g) : base ≤ g ∧ g < w.heap.size := h.lt g hg
set_option maxRecDepth 100000 in
theorem je_cns (N : Nat) (w0 : World) (hN : N ≤ w0.heap.size) (oa ob : Nat) (l : Bool) (L : List (Nat × Nat)) : Cns N w0 (JE N w0 oa ob l L) := by
  refine ⟨fun G W h => h.base, fun G W h i hi => (h.gd i hi).1, fun G G' W W' h hf hs => ?_⟩
  obtain ⟨v, ha, hr, n1, n2, n3⟩ := h.row
  have hz := h.base.size
  refine ⟨h.base.trans (hf.below (Nat.le_trans hN hz) fun k hk hG => by have := (h.gd k hG).1.1; omega), h.at2, (hf.blk _ h.lit.lt fun hG => (h.gd _ hG).2.2 rfl).trans h.lit, ⟨v, (hf.blk _ ha.lt fun hG => (h.gd _ hG).2.1 rfl).trans ha, own_same hr fun g hg => hf.blk g (own_lt hr hg).2 fun hG => n3 g hG hg, n1, n2, fun i hi => ?_⟩, fun i hi => ?_⟩
  · rcases hs i hi with h1 | h1
    · exact n3 i h1
    · intro e; have := (own_lt hr e).2; omega
  · rcases hs i hi with h1 | h1
    · exact ⟨⟨(h.gd i h1).1.1, Nat.lt_of_lt_of_le (h.gd i h1).1.2 hf.size⟩, (h.gd i h1).2⟩
    · have := h.lit.lt; have := ha.lt
      exact ⟨⟨by omega, h1.2⟩, by omega, by omega⟩

set_option maxRecDepth 100000 in
set_option maxHeartbeats 2000000 in
theorem enc_put (N : Nat) (w0 : World) (hN : N ≤ w0.heap.size) (oa ob : Nat) (l : Bool) : Enc.Puts oa ob (JE N w0 oa ob l) := by
  intro L G W v n hJ hv hn hB
  obtain ⟨v0, ha, hr, n1, n2, n3⟩ := hJ.row
  obtain ⟨ao, cap, rfl⟩ := row_form hr
  have HJ := hid hJ; have HR := hid hr; have HA := hid ha; have HN := hid n3
  have a0 := ha.cell 0 _ rfl
  have b0 := hJ.lit.cell 0 _ rfl
  have PC := hid (show ∀ w, Calls Tryz.prog 60 #[.slice none 0 0, .int .u64 (v : Int), .int .i64 (n : Int), .bool l] w fun e w' => e = .returned (.slice (some ⟨w.heap.size, 0, none⟩) n n) ∧ w'.ownsRow w.heap.size 5 1 (.slice (some ⟨w.heap.size, 0, none⟩) n n) n (bs (putN v n l)) ∧ Below w.heap.size w w' from fun w => by
    have h := put_any none 0 0 [] v (n : Int) n l w (Rd.nil w) (by omega) (by omega) (by omega)
    simpa only [Nat.zero_add, List.nil_append] using h)
  obtain ⟨i5, hi5, hz0, hz1, hz2⟩ := info_parts Tryz.info5
  have HI := hid hi5; have HZ0 := hid hz0; have HZ1 := hid hz1; have HZ2 := hid hz2
  have hn8 := hn.2
  have hn0 := hn.1
  have hlb := bytesI_length l L
  generalize sizeI L = sl at *
  clear hJ hr ha n3 hi5 hz0 hz1 hz2 hn
  go_enter Tryz.func68, Tryz.ntmps68
  refine wp_region_K (S := (fun W : World => W.cell? ⟨oa, 0, none⟩ = some (.slice ao sl cap) ∧ W.cell? ⟨ob, 0, none⟩ = some (.bool l))) (fun i => i == 6) (by kernel_rfl) (by exact ⟨a0, b0⟩) (fun hHeld => ?_)
  refine gkt 0 ?_ (h := by intro W hSw; obtain ⟨r0, r1⟩ := hSw; go_simp; first | done | with_reducible rfl)
  refine gkp 1 ?_
  refine gkp 2 ?_
  refine gkt 3 ?_ (h := by intro W hSw; obtain ⟨r0, r1⟩ := hSw; go_simp; first | done | with_reducible rfl)
  refine gk1 4 (fun K hK => ?_)
  go_simp
  go_at_call 60; refine (PC.out _).mono ?_; rintro e w1 ⟨rfl, ho1, hb1⟩; have H1 := hid (undrew hb1); have O1 := hid ho1; have hR : (fun W : World => W.cell? ⟨oa, 0, none⟩ = some (.slice ao sl cap) ∧ W.cell? ⟨ob, 0, none⟩ = some (.bool l)) w1 := ⟨keep_old H1.out hHeld.1, keep_old H1.out hHeld.2⟩; clear hb1 ho1
  refine hK.out _ _ hR (fun hHeld => ?_)
  clear hK K hR
  (try simp only [Act.put, sA, sZ, sS])
  have HR1 := hid (own_same HR.out (w' := w1) fun g hg => H1.out.block g (own_lt HR.out hg).2)
  have z1 := H1.out.size
  have zN := HJ.out.base.size
  have RD := hid (rd_own O1.out)
  refine gk1 5 (fun K hK => ?_)
  refine step_append_lies _ rfl (.tmp 6) (.tmp 10) 22 rfl N 5 i5 (.int .u8 0) 1 1 Tryz.underlying22 HI.out HZ0.out HZ1.out HZ2.out rfl (by decide) (.slice ao sl cap) sl (bs (bytesI l L)) rfl HR1.out ⟨W.heap.size, 0, none⟩ n n (bs (putN v n l)) rfl (by simp [bs, putN_length]) ?_ (bs_one _) hn0 (by unfold maxLen; omega) (by omega) (by omega) w1.heap.size rfl ?_
  · intro j u hu
    obtain ⟨hj, rfl⟩ := bs_get' (putN v n l) j u hu
    obtain ⟨b, off, e, hcell⟩ := RD.out.2.2.2 hn0
    simp only [Option.some.injEq, Addr.mk.injEq, and_true] at e
    have h := hcell j (by rw [putN_length] at hj; exact hj)
    rw [← e.1, ← e.2] at h
    rw [Addr.add_lit]
    exact h
  intro g c2 w2 ho2 hg2 hgc hlt
  have O2 := hid ho2; have G2 := hid hg2; have GC := hid hgc
  have keep : ∀ i, i < w1.heap.size → (Value.slice ao sl cap).ownBlock ≠ some i → w2.heap[i]? = w1.heap[i]? := fun i hi hne => hg2.block i hi fun e => hne e.symm
  have z2 := hg2.size
  have A2 := hid (show Bo w2 oa #[.slice ao sl cap] 22 from (keep oa (by have := HA.out.lt; omega) n1).trans ((H1.out.block oa HA.out.lt).trans HA.out))
  have B2 := hid (show Bo w2 ob #[.bool l] 4 from (keep ob (by have := HJ.out.lit.lt; omega) n2).trans ((H1.out.block ob HJ.out.lit.lt).trans HJ.out.lit))
  have KP := hid keep
  have c0 := A2.out.cell 0 _ rfl
  have f0 := A2.out.fz 0
  have hR : (fun W : World => W.cell? ⟨oa, 0, none⟩ = some (.slice ao sl cap) ∧ W.cell? ⟨ob, 0, none⟩ = some (.bool l)) w2 := ⟨c0, B2.out.cell 0 _ rfl⟩
  refine hK.out _ _ hR (fun hHeld => ?_)
  clear hK K hR keep ho2 hg2 hgc
  (try simp only [Act.put, sA, sZ, sS])
  refine gkl 6 (fun K hK => ?_)
  go_simp
  refine hK.out _ _ ?_
  clear hK K
  (try simp only [Act.put, sA, sZ, sS])
  refine wpAnyK_done (by kernel_rfl) ?_ _
  refine bodyPost_end (results_none rfl _ _ _) rfl ?_
  have old : ∀ i, i < W.heap.size → i ≠ oa → (Value.slice ao sl cap).ownBlock ≠ some i → (w2.setCell ⟨oa, 0, none⟩ (.slice (some ⟨g, 0, none⟩) (sl + n) c2)).heap[i]? = W.heap[i]? := fun i h1 h2 h3 => (heap_setCell_other _ _ _ _ h2).trans ((KP.out i (by omega) h3).trans (H1.out.block i h1))
  have lo := HJ.out.at2
  have la := HA.out.lt
  have lb := HJ.out.lit.lt
  have gne : ∀ i, i < W.heap.size → (Value.slice ao sl cap).ownBlock ≠ some i → (Value.slice (some ⟨g, 0, none⟩) (sl + n) c2).ownBlock ≠ some i := by
    intro i hi hne e
    have e2 : g = i := by simpa [Value.ownBlock] using e
    rcases GC.out with h | h
    · exact hne (by rw [h, e2])
    · omega
  have hgN : N ≤ g := (own_lt O2.out rfl).1
  refine ⟨⟨_, rfl⟩, ⟨by simp; omega, fun i hi => old i (HJ.out.gd i hi).1.2 (HJ.out.gd i hi).2.1 (HN.out i hi)⟩, ?_⟩
  refine { base := ?_, at2 := lo, lit := ?_, row := ⟨_, A2.out.set 0 _, ?_, gne _ la n1, gne _ lb n2, fun i hi => gne i (HJ.out.gd i hi).1.2 (HN.out i hi)⟩, gd := fun i hi => ⟨⟨(HJ.out.gd i hi).1.1, by have := (HJ.out.gd i hi).1.2; simp; omega⟩, (HJ.out.gd i hi).2⟩ }
  · refine Below.setCell ((HJ.out.base.trans (H1.out.mono (by omega))).grown G2.out (by omega) fun k hk => (own_lt HR1.out hk).1) lo.1 _
  · exact B2.out.other (by omega)
  · have : sizeI (L ++ [(v, n)]) = sl + n := by rw [sizeI_append, ← hlb, bytesI_length]; simp [sizeI]
    rw [this, bytesI_append, bs_append]
    have e2 : bytesI l [(v, n)] = putN v n l := by simp [bytesI]
    rw [e2]
    exact own_same O2.out fun k hk => by
      have e : g = k := by simpa [Value.ownBlock] using hk
      subst e
      refine heap_setCell_other _ _ _ _ fun e => ?_
      exact gne oa la n1 (congrArg some (show g = oa from e))

/-- What Size's closure holds: how many bytes there are. -/
structure JS (N : Nat) (w0 : World) (oa : Nat) (L : List (Nat × Nat)) (G : Nat → Prop) (W : World) : Prop where
  base : Below N w0 W
  lo : N ≤ oa
  box : Bo W oa #[.int .i64 (sizeI L : Nat)] 3
  gd : ∀ i, G i → (N ≤ i ∧ i < W.heap.size) ∧ i ≠ oa
set_option maxRecDepth 100000 in
theorem js_cns (N : Nat) (w0 : World) (hN : N ≤ w0.heap.size) (oa : Nat) (L : List (Nat × Nat)) : Cns N w0 (JS N w0 oa L) := by
  refine ⟨fun G W h => h.base, fun G W h i hi => (h.gd i hi).1, fun G G' W W' h hf hs => ?_⟩
  have hz := h.base.size
  refine ⟨h.base.trans (hf.below (Nat.le_trans hN hz) fun k hk hG => by have := (h.gd k hG).1.1; omega), h.lo, (hf.blk _ h.box.lt fun hG => (h.gd _ hG).2 rfl).trans h.box, fun i hi => ?_⟩
  rcases hs i hi with h1 | h1
  · exact ⟨⟨(h.gd i h1).1.1, Nat.lt_of_lt_of_le (h.gd i h1).1.2 hf.size⟩, (h.gd i h1).2⟩
  · have := h.box.lt
    exact ⟨⟨by omega, h1.2⟩, by omega⟩
end Go.Proofs.YtpmfedimjjifaaaGreatDoor

/- Encode and Size; no statement of the seat is proved here. -/
namespace Go.Proofs.YtpmfedimjjifaaaGreatDoor
open Go.RowKit Go.Maps

set_option maxRecDepth 100000 in
/-- What may be is small. -/
theorem small_of {S : Nat → Prop} {w : World} {s : Sh} (h : In S w s) (hc : checkN s = 0) : (ptsOf s).length ≤ 4000 ∧ s.nodes.length ≤ 1001 := by
  rw [check_eq] at hc
  split at hc
  · cases hc
  rename_i h16
  split at hc
  · cases hc
  rename_i hl
  have h16' : depthN (s.flat 1) ≤ 16 := by omega
  have hpts := pts_le h h16' (by omega)
  have hnod := congrArg List.length (depth_nodes h16')
  rw [List.length_map] at hnod
  refine ⟨hpts, ?_⟩
  have : ¬ 1000 < partsN (s.flat 1) := fun e => hl (.inr e)
  unfold partsN at this; omega
set_option maxRecDepth 100000 in
theorem size_le (l : Bool) : ∀ (N : Nat) (s : Sh), s.nodes.length ≤ N → sizeI (s.t.items l) ≤ 25 * s.nodes.length + 16 * (ptsOf s).length := by
  intro N
  induction N with
  | zero => intro s h; rw [nodes_eq] at h; simp at h
  | succ N ih =>
    intro s h
    have hn : s.nodes.length = 1 + (nodesL s.ps).length := by rw [nodes_eq]; simp; omega
    have hp : (ptsOf s).length = s.xy.length + (s.ps.flatMap ptsOf).length := by rw [ptsOf_eq, List.length_append]
    by_cases h0 : s.k = 0
    · rw [ring_items l s.t (by rw [t_k, h0]), sizeI_cons, sizeI_pts, t_xy]; simp only; omega
    · by_cases h1 : s.k = 1
      · rw [items_point l s.t (by rw [t_k, h1]), sizeI_append]
        have e1 : sizeI [(if l then 1 else 0, 1), (U s.t.k, 4)] = 5 := rfl
        have e2 : sizeI (ptI (one s.t.xy)) = 16 := rfl
        omega
      · have e1 : sizeI [(if l then 1 else 0, 1), (U s.t.k, 4)] = 5 := rfl
        by_cases h2 : s.k = 2
        · rw [items_line l s.t (by rw [t_k, h2]), sizeI_append, e1, sizeI_cons, sizeI_pts, t_xy]
          simp only; omega
        · rw [items_other l s.t (by rw [t_k]; exact ⟨h0, h1, h2⟩), sizeI_append, e1, sizeI_cons, t_ps, List.flatMap_map]
          have key : ∀ L : List Sh, (∀ p ∈ L, p.nodes.length ≤ N) → sizeI (L.flatMap fun p => p.t.items l) ≤ 25 * (nodesL L).length + 16 * (L.flatMap ptsOf).length := by
            intro L
            induction L with
            | nil => intro _; simp [sizeI]
            | cons a r ihr =>
              intro hL
              have i1 := ih a (hL a (by simp))
              have i2 := ihr fun p hp => hL p (by simp [hp])
              rw [List.flatMap_cons, List.flatMap_cons, sizeI_append, nodesL, List.length_append, List.length_append]
              omega
          have := key s.ps fun p hp => by have := nodes_lt hp; omega
          simp only; omega
set_option maxRecDepth 100000 in
theorem size_small {S : Nat → Prop} {w : World} {s : Sh} (h : In S w s) (hc : checkN s = 0) (l : Bool) : sizeI (s.t.items l) ≤ 100000 := by
  have := small_of h hc
  have := size_le l _ s (Nat.le_refl _)
  omega

/-- A shape's bytes, as the program has them. -/
def encB (s : Sh) (l : Bool) : List Nat := if checkN s = 0 then bytesI l (s.t.items l) else []
set_option maxRecDepth 100000 in
set_option maxHeartbeats 2000000 in
theorem encode_call (s : Sh) (l : Bool) (w : World) (hT : Tab w) (h : In (fun b => b < w.heap.size) w s) : Calls Tryz.prog 41 #[.agg #[.int .i64 (s).k, .slice (s).xo (s).xn (s).xc, .slice (s).po (s).pn (s).pc], .bool l] w fun e w' => ∃ ao n cap, e = .returned (.slice ao n cap) ∧ w'.ownsRow w.heap.size 5 1 (.slice ao n cap) n (bs (encB s l)) ∧ n ≤ 100000 ∧ Below w.heap.size w w' := by
  have hg2 : Below w.heap.size w ((w.alloc (.cells #[.int .i64 (s).k, .slice (s).xo (s).xn (s).xc, .slice (s).po (s).pn (s).pc] 39)).alloc (.cells #[.bool l] 4)) := gt (ext1 _) (ext1 _)
  have H := hid h
  have G2 := hid hg2
  have CK := hid (check_call s _ (hT.keep hg2) (h.grow hg2))
  have BX := hid ((Bx.new w s).keep (ext1 (.cells #[.bool l] 4)))
  obtain ⟨x0, x1, x2⟩ := BX.out.cells
  have BL := hid (show Bo ((w.alloc (.cells #[.int .i64 (s).k, .slice (s).xo (s).xn (s).xc, .slice (s).po (s).pn (s).pc] 39)).alloc (.cells #[.bool l] 4)) (w.heap.size + 1) #[.bool l] 4 by have := Bo.new (w.alloc (.cells #[.int .i64 (s).k, .slice (s).xo (s).xn (s).xc, .slice (s).po (s).pn (s).pc] 39)) #[.bool l] 4; rwa [World.size_alloc] at this)
  have l0 := BL.out.cell 0 _ rfl
  by_cases hc : checkN s = 0
  · have SM := hid (size_small h hc l)
    rw [hc] at CK
    have EB := hid (show encB s l = bytesI l (s.t.items l) by unfold encB; rw [if_pos hc])
    have WC := hid (fun oa L G W hJ hb => Enc.write_call (je_cns w.heap.size w (Nat.le_refl _) oa (w.heap.size + 1) l) (enc_put w.heap.size w (Nat.le_refl _) oa (w.heap.size + 1) l) l s.nodes.length s (Nat.le_refl _) h L G W hJ hb)
    clear h hT hg2 hc
    go_enter Tryz.func41, Tryz.ntmps41
    go_wp2_with (first
      | (go_at_call 39; refine CK.out.mono ?_; rintro e w3 ⟨rfl, b3⟩; have H3 := hid b3; have X3 := hid ((BX.out.keep b3).keep (ext1 (.cells #[.slice none 0 0] 22))); obtain ⟨x0, x1, x2⟩ := X3.out.cells; have L3 := hid ((BL.out.keep b3).keep (ext1 (.cells #[.slice none 0 0] 22))); have l0 := L3.out.cell 0 _ rfl; have z3 := b3.size; simp only [World.size_alloc] at z3; have J0 := hid (show JE w.heap.size w w3.heap.size (w.heap.size + 1) l [] (fun _ => False) (w3.alloc (.cells #[.slice none 0 0] 22)) from { base := (G2.out.trans (b3.mono (by simp; omega))).alloc (by omega) _, at2 := ⟨by omega, by omega, by omega⟩, lit := L3.out, row := ⟨.slice none 0 0, Bo.new _ _ _, World.ownsRow_nil _ _ _ _, by simp [Value.ownBlock], by simp [Value.ownBlock], fun _ hi => hi.elim⟩, gd := fun _ hi => hi.elim }); clear b3)
      | (go_at_call 67; refine (WC.out w3.heap.size [] _ _ J0.out (by have := SM.out; have e0 : sizeI [] = 0 := rfl; omega)).mono ?_; rintro e w5 ⟨⟨y5, rfl⟩, s5, j5⟩; obtain ⟨v5, a5, r5, -⟩ := j5.row; obtain ⟨ao, cap, rfl⟩ := row_form r5; have R5 := hid r5; have B5 := hid j5.base; have c5 := a5.cell 0 _ rfl; clear s5 j5 a5 r5))
    go_ret
    exact ⟨ao, _, cap, rfl, by rw [EB.out]; exact R5.out, SM.out, B5.out⟩
  · have EB := hid (show encB s l = [] by unfold encB; rw [if_neg hc])
    have hc' : (checkN s == 0) = false := by simp [hc]
    generalize checkN s = cc at *
    clear h hT hg2 hc
    go_enter Tryz.func41, Tryz.ntmps41
    go_wp2_with (go_at_call 39; refine CK.out.mono ?_; rintro e w3 ⟨rfl, b3⟩; have H3 := hid b3; clear b3)
    go_ret
    exact ⟨none, 0, 0, rfl, by rw [EB.out]; exact World.ownsRow_nil _ _ _ _, by omega, G2.out.trans (H3.out.mono (by simp; omega))⟩

end Go.Proofs.YtpmfedimjjifaaaGreatDoor
