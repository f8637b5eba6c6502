/- Rows of points that a reader reads; no statement of the seat is proved here. -/
import Derived.Test.YtjieegnmofimkaaDoorFc
import Derived.Test.YtjieegnmofimkaaDoorEd
namespace Go.Proofs.YtjieegnmofimkaaDoor
open Go.RowKit Go.Maps

theorem times_ok {α : Type} {m : St → Re α} {k : Nat} {s s' : St} {l : List α} (h : timesD m (k + 1) s = .ok l s') : ∃ a s1 r, m s = .ok a s1 ∧ timesD m k s1 = .ok r s' ∧ l = a :: r := by
  obtain ⟨a, s1, h1, h⟩ := bind_inv h
  obtain ⟨r, s2, h2, h⟩ := bind_inv h
  injection h with h3 h4
  subst h3 h4
  exact ⟨a, s1, r, h1, h2, rfl⟩
theorem times_bad {α : Type} {m : St → Re α} {k : Nat} {s : St} {e : Nat} (h : timesD m (k + 1) s = .bad e) : m s = .bad e ∨ ∃ a s1, m s = .ok a s1 ∧ timesD m k s1 = .bad e := by
  rcases bad_inv h with h | ⟨a, s1, h1, h⟩
  · exact .inl h
  · rcases bad_inv h with h | ⟨r, s2, _, h⟩
    · exact .inr ⟨a, s1, h1, h⟩
    · cases h
/-- A list of points as a call leaves it. -/
structure PtsAt (B : Nat) (W : World) (o : Option Addr) (n c : Nat) (xy : List (Int × Int)) : Prop where
  len : xy.length = n
  cap : n ≤ c
  no : o = none → n = 0 ∧ c = 0
  xr : XR (fun b => B ≤ b ∧ b < W.heap.size) W o xy
  lim : n ≤ 1000000000
theorem Fr.row {N rb pb qb : Nat} {w a : World} {s : St} (f : Fr (Cg rb pb qb) w a) (h : RdAt N rb pb qb w s) {B : Nat} {e : TypeId} {size : Nat} {v : Value} {n : Nat} {xs : List Value} (ho : w.ownsRow B e size v n xs) (hB : N ≤ B) : a.ownsRow B e size v n xs :=
  own_same ho fun g hg => f.blk g (own_lt ho hg).2 fun e => by have := h.lo; have := (own_lt ho hg).1; rcases e with e | e | e <;> omega
def RwI (N rb pb qb : Nat) (l : Bool) (n : Nat) (xy : List (Int × Int)) (s' : St) (W0 : World) (a c : Value) (W : World) : Prop :=
  ∃ (i : Nat) (pre rest : List (Int × Int)) (si : St) (ao : Option Addr) (cap : Nat), i ≤ n ∧ c = .int .i64 (i : Int) ∧ a = .slice ao i cap ∧ Hid (pre.length = i) ∧ Hid (xy = pre ++ rest) ∧ Hid (timesD (pointD l) (n - i) si = .ok rest s') ∧
    Hid (W.ownsRow W0.heap.size 56 2 (.slice ao i cap) i (pv pre)) ∧ Hid (Fr (Cg rb pb qb) W0 W) ∧ Hid (RdAt N rb pb qb W si)
def RwB (N rb pb qb : Nat) (l : Bool) (n : Nat) (e : Nat) (W0 : World) (a c : Value) (W : World) : Prop :=
  ∃ (i : Nat) (pre : List (Int × Int)) (si : St) (ao : Option Addr) (cap : Nat), i ≤ n ∧ c = .int .i64 (i : Int) ∧ a = .slice ao i cap ∧ Hid (pre.length = i) ∧ Hid (timesD (pointD l) (n - i) si = .bad e) ∧
    Hid (W.ownsRow W0.heap.size 56 2 (.slice ao i cap) i (pv pre)) ∧ Hid (Fr (Cg rb pb qb) W0 W) ∧ Hid (RdAt N rb pb qb W si)
theorem own_cap {w : World} {B cap n : Nat} {e : TypeId} {size : Nat} {ao : Option Addr} {xs : List Value} (h : w.ownsRow B e size (.slice ao n cap) n xs) : n ≤ cap := by
  rcases h.2 with ⟨h1, h2⟩ | ⟨g, cap', cur, h1, _, _, h4, _⟩
  · omega
  · simp at h1; omega
theorem one_xr (w : World) (o : Obj) (p : Int × Int) : XR (fun _ => True) ((w.alloc o).alloc (.cells #[.int .i64 p.1, .int .i64 p.2] 56)) (some ⟨w.heap.size + 1, 0, none⟩) [p] := by
  refine .inr ⟨w.heap.size + 1, 0, rfl, trivial, fun i q hi => ?_⟩
  cases i with
  | zero =>
    simp at hi
    subst hi
    have B := Bo.new (w.alloc o) #[.int .i64 p.1, .int .i64 p.2] 56
    rw [World.size_alloc] at B
    exact ⟨B.cell 0 _ rfl, B.cell 1 _ rfl⟩
  | succ i => simp at hi

set_option maxRecDepth 100000 in
set_option maxHeartbeats 4000000 in
theorem row_ok {N rb pb qb : Nat} {W : World} {s : St} (h : RdAt N rb pb qb W s) (l : Bool) (xy : List (Int × Int)) (s' : St) (hd : rowD l s = .ok xy s') :
    Calls Tryd.prog 55 #[.pointer (some ⟨rb, 0, none⟩), .bool l] W fun x W' => (∃ o n c, x = .returned (.tuple #[.slice o n c, .int .i64 0]) ∧ PtsAt W.heap.size W' o n c xy) ∧ Fr (Cg rb pb qb) W W' ∧ RdAt N rb pb qb W' s' := by
  obtain ⟨n, s1, hc, hd⟩ := bind_inv hd
  obtain ⟨o, m, c, h1, -, -⟩ := h.bx
  have r1 := h1.cell 1 (.func (.func 75) #[] #[.pointer (some ⟨pb, 0, none⟩)]) rfl
  have hN := h.sz
  have C := hid (count_ok h false 16 (by omega) l n s1 hc)
  have PK := hid (fun W1 s2 (h2 : RdAt N rb pb qb W1 s2) p s3 hp => point_ok h2 l p s3 hp)
  have HD := hid hd
  obtain ⟨i5, hi5, hz0, hz1, hz2⟩ := info_parts info41
  have HI := hid hi5; have HZ0 := hid hz0; have HZ1 := hid hz1; have HZ2 := hid hz2
  clear h h1 hc hd hi5 hz0 hz1 hz2
  go_enter Tryd.func55, Tryd.ntmps55
  go_wp2_with (first
    | (go_at_call 78; refine C.out.mono ?_; rintro x w1 ⟨rfl, hn9, f1, r1⟩; have F1 := hid f1; have R1 := hid r1; have z1 := f1.size; clear f1 r1)
    | ((with_reducible refine here_op 25 ?_); refine wpList_make_own w1 rfl (.const (.int .i64 0)) (.tmp 24) 22 rfl W.heap.size 56 i5 _ 2 Tryd.underlying22 HI.out HZ0.out HZ1.out .i64 .i64 _ n rfl rfl rfl (by rw [HZ2.out]; omega) (by unfold maxLen; omega) z1 ?_; intro w2 o2 g2; have O2 := hid o2; have G2 := hid (show Below w1.heap.size w1 w2 from ⟨g2.os, g2.tape, g2.output, g2.size, fun k hk => g2.block k hk (by simp)⟩); clear o2 g2))
  go_loopw [8, 27] (RwI N rb pb qb l n xy s' W) (fun _ c _ => n - (intOf c).toNat)
  case atStart => exact ⟨0, [], xy, s1, _, _, by omega, rfl, rfl, hid rfl, hid rfl, hid HD.out, O2, hid (F1.out.low (G2.out.mono z1)), hid (R1.out.keep G2.out)⟩
  case round =>
    obtain ⟨i, pre, rest, si, ao, cap, hi, rfl, rfl, hpre, hxy, hti, ho, hf, hr⟩ := hrel
    by_cases hlt : i < n
    · obtain ⟨p, s2, r2, hp, ht2, hr2⟩ := times_ok (show timesD (pointD l) ((n - i - 1) + 1) si = .ok rest s' by rw [show n - i - 1 + 1 = n - i by omega]; exact hti.out)
      have PC := hid (PK.out wr si hr.out p s2 hp)
      have HT2 := hid ht2
      have HXY := hid (show xy = (pre ++ [p]) ++ r2 by rw [hxy.out, hr2]; simp)
      have zw := hf.out.size
      clear hp ht2 hr2 hti hxy
      go_wp2_with (first
        | (go_at_call 77; refine PC.out.mono ?_; rintro x w5 ⟨rfl, f5, r5⟩; have F5 := hid f5; have R5 := hid r5; have O5 := hid ((f5.row hr.out ho.out hN).alloc (.cells #[.int .i64 p.1, .int .i64 p.2] 56)); have z5 := f5.size; have PB := hid (Bo.new w5 #[.int .i64 p.1, .int .i64 p.2] 56); have p0 := PB.out.cell 0 _ rfl; have p1 := PB.out.cell 1 _ rfl; clear f5 r5)
        | (at_builtin; refine append_pts rfl (.tmp 38) (.tmp 40) rfl W.heap.size _ i pre rfl (O5.out.alloc _) _ _ 1 1 [p] rfl (one_xr _ _ p) rfl (fun h => by cases h) (by omega) (by simp; omega) ?_; intro v6 w6 o6 b6 g6; obtain ⟨a6, c6, rfl⟩ := row_form o6; have O6 := hid o6; have B6 := hid b6; clear o6 b6 g6))
      go_roundw
      case measure => simp [intOf]; omega
      case rel =>
        have b5 : Below W.heap.size w5 w6 := ((Below.refl _ _).alloc (by omega) _ |>.alloc (by simp; omega) _).trans B6.out
        exact ⟨i + 1, pre ++ [p], r2, s2, a6, c6, by omega, by go_num, rfl, hid (by simp [hpre.out]), HXY, hid (by rw [show n - (i + 1) = n - i - 1 by omega]; exact HT2.out), O6, hid ((hf.out.trans F5.out).low b5), hid (R5.out.keepN (b5.mono hN))⟩
    · obtain rfl : i = n := by omega
      have ht := hti.out
      rw [Nat.sub_self] at ht
      injection ht with ht1 ht2
      have HXY := hid (show xy = pre by rw [hxy.out, ← ht1]; simp)
      have HS := hid ht2
      clear hti ht1 ht2 hxy
      go_wp2
      go_ret2
      refine ⟨⟨ao, i, cap, rfl, ?_⟩, hf.out, by rw [← HS.out]; exact hr.out⟩
      rw [HXY.out]
      exact { len := hpre.out, cap := own_cap ho.out, no := own_none ho.out, xr := xr_own ho.out hpre.out, lim := hn9 }

theorem bad8 {l : Bool} {s : St} {e : Nat} (h : pointD l s = .bad e) : e = 8 := by
  have n8 : ∀ s e, numD l 8 s = .bad e → e = 8 := by
    intro s e h
    unfold numD at h
    split at h
    · cases h
    · injection h with h; exact h.symm
  rcases bad_inv h with h | ⟨v, s1, _, h⟩
  · exact n8 _ _ h
  · rcases bad_inv h with h | ⟨v, s2, _, h⟩
    · exact n8 _ _ h
    · cases h
set_option maxRecDepth 100000 in
set_option maxHeartbeats 4000000 in
theorem row_bad {N rb pb qb : Nat} {W : World} {s : St} (h : RdAt N rb pb qb W s) (l : Bool) (e : Nat) (hd : rowD l s = .bad e) :
    Calls Tryd.prog 55 #[.pointer (some ⟨rb, 0, none⟩), .bool l] W fun x W' => x = .returned (.tuple #[.slice none 0 0, .int .i64 (e : Int)]) ∧ (1 ≤ e ∧ e ≤ 20) ∧ Fr (Cg rb pb qb) W W' := by
  obtain ⟨o, m, c, h1, -, -⟩ := h.bx
  have r1 := h1.cell 1 (.func (.func 75) #[] #[.pointer (some ⟨pb, 0, none⟩)]) rfl
  have hN := h.sz
  rcases bad_inv hd with hd | ⟨n, s1, hc, hd⟩
  · have C := hid (count_bad h false 16 (by omega) l e hd)
    clear h h1 hd
    go_enter Tryd.func55, Tryd.ntmps55
    by_cases he : 1 ≤ e ∧ e ≤ 20
    · have he1 : ((e : Int) == 0) = false := by simp; omega
      go_wp2_with (go_at_call 78; refine C.out.mono ?_; rintro x w1 ⟨rfl, -, f1⟩; have F1 := hid f1; clear f1)
      go_ret2
      exact ⟨rfl, he, F1.out⟩
    · go_wp2_with (go_at_call 78; refine C.out.mono ?_; rintro x w1 ⟨rfl, h2, f1⟩; exact absurd h2 he)
  · have C := hid (count_ok h false 16 (by omega) l n s1 hc)
    have PK := hid (fun W1 s2 (h2 : RdAt N rb pb qb W1 s2) p s3 hp => point_ok h2 l p s3 hp)
    have PB9 := hid (fun W1 s2 (h2 : RdAt N rb pb qb W1 s2) e hp => point_bad h2 l e hp)
    have HD := hid hd
    obtain ⟨i5, hi5, hz0, hz1, hz2⟩ := info_parts info41
    have HI := hid hi5; have HZ0 := hid hz0; have HZ1 := hid hz1; have HZ2 := hid hz2
    clear h h1 hc hd hi5 hz0 hz1 hz2
    go_enter Tryd.func55, Tryd.ntmps55
    go_wp2_with (first
      | (go_at_call 78; refine C.out.mono ?_; rintro x w1 ⟨rfl, hn9, f1, r1⟩; have F1 := hid f1; have R1 := hid r1; have z1 := f1.size; clear f1 r1)
      | ((with_reducible refine here_op 25 ?_); refine wpList_make_own w1 rfl (.const (.int .i64 0)) (.tmp 24) 22 rfl W.heap.size 56 i5 _ 2 Tryd.underlying22 HI.out HZ0.out HZ1.out .i64 .i64 _ n rfl rfl rfl (by rw [HZ2.out]; omega) (by unfold maxLen; omega) z1 ?_; intro w2 o2 g2; have O2 := hid o2; have G2 := hid (show Below w1.heap.size w1 w2 from ⟨g2.os, g2.tape, g2.output, g2.size, fun k hk => g2.block k hk (by simp)⟩); clear o2 g2))
    go_loopw [8, 27] (RwB N rb pb qb l n e W) (fun _ c _ => n - (intOf c).toNat)
    case atStart => exact ⟨0, [], s1, _, _, by omega, rfl, rfl, hid rfl, hid HD.out, O2, hid (F1.out.low (G2.out.mono z1)), hid (R1.out.keep G2.out)⟩
    case round =>
      obtain ⟨i, pre, si, ao, cap, hi, rfl, rfl, hpre, hti, ho, hf, hr⟩ := hrel
      by_cases hlt : i < n
      · have zw := hf.out.size
        rcases times_bad (show timesD (pointD l) ((n - i - 1) + 1) si = .bad e by rw [show n - i - 1 + 1 = n - i by omega]; exact hti.out) with hp | ⟨p, s2, hp, ht2⟩
        · obtain rfl := bad8 hp
          have PC := hid (PB9.out wr si hr.out 8 hp)
          clear hp hti
          go_wp2_with (go_at_call 77; refine PC.out.mono ?_; rintro x w5 ⟨⟨rfl, -⟩, f5⟩; have F5 := hid f5; clear f5)
          go_ret2
          exact ⟨rfl, by omega, hf.out.trans F5.out |>.low ((Below.refl _ _).alloc (by have := F5.out.size; omega) _)⟩
        · have PC := hid (PK.out wr si hr.out p s2 hp)
          have HT2 := hid ht2
          clear hp ht2 hti
          go_wp2_with (first
            | (go_at_call 77; refine PC.out.mono ?_; rintro x w5 ⟨rfl, f5, r5⟩; have F5 := hid f5; have R5 := hid r5; have O5 := hid ((f5.row hr.out ho.out hN).alloc (.cells #[.int .i64 p.1, .int .i64 p.2] 56)); have z5 := f5.size; have PB := hid (Bo.new w5 #[.int .i64 p.1, .int .i64 p.2] 56); have p0 := PB.out.cell 0 _ rfl; have p1 := PB.out.cell 1 _ rfl; clear f5 r5)
            | (at_builtin; refine append_pts rfl (.tmp 38) (.tmp 40) rfl W.heap.size _ i pre rfl (O5.out.alloc _) _ _ 1 1 [p] rfl (one_xr _ _ p) rfl (fun h => by cases h) (by omega) (by simp; omega) ?_; intro v6 w6 o6 b6 g6; obtain ⟨a6, c6, rfl⟩ := row_form o6; have O6 := hid o6; have B6 := hid b6; clear o6 b6 g6))
          go_roundw
          case measure => simp [intOf]; omega
          case rel =>
            have b5 : Below W.heap.size w5 w6 := ((Below.refl _ _).alloc (by omega) _ |>.alloc (by simp; omega) _).trans B6.out
            exact ⟨i + 1, pre ++ [p], s2, a6, c6, by omega, by go_num, rfl, hid (by simp [hpre.out]), hid (by rw [show n - (i + 1) = n - i - 1 by omega]; exact HT2.out), O6, hid ((hf.out.trans F5.out).low b5), hid (R5.out.keepN (b5.mono hN))⟩
      · obtain rfl : i = n := by omega
        have ht := hti.out
        rw [Nat.sub_self] at ht
        cases ht

set_option maxRecDepth 100000 in
set_option maxHeartbeats 4000000 in
theorem spot_bad {N rb pb qb : Nat} {W : World} {s : St} (h : RdAt N rb pb qb W s) (l : Bool) (e : Nat) (hd : spotD l s = .bad e) :
    Calls Tryd.prog 54 #[.pointer (some ⟨rb, 0, none⟩), .bool l] W fun x W' => x = .returned (.tuple #[.slice none 0 0, .int .i64 (e : Int)]) ∧ (1 ≤ e ∧ e ≤ 20) ∧ Fr (Cg rb pb qb) W W' := by
  have hN := h.sz
  rcases bad_inv hd with hd | ⟨p, s1, hp, hd⟩
  · obtain rfl := bad8 hd
    have C := hid (point_bad h l 8 hd)
    clear h hd
    go_enter Tryd.func54, Tryd.ntmps54
    go_wp2_with (go_at_call 77; refine C.out.mono ?_; rintro x w1 ⟨⟨rfl, -⟩, f1⟩; have F1 := hid f1; clear f1)
    go_ret2
    exact ⟨rfl, by omega, F1.out.al _⟩
  · have C := hid (point_ok h l p s1 hp)
    have NC := hid (fun W => nowhere_call W)
    split at hd
    · cases hd
    · rename_i hne
      rcases bad_inv hd with hd | ⟨u, s2, _, hd⟩
      · have TB := hid (fun W1 (h1 : RdAt N rb pb qb W1 s1) => tally_bad h1 false 1 e hd)
        have HNE := hid (show p.1 = NW → ¬ p.2 = NW from fun a b => hne (Prod.ext a b))
        generalize NW = nw at *
        have zN := h.sz
        clear h hp hd hne
        go_enter Tryd.func54, Tryd.ntmps54
        go_wp2_with (go_at_call 77; refine C.out.mono ?_; rintro x w1 ⟨rfl, f1, r1⟩; have F1 := hid f1; have R1 := hid r1; have B1 := hid (Bo.new w1 #[.int .i64 p.1, .int .i64 p.2] 56); clear f1 r1)
        refine wp_region_K (S := (fun W' : World => W'.cell? ⟨w1.heap.size, 0, none⟩ = some (.int .i64 p.1) ∧ W'.cell? ⟨w1.heap.size, 1, none⟩ = some (.int .i64 p.2))) (fun _ => false) (by kernel_rfl) (by exact ⟨B1.out.cell 0 _ rfl, B1.out.cell 1 _ rfl⟩) (fun hHeld => ?_)
        refine gkt 0 ?_ (h := by intro W hSw; obtain ⟨r0, r1⟩ := hSw; go_simp; first | done | with_reducible rfl)
        refine gk1 1 (fun K hK => ?_)
        go_simp
        go_at_call 74; refine (NC.out _).mono ?_; rintro x w2 ⟨rfl, b2⟩; have H2 := hid (undrew b2); have B2 := hid (B1.out.keep (undrew b2)); have hR : (fun W' : World => W'.cell? ⟨w1.heap.size, 0, none⟩ = some (.int .i64 p.1) ∧ W'.cell? ⟨w1.heap.size, 1, none⟩ = some (.int .i64 p.2)) w2 := ⟨B2.out.cell 0 _ rfl, B2.out.cell 1 _ rfl⟩; clear b2
        refine hK.out _ _ hR (fun hHeld => ?_)
        clear hK K hR
        (try simp only [Act.put, sA, sZ, sS])
        refine gkp 2 ?_ (v := .bool false) (h := by intro W hSw; go_simp; exact HNE.out)
        refine gkp 3 ?_
        refine wpAnyK_done (by kernel_rfl) ?_ _
        have R2 := hid ((R1.out.al _).keep H2.out)
        obtain ⟨o, m, c, h1, -, -⟩ := R2.out.bx
        have q1 := h1.cell 1 (.func (.func 75) #[] #[.pointer (some ⟨pb, 0, none⟩)]) rfl
        clear h1
        have z1 := F1.out.size
        go_wp2_with (go_at_call 75; refine (TB.out _ R2.out).mono ?_; rintro x w3 ⟨⟨rfl, rfl⟩, b3⟩; have H3 := hid b3; clear b3)
        go_ret2
        have z2 := H2.out.size
        simp only [World.size_alloc] at z2
        exact ⟨rfl, by omega, ((F1.out.al _).low (H2.out.mono (by simp; omega))).low (H3.out.mono (by omega))⟩
      · cases hd

set_option maxRecDepth 100000 in
set_option maxHeartbeats 4000000 in
theorem spot_ok {N rb pb qb : Nat} {W : World} {s : St} (h : RdAt N rb pb qb W s) (l : Bool) (xy : List (Int × Int)) (s' : St) (hd : spotD l s = .ok xy s') :
    Calls Tryd.prog 54 #[.pointer (some ⟨rb, 0, none⟩), .bool l] W fun x W' => (∃ o n c, x = .returned (.tuple #[.slice o n c, .int .i64 0]) ∧ PtsAt W.heap.size W' o n c xy) ∧ Fr (Cg rb pb qb) W W' ∧ RdAt N rb pb qb W' s' := by
  have hN := h.sz
  obtain ⟨p, s1, hp, hd⟩ := bind_inv hd
  have C := hid (point_ok h l p s1 hp)
  have NC := hid (fun W => nowhere_call W)
  split at hd
  · rename_i he
    injection hd with hd1 hd2
    subst hd1 hd2 he
    simp only at C
    generalize NW = nw at *
    clear h hp
    go_enter Tryd.func54, Tryd.ntmps54
    go_wp2_with (go_at_call 77; refine C.out.mono ?_; rintro x w1 ⟨rfl, f1, r1⟩; have F1 := hid f1; have R1 := hid r1; have B1 := hid (Bo.new w1 #[.int .i64 nw, .int .i64 nw] 56); clear f1 r1)
    refine wp_region_K (S := (fun W' : World => W'.cell? ⟨w1.heap.size, 0, none⟩ = some (.int .i64 nw) ∧ W'.cell? ⟨w1.heap.size, 1, none⟩ = some (.int .i64 nw))) (fun _ => false) (by kernel_rfl) (by exact ⟨B1.out.cell 0 _ rfl, B1.out.cell 1 _ rfl⟩) (fun hHeld => ?_)
    refine gkt 0 ?_ (h := by intro W hSw; obtain ⟨r0, r1⟩ := hSw; go_simp; first | done | with_reducible rfl)
    refine gk1 1 (fun K hK => ?_)
    go_simp
    go_at_call 74; refine (NC.out _).mono ?_; rintro x w2 ⟨rfl, b2⟩; have H2 := hid (undrew b2); have B2 := hid (B1.out.keep (undrew b2)); have hR : (fun W' : World => W'.cell? ⟨w1.heap.size, 0, none⟩ = some (.int .i64 nw) ∧ W'.cell? ⟨w1.heap.size, 1, none⟩ = some (.int .i64 nw)) w2 := ⟨B2.out.cell 0 _ rfl, B2.out.cell 1 _ rfl⟩; clear b2
    refine hK.out _ _ hR (fun hHeld => ?_)
    clear hK K hR
    (try simp only [Act.put, sA, sZ, sS])
    refine gkp 2 ?_ (v := .bool true) (h := by intro W hSw; go_simp)
    refine gkp 3 ?_
    refine wpAnyK_done (by kernel_rfl) ?_ _
    go_wp2
    go_ret2
    have z1 := F1.out.size
    have z2 := H2.out.size
    simp only [World.size_alloc] at z2
    exact ⟨⟨none, 0, 0, rfl, rfl, Nat.le_refl _, fun _ => ⟨rfl, rfl⟩, .inl rfl, by omega⟩, (F1.out.al _).low (H2.out.mono (by simp; omega)), (R1.out.al _).keep H2.out⟩
  · rename_i hne
    obtain ⟨u, s2, ht, hd⟩ := bind_inv hd
    injection hd with hd1 hd2
    subst hd1 hd2
    have TB := hid (fun W1 (h1 : RdAt N rb pb qb W1 s1) => tally_ok h1 false 1 s2 ht)
    have HNE := hid (show p.1 = NW → ¬ p.2 = NW from fun a b => hne (Prod.ext a b))
    generalize NW = nw at *
    clear h hp ht hne
    go_enter Tryd.func54, Tryd.ntmps54
    go_wp2_with (go_at_call 77; refine C.out.mono ?_; rintro x w1 ⟨rfl, f1, r1⟩; have F1 := hid f1; have R1 := hid r1; have B1 := hid (Bo.new w1 #[.int .i64 p.1, .int .i64 p.2] 56); clear f1 r1)
    refine wp_region_K (S := (fun W' : World => W'.cell? ⟨w1.heap.size, 0, none⟩ = some (.int .i64 p.1) ∧ W'.cell? ⟨w1.heap.size, 1, none⟩ = some (.int .i64 p.2))) (fun _ => false) (by kernel_rfl) (by exact ⟨B1.out.cell 0 _ rfl, B1.out.cell 1 _ rfl⟩) (fun hHeld => ?_)
    refine gkt 0 ?_ (h := by intro W hSw; obtain ⟨r0, r1⟩ := hSw; go_simp; first | done | with_reducible rfl)
    refine gk1 1 (fun K hK => ?_)
    go_simp
    go_at_call 74; refine (NC.out _).mono ?_; rintro x w2 ⟨rfl, b2⟩; have H2 := hid (undrew b2); have B2 := hid (B1.out.keep (undrew b2)); have hR : (fun W' : World => W'.cell? ⟨w1.heap.size, 0, none⟩ = some (.int .i64 p.1) ∧ W'.cell? ⟨w1.heap.size, 1, none⟩ = some (.int .i64 p.2)) w2 := ⟨B2.out.cell 0 _ rfl, B2.out.cell 1 _ rfl⟩; clear b2
    refine hK.out _ _ hR (fun hHeld => ?_)
    clear hK K hR
    (try simp only [Act.put, sA, sZ, sS])
    refine gkp 2 ?_ (v := .bool false) (h := by intro W hSw; go_simp; exact HNE.out)
    refine gkp 3 ?_
    refine wpAnyK_done (by kernel_rfl) ?_ _
    have R2 := hid ((R1.out.al _).keep H2.out)
    obtain ⟨o, m, c, h1, -, -⟩ := R2.out.bx
    have q1 := h1.cell 1 (.func (.func 75) #[] #[.pointer (some ⟨pb, 0, none⟩)]) rfl
    clear h1
    have z1 := F1.out.size
    go_wp2_with (go_at_call 75; refine (TB.out _ R2.out).mono ?_; rintro x w3 ⟨rfl, f3, r3⟩; have F3 := hid f3; have R3 := hid r3; have B3 := hid (f3.bo R2.out B2.out (by omega)); have c0 := B3.out.cell 0 _ rfl; have c1 := B3.out.cell 1 _ rfl; clear f3 r3)
    go_ret2
    have z2 := H2.out.size
    have z3 := F3.out.size
    simp only [World.size_alloc] at z2
    refine ⟨⟨_, _, _, rfl, rfl, Nat.le_refl _, (fun h => by cases h), .inr ⟨w3.heap.size, 0, rfl, ⟨by omega, by simp⟩, fun i q hi => ?_⟩, by omega⟩, (((F1.out.al _).low (H2.out.mono (by simp; omega))).trans F3.out).al _, R3.out.al _⟩
    cases i with
    | zero =>
      simp at hi
      subst hi
      have B := Bo.new w3 #[.int .i64 p.1, .int .i64 p.2] 56
      exact ⟨B.cell 0 _ rfl, B.cell 1 _ rfl⟩
    | succ i => simp at hi
end Go.Proofs.YtjieegnmofimkaaDoor
