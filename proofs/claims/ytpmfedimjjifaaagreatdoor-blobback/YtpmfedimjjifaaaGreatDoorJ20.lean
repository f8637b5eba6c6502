/- Rows of points that a reader reads; no statement of the seat is proved here. -/
import Derived.Test.YtpmfedimjjifaaaGreatDoorJ19
import Derived.Test.YtpmfedimjjifaaaGreatDoorJ12
namespace Go.Proofs.YtpmfedimjjifaaaGreatDoor
open Go.RowKit Go.Maps

set_option maxRecDepth 100000 in
theorem times_ok {α : Type} {m : St → Re α} {k : Nat} {s s' : St} {l : List α} (h : timesD m (k + 1) s = .ok l s') : ∃ a s1 r, m s = .ok a s1 ∧ timesD m k s1 = .ok r s' ∧ l = a :: r := by
  obtain ⟨a, s1, h1, h⟩ := bind_inv h
  obtain ⟨r, s2, h2, h⟩ := bind_inv h
  injection h with h3 h4
  subst h3 h4
  exact ⟨a, s1, r, h1, h2, rfl⟩
set_option maxRecDepth 100000 in
theorem times_bad {α : Type} {m : St → Re α} {k : Nat} {s : St} {e : Nat} (h : timesD m (k + 1) s = .bad e) : m s = .bad e ∨ ∃ a s1, m s = .ok a s1 ∧ timesD m k s1 = .bad e := by
  rcases bad_inv h with h | ⟨a, s1, h1, h⟩
  · exact .inl h
  · rcases bad_inv h with h | ⟨r, s2, _, h⟩
    · exact .inr ⟨a, s1, h1, h⟩
    · cases h
/-- A list of points as a call leaves it. -/
structure PtsAt (B : Nat) (W : World) (o : Option Addr) (n c : Nat) (xy : List (Int × Int)) : Prop where
  len : xy.length = n
  cap : n ≤ c
  no : o = none → n = 0 ∧ c = 0
  xr : XR (fun b => B ≤ b ∧ b < W.heap.size) W o xy
  lim : n ≤ 1000000000
set_option maxRecDepth 100000 in
theorem Fr.row {N rb pb qb : Nat} {w a : World} {s : St} (f : Fr (Cg rb pb qb) w a) (h : RdAt N rb pb qb w s) {B : Nat} {e : TypeId} {size : Nat} {v : Value} {n : Nat} {xs : List Value} (ho : w.ownsRow B e size v n xs) (hB : N ≤ B) : a.ownsRow B e size v n xs :=
  own_same ho fun g hg => f.blk g (own_lt ho hg).2 fun e => by have := h.lo; have := (own_lt ho hg).1; rcases e with e | e | e <;> omega
def RwI (N rb pb qb : Nat) (l : Bool) (n : Nat) (xy : List (Int × Int)) (s' : St) (W0 : World) (a c : Value) (W : World) : Prop :=
  ∃ (i : Nat) (pre rest : List (Int × Int)) (si : St) (ao : Option Addr) (cap : Nat), i ≤ n ∧ c = .int .i64 (i : Int) ∧ a = .slice ao i cap ∧ Hid (pre.length = i) ∧ Hid (xy = pre ++ rest) ∧ Hid (timesD (pointD l) (n - i) si = .ok rest s') ∧
    Hid (W.ownsRow W0.heap.size 25 2 (.slice ao i cap) i (pv pre)) ∧ Hid (Fr (Cg rb pb qb) W0 W) ∧ Hid (RdAt N rb pb qb W si)
def RwB (N rb pb qb : Nat) (l : Bool) (n : Nat) (e : Nat) (W0 : World) (a c : Value) (W : World) : Prop :=
  ∃ (i : Nat) (pre : List (Int × Int)) (si : St) (ao : Option Addr) (cap : Nat), i ≤ n ∧ c = .int .i64 (i : Int) ∧ a = .slice ao i cap ∧ Hid (pre.length = i) ∧ Hid (timesD (pointD l) (n - i) si = .bad e) ∧
    Hid (W.ownsRow W0.heap.size 25 2 (.slice ao i cap) i (pv pre)) ∧ Hid (Fr (Cg rb pb qb) W0 W) ∧ Hid (RdAt N rb pb qb W si)
set_option maxRecDepth 100000 in
theorem own_cap {w : World} {B cap n : Nat} {e : TypeId} {size : Nat} {ao : Option Addr} {xs : List Value} (h : w.ownsRow B e size (.slice ao n cap) n xs) : n ≤ cap := by
  rcases h.2 with ⟨h1, h2⟩ | ⟨g, cap', cur, h1, _, _, h4, _⟩
  · omega
  · simp at h1; omega
set_option maxRecDepth 100000 in
theorem one_xr (w : World) (o : Obj) (p : Int × Int) : XR (fun _ => True) ((w.alloc o).alloc (.cells #[.int .i64 p.1, .int .i64 p.2] 25)) (some ⟨w.heap.size + 1, 0, none⟩) [p] := by
  refine .inr ⟨w.heap.size + 1, 0, rfl, trivial, fun i q hi => ?_⟩
  cases i with
  | zero =>
    simp at hi
    subst hi
    have B := Bo.new (w.alloc o) #[.int .i64 p.1, .int .i64 p.2] 25
    rw [World.size_alloc] at B
    exact ⟨B.cell 0 _ rfl, B.cell 1 _ rfl⟩
  | succ i => simp at hi

set_option maxRecDepth 100000 in
set_option maxHeartbeats 4000000 in
theorem row_ok {N rb pb qb : Nat} {W : World} {s : St} (h : RdAt N rb pb qb W s) (l : Bool) (xy : List (Int × Int)) (s' : St) (hd : rowD l s = .ok xy s') :
    Calls Tryz.prog 109 #[.pointer (some ⟨rb, 0, none⟩), .bool l] W fun x W' => (∃ o n c, x = .returned (.tuple #[.slice o n c, .int .i64 0]) ∧ PtsAt W.heap.size W' o n c xy) ∧ Fr (Cg rb pb qb) W W' ∧ RdAt N rb pb qb W' s' := by
  obtain ⟨n, s1, hc, hd⟩ := bind_inv hd
  obtain ⟨o, m, c, h1, -, -⟩ := h.bx
  have r1 := h1.cell 1 (.func (.func 126) #[] #[.pointer (some ⟨pb, 0, none⟩)]) rfl
  have hN := h.sz
  have C := hid (count_ok h false 16 (by omega) l n s1 hc)
  have PK := hid (fun W1 s2 (h2 : RdAt N rb pb qb W1 s2) p s3 hp => point_ok h2 l p s3 hp)
  have HD := hid hd
  obtain ⟨i5, hi5, hz0, hz1, hz2⟩ := info_parts info41
  have HI := hid hi5; have HZ0 := hid hz0; have HZ1 := hid hz1; have HZ2 := hid hz2
  clear h h1 hc hd hi5 hz0 hz1 hz2
  go_enter Tryz.func109, Tryz.ntmps109
  go_wp2_with (first
    | (go_at_call 129; refine C.out.mono ?_; rintro x w1 ⟨rfl, hn9, f1, r1⟩; have F1 := hid f1; have R1 := hid r1; have z1 := f1.size; clear f1 r1)
    | ((with_reducible refine here_op 25 ?_); refine wpList_make_own w1 rfl (.const (.int .i64 0)) (.tmp 24) 36 rfl W.heap.size 25 i5 _ 2 Tryz.underlying36 HI.out HZ0.out HZ1.out .i64 .i64 _ n rfl rfl rfl (by rw [HZ2.out]; omega) (by unfold maxLen; omega) z1 ?_; intro w2 o2 g2; have O2 := hid o2; have G2 := hid (show Below w1.heap.size w1 w2 from ⟨g2.os, g2.tape, g2.output, g2.size, fun k hk => g2.block k hk (by simp)⟩); clear o2 g2))
  go_loopw [8, 27] (RwI N rb pb qb l n xy s' W) (fun _ c _ => n - (intOf c).toNat)
  case atStart => exact ⟨0, [], xy, s1, _, _, by omega, rfl, rfl, hid rfl, hid rfl, hid HD.out, O2, hid (F1.out.low (G2.out.mono z1)), hid (R1.out.keep G2.out)⟩
  case round =>
    obtain ⟨i, pre, rest, si, ao, cap, hi, rfl, rfl, hpre, hxy, hti, ho, hf, hr⟩ := hrel
    by_cases hlt : i < n
    · obtain ⟨p, s2, r2, hp, ht2, hr2⟩ := times_ok (show timesD (pointD l) ((n - i - 1) + 1) si = .ok rest s' by rw [show n - i - 1 + 1 = n - i by omega]; exact hti.out)
      have PC := hid (PK.out wr si hr.out p s2 hp)
      have HT2 := hid ht2
      have HXY := hid (show xy = (pre ++ [p]) ++ r2 by rw [hxy.out, hr2]; simp)
      have zw := hf.out.size
      clear hp ht2 hr2 hti hxy
      go_wp2_with (first
        | (go_at_call 128; refine PC.out.mono ?_; rintro x w5 ⟨rfl, f5, r5⟩; have F5 := hid f5; have R5 := hid r5; have O5 := hid ((f5.row hr.out ho.out hN).alloc (.cells #[.int .i64 p.1, .int .i64 p.2] 25)); have z5 := f5.size; have PB := hid (Bo.new w5 #[.int .i64 p.1, .int .i64 p.2] 25); have p0 := PB.out.cell 0 _ rfl; have p1 := PB.out.cell 1 _ rfl; clear f5 r5)
        | (at_builtin; refine append_pts rfl (.tmp 38) (.tmp 40) rfl W.heap.size _ i pre rfl (O5.out.alloc _) _ _ 1 1 [p] rfl (one_xr _ _ p) rfl (fun h => by cases h) (by omega) (by simp; omega) ?_; intro v6 w6 o6 b6 g6; obtain ⟨a6, c6, rfl⟩ := row_form o6; have O6 := hid o6; have B6 := hid b6; clear o6 b6 g6))
      go_roundw
      case measure => simp [intOf]; omega
      case rel =>
        have b5 : Below W.heap.size w5 w6 := ((Below.refl _ _).alloc (by omega) _ |>.alloc (by simp; omega) _).trans B6.out
        exact ⟨i + 1, pre ++ [p], r2, s2, a6, c6, by omega, by go_num, rfl, hid (by simp [hpre.out]), HXY, hid (by rw [show n - (i + 1) = n - i - 1 by omega]; exact HT2.out), O6, hid ((hf.out.trans F5.out).low b5), hid (R5.out.keepN (b5.mono hN))⟩
    · obtain rfl : i = n := by omega
      have ht := hti.out
      rw [Nat.sub_self] at ht
      injection ht with ht1 ht2
      have HXY := hid (show xy = pre by rw [hxy.out, ← ht1]; simp)
      have HS := hid ht2
      clear hti ht1 ht2 hxy
      go_wp2
      go_ret2
      refine ⟨⟨ao, i, cap, rfl, ?_⟩, hf.out, by rw [← HS.out]; exact hr.out⟩
      rw [HXY.out]
      exact { len := hpre.out, cap := own_cap ho.out, no := own_none ho.out, xr := xr_own ho.out hpre.out, lim := hn9 }

set_option maxRecDepth 100000 in
theorem bad8 {l : Bool} {s : St} {e : Nat} (h : pointD l s = .bad e) : e = 8 := by
  have n8 : ∀ s e, numD l 8 s = .bad e → e = 8 := by
    intro s e h
    unfold numD at h
    split at h
    · cases h
    · injection h with h; exact h.symm
  rcases bad_inv h with h | ⟨v, s1, _, h⟩
  · exact n8 _ _ h
  · rcases bad_inv h with h | ⟨v, s2, _, h⟩
    · exact n8 _ _ h
    · cases h
set_option maxRecDepth 100000 in
set_option maxHeartbeats 4000000 in
theorem row_bad {N rb pb qb : Nat} {W : World} {s : St} (h : RdAt N rb pb qb W s) (l : Bool) (e : Nat) (hd : rowD l s = .bad e) :
    Calls Tryz.prog 109 #[.pointer (some ⟨rb, 0, none⟩), .bool l] W fun x W' => x = .returned (.tuple #[.slice none 0 0, .int .i64 (e : Int)]) ∧ (1 ≤ e ∧ e ≤ 20) ∧ Fr (Cg rb pb qb) W W' := by
  obtain ⟨o, m, c, h1, -, -⟩ := h.bx
  have r1 := h1.cell 1 (.func (.func 126) #[] #[.pointer (some ⟨pb, 0, none⟩)]) rfl
  have hN := h.sz
  rcases bad_inv hd with hd | ⟨n, s1, hc, hd⟩
  · have C := hid (count_bad h false 16 (by omega) l e hd)
    clear h h1 hd
    go_enter Tryz.func109, Tryz.ntmps109
    by_cases he : 1 ≤ e ∧ e ≤ 20
    · have he1 : ((e : Int) == 0) = false := by simp; omega
      go_wp2_with (go_at_call 129; refine C.out.mono ?_; rintro x w1 ⟨rfl, -, f1⟩; have F1 := hid f1; clear f1)
      go_ret2
      exact ⟨rfl, he, F1.out⟩
    · go_wp2_with (go_at_call 129; refine C.out.mono ?_; rintro x w1 ⟨rfl, h2, f1⟩; exact absurd h2 he)
  · have C := hid (count_ok h false 16 (by omega) l n s1 hc)
    have PK := hid (fun W1 s2 (h2 : RdAt N rb pb qb W1 s2) p s3 hp => point_ok h2 l p s3 hp)
    have PB9 := hid (fun W1 s2 (h2 : RdAt N rb pb qb W1 s2) e hp => point_bad h2 l e hp)
    have HD := hid hd
    obtain ⟨i5, hi5, hz0, hz1, hz2⟩ := info_parts info41
    have HI := hid hi5; have HZ0 := hid hz0; have HZ1 := hid hz1; have HZ2 := hid hz2
    clear h h1 hc hd hi5 hz0 hz1 hz2
    go_enter Tryz.func109, Tryz.ntmps109
    go_wp2_with (first
      | (go_at_call 129; refine C.out.mono ?_; rintro x w1 ⟨rfl, hn9, f1, r1⟩; have F1 := hid f1; have R1 := hid r1; have z1 := f1.size; clear f1 r1)
      | ((with_reducible refine here_op 25 ?_); refine wpList_make_own w1 rfl (.const (.int .i64 0)) (.tmp 24) 36 rfl W.heap.size 25 i5 _ 2 Tryz.underlying36 HI.out HZ0.out HZ1.out .i64 .i64 _ n rfl rfl rfl (by rw [HZ2.out]; omega) (by unfold maxLen; omega) z1 ?_; intro w2 o2 g2; have O2 := hid o2; have G2 := hid (show Below w1.heap.size w1 w2 from ⟨g2.os, g2.tape, g2.output, g2.size, fun k hk => g2.block k hk (by simp)⟩); clear o2 g2))
    go_loopw [8, 27] (RwB N rb pb qb l n e W) (fun _ c _ => n - (intOf c).toNat)
    case atStart => exact ⟨0, [], s1, _, _, by omega, rfl, rfl, hid rfl, hid HD.out, O2, hid (F1.out.low (G2.out.mono z1)), hid (R1.out.keep G2.out)⟩
    case round =>
      obtain ⟨i, pre, si, ao, cap, hi, rfl, rfl, hpre, hti, ho, hf, hr⟩ := hrel
      by_cases hlt : i < n
      · have zw := hf.out.size
        rcases times_bad (show timesD (pointD l) ((n - i - 1) + 1) si = .bad e by rw [show n - i - 1 + 1 = n - i by omega]; exact hti.out) with hp | ⟨p, s2, hp, ht2⟩
        · obtain rfl := bad8 hp
          have PC := hid (PB9.out wr si hr.out 8 hp)
          clear hp hti
          go_wp2_with (go_at_call 128; refine PC.out.mono ?_; rintro x w5 ⟨⟨rfl, -⟩, f5⟩; have F5 := hid f5; clear f5)
          go_ret2
          exact ⟨rfl, by omega, hf.out.trans F5.out |>.low ((Below.refl _ _).alloc (by have := F5.out.size; omega) _)⟩
        · have PC := hid (PK.out wr si hr.out p s2 hp)
          have HT2 := hid ht2
          clear hp ht2 hti
          go_wp2_with (first
            | (go_at_call 128; refine PC.out.mono ?_; rintro x w5 ⟨rfl, f5, r5⟩; have F5 := hid f5; have R5 := hid r5; have O5 := hid ((f5.row hr.out ho.out hN).alloc (.cells #[.int .i64 p.1, .int .i64 p.2] 25)); have z5 := f5.size; have PB := hid (Bo.new w5 #[.int .i64 p.1, .int .i64 p.2] 25); have p0 := PB.out.cell 0 _ rfl; have p1 := PB.out.cell 1 _ rfl; clear f5 r5)
            | (at_builtin; refine append_pts rfl (.tmp 38) (.tmp 40) rfl W.heap.size _ i pre rfl (O5.out.alloc _) _ _ 1 1 [p] rfl (one_xr _ _ p) rfl (fun h => by cases h) (by omega) (by simp; omega) ?_; intro v6 w6 o6 b6 g6; obtain ⟨a6, c6, rfl⟩ := row_form o6; have O6 := hid o6; have B6 := hid b6; clear o6 b6 g6))
          go_roundw
          case measure => simp [intOf]; omega
          case rel =>
            have b5 : Below W.heap.size w5 w6 := ((Below.refl _ _).alloc (by omega) _ |>.alloc (by simp; omega) _).trans B6.out
            exact ⟨i + 1, pre ++ [p], s2, a6, c6, by omega, by go_num, rfl, hid (by simp [hpre.out]), hid (by rw [show n - (i + 1) = n - i - 1 by omega]; exact HT2.out), O6, hid ((hf.out.trans F5.out).low b5), hid (R5.out.keepN (b5.mono hN))⟩
      · obtain rfl : i = n := by omega
        have ht := hti.out
        rw [Nat.sub_self] at ht
        cases ht

set_option maxRecDepth 100000 in
set_option maxHeartbeats 4000000 in
theorem spot_bad {N rb pb qb : Nat} {W : World} {s : St} (h : RdAt N rb pb qb W s) (l : Bool) (e : Nat) (hd : spotD l s = .bad e) :
    Calls Tryz.prog 108 #[.pointer (some ⟨rb, 0, none⟩), .bool l] W fun x W' => x = .returned (.tuple #[.slice none 0 0, .int .i64 (e : Int)]) ∧ (1 ≤ e ∧ e ≤ 20) ∧ Fr (Cg rb pb qb) W W' := by
  have hN := h.sz
  rcases bad_inv hd with hd | ⟨p, s1, hp, hd⟩
  · obtain rfl := bad8 hd
    have C := hid (point_bad h l 8 hd)
    clear h hd
    go_enter Tryz.func108, Tryz.ntmps108
    go_wp2_with (go_at_call 128; refine C.out.mono ?_; rintro x w1 ⟨⟨rfl, -⟩, f1⟩; have F1 := hid f1; clear f1)
    go_ret2
    exact ⟨rfl, by omega, F1.out.al _⟩
  · have C := hid (point_ok h l p s1 hp)
    have NC := hid (fun W => nowhere_call W)
    split at hd
    · cases hd
    · rename_i hne
      rcases bad_inv hd with hd | ⟨u, s2, _, hd⟩
      · have TB := hid (fun W1 (h1 : RdAt N rb pb qb W1 s1) => tally_bad h1 false 1 e hd)
        have HNE := hid (show p.1 = NW → ¬ p.2 = NW from fun a b => hne (Prod.ext a b))
        generalize NW = nw at *
        have zN := h.sz
        clear h hp hd hne
        go_enter Tryz.func108, Tryz.ntmps108
        go_wp2_with (go_at_call 128; refine C.out.mono ?_; rintro x w1 ⟨rfl, f1, r1⟩; have F1 := hid f1; have R1 := hid r1; have B1 := hid (Bo.new w1 #[.int .i64 p.1, .int .i64 p.2] 25); clear f1 r1)
        refine wp_region_K (S := (fun W' : World => W'.cell? ⟨w1.heap.size, 0, none⟩ = some (.int .i64 p.1) ∧ W'.cell? ⟨w1.heap.size, 1, none⟩ = some (.int .i64 p.2))) (fun _ => false) (by kernel_rfl) (by exact ⟨B1.out.cell 0 _ rfl, B1.out.cell 1 _ rfl⟩) (fun hHeld => ?_)
        refine gkt 0 ?_ (h := by intro W hSw; obtain ⟨r0, r1⟩ := hSw; go_simp; first | done | with_reducible rfl)
        refine gk1 1 (fun K hK => ?_)
        go_simp
        go_at_call 125; refine (NC.out _).mono ?_; rintro x w2 ⟨rfl, b2⟩; have H2 := hid (undrew b2); have B2 := hid (B1.out.keep (undrew b2)); have hR : (fun W' : World => W'.cell? ⟨w1.heap.size, 0, none⟩ = some (.int .i64 p.1) ∧ W'.cell? ⟨w1.heap.size, 1, none⟩ = some (.int .i64 p.2)) w2 := ⟨B2.out.cell 0 _ rfl, B2.out.cell 1 _ rfl⟩; clear b2
        refine hK.out _ _ hR (fun hHeld => ?_)
        clear hK K hR
        (try simp only [Act.put, sA, sZ, sS])
        refine gkp 2 ?_ (v := .bool false) (h := by intro W hSw; go_simp; exact HNE.out)
        refine gkp 3 ?_
        refine wpAnyK_done (by kernel_rfl) ?_ _
        have R2 := hid ((R1.out.al _).keep H2.out)
        obtain ⟨o, m, c, h1, -, -⟩ := R2.out.bx
        have q1 := h1.cell 1 (.func (.func 126) #[] #[.pointer (some ⟨pb, 0, none⟩)]) rfl
        clear h1
        have z1 := F1.out.size
        go_wp2_with (go_at_call 126; refine (TB.out _ R2.out).mono ?_; rintro x w3 ⟨⟨rfl, rfl⟩, b3⟩; have H3 := hid b3; clear b3)
        go_ret2
        have z2 := H2.out.size
        simp only [World.size_alloc] at z2
        exact ⟨rfl, by omega, ((F1.out.al _).low (H2.out.mono (by simp; omega))).low (H3.out.mono (by omega))⟩
      · cases hd

set_option maxRecDepth 100000 in
set_option maxHeartbeats 4000000 in
theorem spot_ok {N rb pb qb : Nat} {W : World} {s : St} (h : RdAt N rb pb qb W s) (l : Bool) (xy : List (Int × Int)) (s' : St) (hd : spotD l s = .ok xy s') :
    Calls Tryz.prog 108 #[.pointer (some ⟨rb, 0, none⟩), .bool l] W fun x W' => (∃ o n c, x = .returned (.tuple #[.slice o n c, .int .i64 0]) ∧ PtsAt W.heap.size W' o n c xy) ∧ Fr (Cg rb pb qb) W W' ∧ RdAt N rb pb qb W' s' := by
  have hN := h.sz
  obtain ⟨p, s1, hp, hd⟩ := bind_inv hd
  have C := hid (point_ok h l p s1 hp)
  have NC := hid (fun W => nowhere_call W)
  split at hd
  · rename_i he
    injection hd with hd1 hd2
    subst hd1 hd2 he
    simp only at C
    generalize NW = nw at *
    clear h hp
    go_enter Tryz.func108, Tryz.ntmps108
    go_wp2_with (go_at_call 128; refine C.out.mono ?_; rintro x w1 ⟨rfl, f1, r1⟩; have F1 := hid f1; have R1 := hid r1; have B1 := hid (Bo.new w1 #[.int .i64 nw, .int .i64 nw] 25); clear f1 r1)
    refine wp_region_K (S := (fun W' : World => W'.cell? ⟨w1.heap.size, 0, none⟩ = some (.int .i64 nw) ∧ W'.cell? ⟨w1.heap.size, 1, none⟩ = some (.int .i64 nw))) (fun _ => false) (by kernel_rfl) (by exact ⟨B1.out.cell 0 _ rfl, B1.out.cell 1 _ rfl⟩) (fun hHeld => ?_)
    refine gkt 0 ?_ (h := by intro W hSw; obtain ⟨r0, r1⟩ := hSw; go_simp; first | done | with_reducible rfl)
    refine gk1 1 (fun K hK => ?_)
    go_simp
    go_at_call 125; refine (NC.out _).mono ?_; rintro x w2 ⟨rfl, b2⟩; have H2 := hid (undrew b2); have B2 := hid (B1.out.keep (undrew b2)); have hR : (fun W' : World => W'.cell? ⟨w1.heap.size, 0, none⟩ = some (.int .i64 nw) ∧ W'.cell? ⟨w1.heap.size, 1, none⟩ = some (.int .i64 nw)) w2 := ⟨B2.out.cell 0 _ rfl, B2.out.cell 1 _ rfl⟩; clear b2
    refine hK.out _ _ hR (fun hHeld => ?_)
    clear hK K hR
    (try simp only [Act.put, sA, sZ, sS])
    refine gkp 2 ?_ (v := .bool true) (h := by intro W hSw; go_simp)
    refine gkp 3 ?_
    refine wpAnyK_done (by kernel_rfl) ?_ _
    go_wp2
    go_ret2
    have z1 := F1.out.size
    have z2 := H2.out.size
    simp only [World.size_alloc] at z2
    exact ⟨⟨none, 0, 0, rfl, rfl, Nat.le_refl _, fun _ => ⟨rfl, rfl⟩, .inl rfl, by omega⟩, (F1.out.al _).low (H2.out.mono (by simp; omega)), (R1.out.al _).keep H2.out⟩
  · rename_i hne
    obtain ⟨u, s2, ht, hd⟩ := bind_inv hd
    injection hd with hd1 hd2
    subst hd1 hd2
    have TB := hid (fun W1 (h1 : RdAt N rb pb qb W1 s1) => tally_ok h1 false 1 s2 ht)
    have HNE := hid (show p.1 = NW → ¬ p.2 = NW from fun a b => hne (Prod.ext a b))
    generalize NW = nw at *
    clear h hp ht hne
    go_enter Tryz.func108, Tryz.ntmps108
    go_wp2_with (go_at_call 128; refine C.out.mono ?_; rintro x w1 ⟨rfl, f1, r1⟩; have F1 := hid f1; have R1 := hid r1; have B1 := hid (Bo.new w1 #[.int .i64 p.1, .int .i64 p.2] 25); clear f1 r1)
    refine wp_region_K (S := (fun W' : World => W'.cell? ⟨w1.heap.size, 0, none⟩ = some (.int .i64 p.1) ∧ W'.cell? ⟨w1.heap.size, 1, none⟩ = some (.int .i64 p.2))) (fun _ => false) (by kernel_rfl) (by exact ⟨B1.out.cell 0 _ rfl, B1.out.cell 1 _ rfl⟩) (fun hHeld => ?_)
    refine gkt 0 ?_ (h := by intro W hSw; obtain ⟨r0, r1⟩ := hSw; go_simp; first | done | with_reducible rfl)
    refine gk1 1 (fun K hK => ?_)
    go_simp
    go_at_call 125; refine (NC.out _).mono ?_; rintro x w2 ⟨rfl, b2⟩; have H2 := hid (undrew b2); have B2 := hid (B1.out.keep (undrew b2)); have hR : (fun W' : World => W'.cell? ⟨w1.heap.size, 0, none⟩ = some (.int .i64 p.1) ∧ W'.cell? ⟨w1.heap.size, 1, none⟩ = some (.int .i64 p.2)) w2 := ⟨B2.out.cell 0 _ rfl, B2.out.cell 1 _ rfl⟩; clear b2
    refine hK.out _ _ hR (fun hHeld => ?_)
    clear hK K hR
    (try simp only [Act.put, sA, sZ, sS])
    refine gkp 2 ?_ (v := .bool false) (h := by intro W hSw; go_simp; exact HNE.out)
    refine gkp 3 ?_
    refine wpAnyK_done (by kernel_rfl) ?_ _
    have R2 := hid ((R1.out.al _).keep H2.out)
    obtain ⟨o, m, c, h1, -, -⟩ := R2.out.bx
    have q1 := h1.cell 1 (.func (.func 126) #[] #[.pointer (some ⟨pb, 0, none⟩)]) rfl
    clear h1
    have z1 := F1.out.size
    go_wp2_with (go_at_call 126; refine (TB.out _ R2.out).mono ?_; rintro x w3 ⟨rfl, f3, r3⟩; have F3 := hid f3; have R3 := hid r3; have B3 := hid (f3.bo R2.out B2.out (by omega)); have c0 := B3.out.cell 0 _ rfl; have c1 := B3.out.cell 1 _ rfl; clear f3 r3)
    go_ret2
    have z2 := H2.out.size
    have z3 := F3.out.size
    simp only [World.size_alloc] at z2
    refine ⟨⟨_, _, _, rfl, rfl, Nat.le_refl _, (fun h => by cases h), .inr ⟨w3.heap.size, 0, rfl, ⟨by omega, by simp⟩, fun i q hi => ?_⟩, by omega⟩, (((F1.out.al _).low (H2.out.mono (by simp; omega))).trans F3.out).al _, R3.out.al _⟩
    cases i with
    | zero =>
      simp at hi
      subst hi
      have B := Bo.new w3 #[.int .i64 p.1, .int .i64 p.2] 25
      exact ⟨B.cell 0 _ rfl, B.cell 1 _ rfl⟩
    | succ i => simp at hi
end Go.Proofs.YtpmfedimjjifaaaGreatDoor

/- What came of reading, as the program hands it on; rings; no statement of the seat is proved here. -/
namespace Go.Proofs.YtpmfedimjjifaaaGreatDoor
open Go.RowKit Go.Maps

set_option maxRecDepth 100000 in
set_option maxHeartbeats 2000000 in
theorem outcome_ok (s : Sh) (w : World) : Calls Tryz.prog 115 #[.agg #[.int .i64 (s).k, .slice (s).xo (s).xn (s).xc, .slice (s).po (s).pn (s).pc], .int .i64 0] w fun e w' => e = .returned (.iface 160 (.agg #[.int .i64 (s).k, .slice (s).xo (s).xn (s).xc, .slice (s).po (s).pn (s).pc])) ∧ Below w.heap.size w w' := by
  have B := hid (Bx.new w s)
  obtain ⟨x0, x1, x2⟩ := B.out.cells
  go_enter Tryz.func115, Tryz.ntmps115
  go_wp2
  go_ret
  exact ⟨rfl, ext1 _⟩
set_option maxRecDepth 100000 in
set_option maxHeartbeats 2000000 in
theorem outcome_bad (s : Sh) (k : Nat) (hk : 1 ≤ k) (w : World) : Calls Tryz.prog 115 #[.agg #[.int .i64 (s).k, .slice (s).xo (s).xn (s).xc, .slice (s).po (s).pn (s).pc], .int .i64 (k : Int)] w fun e w' => e = .returned (.iface 164 (.int .i64 (k : Int))) ∧ Below w.heap.size w w' := by
  have k0 : ((k : Int) == 0) = false := by simp; omega
  go_enter Tryz.func115, Tryz.ntmps115
  go_wp2
  go_ret
  exact ⟨rfl, ext1 _⟩

set_option maxRecDepth 100000 in
theorem ret_sh2 {fn : Func} {p u : Tmp} (h : fn.results = #[.cell p 39, .tmp u]) {tmps : Array Value} {W : World} {q : Nat} {t' : TypeId} {a b c : Value}
    (hp : tmps.getD p undef = .pointer (some ⟨q, 0, none⟩)) (hb : W.heap[q]? = some (.cells #[a, b, c] t')) : (results fn tmps).run Tryz.prog W = .ok (.tuple #[.agg #[a, b, c], tmps.getD u undef]) W := by
  rw [results_cell_tmp h, hp]
  simp [asAddr, load3 Tryz.isAgg39 Tryz.sizeOf39 hb]
set_option maxRecDepth 100000 in
theorem as86 (v : Value) (W : World) : (Instr.typeAssert (.iface 160 v) 135 160 true).run Tryz.prog W = .ok (.tuple #[v, .bool true]) W := by kernel_rfl
set_option maxRecDepth 100000 in
theorem as91 (v : Value) (W : World) : (Instr.typeAssert (.iface 164 v) 135 160 true).run Tryz.prog W = .ok (.tuple #[.agg #[.int .i64 0, .slice none 0 0, .slice none 0 0], .bool false]) W := by kernel_rfl
set_option maxRecDepth 100000 in
theorem meth91 (v : Value) (W : World) : (method 303 164 v "hachure/wkb.err").run Tryz.prog W = .ok (151, v) W := by kernel_rfl
set_option maxRecDepth 100000 in
theorem err_call (k : Nat) (w : World) : Calls Tryz.prog 151 #[.int .i64 (k : Int)] w fun e w' => e = .returned (.int .i64 (k : Int)) ∧ w' = w := by
  go_enter Tryz.func151, Tryz.ntmps151
  go_wp2
  go_ret
  exact ⟨rfl, rfl⟩
set_option maxRecDepth 100000 in
set_option maxHeartbeats 2000000 in
theorem taken_ok (s : Sh) (w : World) : Calls Tryz.prog 88 #[.iface 160 (.agg #[.int .i64 (s).k, .slice (s).xo (s).xn (s).xc, .slice (s).po (s).pn (s).pc])] w fun e w' => e = .returned (.tuple #[.agg #[.int .i64 (s).k, .slice (s).xo (s).xn (s).xc, .slice (s).po (s).pn (s).pc], .int .i64 0]) ∧ Below w.heap.size w w' := by
  have a1 := as86 (.agg #[.int .i64 (s).k, .slice (s).xo (s).xn (s).xc, .slice (s).po (s).pn (s).pc])
  go_enter Tryz.func88, Tryz.ntmps88
  go_wp2
  refine bodyPost_ret (ret_sh2 rfl rfl (by repeat (first | (refine at_new ?_; first | with_reducible rfl | (simp only [World.size_alloc]; done)) | refine at_old ?_))) rfl ?_
  exact ⟨rfl, gt (ext1 _) (ext1 _)⟩
set_option maxRecDepth 100000 in
set_option maxHeartbeats 2000000 in
theorem taken_bad (k : Nat) (w : World) : Calls Tryz.prog 88 #[.iface 164 (.int .i64 (k : Int))] w fun e w' => e = .returned (.tuple #[.agg #[.int .i64 0, .slice none 0 0, .slice none 0 0], .int .i64 (k : Int)]) ∧ Below w.heap.size w w' := by
  have EC := hid (fun w => err_call k w)
  have a1 := as91 (.int .i64 (k : Int))
  have a2 := meth91 (.int .i64 (k : Int))
  go_enter Tryz.func88, Tryz.ntmps88
  go_wp2_with (go_at_call 151; refine (EC.out _).mono ?_; rintro e w1 ⟨rfl, hw⟩; obtain rfl := hw.symm)
  refine bodyPost_ret (ret_sh2 rfl rfl (by repeat (first | (refine at_new ?_; first | with_reducible rfl | (simp only [World.size_alloc]; done)) | refine at_old ?_))) rfl ?_
  exact ⟨rfl, gt (ext1 _) (ext1 _)⟩

/-- A shape that a call made. -/
def Made (B : Nat) (W : World) (c : Sh) : Prop := In (fun b => B ≤ b ∧ b < W.heap.size) W c
set_option maxRecDepth 100000 in
theorem PtsAt.sh {B : Nat} {W : World} {o : Option Addr} {n c : Nat} {xy : List (Int × Int)} (h : PtsAt B W o n c xy) (k : Int) (hk : 0 ≤ k ∧ k ≤ 7) : Made B W (.mk k o n c xy none 0 0 []) := by
  intro q hq
  have : q = .mk k o n c xy none 0 0 [] := by
    rw [nodes_eq] at hq
    simpa [Sh.ps, nodesL] using hq
  subst this
  have := h.lim
  exact { kI := by simp only [Sh.k]; omega, xl := h.len, xm := h.cap, xb := by simp only [Sh.xn]; omega, x0 := h.no, xr := h.xr, pl := rfl, pm := Nat.le_refl _, pb := by simp [Sh.pn], p0 := fun _ => ⟨rfl, rfl⟩, pr := .inl rfl }
set_option maxRecDepth 100000 in
theorem Made.up {B B' : Nat} {W : World} {c : Sh} (h : Made B W c) (hB : B' ≤ B) : Made B' W c := h.of fun b hb => ⟨rfl, by omega, hb.2⟩
set_option maxRecDepth 100000 in
theorem Made.keep {B : Nat} {W W' : World} {c : Sh} (h : Made B W c) (hb : Below W.heap.size W W') : Made B W' c := h.of fun b hb' => ⟨hb.block b hb'.2, hb'.1, Nat.lt_of_lt_of_le hb'.2 hb.size⟩
set_option maxRecDepth 100000 in
set_option maxHeartbeats 2000000 in
theorem ring_ok {N rb pb qb : Nat} {W : World} {s : St} (h : RdAt N rb pb qb W s) (l : Bool) (t : T) (s' : St) (hd : ringD l s = .ok t s') :
    Calls Tryz.prog 112 #[.pointer (some ⟨rb, 0, none⟩), .bool l] W fun x W' => (∃ c : Sh, x = .returned (.iface 160 (.agg #[.int .i64 (c).k, .slice (c).xo (c).xn (c).xc, .slice (c).po (c).pn (c).pc])) ∧ c.t = t ∧ Made W.heap.size W' c) ∧ Fr (Cg rb pb qb) W W' ∧ RdAt N rb pb qb W' s' := by
  obtain ⟨xy, s1, hr, hd⟩ := bind_inv hd
  injection hd with hd1 hd2
  subst hd1 hd2
  have C := hid (row_ok h l xy s1 hr)
  have OC := hid (fun o n c w => outcome_ok (.mk 0 o n c xy none 0 0 []) w)
  clear h hr
  go_enter Tryz.func112, Tryz.ntmps112
  go_wp2_with (first
    | (go_at_call 109; refine C.out.mono ?_; rintro x w1 ⟨⟨o, n, c, rfl, p1⟩, f1, r1⟩; have F1 := hid f1; have R1 := hid r1; have P1 := hid p1; clear f1 r1 p1)
    | (go_at_call 115; refine (OC.out o n c _).mono ?_; rintro x w2 ⟨rfl, b2⟩; have H2 := hid b2; clear b2))
  go_ret
  refine ⟨⟨.mk 0 o n c xy none 0 0 [], rfl, ?_, (P1.out.sh 0 (by omega)).keep H2.out⟩, F1.out.trans (Fr.cg H2.out), R1.out.keep H2.out⟩
  rw [Sh.t, tL]
set_option maxRecDepth 100000 in
set_option maxHeartbeats 2000000 in
theorem ring_bad {N rb pb qb : Nat} {W : World} {s : St} (h : RdAt N rb pb qb W s) (l : Bool) (e : Nat) (hd : ringD l s = .bad e) :
    Calls Tryz.prog 112 #[.pointer (some ⟨rb, 0, none⟩), .bool l] W fun x W' => x = .returned (.iface 164 (.int .i64 (e : Int))) ∧ (1 ≤ e ∧ e ≤ 20) ∧ Fr (Cg rb pb qb) W W' := by
  rcases bad_inv hd with hd | ⟨xy, s1, hr, hd⟩
  · have C := hid (row_bad h l e hd)
    by_cases he : 1 ≤ e
    · have OC := hid (fun w => outcome_bad (.mk 0 none 0 0 [] none 0 0 []) e he w)
      clear h hd
      go_enter Tryz.func112, Tryz.ntmps112
      go_wp2_with (first
        | (go_at_call 109; refine C.out.mono ?_; rintro x w1 ⟨rfl, he2, f1⟩; have F1 := hid f1; have E2 := hid he2; clear f1 he2)
        | (go_at_call 115; refine (OC.out _).mono ?_; rintro x w2 ⟨rfl, b2⟩; have H2 := hid b2; clear b2))
      go_ret
      exact ⟨rfl, E2.out, F1.out.trans (Fr.cg H2.out)⟩
    · clear h hd
      go_enter Tryz.func112, Tryz.ntmps112
      go_wp2_with (go_at_call 109; refine C.out.mono ?_; rintro x w1 ⟨rfl, he2, f1⟩; exact absurd he2.1 he)
  · cases hd
set_option maxRecDepth 100000 in
theorem shape1_call {R : Ending → World → Prop} (rb b3 b7 : Nat) (l : Bool) (W : World) (h3 : Bo W b3 #[.pointer (some ⟨rb, 0, none⟩)] 131) (h7 : Bo W b7 #[.bool l] 4) (C : Calls Tryz.prog 112 #[.pointer (some ⟨rb, 0, none⟩), .bool l] W R) (hR : ∀ e w, R e w → ∃ v, e = .returned v) :
    Calls Tryz.prog 111 #[.pointer (some ⟨b3, 0, none⟩), .pointer (some ⟨b7, 0, none⟩)] W R := by
  have c3 := h3.cell 0 (.pointer (some ⟨rb, 0, none⟩)) rfl
  have c7 := h7.cell 0 (.bool l) rfl
  have CC := hid C
  have HR := hid hR
  clear h3 h7 C hR
  go_enter Tryz.func111, Tryz.ntmps111
  go_wp2_with (go_at_call 112; refine CC.out.mono ?_; intro e w1 hr; obtain ⟨v, rfl⟩ := HR.out e w1 hr; have HH := hid hr; clear hr)
  exact HH.out
end Go.Proofs.YtpmfedimjjifaaaGreatDoor

/- Lists of parts that a reader reads, by the closure of rings; no statement of the seat is proved here. -/
namespace Go.Proofs.YtpmfedimjjifaaaGreatDoor.Rin
open Go.RowKit Go.Maps

/-- What is held between two parts. -/
def Held (N rb pb qb : Nat) (W0 : World) (i : Nat) (cs : List Sh) (ao : Option Addr) (cap : Nat) (si : St) (W : World) : Prop :=
  cs.length = i ∧ W.ownsRow W0.heap.size 39 3 (.slice ao i cap) i (cv3 cs) ∧ Fr (Cg rb pb qb) W0 W ∧ RdAt N rb pb qb W si ∧ ∀ c ∈ cs, In (fun b => (W0.heap.size ≤ b ∧ b < W.heap.size) ∧ (Value.slice ao i cap).ownBlock ≠ some b) W c
set_option maxRecDepth 100000 in
theorem held_step {N rb pb qb : Nat} {W0 W w5 w9 : World} {i cap g c2 : Nat} {cs : List Sh} {ao : Option Addr} {si s2 : St} {c : Sh} (h : Held N rb pb qb W0 i cs ao cap si W) (hN : N ≤ W0.heap.size) (f : Fr (Cg rb pb qb) W w5) (r : RdAt N rb pb qb w5 s2) (hc : Made W.heap.size w5 c)
    {wa : World} (ha : Below w5.heap.size w5 wa) (ho : w9.ownsRow W0.heap.size 39 3 (.slice (some ⟨g, 0, none⟩) (i + 1) c2) (i + 1) (cv3 cs ++ cv3 [c])) (hg : wa.grownBy w9 (Value.slice ao i cap).ownBlock) (hgc : (Value.slice ao i cap).ownBlock = some g ∨ g = wa.heap.size) :
    Held N rb pb qb W0 (i + 1) (cs ++ [c]) (some ⟨g, 0, none⟩) c2 s2 w9 := by
  obtain ⟨h1, h2, h3, h4, h5⟩ := h
  have z3 := h3.size
  have z5 := f.size
  have za := ha.size
  have z9 := hg.size
  have own_lo : ∀ k, (Value.slice ao i cap).ownBlock = some k → W0.heap.size ≤ k ∧ k < W.heap.size := fun k hk => own_lt h2 hk
  have b59 : Below W0.heap.size w5 w9 := (ha.mono (by omega)).grown hg (by omega) fun k hk => (own_lo k hk).1
  refine ⟨by simp [h1], by rw [cv3_append]; exact ho, (h3.trans f).low b59, r.keepN (b59.mono hN), fun d hd => ?_⟩
  have blk : ∀ b, b < w5.heap.size → (Value.slice ao i cap).ownBlock ≠ some b → w9.heap[b]? = w5.heap[b]? := fun b hb hne => (hg.block b (by omega) fun e => hne e.symm).trans (ha.block b hb)
  have ne : ∀ b, b < w5.heap.size → (Value.slice ao i cap).ownBlock ≠ some b → (Value.slice (some ⟨g, 0, none⟩) (i + 1) c2).ownBlock ≠ some b := by
    intro b hb hne e
    have e2 : g = b := by simpa [Value.ownBlock] using e
    rcases hgc with h | h
    · exact hne (by rw [h, e2])
    · omega
  rcases List.mem_append.1 hd with hd | hd
  · refine (h5 d hd).of fun b hb => ⟨(blk b (by omega) hb.2).trans (f.blk b hb.1.2 fun e => by have := h4.lo; rcases e with e | e | e <;> omega), ⟨⟨hb.1.1, by omega⟩, ne b (by omega) hb.2⟩⟩
  · obtain rfl : d = c := by simpa using hd
    have hne : ∀ b, W.heap.size ≤ b → (Value.slice ao i cap).ownBlock ≠ some b := fun b hb e => by have := (own_lo b e).2; omega
    exact hc.of fun b hb => ⟨blk b hb.2 (hne b hb.1), ⟨⟨by omega, by omega⟩, ne b hb.2 (hne b hb.1)⟩⟩
/-- What is asked of the function that reads a part. -/
def Nexts (b3 b7 : Nat) (N rb pb qb : Nat) (W0 : World) (m : St → Re T) : Prop :=
  (∀ W si t s', Fr (Cg rb pb qb) W0 W → RdAt N rb pb qb W si → m si = .ok t s' → Calls Tryz.prog 111 #[.pointer (some ⟨b3, 0, none⟩), .pointer (some ⟨b7, 0, none⟩)] W fun x W' => (∃ c : Sh, x = .returned (.iface 160 (.agg #[.int .i64 (c).k, .slice (c).xo (c).xn (c).xc, .slice (c).po (c).pn (c).pc])) ∧ c.t = t ∧ Made W.heap.size W' c) ∧ Fr (Cg rb pb qb) W W' ∧ RdAt N rb pb qb W' s') ∧
  (∀ W si e, Fr (Cg rb pb qb) W0 W → RdAt N rb pb qb W si → m si = .bad e → Calls Tryz.prog 111 #[.pointer (some ⟨b3, 0, none⟩), .pointer (some ⟨b7, 0, none⟩)] W fun x W' => x = .returned (.iface 164 (.int .i64 (e : Int))) ∧ (1 ≤ e ∧ e ≤ 20) ∧ Fr (Cg rb pb qb) W W')
/-- Parts as a call leaves them. -/
structure PartsAt (B : Nat) (W : World) (o : Option Addr) (n c : Nat) (cs : List Sh) : Prop where
  len : cs.length = n
  cap : n ≤ c
  no : o = none → n = 0 ∧ c = 0
  pr : PR (fun b => B ≤ b ∧ b < W.heap.size) W o cs
  ins : ∀ p ∈ cs, In (fun b => B ≤ b ∧ b < W.heap.size) W p
  lim : n ≤ 1000000000
def LiI (N rb pb qb : Nat) (m : St → Re T) (n : Nat) (ts : List T) (s' : St) (W0 : World) (a c : Value) (W : World) : Prop :=
  ∃ (i : Nat) (cs : List Sh) (rest : List T) (si : St) (ao : Option Addr) (cap : Nat), i ≤ n ∧ c = .int .i64 (i : Int) ∧ a = .slice ao i cap ∧ Hid (ts = cs.map Sh.t ++ rest) ∧ Hid (timesD m (n - i) si = .ok rest s') ∧ Hid (Held N rb pb qb W0 i cs ao cap si W)
def LiB (N rb pb qb : Nat) (m : St → Re T) (n : Nat) (e : Nat) (W0 : World) (a c : Value) (W : World) : Prop :=
  ∃ (i : Nat) (cs : List Sh) (si : St) (ao : Option Addr) (cap : Nat), i ≤ n ∧ c = .int .i64 (i : Int) ∧ a = .slice ao i cap ∧ Hid (timesD m (n - i) si = .bad e) ∧ Hid (Held N rb pb qb W0 i cs ao cap si W)

set_option maxRecDepth 100000 in
set_option maxHeartbeats 8000000 in
theorem list_ok (b3 b7 : Nat) {N rb pb qb : Nat} {W : World} {s : St} (h : RdAt N rb pb qb W s) (few : Nat) (hfew : 0 < few ∧ few ≤ 100) (l : Bool) (m : St → Re T) (hm : Nexts b3 b7 N rb pb qb W m) (ts : List T) (s' : St) (hd : listD few l m s = .ok ts s') :
    Calls Tryz.prog 110 #[.pointer (some ⟨rb, 0, none⟩), .int .i64 (few : Int), .bool l, .func (.func 111) #[] #[.pointer (some ⟨b3, 0, none⟩), .pointer (some ⟨b7, 0, none⟩)]] W fun x W' => (∃ o n c cs, x = .returned (.tuple #[.slice o n c, .int .i64 0]) ∧ cs.map Sh.t = ts ∧ PartsAt W.heap.size W' o n c cs) ∧ Fr (Cg rb pb qb) W W' ∧ RdAt N rb pb qb W' s' := by
  obtain ⟨n, s1, hc, hd⟩ := bind_inv hd
  obtain ⟨o, k, c, h1, -, -⟩ := h.bx
  have r1 := h1.cell 2 (.func (.func 126) #[] #[.pointer (some ⟨qb, 0, none⟩)]) rfl
  have hN := h.sz
  have C := hid (count_ok h true few hfew l n s1 hc)
  have HM := hid hm
  have HD := hid hd
  obtain ⟨i5, hi5, hz0, hz1, hz2⟩ := info_parts info25
  have HI := hid hi5; have HZ0 := hid hz0; have HZ1 := hid hz1; have HZ2 := hid hz2
  have TO := hid (fun (s : Sh) w => taken_ok s w)
  clear h h1 hc hd hm hi5 hz0 hz1 hz2
  go_enter Tryz.func110, Tryz.ntmps110
  go_wp2_with (first
    | (go_at_call 129; refine C.out.mono ?_; rintro x w1 ⟨rfl, hn9, f1, r1⟩; have F1 := hid f1; have R1 := hid r1; have z1 := f1.size; clear f1 r1)
    | ((with_reducible refine here_op 30 ?_); refine wpList_make_own w1 rfl (.const (.int .i64 0)) (.tmp 29) 37 rfl W.heap.size 39 i5 _ 3 Tryz.underlying37 HI.out HZ0.out HZ1.out .i64 .i64 _ n rfl rfl rfl (by rw [HZ2.out]; omega) (by unfold maxLen; omega) z1 ?_; intro w2 o2 g2; have O2 := hid o2; have G2 := hid (show Below w1.heap.size w1 w2 from ⟨g2.os, g2.tape, g2.output, g2.size, fun k hk => g2.block k hk (by simp)⟩); clear o2 g2))
  go_loopw [12, 32] (LiI N rb pb qb m n ts s' W) (fun _ c _ => n - (intOf c).toNat)
  case atStart => exact ⟨0, [], ts, s1, _, _, by omega, rfl, rfl, hid rfl, hid HD.out, hid ⟨rfl, O2.out, F1.out.low (G2.out.mono z1), R1.out.keep G2.out, fun c hc => by cases hc⟩⟩
  case round =>
    obtain ⟨i, cs, rest, si, ao, cap, hi, rfl, rfl, hts, hti, hh⟩ := hrel
    by_cases hlt : i < n
    · obtain ⟨t, s2, r2, hp, ht2, hr2⟩ := times_ok (show timesD m ((n - i - 1) + 1) si = .ok rest s' by rw [show n - i - 1 + 1 = n - i by omega]; exact hti.out)
      have PC := hid (HM.out.1 wr si t s2 hh.out.2.2.1 hh.out.2.2.2.1 hp)
      have HT2 := hid ht2
      have HTS := hid (show ts = (cs.map Sh.t ++ [t]) ++ r2 by rw [hts.out, hr2]; simp)
      have zw := hh.out.2.2.1.size
      clear hp ht2 hr2 hti hts
      go_wp2_with (first
        | (go_at_call 111; refine PC.out.mono ?_; rintro x w5 ⟨⟨p, rfl, hct, hc5⟩, f5, r5⟩; have F5 := hid f5; have R5 := hid r5; have HCT := hid hct; have HC5 := hid hc5; have O5 := hid (f5.row hh.out.2.2.2.1 hh.out.2.1 hN); clear f5 r5 hct hc5)
        | (go_at_call 88; refine (TO.out p _).mono ?_; rintro x w6 ⟨rfl, b6⟩; have H6 := hid b6; have O6 := hid ((own_below (own_below O5.out b6) (ext1 (.cells #[.int .i64 (p).k, .slice (p).xo (p).xn (p).xc, .slice (p).po (p).pn (p).pc] 39))).alloc (.cells #[.int .i64 (p).k, .slice (p).xo (p).xn (p).xc, .slice (p).po (p).pn (p).pc] 39)); have PB := hid (Bx.new w6 p); obtain ⟨p0, p1, p2⟩ := PB.out.cells; have z6 := b6.size; have z5 := F5.out.size; clear b6)
        | (at_builtin; refine wpList_append_lies _ rfl (.tmp 43) (.tmp 45) 37 rfl W.heap.size 39 i5 _ 3 56 Tryz.underlying37 HI.out HZ0.out HZ1.out HZ2.out rfl (by decide) (.slice ao i cap) i (cv3 cs) rfl O6.out ⟨w6.heap.size + 1, 0, none⟩ 1 1 (cv3 [p]) rfl rfl (three_cells2 w6 _ p) (cv3_one p) (by omega) (by unfold maxLen; omega) (by omega) (by simp; omega) _ rfl ?_; intro g9 c9 w9 o9 g9' gc9 _; have O9 := hid o9; have G9 := hid g9'; have GC := hid gc9; clear o9 g9' gc9))
      go_roundw
      case measure => simp [intOf]; omega
      case rel =>
        exact ⟨i + 1, cs ++ [p], r2, s2, _, c9, by omega, by go_num, rfl, hid (by rw [HTS.out, List.map_append]; simp [HCT.out]), hid (by rw [show n - (i + 1) = n - i - 1 by omega]; exact HT2.out), hid (held_step hh.out hN F5.out R5.out HC5.out (gt H6.out (gt (ext1 _) (ext1 _))) O9.out G9.out GC.out)⟩
    · obtain rfl : i = n := by omega
      have ht := hti.out
      rw [Nat.sub_self] at ht
      injection ht with ht1 ht2
      have HTS := hid (show ts = cs.map Sh.t by rw [hts.out, ← ht1]; simp)
      have HS := hid ht2
      clear hti ht1 ht2 hts
      go_wp2
      go_ret2
      obtain ⟨q1, q2, q3, q4, q5⟩ := hh.out
      exact ⟨⟨ao, i, cap, cs, rfl, HTS.out.symm, { len := q1, cap := own_cap q2, no := own_none q2, pr := pr_own q2 q1, ins := fun p hp => (q5 p hp).of fun b hb => ⟨rfl, hb.1⟩, lim := hn9 }⟩, q3, by rw [← HS.out]; exact q4⟩

set_option maxRecDepth 100000 in
set_option maxHeartbeats 8000000 in
theorem list_bad (b3 b7 : Nat) {N rb pb qb : Nat} {W : World} {s : St} (h : RdAt N rb pb qb W s) (few : Nat) (hfew : 0 < few ∧ few ≤ 100) (l : Bool) (m : St → Re T) (hm : Nexts b3 b7 N rb pb qb W m) (e : Nat) (hd : listD few l m s = .bad e) :
    Calls Tryz.prog 110 #[.pointer (some ⟨rb, 0, none⟩), .int .i64 (few : Int), .bool l, .func (.func 111) #[] #[.pointer (some ⟨b3, 0, none⟩), .pointer (some ⟨b7, 0, none⟩)]] W fun x W' => x = .returned (.tuple #[.slice none 0 0, .int .i64 (e : Int)]) ∧ (1 ≤ e ∧ e ≤ 20) ∧ Fr (Cg rb pb qb) W W' := by
  obtain ⟨o, k, c, h1, -, -⟩ := h.bx
  have r1 := h1.cell 2 (.func (.func 126) #[] #[.pointer (some ⟨qb, 0, none⟩)]) rfl
  have hN := h.sz
  rcases bad_inv hd with hd | ⟨n, s1, hc, hd⟩
  · have C := hid (count_bad h true few hfew l e hd)
    clear h h1 hd hm
    go_enter Tryz.func110, Tryz.ntmps110
    by_cases he : 1 ≤ e ∧ e ≤ 20
    · have he1 : ((e : Int) == 0) = false := by simp; omega
      go_wp2_with (go_at_call 129; refine C.out.mono ?_; rintro x w1 ⟨rfl, -, f1⟩; have F1 := hid f1; clear f1)
      go_ret2
      exact ⟨rfl, he, F1.out⟩
    · go_wp2_with (go_at_call 129; refine C.out.mono ?_; rintro x w1 ⟨rfl, h2, f1⟩; exact absurd h2 he)
  · have C := hid (count_ok h true few hfew l n s1 hc)
    have HM := hid hm
    have HD := hid hd
    obtain ⟨i5, hi5, hz0, hz1, hz2⟩ := info_parts info25
    have HI := hid hi5; have HZ0 := hid hz0; have HZ1 := hid hz1; have HZ2 := hid hz2
    have TO := hid (fun (s : Sh) w => taken_ok s w)
    have TB := hid (fun (k : Nat) w => taken_bad k w)
    clear h h1 hc hd hm hi5 hz0 hz1 hz2
    go_enter Tryz.func110, Tryz.ntmps110
    go_wp2_with (first
      | (go_at_call 129; refine C.out.mono ?_; rintro x w1 ⟨rfl, hn9, f1, r1⟩; have F1 := hid f1; have R1 := hid r1; have z1 := f1.size; clear f1 r1)
      | ((with_reducible refine here_op 30 ?_); refine wpList_make_own w1 rfl (.const (.int .i64 0)) (.tmp 29) 37 rfl W.heap.size 39 i5 _ 3 Tryz.underlying37 HI.out HZ0.out HZ1.out .i64 .i64 _ n rfl rfl rfl (by rw [HZ2.out]; omega) (by unfold maxLen; omega) z1 ?_; intro w2 o2 g2; have O2 := hid o2; have G2 := hid (show Below w1.heap.size w1 w2 from ⟨g2.os, g2.tape, g2.output, g2.size, fun k hk => g2.block k hk (by simp)⟩); clear o2 g2))
    go_loopw [12, 32] (LiB N rb pb qb m n e W) (fun _ c _ => n - (intOf c).toNat)
    case atStart => exact ⟨0, [], s1, _, _, by omega, rfl, rfl, hid HD.out, hid ⟨rfl, O2.out, F1.out.low (G2.out.mono z1), R1.out.keep G2.out, fun c hc => by cases hc⟩⟩
    case round =>
      obtain ⟨i, cs, si, ao, cap, hi, rfl, rfl, hti, hh⟩ := hrel
      by_cases hlt : i < n
      · have zw := hh.out.2.2.1.size
        rcases times_bad (show timesD m ((n - i - 1) + 1) si = .bad e by rw [show n - i - 1 + 1 = n - i by omega]; exact hti.out) with hp | ⟨t, s2, hp, ht2⟩
        · have PC := hid (HM.out.2 wr si e hh.out.2.2.1 hh.out.2.2.2.1 hp)
          clear hp hti
          by_cases he : 1 ≤ e ∧ e ≤ 20
          · have he1 : ((e : Int) == 0) = false := by simp; omega
            go_wp2_with (first
              | (go_at_call 111; refine PC.out.mono ?_; rintro x w5 ⟨rfl, -, f5⟩; have F5 := hid f5; clear f5)
              | (go_at_call 88; refine (TB.out e _).mono ?_; rintro x w6 ⟨rfl, b6⟩; have H6 := hid b6; clear b6))
            go_ret2
            have z5 := F5.out.size
            have z6 := H6.out.size
            exact ⟨rfl, he, ((hh.out.2.2.1.trans F5.out).low (H6.out.mono (by omega))).al _⟩
          · go_wp2_with (go_at_call 111; refine PC.out.mono ?_; rintro x w5 ⟨rfl, h2, f5⟩; exact absurd h2 he)
        · have PC := hid (HM.out.1 wr si t s2 hh.out.2.2.1 hh.out.2.2.2.1 hp)
          have HT2 := hid ht2
          clear hp ht2 hti
          go_wp2_with (first
            | (go_at_call 111; refine PC.out.mono ?_; rintro x w5 ⟨⟨p, rfl, hct, hc5⟩, f5, r5⟩; have F5 := hid f5; have R5 := hid r5; have HCT := hid hct; have HC5 := hid hc5; have O5 := hid (f5.row hh.out.2.2.2.1 hh.out.2.1 hN); clear f5 r5 hct hc5)
            | (go_at_call 88; refine (TO.out p _).mono ?_; rintro x w6 ⟨rfl, b6⟩; have H6 := hid b6; have O6 := hid ((own_below (own_below O5.out b6) (ext1 (.cells #[.int .i64 (p).k, .slice (p).xo (p).xn (p).xc, .slice (p).po (p).pn (p).pc] 39))).alloc (.cells #[.int .i64 (p).k, .slice (p).xo (p).xn (p).xc, .slice (p).po (p).pn (p).pc] 39)); have PB := hid (Bx.new w6 p); obtain ⟨p0, p1, p2⟩ := PB.out.cells; have z6 := b6.size; have z5 := F5.out.size; clear b6)
            | (at_builtin; refine wpList_append_lies _ rfl (.tmp 43) (.tmp 45) 37 rfl W.heap.size 39 i5 _ 3 56 Tryz.underlying37 HI.out HZ0.out HZ1.out HZ2.out rfl (by decide) (.slice ao i cap) i (cv3 cs) rfl O6.out ⟨w6.heap.size + 1, 0, none⟩ 1 1 (cv3 [p]) rfl rfl (three_cells2 w6 _ p) (cv3_one p) (by omega) (by unfold maxLen; omega) (by omega) (by simp; omega) _ rfl ?_; intro g9 c9 w9 o9 g9' gc9 _; have O9 := hid o9; have G9 := hid g9'; have GC := hid gc9; clear o9 g9' gc9))
          go_roundw
          case measure => simp [intOf]; omega
          case rel =>
            exact ⟨i + 1, cs ++ [p], s2, _, c9, by omega, by go_num, rfl, hid (by rw [show n - (i + 1) = n - i - 1 by omega]; exact HT2.out), hid (held_step hh.out hN F5.out R5.out HC5.out (gt H6.out (gt (ext1 _) (ext1 _))) O9.out G9.out GC.out)⟩
      · obtain rfl : i = n := by omega
        have ht := hti.out
        rw [Nat.sub_self] at ht
        cases ht
end Go.Proofs.YtpmfedimjjifaaaGreatDoor.Rin
