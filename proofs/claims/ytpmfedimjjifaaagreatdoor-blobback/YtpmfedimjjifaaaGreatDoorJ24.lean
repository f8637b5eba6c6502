/- The document's own points and put; no statement of the seat is proved here. -/
import Derived.Test.YtpmfedimjjifaaaGreatDoorJ12
import Derived.Test.YtpmfedimjjifaaaGreatDoorJ16
namespace Go.Proofs.YtpmfedimjjifaaaGreatDoor
open Go.RowKit Go.Maps

set_option maxRecDepth 100000 in
/-- A put of a whole number, as the walk has it. -/
theorem rput_int (n cap : Nat) (xs : List Nat) (z : Int) (k : Nat) (hk : k ≤ 8) (l : Bool) (hn : n ≤ 70368744177664) : ∀ (ao : Option Addr) (w : World), Rd w ao n cap xs →
    Calls Tryz.prog 38 #[.slice ao n cap, .int .u64 (IntKind.u64.wrap z), .int .i64 (k : Int), .bool l] w fun e w' => ∃ r, e = .returned r ∧ w'.ownsRow w.heap.size 5 1 r (n + k) (bs (xs ++ putN (U z) k l)) ∧ Below w.heap.size w w' := by
  intro ao w h
  rw [Enc.wrapU]
  exact rput_any ao n cap xs (U z) (k : Int) k l w h hn (by omega)
set_option maxRecDepth 100000 in
theorem rd_at {w : World} {B n : Nat} {ao : Option Addr} {cap : Nat} {xs : List Nat} (h : w.ownsRow B 5 1 (.slice ao n cap) n (bs xs)) : Rd w ao n cap xs := by
  obtain ⟨a6, m6, e6, rd6⟩ := rd_owned h
  simp at e6
  obtain ⟨rfl, rfl⟩ := e6
  exact rd6
set_option maxRecDepth 100000 in
theorem own_base {w : World} {B B' n : Nat} {v : Value} {xs : List Value} {e : TypeId} {size : Nat} (h : w.ownsRow B e size v n xs) (hB : B' ≤ B) : w.ownsRow B' e size v n xs := by
  refine ⟨h.1, ?_⟩
  rcases h.2 with h1 | ⟨g, cap, cur, e, hb, h2⟩
  · exact .inl h1
  · exact .inr ⟨g, cap, cur, e, by omega, h2⟩
def RpI (w : World) (l : Bool) (xs : List Nat) (n xn : Nat) (xy : List (Int × Int)) (a c : Value) (W : World) : Prop :=
  ∃ (i : Nat) (ao : Option Addr) (cap : Nat), i ≤ xn ∧ c = .int .i64 (i : Int) ∧ a = .slice ao (n + 4 + 16 * i) cap ∧ Hid (W.ownsRow w.heap.size 5 1 (.slice ao (n + 4 + 16 * i) cap) (n + 4 + 16 * i) (bs ((xs ++ putN xn 4 l) ++ bytesI l ((xy.take i).flatMap ptI)))) ∧ Hid (Below w.heap.size w W)
set_option maxRecDepth 100000 in
set_option maxHeartbeats 4000000 in
theorem rpoints_call (S : Nat → Prop) (ao : Option Addr) (n cap : Nat) (xs : List Nat) (xo : Option Addr) (xn xc : Nat) (xy : List (Int × Int)) (l : Bool) (w : World) (h : Rd w ao n cap xs) (hn : n ≤ 1000000) (hx : xn ≤ 1000000) (hl : xy.length = xn) (hxr : XR S w xo xy) (hS : ∀ b, S b → b < w.heap.size) :
    Calls Tryz.prog 120 #[.slice ao n cap, .slice xo xn xc, .bool l] w fun e w' => ∃ r m, e = .returned r ∧ w'.ownsRow w.heap.size 5 1 r m (bs (xs ++ bytesI l ((xn, 4) :: xy.flatMap ptI))) ∧ Below w.heap.size w w' := by
  have HR := hid h
  have HX := hid hxr
  have HL := hid hl
  have HS := hid hS
  have R0 := hid (fun w h => rput_any ao n cap xs xn 4 4 l w h (by omega) (by omega))
  have xw := Enc.wrapN xn (by omega)
  clear h hxr hl hS
  go_enter Tryz.func120, Tryz.ntmps120
  go_wp2_with (go_at_call 38; refine (R0.out _ HR.out).mono ?_; rintro e w1 ⟨v1, rfl, o1, b1⟩; obtain ⟨a1, c1, rfl⟩ := row_form o1; have O1 := hid o1; have B1 := hid b1; clear o1 b1)
  go_loopw [0, 17] (RpI w l xs n xn xy) (fun _ c _ => xn - (intOf c).toNat)
  case atStart => exact ⟨0, a1, c1, by omega, rfl, rfl, hid (by simpa [bytesI] using O1.out), B1⟩
  case round =>
    obtain ⟨i, a2, c2, hi, rfl, rfl, ho, hb⟩ := hrel
    by_cases hlt : i < xn
    · obtain ⟨p, hp⟩ : ∃ p, xy[i]? = some p := ⟨_, List.getElem?_eq_getElem (by rw [HL.out]; exact hlt)⟩
      obtain ⟨b, off, hxo, hSb, hat⟩ := HX.out.resolve_left (by intro e; rw [e] at hp; simp at hp)
      obtain ⟨z0, z1⟩ := hat i p hp
      replace z0 := keep_old hb.out z0
      replace z1 := keep_old hb.out z1
      replace z0 := keep_cell hb.out ((hat i p hp).1) (HS.out b hSb)
      replace z1 := keep_cell hb.out ((hat i p hp).2) (HS.out b hSb)
      have HP := hid hp
      have RR := hid ((rd_at ho.out).keep (ext1 (.cells #[.int .i64 p.1, .int .i64 p.2] 25)))
      have RP1 := hid (rput_int (n + 4 + 16 * i) c2 ((xs ++ putN xn 4 l) ++ bytesI l ((xy.take i).flatMap ptI)) p.1 8 (by omega) l (by omega) a2)
      have RP2 := hid (fun ao c => rput_int (n + 4 + 16 * i + 8) c (((xs ++ putN xn 4 l) ++ bytesI l ((xy.take i).flatMap ptI)) ++ putN (U p.1) 8 l) p.2 8 (by omega) l (by omega) ao)
      have hz := hb.out.size
      rw [hxo] at *
      clear hat hp hxo
      go_wp2
      have PB := hid (Bo.new wr #[.int .i64 p.1, .int .i64 p.2] 25)
      have pc0 := PB.out.cell 0 _ rfl
      have pc1 := PB.out.cell 1 _ rfl
      refine wp_region_K (S := (fun W : World => W.cell? ⟨wr.heap.size, 0, none⟩ = some (.int .i64 p.1) ∧ W.cell? ⟨wr.heap.size, 1, none⟩ = some (.int .i64 p.2))) (fun _ => false) (by kernel_rfl) (by exact ⟨pc0, pc1⟩) (fun hHeld => ?_)
      refine gkp 0 ?_
      refine gkp 1 ?_
      refine gkt 2 ?_ (h := by intro W hSw; obtain ⟨r0, r1⟩ := hSw; go_simp; first | done | with_reducible rfl)
      refine gkt 3 ?_ (h := by intro W hSw; obtain ⟨r0, r1⟩ := hSw; go_simp; first | done | with_reducible rfl)
      refine gkp 4 ?_
      refine gkp 6 ?_
      refine gkt 7 ?_ (h := by intro W hSw; obtain ⟨r0, r1⟩ := hSw; go_simp; first | done | with_reducible rfl)
      refine gkt 8 ?_ (h := by intro W hSw; obtain ⟨r0, r1⟩ := hSw; go_simp; first | done | with_reducible rfl)
      refine gkp 9 ?_
      refine gk1 5 (fun K hK => ?_)
      go_simp
      go_at_call 38; refine (RP1.out _ (RR.out.keep (Below.refl _ _).drew)).mono ?_; rintro e w6 ⟨v6, rfl, o6, b6⟩; obtain ⟨a6, m6, rfl⟩ := row_form o6; have O6 := hid o6; have H6 := hid (undrew b6); have hR : (fun W : World => W.cell? ⟨wr.heap.size, 0, none⟩ = some (.int .i64 p.1) ∧ W.cell? ⟨wr.heap.size, 1, none⟩ = some (.int .i64 p.2)) w6 := ⟨keep_old H6.out hHeld.1, keep_old H6.out hHeld.2⟩; clear o6 b6
      refine hK.out _ _ hR (fun hHeld => ?_)
      clear hK K hR
      (try simp only [Act.put, sA, sZ, sS])
      obtain ⟨a6', m6', e6, rd6⟩ := rd_owned O6.out
      obtain ⟨rfl, rfl⟩ : a6 = a6' ∧ m6 = m6' := by simp at e6; exact ⟨e6.1, e6.2⟩
      have RD6 := hid rd6
      clear e6 rd6
      refine gk1 10 (fun K hK => ?_)
      go_simp
      go_at_call 38; refine (RP2.out _ _ _ RD6.out).mono ?_; rintro e w7 ⟨v7, rfl, o7, b7⟩; obtain ⟨a7, m7, rfl⟩ := row_form o7; have O7 := hid o7; have H7 := hid b7; have hR : (fun W : World => W.cell? ⟨wr.heap.size, 0, none⟩ = some (.int .i64 p.1) ∧ W.cell? ⟨wr.heap.size, 1, none⟩ = some (.int .i64 p.2)) w7 := ⟨keep_old H7.out hHeld.1, keep_old H7.out hHeld.2⟩; clear o7 b7
      refine hK.out _ _ hR (fun hHeld => ?_)
      clear hK K hR
      (try simp only [Act.put, sA, sZ, sS])
      refine gkp 11 ?_
      refine wpAnyK_done (by kernel_rfl) ?_ _
      go_wp2
      go_roundw
      case measure => simp [intOf]; omega
      case rel =>
        refine ⟨i + 1, a7, m7, by omega, by go_num, rfl, hid ?_, hid ?_⟩
        · have e : n + 4 + 16 * (i + 1) = n + 4 + 16 * i + 8 + 8 := by omega
          have e2 : bytesI l (ptI p) = putN (U p.1) 8 l ++ putN (U p.2) 8 l := by simp [bytesI, ptI]
          rw [e, Enc.take_flat ptI xy i p HP.out, bytesI_append, e2]
          have := O7.out
          simp only [List.append_assoc] at this ⊢
          exact own_base this (by have := H6.out.size; simp at this; omega)
        · exact hb.out.trans (((ext1 _).mono hz).trans ((H6.out.mono (by simp; omega)).trans (H7.out.mono (by have := H6.out.size; simp at this; omega))))
    · obtain rfl : i = xn := by omega
      have hfin : xy.take i = xy := by rw [← HL.out]; simp
      rw [hfin] at ho
      go_wp2
      go_ret
      exact ⟨_, _, rfl, by rw [bytesI_cons, ← List.append_assoc]; exact ho.out, hb.out⟩

/-- Each polygon has rings alone, and no other shape has any. -/
def WfB (s : Sh) : Prop := ∀ q ∈ s.nodes, ∀ p ∈ q.ps, (q.k = 3 → p.k = 0) ∧ (q.k ≠ 3 → p.k ≠ 0)
set_option maxRecDepth 100000 in
theorem wf_of {s : Sh} (h : rightB s = true) : WfB s := by
  intro q hq p hp
  have h1 := List.all_eq_true.1 h q hq
  unfold own9 at h1
  have h2 := List.all_eq_true.1 (Bool.and_eq_true_iff.1 h1).2 p hp
  have h7 := fitB_le (Bool.and_eq_true_iff.1 h1).1
  unfold ok2 at h2
  have f := (Bool.and_eq_true_iff.1 h1).1
  constructor
  · intro h3
    rw [if_neg (by omega), h3] at h2
    simpa [part_vals.1] using h2
  · intro h3 e
    split at h2
    · rw [e] at h2; simp at h2
    · rename_i h77
      have e2 := beq_iff_eq.1 h2
      rw [e] at e2
      have hps : q.ps ≠ [] := fun e => by rw [e] at hp; cases hp
      unfold fitB at f
      have hne : (q.ps.length == 0) = false := by simp [hps]
      split at f
      · simp [hne] at f
      · split at f
        · simp [hne] at f
        · split at f
          · simp [hne] at f
          · simp at f
            have : q.k = 4 ∨ q.k = 5 ∨ q.k = 6 := by omega
            rcases this with h | h | h <;> rw [h] at e2 <;> exact absurd e2 (by decide)
def RqI (w : World) (l : Bool) (s : Sh) (xs : List Nat) (b0 : Nat) (a c : Value) (W : World) : Prop :=
  ∃ (i n : Nat) (ao : Option Addr) (cap : Nat), i ≤ s.pn ∧ c = .int .i64 (i : Int) ∧ a = .slice ao n cap ∧ Hid (W.ownsRow (w.heap.size + 1) 5 1 (.slice ao n cap) n (bs (xs ++ bytesI l ((s.ps.take i).flatMap fun p => p.t.items l)))) ∧ Hid (Below w.heap.size w W) ∧ Hid (Bx W b0 s)

set_option maxRecDepth 100000 in
theorem kS {a b : Value} (h : a = b) : some a = some b := by rw [h]

set_option maxRecDepth 100000 in
set_option maxHeartbeats 4000000 in
theorem rput_point_false_nil (s : Sh) (hk : s.k = 1) (w : World) (hS : Here (fun b => b < w.heap.size) w s) (hx : s.xy = []) :
    Calls Tryz.prog 92 #[.agg #[.int .i64 (s).k, .slice (s).xo (s).xn (s).xc, .slice (s).po (s).pn (s).pc], .bool false] w fun e w' => ∃ r m, e = .returned r ∧ w'.ownsRow w.heap.size 5 1 r m (bs (([0] ++ putN 1 4 false) ++ (putN 9223372036854775808 8 false ++ putN 9223372036854775808 8 false))) ∧ Below w.heap.size w w' := by
  have RK := hid (show ∀ (g : Nat) (w : World), Rd w (some ⟨g, 0, none⟩) 1 1 [0] → Calls Tryz.prog 38 #[.slice (some ⟨g, 0, none⟩) 1 1, .int .u64 1, .int .i64 4, .bool false] w fun e w' => ∃ r, e = .returned r ∧ w'.ownsRow w.heap.size 5 1 r 5 (bs ([0] ++ putN 1 4 false)) ∧ Below w.heap.size w w' from fun g w h => rput_any (some ⟨g, 0, none⟩) 1 1 [0] 1 4 4 false w h (by omega) (by omega))
  have RP1 := hid (show ∀ (ao : Option Addr) (c : Nat) (w : World), Rd w ao 5 c ([0] ++ putN 1 4 false) → Calls Tryz.prog 38 #[.slice ao 5 c, .int .u64 9223372036854775808, .int .i64 8, .bool false] w fun e w' => ∃ r, e = .returned r ∧ w'.ownsRow w.heap.size 5 1 r 13 (bs (([0] ++ putN 1 4 false) ++ putN 9223372036854775808 8 false)) ∧ Below w.heap.size w w' from fun ao c w h => rput_any ao 5 c _ 9223372036854775808 8 8 false w h (by omega) (by omega))
  have RP2 := hid (show ∀ (ao : Option Addr) (c : Nat) (w : World), Rd w ao 13 c (([0] ++ putN 1 4 false) ++ putN 9223372036854775808 8 false) → Calls Tryz.prog 38 #[.slice ao 13 c, .int .u64 9223372036854775808, .int .i64 8, .bool false] w fun e w' => ∃ r, e = .returned r ∧ w'.ownsRow w.heap.size 5 1 r 21 (bs ((([0] ++ putN 1 4 false) ++ putN 9223372036854775808 8 false) ++ putN 9223372036854775808 8 false)) ∧ Below w.heap.size w w' from fun ao c w h => rput_any ao 13 c _ 9223372036854775808 8 8 false w h (by omega) (by omega))
  have xz : s.xn = 0 := by rw [← hS.xl, hx]; rfl
  have HX0 := hid (show (Value.slice s.xo s.xn s.xc) = .slice s.xo 0 s.xc by rw [xz])
  have XW := hid ((Bx.new w s).keep (show Below (w.alloc (.cells #[.int .i64 (s).k, .slice (s).xo (s).xn (s).xc, .slice (s).po (s).pn (s).pc] 39)).heap.size (w.alloc (.cells #[.int .i64 (s).k, .slice (s).xo (s).xn (s).xc, .slice (s).po (s).pn (s).pc] 39)) ((w.alloc (.cells #[.int .i64 (s).k, .slice (s).xo (s).xn (s).xc, .slice (s).po (s).pn (s).pc] 39)).alloc (.cells #[.int .u8 0] 5)) from (ext1 _)))
  obtain ⟨x0, x1, x2⟩ := XW.out.cells
  have RDW := hid (show Rd ((w.alloc (.cells #[.int .i64 (s).k, .slice (s).xo (s).xn (s).xc, .slice (s).po (s).pn (s).pc] 39)).alloc (.cells #[.int .u8 0] 5)) (some ⟨(w.heap.size + 1), 0, none⟩) 1 1 [0] by have h := rd_one (w.alloc (.cells #[.int .i64 (s).k, .slice (s).xo (s).xn (s).xc, .slice (s).po (s).pn (s).pc] 39)) 0; simp only [World.size_alloc] at h; exact h)
  have BW := hid (show Below w.heap.size w ((w.alloc (.cells #[.int .i64 (s).k, .slice (s).xo (s).xn (s).xc, .slice (s).po (s).pn (s).pc] 39)).alloc (.cells #[.int .u8 0] 5)) from gt (ext1 _) (ext1 _))
  replace x0 := x0.trans (Enc.kI hk)
  replace x1 := x1.trans (kS HX0.out)
  have HK := hid hk
  have t1 := hid True.intro
  clear hk hS hx xz
  go_enter Tryz.func92, Tryz.ntmps92
  go_wp2_with (first
    | (go_at_call 38; clear t1; refine (RK.out _ _ RDW.out).mono ?_; rintro e w2 ⟨v2, rfl, o2, b2⟩; obtain ⟨a2, c2, rfl⟩ := row_form o2; have O2 := hid o2; have H2 := hid b2; have X2 := hid (XW.out.keep b2); have X3 := hid (X2.out.keep (ext1 (.cells #[.int .i64 (-9223372036854775808), .int .i64 (-9223372036854775808)] 25))); obtain ⟨x0, x1, x2⟩ := X2.out.cells; obtain ⟨-, y1, y2⟩ := X3.out.cells; replace y1 := y1.trans (kS HX0.out); replace x0 := x0.trans (Enc.kI HK.out); replace x1 := x1.trans (kS HX0.out); have R2 := hid (rd_at o2); clear o2 b2))
  have PB := hid (Bo.new w2 #[.int .i64 (-9223372036854775808), .int .i64 (-9223372036854775808)] 25)
  have pc0 := PB.out.cell 0 _ rfl
  have pc1 := PB.out.cell 1 _ rfl
  have RR := hid (R2.out.keep (ext1 (.cells #[.int .i64 (-9223372036854775808), .int .i64 (-9223372036854775808)] 25)))
  refine wp_region_K (S := (fun W : World => W.cell? ⟨w2.heap.size, 0, none⟩ = some (.int .i64 (-9223372036854775808)) ∧ W.cell? ⟨w2.heap.size, 1, none⟩ = some (.int .i64 (-9223372036854775808)))) (fun _ => false) (by kernel_rfl) (by exact ⟨pc0, pc1⟩) (fun hHeld => ?_)
  refine gkp 0 ?_
  refine gkp 1 ?_
  refine gkt 2 ?_ (h := by intro W hSw; obtain ⟨r0, r1⟩ := hSw; go_simp; first | done | with_reducible rfl)
  refine gkt 3 ?_ (h := by intro W hSw; obtain ⟨r0, r1⟩ := hSw; go_simp; first | done | with_reducible rfl)
  refine gkp 4 ?_
  refine gkp 6 ?_
  refine gkt 7 ?_ (h := by intro W hSw; obtain ⟨r0, r1⟩ := hSw; go_simp; first | done | with_reducible rfl)
  refine gkt 8 ?_ (h := by intro W hSw; obtain ⟨r0, r1⟩ := hSw; go_simp; first | done | with_reducible rfl)
  refine gkp 9 ?_
  refine gk1 5 (fun K hK => ?_)
  go_simp
  go_at_call 38; refine (RP1.out _ _ _ (RR.out.keep (Below.refl _ _).drew)).mono ?_; rintro e w6 ⟨v6, rfl, o6, b6⟩; obtain ⟨a6, m6, rfl⟩ := row_form o6; have O6 := hid o6; have H6 := hid (undrew b6); have hR : (fun W : World => W.cell? ⟨w2.heap.size, 0, none⟩ = some (.int .i64 (-9223372036854775808)) ∧ W.cell? ⟨w2.heap.size, 1, none⟩ = some (.int .i64 (-9223372036854775808))) w6 := ⟨keep_old H6.out hHeld.1, keep_old H6.out hHeld.2⟩; clear o6 b6
  refine hK.out _ _ hR (fun hHeld => ?_)
  clear hK K hR
  (try simp only [Act.put, sA, sZ, sS])
  obtain ⟨a6', m6', e6, rd6⟩ := rd_owned O6.out
  obtain ⟨rfl, rfl⟩ : a6 = a6' ∧ m6 = m6' := by simp at e6; exact ⟨e6.1, e6.2⟩
  have RD6 := hid rd6
  clear e6 rd6
  refine gk1 10 (fun K hK => ?_)
  go_simp
  go_at_call 38; refine (RP2.out _ _ _ RD6.out).mono ?_; rintro e w7 ⟨v7, rfl, o7, b7⟩; obtain ⟨a7, m7, rfl⟩ := row_form o7; have O7 := hid o7; have H7 := hid b7; have hR : (fun W : World => W.cell? ⟨w2.heap.size, 0, none⟩ = some (.int .i64 (-9223372036854775808)) ∧ W.cell? ⟨w2.heap.size, 1, none⟩ = some (.int .i64 (-9223372036854775808))) w7 := ⟨keep_old H7.out hHeld.1, keep_old H7.out hHeld.2⟩; clear o7 b7
  refine hK.out _ _ hR (fun hHeld => ?_)
  clear hK K hR
  (try simp only [Act.put, sA, sZ, sS])
  refine gkp 11 ?_
  refine wpAnyK_done (by kernel_rfl) ?_ _
  go_wp2
  go_ret
  have e6 := H6.out.size
  have e2 := H2.out.size
  have eW := BW.out.size
  simp only [World.size_alloc] at e6 e2 eW
  have o7 := O7.out
  simp only [List.append_assoc] at o7 ⊢
  exact ⟨_, _, rfl, own_base o7 (by omega), BW.out.trans ((H2.out.mono (by simp; omega)).trans (((ext1 _).mono (by omega)).trans ((H6.out.mono (by simp; omega)).trans (H7.out.mono (by omega)))))⟩

set_option maxRecDepth 100000 in
set_option maxHeartbeats 4000000 in
theorem rput_point_false_cons (s : Sh) (hk : s.k = 1) (w : World) (hS : Here (fun b => b < w.heap.size) w s) (p : Int × Int) (r : List (Int × Int)) (hx : s.xy = p :: r) :
    Calls Tryz.prog 92 #[.agg #[.int .i64 (s).k, .slice (s).xo (s).xn (s).xc, .slice (s).po (s).pn (s).pc], .bool false] w fun e w' => ∃ r m, e = .returned r ∧ w'.ownsRow w.heap.size 5 1 r m (bs (([0] ++ putN 1 4 false) ++ (putN (U p.1) 8 false ++ putN (U p.2) 8 false))) ∧ Below w.heap.size w w' := by
  have RK := hid (show ∀ (g : Nat) (w : World), Rd w (some ⟨g, 0, none⟩) 1 1 [0] → Calls Tryz.prog 38 #[.slice (some ⟨g, 0, none⟩) 1 1, .int .u64 1, .int .i64 4, .bool false] w fun e w' => ∃ r, e = .returned r ∧ w'.ownsRow w.heap.size 5 1 r 5 (bs ([0] ++ putN 1 4 false)) ∧ Below w.heap.size w w' from fun g w h => rput_any (some ⟨g, 0, none⟩) 1 1 [0] 1 4 4 false w h (by omega) (by omega))
  have RP1 := hid (fun ao c => rput_int 5 c ([0] ++ putN 1 4 false) p.1 8 (by omega) false (by omega) ao)
  have RP2 := hid (fun ao c => rput_int 13 c (([0] ++ putN 1 4 false) ++ putN (U p.1) 8 false) p.2 8 (by omega) false (by omega) ao)
  have xz : 0 < s.xn := by rw [← hS.xl, hx]; simp
  obtain ⟨b, off, hxo, hSb, hat⟩ := hS.xr.resolve_left (by rw [hx]; simp)
  obtain ⟨z0, z1⟩ := hat 0 p (by rw [hx]; rfl)
  simp only [Nat.zero_mul, Nat.add_zero] at z0 z1
  have Z0 := hid z0; have Z1 := hid z1
  have hI := hS.lenI.1
  have HX0 := hid (show (Value.slice s.xo s.xn s.xc) = .slice (some ⟨b, off, none⟩) s.xn s.xc by rw [hxo])
  have XW := hid ((Bx.new w s).keep (show Below (w.alloc (.cells #[.int .i64 (s).k, .slice (s).xo (s).xn (s).xc, .slice (s).po (s).pn (s).pc] 39)).heap.size (w.alloc (.cells #[.int .i64 (s).k, .slice (s).xo (s).xn (s).xc, .slice (s).po (s).pn (s).pc] 39)) ((w.alloc (.cells #[.int .i64 (s).k, .slice (s).xo (s).xn (s).xc, .slice (s).po (s).pn (s).pc] 39)).alloc (.cells #[.int .u8 0] 5)) from (ext1 _)))
  obtain ⟨x0, x1, x2⟩ := XW.out.cells
  have RDW := hid (show Rd ((w.alloc (.cells #[.int .i64 (s).k, .slice (s).xo (s).xn (s).xc, .slice (s).po (s).pn (s).pc] 39)).alloc (.cells #[.int .u8 0] 5)) (some ⟨(w.heap.size + 1), 0, none⟩) 1 1 [0] by have h := rd_one (w.alloc (.cells #[.int .i64 (s).k, .slice (s).xo (s).xn (s).xc, .slice (s).po (s).pn (s).pc] 39)) 0; simp only [World.size_alloc] at h; exact h)
  have BW := hid (show Below w.heap.size w ((w.alloc (.cells #[.int .i64 (s).k, .slice (s).xo (s).xn (s).xc, .slice (s).po (s).pn (s).pc] 39)).alloc (.cells #[.int .u8 0] 5)) from gt (ext1 _) (ext1 _))
  replace x0 := x0.trans (Enc.kI hk)
  replace x1 := x1.trans (kS HX0.out)
  have HK := hid hk
  have t1 := hid True.intro
  clear hk hS hx hat hxo hSb z0 z1
  go_enter Tryz.func92, Tryz.ntmps92
  go_wp2_with (first
    | (go_at_call 38; clear t1; refine (RK.out _ _ RDW.out).mono ?_; rintro e w2 ⟨v2, rfl, o2, b2⟩; obtain ⟨a2, c2, rfl⟩ := row_form o2; have O2 := hid o2; have H2 := hid b2; have X2 := hid (XW.out.keep b2); have X3 := hid (X2.out.keep (ext1 (.cells #[.int .i64 (-9223372036854775808), .int .i64 (-9223372036854775808)] 25))); obtain ⟨x0, x1, x2⟩ := X2.out.cells; obtain ⟨-, y1, y2⟩ := X3.out.cells; replace y1 := y1.trans (kS HX0.out); replace x0 := x0.trans (Enc.kI HK.out); replace x1 := x1.trans (kS HX0.out); have z0 := keep_old (ext1 (.cells #[.int .i64 (-9223372036854775808), .int .i64 (-9223372036854775808)] 25)) (keep_old (BW.out.trans (H2.out.mono BW.out.size)) Z0.out); have z1 := keep_old (ext1 (.cells #[.int .i64 (-9223372036854775808), .int .i64 (-9223372036854775808)] 25)) (keep_old (BW.out.trans (H2.out.mono BW.out.size)) Z1.out); have R2 := hid (rd_at o2); clear o2 b2))
  have PB := hid (Bo.new w2 #[.int .i64 p.1, .int .i64 p.2] 25)
  have pc0 := PB.out.cell 0 _ rfl
  have pc1 := PB.out.cell 1 _ rfl
  have RR := hid (R2.out.keep (ext1 (.cells #[.int .i64 p.1, .int .i64 p.2] 25)))
  refine wp_region_K (S := (fun W : World => W.cell? ⟨w2.heap.size, 0, none⟩ = some (.int .i64 p.1) ∧ W.cell? ⟨w2.heap.size, 1, none⟩ = some (.int .i64 p.2))) (fun _ => false) (by kernel_rfl) (by exact ⟨pc0, pc1⟩) (fun hHeld => ?_)
  refine gkp 0 ?_
  refine gkp 1 ?_
  refine gkt 2 ?_ (h := by intro W hSw; obtain ⟨r0, r1⟩ := hSw; go_simp; first | done | with_reducible rfl)
  refine gkt 3 ?_ (h := by intro W hSw; obtain ⟨r0, r1⟩ := hSw; go_simp; first | done | with_reducible rfl)
  refine gkp 4 ?_
  refine gkp 6 ?_
  refine gkt 7 ?_ (h := by intro W hSw; obtain ⟨r0, r1⟩ := hSw; go_simp; first | done | with_reducible rfl)
  refine gkt 8 ?_ (h := by intro W hSw; obtain ⟨r0, r1⟩ := hSw; go_simp; first | done | with_reducible rfl)
  refine gkp 9 ?_
  refine gk1 5 (fun K hK => ?_)
  go_simp
  go_at_call 38; refine (RP1.out _ _ _ (RR.out.keep (Below.refl _ _).drew)).mono ?_; rintro e w6 ⟨v6, rfl, o6, b6⟩; obtain ⟨a6, m6, rfl⟩ := row_form o6; have O6 := hid o6; have H6 := hid (undrew b6); have hR : (fun W : World => W.cell? ⟨w2.heap.size, 0, none⟩ = some (.int .i64 p.1) ∧ W.cell? ⟨w2.heap.size, 1, none⟩ = some (.int .i64 p.2)) w6 := ⟨keep_old H6.out hHeld.1, keep_old H6.out hHeld.2⟩; clear o6 b6
  refine hK.out _ _ hR (fun hHeld => ?_)
  clear hK K hR
  (try simp only [Act.put, sA, sZ, sS])
  obtain ⟨a6', m6', e6, rd6⟩ := rd_owned O6.out
  obtain ⟨rfl, rfl⟩ : a6 = a6' ∧ m6 = m6' := by simp at e6; exact ⟨e6.1, e6.2⟩
  have RD6 := hid rd6
  clear e6 rd6
  refine gk1 10 (fun K hK => ?_)
  go_simp
  go_at_call 38; refine (RP2.out _ _ _ RD6.out).mono ?_; rintro e w7 ⟨v7, rfl, o7, b7⟩; obtain ⟨a7, m7, rfl⟩ := row_form o7; have O7 := hid o7; have H7 := hid b7; have hR : (fun W : World => W.cell? ⟨w2.heap.size, 0, none⟩ = some (.int .i64 p.1) ∧ W.cell? ⟨w2.heap.size, 1, none⟩ = some (.int .i64 p.2)) w7 := ⟨keep_old H7.out hHeld.1, keep_old H7.out hHeld.2⟩; clear o7 b7
  refine hK.out _ _ hR (fun hHeld => ?_)
  clear hK K hR
  (try simp only [Act.put, sA, sZ, sS])
  refine gkp 11 ?_
  refine wpAnyK_done (by kernel_rfl) ?_ _
  go_wp2
  go_ret
  have e6 := H6.out.size
  have e2 := H2.out.size
  have eW := BW.out.size
  simp only [World.size_alloc] at e6 e2 eW
  have o7 := O7.out
  simp only [List.append_assoc] at o7 ⊢
  exact ⟨_, _, rfl, own_base o7 (by omega), BW.out.trans ((H2.out.mono (by simp; omega)).trans (((ext1 _).mono (by omega)).trans ((H6.out.mono (by simp; omega)).trans (H7.out.mono (by omega)))))⟩

set_option maxRecDepth 100000 in
set_option maxHeartbeats 4000000 in
theorem rput_line_false (s : Sh) (hk : s.k = 2) (w : World) (hS : Here (fun b => b < w.heap.size) w s) (hB : s.xn ≤ 1000000) :
    Calls Tryz.prog 92 #[.agg #[.int .i64 (s).k, .slice (s).xo (s).xn (s).xc, .slice (s).po (s).pn (s).pc], .bool false] w fun e w' => ∃ r m, e = .returned r ∧ w'.ownsRow w.heap.size 5 1 r m (bs (([0] ++ putN 2 4 false) ++ bytesI false ((s.xn, 4) :: s.xy.flatMap ptI))) ∧ Below w.heap.size w w' := by
  have RK := hid (show ∀ (g : Nat) (w : World), Rd w (some ⟨g, 0, none⟩) 1 1 [0] → Calls Tryz.prog 38 #[.slice (some ⟨g, 0, none⟩) 1 1, .int .u64 2, .int .i64 4, .bool false] w fun e w' => ∃ r, e = .returned r ∧ w'.ownsRow w.heap.size 5 1 r 5 (bs ([0] ++ putN 2 4 false)) ∧ Below w.heap.size w w' from fun g w h => rput_any (some ⟨g, 0, none⟩) 1 1 [0] 2 4 4 false w h (by omega) (by omega))
  have HS := hid hS
  have XW := hid ((Bx.new w s).keep (show Below (w.alloc (.cells #[.int .i64 (s).k, .slice (s).xo (s).xn (s).xc, .slice (s).po (s).pn (s).pc] 39)).heap.size (w.alloc (.cells #[.int .i64 (s).k, .slice (s).xo (s).xn (s).xc, .slice (s).po (s).pn (s).pc] 39)) ((w.alloc (.cells #[.int .i64 (s).k, .slice (s).xo (s).xn (s).xc, .slice (s).po (s).pn (s).pc] 39)).alloc (.cells #[.int .u8 0] 5)) from (ext1 _)))
  obtain ⟨x0, x1, x2⟩ := XW.out.cells
  have RDW := hid (show Rd ((w.alloc (.cells #[.int .i64 (s).k, .slice (s).xo (s).xn (s).xc, .slice (s).po (s).pn (s).pc] 39)).alloc (.cells #[.int .u8 0] 5)) (some ⟨(w.heap.size + 1), 0, none⟩) 1 1 [0] by have h := rd_one (w.alloc (.cells #[.int .i64 (s).k, .slice (s).xo (s).xn (s).xc, .slice (s).po (s).pn (s).pc] 39)) 0; simp only [World.size_alloc] at h; exact h)
  have BW := hid (show Below w.heap.size w ((w.alloc (.cells #[.int .i64 (s).k, .slice (s).xo (s).xn (s).xc, .slice (s).po (s).pn (s).pc] 39)).alloc (.cells #[.int .u8 0] 5)) from gt (ext1 _) (ext1 _))
  replace x0 := x0.trans (Enc.kI hk)
  have HK := hid hk
  have t1 := hid True.intro
  have RP := hid (fun (ao : Option Addr) (c : Nat) (W : World) (h : Rd W ao 5 c ([0] ++ putN 2 4 false)) (hb : Below w.heap.size w W) => rpoints_call (fun b => b < w.heap.size) ao 5 c _ s.xo s.xn s.xc s.xy false W h (by omega) hB hS.xl (hS.xr.of fun b hb' => ⟨hb.block b hb', hb'⟩) (fun b hb' => Nat.lt_of_lt_of_le hb' hb.size))
  clear hk hS
  go_enter Tryz.func92, Tryz.ntmps92
  go_wp2_with (first
    | (go_at_call 38; clear t1; refine (RK.out _ _ RDW.out).mono ?_; rintro e w2 ⟨v2, rfl, o2, b2⟩; obtain ⟨a2, c2, rfl⟩ := row_form o2; have O2 := hid o2; have H2 := hid b2; have X2 := hid (XW.out.keep b2); obtain ⟨x0, x1, x2⟩ := X2.out.cells; replace x0 := x0.trans (Enc.kI HK.out); have R2 := hid (rd_at o2); clear o2 b2)
    | (go_at_call 120; refine (RP.out _ _ _ R2.out (BW.out.trans (H2.out.mono BW.out.size))).mono ?_; rintro e w3 ⟨v3, m3, rfl, o3, b3⟩; have O3 := hid o3; have H3 := hid b3; clear o3 b3))
  go_ret
  have e2 := H2.out.size
  have eW := BW.out.size
  exact ⟨_, _, rfl, own_base O3.out (by omega), BW.out.trans ((H2.out.mono eW).trans (H3.out.mono (by omega)))⟩

set_option maxRecDepth 100000 in
set_option maxHeartbeats 4000000 in
theorem rput_parts_false_3 (s : Sh) (hk : s.k = 3) (w : World) (hS : Here (fun b => b < w.heap.size) w s) (hp : ∀ p ∈ s.ps, p.k = 0 ∧ Here (fun b => b < w.heap.size) w p) (hB : sizeI (s.ps.flatMap fun p => p.t.items false) ≤ 200000) :
    Calls Tryz.prog 92 #[.agg #[.int .i64 (s).k, .slice (s).xo (s).xn (s).xc, .slice (s).po (s).pn (s).pc], .bool false] w fun e w' => ∃ r m, e = .returned r ∧ w'.ownsRow w.heap.size 5 1 r m (bs ((([0] ++ putN 3 4 false) ++ putN s.pn 4 false) ++ bytesI false (s.ps.flatMap fun p => p.t.items false))) ∧ Below w.heap.size w w' := by
  have HS := hid hS
  have HB := hid hB
  have pb := hS.pb
  have pw := Enc.wrapN s.pn (by omega)
  have RK := hid (show ∀ (g : Nat) (w : World), Rd w (some ⟨g, 0, none⟩) 1 1 [0] → Calls Tryz.prog 38 #[.slice (some ⟨g, 0, none⟩) 1 1, .int .u64 3, .int .i64 4, .bool false] w fun e w' => ∃ r, e = .returned r ∧ w'.ownsRow w.heap.size 5 1 r 5 (bs ([0] ++ putN 3 4 false)) ∧ Below w.heap.size w w' from fun g w h => rput_any (some ⟨g, 0, none⟩) 1 1 [0] 3 4 4 false w h (by omega) (by omega))
  have RL := hid (fun ao c w h => rput_any ao 5 c ([0] ++ putN 3 4 false) s.pn 4 4 false w h (by omega) (by omega))
  have HP3 := hid hp
  have XW := hid ((Bx.new w s).keep (show Below (w.alloc (.cells #[.int .i64 (s).k, .slice (s).xo (s).xn (s).xc, .slice (s).po (s).pn (s).pc] 39)).heap.size (w.alloc (.cells #[.int .i64 (s).k, .slice (s).xo (s).xn (s).xc, .slice (s).po (s).pn (s).pc] 39)) ((w.alloc (.cells #[.int .i64 (s).k, .slice (s).xo (s).xn (s).xc, .slice (s).po (s).pn (s).pc] 39)).alloc (.cells #[.int .u8 0] 5)) from (ext1 _)))
  obtain ⟨x0, x1, x2⟩ := XW.out.cells
  have RDW := hid (show Rd ((w.alloc (.cells #[.int .i64 (s).k, .slice (s).xo (s).xn (s).xc, .slice (s).po (s).pn (s).pc] 39)).alloc (.cells #[.int .u8 0] 5)) (some ⟨(w.heap.size + 1), 0, none⟩) 1 1 [0] by have h := rd_one (w.alloc (.cells #[.int .i64 (s).k, .slice (s).xo (s).xn (s).xc, .slice (s).po (s).pn (s).pc] 39)) 0; simp only [World.size_alloc] at h; exact h)
  have BW := hid (show Below w.heap.size w ((w.alloc (.cells #[.int .i64 (s).k, .slice (s).xo (s).xn (s).xc, .slice (s).po (s).pn (s).pc] 39)).alloc (.cells #[.int .u8 0] 5)) from gt (ext1 _) (ext1 _))
  replace x0 := x0.trans (Enc.kI hk)
  have HK := hid hk
  have t1 := hid True.intro
  have t2 := hid True.intro
  clear hk hS hp hB
  go_enter Tryz.func92, Tryz.ntmps92
  go_wp2_with (first
    | (go_at_call 38; clear t1; refine (RK.out _ _ RDW.out).mono ?_; rintro e w2 ⟨v2, rfl, o2, b2⟩; obtain ⟨a2, c2, rfl⟩ := row_form o2; have O2 := hid o2; have H2 := hid b2; have X2 := hid (XW.out.keep b2); obtain ⟨x0, x1, x2⟩ := X2.out.cells; replace x0 := x0.trans (Enc.kI HK.out); have R2 := hid (rd_at o2); clear o2 b2)
    | (go_at_call 38; clear t2; refine (RL.out _ _ _ R2.out).mono ?_; rintro e w3 ⟨v3, rfl, o3, b3⟩; obtain ⟨a3, c3, rfl⟩ := row_form o3; have O3 := hid o3; have H3 := hid b3; have X3 := hid (X2.out.keep b3); obtain ⟨x0, x1, x2⟩ := X3.out.cells; replace x0 := x0.trans (Enc.kI HK.out); clear o3 b3))
  have e3 := H3.out.size
  have e2 := H2.out.size
  have eW := BW.out.size
  go_loopw [5, 59] (RqI w false s (([0] ++ putN 3 4 false) ++ putN s.pn 4 false) w.heap.size) (fun _ c _ => s.pn - (intOf c).toNat)
  case atStart => exact ⟨0, 9, a3, c3, by omega, rfl, rfl, hid (by simpa [bytesI] using own_base (B' := w.heap.size + 1) O3.out (by simp at e2; omega)), hid (BW.out.trans ((H2.out.mono eW).trans (H3.out.mono (by omega)))), X3⟩
  case round =>
    obtain ⟨i, n, ao, cap, hi, rfl, rfl, ho, hb, hx⟩ := hrel
    clear x0 x1 x2
    obtain ⟨x0, -, -⟩ := hx.out.cells
    replace x0 := x0.trans (Enc.kI HK.out)
    by_cases hlt : i < s.pn
    · obtain ⟨p, hp⟩ : ∃ p, s.ps[i]? = some p := ⟨_, List.getElem?_eq_getElem (by rw [HS.out.pl]; exact hlt)⟩
      obtain ⟨b, off, hpo, hSb, hat⟩ := HS.out.pr.resolve_left (by intro e; rw [e] at hp; simp at hp)
      obtain ⟨z0, z1, z2⟩ := (hat i p hp).of (hb.out.block b hSb)
      have HP := hid hp
      have HT := hid (Enc.size_take (fun p : Sh => p.t.items false) s.ps i p hp)
      have hn : n ≤ 300000 := by
        have h1 := ho.out.1
        rw [bs_length, List.length_append, bytesI_length] at h1
        have h2 := HT.out; have h3 := HB.out
        simp only [List.length_append, putN_length, List.length_cons, List.length_nil] at h1
        omega
      have hz := hb.out.size
      have XA := hid (hx.out.keep (ext1 (.cells #[.int .i64 (p).k, .slice (p).xo (p).xn (p).xc, .slice (p).po (p).pn (p).pc] 39)))
      obtain ⟨y0, -, -⟩ := XA.out.cells
      replace y0 := y0.trans (Enc.kI HK.out)
      have PB := hid (Bx.new wr p)
      obtain ⟨p0, p1, p2⟩ := PB.out.cells
      have RA := hid ((rd_at ho.out).keep (ext1 (.cells #[.int .i64 (p).k, .slice (p).xo (p).xn (p).xc, .slice (p).po (p).pn (p).pc] 39)))
      have OA := hid (own_below ho.out (ext1 (.cells #[.int .i64 (p).k, .slice (p).xo (p).xn (p).xc, .slice (p).po (p).pn (p).pc] 39)))
      obtain ⟨hp0, hpH⟩ := HP3.out p (List.mem_of_getElem? hp)
      have hxn : p.xn ≤ 1000000 := by
        have h1 := Nat.le_trans (Nat.le_trans (Nat.le_add_left _ _) HT.out) HB.out
        have h3 : sizeI (p.t.items false) = 4 + 16 * p.xy.length := by rw [ring_items false p.t (by rw [t_k, hp0]), sizeI_cons, sizeI_pts, t_xy]
        have h4 := hpH.xl
        omega
      have RPP := hid (rpoints_call (fun b => b < w.heap.size) ao n cap _ p.xo p.xn p.xc p.xy false _ RA.out (by omega) hxn hpH.xl (hpH.xr.of fun b hb' => ⟨(hb.out.trans ((ext1 (.cells #[.int .i64 (p).k, .slice (p).xo (p).xn (p).xc, .slice (p).po (p).pn (p).pc] 39)).mono hz)).block b hb', hb'⟩) (fun b hb' => by simp; omega))
      have EP := hid (show p.t.items false = (p.xn, 4) :: p.xy.flatMap ptI by rw [ring_items false p.t (by rw [t_k, hp0]), t_xy, hpH.xl])
      rw [hpo] at *
      clear hat hp hpo hp0 hpH hi
      go_wp2_with (go_at_call 120; refine RPP.out.mono ?_; rintro e w5 ⟨v5, m5, rfl, o5, b5⟩; obtain ⟨a5, c5, rfl⟩ := row_form o5; have O5 := hid o5; have H5 := hid b5; have M5 := hid (show m5 = m5 from rfl); clear o5 b5)
      go_roundw
      case measure => simp [intOf]; omega
      case rel =>
        refine ⟨i + 1, m5, a5, c5, by omega, by go_num, rfl, hid ?_, hid (hb.out.trans (((ext1 (.cells #[.int .i64 (p).k, .slice (p).xo (p).xn (p).xc, .slice (p).po (p).pn (p).pc] 39)).mono hz).trans (H5.out.mono (by simp; omega)))), hid (XA.out.keep H5.out)⟩
        rw [Enc.take_flat (fun p : Sh => p.t.items false) s.ps i p HP.out, bytesI_append, ← List.append_assoc, EP.out]
        exact own_base O5.out (by simp; omega)
    · obtain rfl : i = s.pn := by omega
      have hfin : s.ps.take s.pn = s.ps := by rw [← HS.out.pl]; simp
      rw [hfin] at ho
      go_wp2
      go_ret
      exact ⟨_, _, rfl, own_base ho.out (by omega), hb.out⟩

set_option maxRecDepth 100000 in
set_option maxHeartbeats 4000000 in
theorem rput_parts_false_n (s : Sh) (hk : s.k ≠ 1 ∧ s.k ≠ 2 ∧ s.k ≠ 3) (w : World) (hS : Here (fun b => b < w.heap.size) w s) (ih : ∀ p ∈ s.ps, ∀ W : World, Below w.heap.size w W → Calls Tryz.prog 92 #[.agg #[.int .i64 (p).k, .slice (p).xo (p).xn (p).xc, .slice (p).po (p).pn (p).pc], .bool false] W fun e w' => ∃ r m, e = .returned r ∧ w'.ownsRow W.heap.size 5 1 r m (bs (bytesI false (p.t.items false))) ∧ Below W.heap.size W w') (hB : sizeI (s.ps.flatMap fun p => p.t.items false) ≤ 200000) :
    Calls Tryz.prog 92 #[.agg #[.int .i64 (s).k, .slice (s).xo (s).xn (s).xc, .slice (s).po (s).pn (s).pc], .bool false] w fun e w' => ∃ r m, e = .returned r ∧ w'.ownsRow w.heap.size 5 1 r m (bs ((([0] ++ putN (U s.k) 4 false) ++ putN s.pn 4 false) ++ bytesI false (s.ps.flatMap fun p => p.t.items false))) ∧ Below w.heap.size w w' := by
  have HS := hid hS
  have HB := hid hB
  have pb := hS.pb
  have pw := Enc.wrapN s.pn (by omega)
  have uw := Enc.wrapU s.k
  have ul := U_lt s.k
  generalize U s.k = uu at *
  have RK := hid (show ∀ (g : Nat) (w : World), Rd w (some ⟨g, 0, none⟩) 1 1 [0] → Calls Tryz.prog 38 #[.slice (some ⟨g, 0, none⟩) 1 1, .int .u64 (uu : Int), .int .i64 4, .bool false] w fun e w' => ∃ r, e = .returned r ∧ w'.ownsRow w.heap.size 5 1 r 5 (bs ([0] ++ putN uu 4 false)) ∧ Below w.heap.size w w' from fun g w h => rput_any (some ⟨g, 0, none⟩) 1 1 [0] uu 4 4 false w h (by omega) (by omega))
  have RL := hid (fun ao c w h => rput_any ao 5 c ([0] ++ putN uu 4 false) s.pn 4 4 false w h (by omega) (by omega))
  have IH := hid ih
  have n1 : (s.k == 1) = false := by simp [hk.1]
  have n2 : (s.k == 2) = false := by simp [hk.2.1]
  have n3 : (s.k == 3) = false := by simp [hk.2.2]
  have XW := hid ((Bx.new w s).keep (show Below (w.alloc (.cells #[.int .i64 (s).k, .slice (s).xo (s).xn (s).xc, .slice (s).po (s).pn (s).pc] 39)).heap.size (w.alloc (.cells #[.int .i64 (s).k, .slice (s).xo (s).xn (s).xc, .slice (s).po (s).pn (s).pc] 39)) ((w.alloc (.cells #[.int .i64 (s).k, .slice (s).xo (s).xn (s).xc, .slice (s).po (s).pn (s).pc] 39)).alloc (.cells #[.int .u8 0] 5)) from (ext1 _)))
  obtain ⟨x0, x1, x2⟩ := XW.out.cells
  have RDW := hid (show Rd ((w.alloc (.cells #[.int .i64 (s).k, .slice (s).xo (s).xn (s).xc, .slice (s).po (s).pn (s).pc] 39)).alloc (.cells #[.int .u8 0] 5)) (some ⟨(w.heap.size + 1), 0, none⟩) 1 1 [0] by have h := rd_one (w.alloc (.cells #[.int .i64 (s).k, .slice (s).xo (s).xn (s).xc, .slice (s).po (s).pn (s).pc] 39)) 0; simp only [World.size_alloc] at h; exact h)
  have BW := hid (show Below w.heap.size w ((w.alloc (.cells #[.int .i64 (s).k, .slice (s).xo (s).xn (s).xc, .slice (s).po (s).pn (s).pc] 39)).alloc (.cells #[.int .u8 0] 5)) from gt (ext1 _) (ext1 _))

  skip
  have t1 := hid True.intro
  have t2 := hid True.intro
  clear hk hS ih hB
  go_enter Tryz.func92, Tryz.ntmps92
  go_wp2_with (first
    | (go_at_call 38; clear t1; refine (RK.out _ _ RDW.out).mono ?_; rintro e w2 ⟨v2, rfl, o2, b2⟩; obtain ⟨a2, c2, rfl⟩ := row_form o2; have O2 := hid o2; have H2 := hid b2; have X2 := hid (XW.out.keep b2); obtain ⟨x0, x1, x2⟩ := X2.out.cells; skip; have R2 := hid (rd_at o2); clear o2 b2)
    | (go_at_call 38; clear t2; refine (RL.out _ _ _ R2.out).mono ?_; rintro e w3 ⟨v3, rfl, o3, b3⟩; obtain ⟨a3, c3, rfl⟩ := row_form o3; have O3 := hid o3; have H3 := hid b3; have X3 := hid (X2.out.keep b3); obtain ⟨x0, x1, x2⟩ := X3.out.cells; skip; clear o3 b3))
  have e3 := H3.out.size
  have e2 := H2.out.size
  have eW := BW.out.size
  go_loopw [5, 59] (RqI w false s (([0] ++ putN uu 4 false) ++ putN s.pn 4 false) w.heap.size) (fun _ c _ => s.pn - (intOf c).toNat)
  case atStart => exact ⟨0, 9, a3, c3, by omega, rfl, rfl, hid (by simpa [bytesI] using own_base (B' := w.heap.size + 1) O3.out (by simp at e2; omega)), hid (BW.out.trans ((H2.out.mono eW).trans (H3.out.mono (by omega)))), X3⟩
  case round =>
    obtain ⟨i, n, ao, cap, hi, rfl, rfl, ho, hb, hx⟩ := hrel
    clear x0 x1 x2
    obtain ⟨x0, -, -⟩ := hx.out.cells
    skip
    by_cases hlt : i < s.pn
    · obtain ⟨p, hp⟩ : ∃ p, s.ps[i]? = some p := ⟨_, List.getElem?_eq_getElem (by rw [HS.out.pl]; exact hlt)⟩
      obtain ⟨b, off, hpo, hSb, hat⟩ := HS.out.pr.resolve_left (by intro e; rw [e] at hp; simp at hp)
      obtain ⟨z0, z1, z2⟩ := (hat i p hp).of (hb.out.block b hSb)
      have HP := hid hp
      have HT := hid (Enc.size_take (fun p : Sh => p.t.items false) s.ps i p hp)
      have hn : n ≤ 300000 := by
        have h1 := ho.out.1
        rw [bs_length, List.length_append, bytesI_length] at h1
        have h2 := HT.out; have h3 := HB.out
        simp only [List.length_append, putN_length, List.length_cons, List.length_nil] at h1
        omega
      have hz := hb.out.size
      have XA := hid (hx.out.keep (ext1 (.cells #[.int .i64 (p).k, .slice (p).xo (p).xn (p).xc, .slice (p).po (p).pn (p).pc] 39)))
      obtain ⟨y0, -, -⟩ := XA.out.cells
      skip
      have PB := hid (Bx.new wr p)
      obtain ⟨p0, p1, p2⟩ := PB.out.cells
      have RA := hid ((rd_at ho.out).keep (ext1 (.cells #[.int .i64 (p).k, .slice (p).xo (p).xn (p).xc, .slice (p).po (p).pn (p).pc] 39)))
      have OA := hid (own_below ho.out (ext1 (.cells #[.int .i64 (p).k, .slice (p).xo (p).xn (p).xc, .slice (p).po (p).pn (p).pc] 39)))
      have hsz : sizeI (p.t.items false) ≤ 200000 := Nat.le_trans (Nat.le_trans (Nat.le_add_left _ _) HT.out) HB.out
      have IP := hid (IH.out p (List.mem_of_getElem? hp) _ (hb.out.trans ((ext1 (.cells #[.int .i64 (p).k, .slice (p).xo (p).xn (p).xc, .slice (p).po (p).pn (p).pc] 39)).mono hz)))
      rw [hpo] at *
      clear hat hp hpo hi
      go_wp2_with (first
        | (go_at_call 92; refine IP.out.mono ?_; rintro e w5 ⟨v5, m5, rfl, o5, b5⟩; obtain ⟨a5, c5, rfl⟩ := row_form o5; have R5 := hid (rd_at o5); have H5 := hid b5; have OB := hid (own_below OA.out b5); have m5l := o5.1; rw [bs_length, bytesI_length] at m5l; have e5 := H5.out.size; simp only [World.size_alloc] at e5; clear o5 b5)
        | (at_builtin; refine wpList_append_rd rfl (.tmp 71) (.tmp 74) rfl (w.heap.size + 1) _ n _ rfl OB.out a5 m5 c5 _ rfl R5.out (by omega) (by omega) ?_; intro v6 w6 o6 b6; obtain ⟨a6, c6, rfl⟩ := row_form o6; have O6 := hid o6; have B6 := hid b6; clear o6 b6))
      go_roundw
      case measure => simp [intOf]; omega
      case rel =>
        have hbb : Below w.heap.size w w5 := hb.out.trans (((ext1 (.cells #[.int .i64 (p).k, .slice (p).xo (p).xn (p).xc, .slice (p).po (p).pn (p).pc] 39)).mono hz).trans (H5.out.mono (by simp; omega)))
        refine ⟨i + 1, n + m5, a6, c6, by omega, by go_num, rfl, hid ?_, hid (hbb.trans (B6.out.mono (by omega))), hid ((B6.out.block _ (by omega)).trans (XA.out.keep H5.out))⟩
        rw [Enc.take_flat (fun p : Sh => p.t.items false) s.ps i p HP.out, bytesI_append, ← List.append_assoc]
        exact O6.out
    · obtain rfl : i = s.pn := by omega
      have hfin : s.ps.take s.pn = s.ps := by rw [← HS.out.pl]; simp
      rw [hfin] at ho
      go_wp2
      go_ret
      exact ⟨_, _, rfl, own_base ho.out (by omega), hb.out⟩

set_option maxRecDepth 100000 in
set_option maxHeartbeats 4000000 in
theorem rput_point_true_nil (s : Sh) (hk : s.k = 1) (w : World) (hS : Here (fun b => b < w.heap.size) w s) (hx : s.xy = []) :
    Calls Tryz.prog 92 #[.agg #[.int .i64 (s).k, .slice (s).xo (s).xn (s).xc, .slice (s).po (s).pn (s).pc], .bool true] w fun e w' => ∃ r m, e = .returned r ∧ w'.ownsRow w.heap.size 5 1 r m (bs (([1] ++ putN 1 4 true) ++ (putN 9223372036854775808 8 true ++ putN 9223372036854775808 8 true))) ∧ Below w.heap.size w w' := by
  have RK := hid (show ∀ (g : Nat) (w : World), Rd w (some ⟨g, 0, none⟩) 1 1 [1] → Calls Tryz.prog 38 #[.slice (some ⟨g, 0, none⟩) 1 1, .int .u64 1, .int .i64 4, .bool true] w fun e w' => ∃ r, e = .returned r ∧ w'.ownsRow w.heap.size 5 1 r 5 (bs ([1] ++ putN 1 4 true)) ∧ Below w.heap.size w w' from fun g w h => rput_any (some ⟨g, 0, none⟩) 1 1 [1] 1 4 4 true w h (by omega) (by omega))
  have RP1 := hid (show ∀ (ao : Option Addr) (c : Nat) (w : World), Rd w ao 5 c ([1] ++ putN 1 4 true) → Calls Tryz.prog 38 #[.slice ao 5 c, .int .u64 9223372036854775808, .int .i64 8, .bool true] w fun e w' => ∃ r, e = .returned r ∧ w'.ownsRow w.heap.size 5 1 r 13 (bs (([1] ++ putN 1 4 true) ++ putN 9223372036854775808 8 true)) ∧ Below w.heap.size w w' from fun ao c w h => rput_any ao 5 c _ 9223372036854775808 8 8 true w h (by omega) (by omega))
  have RP2 := hid (show ∀ (ao : Option Addr) (c : Nat) (w : World), Rd w ao 13 c (([1] ++ putN 1 4 true) ++ putN 9223372036854775808 8 true) → Calls Tryz.prog 38 #[.slice ao 13 c, .int .u64 9223372036854775808, .int .i64 8, .bool true] w fun e w' => ∃ r, e = .returned r ∧ w'.ownsRow w.heap.size 5 1 r 21 (bs ((([1] ++ putN 1 4 true) ++ putN 9223372036854775808 8 true) ++ putN 9223372036854775808 8 true)) ∧ Below w.heap.size w w' from fun ao c w h => rput_any ao 13 c _ 9223372036854775808 8 8 true w h (by omega) (by omega))
  have xz : s.xn = 0 := by rw [← hS.xl, hx]; rfl
  have HX0 := hid (show (Value.slice s.xo s.xn s.xc) = .slice s.xo 0 s.xc by rw [xz])
  have XW := hid ((Bx.new w s).keep (show Below (w.alloc (.cells #[.int .i64 (s).k, .slice (s).xo (s).xn (s).xc, .slice (s).po (s).pn (s).pc] 39)).heap.size (w.alloc (.cells #[.int .i64 (s).k, .slice (s).xo (s).xn (s).xc, .slice (s).po (s).pn (s).pc] 39)) (((w.alloc (.cells #[.int .i64 (s).k, .slice (s).xo (s).xn (s).xc, .slice (s).po (s).pn (s).pc] 39)).alloc (.cells #[.int .u8 0] 5)).alloc (.cells #[.int .u8 1] 5)) from (gt (ext1 _) (ext1 _))))
  obtain ⟨x0, x1, x2⟩ := XW.out.cells
  have RDW := hid (show Rd (((w.alloc (.cells #[.int .i64 (s).k, .slice (s).xo (s).xn (s).xc, .slice (s).po (s).pn (s).pc] 39)).alloc (.cells #[.int .u8 0] 5)).alloc (.cells #[.int .u8 1] 5)) (some ⟨(w.heap.size + 1 + 1), 0, none⟩) 1 1 [1] by have h := rd_one ((w.alloc (.cells #[.int .i64 (s).k, .slice (s).xo (s).xn (s).xc, .slice (s).po (s).pn (s).pc] 39)).alloc (.cells #[.int .u8 0] 5)) 1; simp only [World.size_alloc] at h; exact h)
  have BW := hid (show Below w.heap.size w (((w.alloc (.cells #[.int .i64 (s).k, .slice (s).xo (s).xn (s).xc, .slice (s).po (s).pn (s).pc] 39)).alloc (.cells #[.int .u8 0] 5)).alloc (.cells #[.int .u8 1] 5)) from gt (ext1 _) (gt (ext1 _) (ext1 _)))
  replace x0 := x0.trans (Enc.kI hk)
  replace x1 := x1.trans (kS HX0.out)
  have HK := hid hk
  have t1 := hid True.intro
  clear hk hS hx xz
  go_enter Tryz.func92, Tryz.ntmps92
  go_wp2_with (first
    | (go_at_call 38; clear t1; refine (RK.out _ _ RDW.out).mono ?_; rintro e w2 ⟨v2, rfl, o2, b2⟩; obtain ⟨a2, c2, rfl⟩ := row_form o2; have O2 := hid o2; have H2 := hid b2; have X2 := hid (XW.out.keep b2); have X3 := hid (X2.out.keep (ext1 (.cells #[.int .i64 (-9223372036854775808), .int .i64 (-9223372036854775808)] 25))); obtain ⟨x0, x1, x2⟩ := X2.out.cells; obtain ⟨-, y1, y2⟩ := X3.out.cells; replace y1 := y1.trans (kS HX0.out); replace x0 := x0.trans (Enc.kI HK.out); replace x1 := x1.trans (kS HX0.out); have R2 := hid (rd_at o2); clear o2 b2))
  have PB := hid (Bo.new w2 #[.int .i64 (-9223372036854775808), .int .i64 (-9223372036854775808)] 25)
  have pc0 := PB.out.cell 0 _ rfl
  have pc1 := PB.out.cell 1 _ rfl
  have RR := hid (R2.out.keep (ext1 (.cells #[.int .i64 (-9223372036854775808), .int .i64 (-9223372036854775808)] 25)))
  refine wp_region_K (S := (fun W : World => W.cell? ⟨w2.heap.size, 0, none⟩ = some (.int .i64 (-9223372036854775808)) ∧ W.cell? ⟨w2.heap.size, 1, none⟩ = some (.int .i64 (-9223372036854775808)))) (fun _ => false) (by kernel_rfl) (by exact ⟨pc0, pc1⟩) (fun hHeld => ?_)
  refine gkp 0 ?_
  refine gkp 1 ?_
  refine gkt 2 ?_ (h := by intro W hSw; obtain ⟨r0, r1⟩ := hSw; go_simp; first | done | with_reducible rfl)
  refine gkt 3 ?_ (h := by intro W hSw; obtain ⟨r0, r1⟩ := hSw; go_simp; first | done | with_reducible rfl)
  refine gkp 4 ?_
  refine gkp 6 ?_
  refine gkt 7 ?_ (h := by intro W hSw; obtain ⟨r0, r1⟩ := hSw; go_simp; first | done | with_reducible rfl)
  refine gkt 8 ?_ (h := by intro W hSw; obtain ⟨r0, r1⟩ := hSw; go_simp; first | done | with_reducible rfl)
  refine gkp 9 ?_
  refine gk1 5 (fun K hK => ?_)
  go_simp
  go_at_call 38; refine (RP1.out _ _ _ (RR.out.keep (Below.refl _ _).drew)).mono ?_; rintro e w6 ⟨v6, rfl, o6, b6⟩; obtain ⟨a6, m6, rfl⟩ := row_form o6; have O6 := hid o6; have H6 := hid (undrew b6); have hR : (fun W : World => W.cell? ⟨w2.heap.size, 0, none⟩ = some (.int .i64 (-9223372036854775808)) ∧ W.cell? ⟨w2.heap.size, 1, none⟩ = some (.int .i64 (-9223372036854775808))) w6 := ⟨keep_old H6.out hHeld.1, keep_old H6.out hHeld.2⟩; clear o6 b6
  refine hK.out _ _ hR (fun hHeld => ?_)
  clear hK K hR
  (try simp only [Act.put, sA, sZ, sS])
  obtain ⟨a6', m6', e6, rd6⟩ := rd_owned O6.out
  obtain ⟨rfl, rfl⟩ : a6 = a6' ∧ m6 = m6' := by simp at e6; exact ⟨e6.1, e6.2⟩
  have RD6 := hid rd6
  clear e6 rd6
  refine gk1 10 (fun K hK => ?_)
  go_simp
  go_at_call 38; refine (RP2.out _ _ _ RD6.out).mono ?_; rintro e w7 ⟨v7, rfl, o7, b7⟩; obtain ⟨a7, m7, rfl⟩ := row_form o7; have O7 := hid o7; have H7 := hid b7; have hR : (fun W : World => W.cell? ⟨w2.heap.size, 0, none⟩ = some (.int .i64 (-9223372036854775808)) ∧ W.cell? ⟨w2.heap.size, 1, none⟩ = some (.int .i64 (-9223372036854775808))) w7 := ⟨keep_old H7.out hHeld.1, keep_old H7.out hHeld.2⟩; clear o7 b7
  refine hK.out _ _ hR (fun hHeld => ?_)
  clear hK K hR
  (try simp only [Act.put, sA, sZ, sS])
  refine gkp 11 ?_
  refine wpAnyK_done (by kernel_rfl) ?_ _
  go_wp2
  go_ret
  have e6 := H6.out.size
  have e2 := H2.out.size
  have eW := BW.out.size
  simp only [World.size_alloc] at e6 e2 eW
  have o7 := O7.out
  simp only [List.append_assoc] at o7 ⊢
  exact ⟨_, _, rfl, own_base o7 (by omega), BW.out.trans ((H2.out.mono (by simp; omega)).trans (((ext1 _).mono (by omega)).trans ((H6.out.mono (by simp; omega)).trans (H7.out.mono (by omega)))))⟩

set_option maxRecDepth 100000 in
set_option maxHeartbeats 4000000 in
theorem rput_point_true_cons (s : Sh) (hk : s.k = 1) (w : World) (hS : Here (fun b => b < w.heap.size) w s) (p : Int × Int) (r : List (Int × Int)) (hx : s.xy = p :: r) :
    Calls Tryz.prog 92 #[.agg #[.int .i64 (s).k, .slice (s).xo (s).xn (s).xc, .slice (s).po (s).pn (s).pc], .bool true] w fun e w' => ∃ r m, e = .returned r ∧ w'.ownsRow w.heap.size 5 1 r m (bs (([1] ++ putN 1 4 true) ++ (putN (U p.1) 8 true ++ putN (U p.2) 8 true))) ∧ Below w.heap.size w w' := by
  have RK := hid (show ∀ (g : Nat) (w : World), Rd w (some ⟨g, 0, none⟩) 1 1 [1] → Calls Tryz.prog 38 #[.slice (some ⟨g, 0, none⟩) 1 1, .int .u64 1, .int .i64 4, .bool true] w fun e w' => ∃ r, e = .returned r ∧ w'.ownsRow w.heap.size 5 1 r 5 (bs ([1] ++ putN 1 4 true)) ∧ Below w.heap.size w w' from fun g w h => rput_any (some ⟨g, 0, none⟩) 1 1 [1] 1 4 4 true w h (by omega) (by omega))
  have RP1 := hid (fun ao c => rput_int 5 c ([1] ++ putN 1 4 true) p.1 8 (by omega) true (by omega) ao)
  have RP2 := hid (fun ao c => rput_int 13 c (([1] ++ putN 1 4 true) ++ putN (U p.1) 8 true) p.2 8 (by omega) true (by omega) ao)
  have xz : 0 < s.xn := by rw [← hS.xl, hx]; simp
  obtain ⟨b, off, hxo, hSb, hat⟩ := hS.xr.resolve_left (by rw [hx]; simp)
  obtain ⟨z0, z1⟩ := hat 0 p (by rw [hx]; rfl)
  simp only [Nat.zero_mul, Nat.add_zero] at z0 z1
  have Z0 := hid z0; have Z1 := hid z1
  have hI := hS.lenI.1
  have HX0 := hid (show (Value.slice s.xo s.xn s.xc) = .slice (some ⟨b, off, none⟩) s.xn s.xc by rw [hxo])
  have XW := hid ((Bx.new w s).keep (show Below (w.alloc (.cells #[.int .i64 (s).k, .slice (s).xo (s).xn (s).xc, .slice (s).po (s).pn (s).pc] 39)).heap.size (w.alloc (.cells #[.int .i64 (s).k, .slice (s).xo (s).xn (s).xc, .slice (s).po (s).pn (s).pc] 39)) (((w.alloc (.cells #[.int .i64 (s).k, .slice (s).xo (s).xn (s).xc, .slice (s).po (s).pn (s).pc] 39)).alloc (.cells #[.int .u8 0] 5)).alloc (.cells #[.int .u8 1] 5)) from (gt (ext1 _) (ext1 _))))
  obtain ⟨x0, x1, x2⟩ := XW.out.cells
  have RDW := hid (show Rd (((w.alloc (.cells #[.int .i64 (s).k, .slice (s).xo (s).xn (s).xc, .slice (s).po (s).pn (s).pc] 39)).alloc (.cells #[.int .u8 0] 5)).alloc (.cells #[.int .u8 1] 5)) (some ⟨(w.heap.size + 1 + 1), 0, none⟩) 1 1 [1] by have h := rd_one ((w.alloc (.cells #[.int .i64 (s).k, .slice (s).xo (s).xn (s).xc, .slice (s).po (s).pn (s).pc] 39)).alloc (.cells #[.int .u8 0] 5)) 1; simp only [World.size_alloc] at h; exact h)
  have BW := hid (show Below w.heap.size w (((w.alloc (.cells #[.int .i64 (s).k, .slice (s).xo (s).xn (s).xc, .slice (s).po (s).pn (s).pc] 39)).alloc (.cells #[.int .u8 0] 5)).alloc (.cells #[.int .u8 1] 5)) from gt (ext1 _) (gt (ext1 _) (ext1 _)))
  replace x0 := x0.trans (Enc.kI hk)
  replace x1 := x1.trans (kS HX0.out)
  have HK := hid hk
  have t1 := hid True.intro
  clear hk hS hx hat hxo hSb z0 z1
  go_enter Tryz.func92, Tryz.ntmps92
  go_wp2_with (first
    | (go_at_call 38; clear t1; refine (RK.out _ _ RDW.out).mono ?_; rintro e w2 ⟨v2, rfl, o2, b2⟩; obtain ⟨a2, c2, rfl⟩ := row_form o2; have O2 := hid o2; have H2 := hid b2; have X2 := hid (XW.out.keep b2); have X3 := hid (X2.out.keep (ext1 (.cells #[.int .i64 (-9223372036854775808), .int .i64 (-9223372036854775808)] 25))); obtain ⟨x0, x1, x2⟩ := X2.out.cells; obtain ⟨-, y1, y2⟩ := X3.out.cells; replace y1 := y1.trans (kS HX0.out); replace x0 := x0.trans (Enc.kI HK.out); replace x1 := x1.trans (kS HX0.out); have z0 := keep_old (ext1 (.cells #[.int .i64 (-9223372036854775808), .int .i64 (-9223372036854775808)] 25)) (keep_old (BW.out.trans (H2.out.mono BW.out.size)) Z0.out); have z1 := keep_old (ext1 (.cells #[.int .i64 (-9223372036854775808), .int .i64 (-9223372036854775808)] 25)) (keep_old (BW.out.trans (H2.out.mono BW.out.size)) Z1.out); have R2 := hid (rd_at o2); clear o2 b2))
  have PB := hid (Bo.new w2 #[.int .i64 p.1, .int .i64 p.2] 25)
  have pc0 := PB.out.cell 0 _ rfl
  have pc1 := PB.out.cell 1 _ rfl
  have RR := hid (R2.out.keep (ext1 (.cells #[.int .i64 p.1, .int .i64 p.2] 25)))
  refine wp_region_K (S := (fun W : World => W.cell? ⟨w2.heap.size, 0, none⟩ = some (.int .i64 p.1) ∧ W.cell? ⟨w2.heap.size, 1, none⟩ = some (.int .i64 p.2))) (fun _ => false) (by kernel_rfl) (by exact ⟨pc0, pc1⟩) (fun hHeld => ?_)
  refine gkp 0 ?_
  refine gkp 1 ?_
  refine gkt 2 ?_ (h := by intro W hSw; obtain ⟨r0, r1⟩ := hSw; go_simp; first | done | with_reducible rfl)
  refine gkt 3 ?_ (h := by intro W hSw; obtain ⟨r0, r1⟩ := hSw; go_simp; first | done | with_reducible rfl)
  refine gkp 4 ?_
  refine gkp 6 ?_
  refine gkt 7 ?_ (h := by intro W hSw; obtain ⟨r0, r1⟩ := hSw; go_simp; first | done | with_reducible rfl)
  refine gkt 8 ?_ (h := by intro W hSw; obtain ⟨r0, r1⟩ := hSw; go_simp; first | done | with_reducible rfl)
  refine gkp 9 ?_
  refine gk1 5 (fun K hK => ?_)
  go_simp
  go_at_call 38; refine (RP1.out _ _ _ (RR.out.keep (Below.refl _ _).drew)).mono ?_; rintro e w6 ⟨v6, rfl, o6, b6⟩; obtain ⟨a6, m6, rfl⟩ := row_form o6; have O6 := hid o6; have H6 := hid (undrew b6); have hR : (fun W : World => W.cell? ⟨w2.heap.size, 0, none⟩ = some (.int .i64 p.1) ∧ W.cell? ⟨w2.heap.size, 1, none⟩ = some (.int .i64 p.2)) w6 := ⟨keep_old H6.out hHeld.1, keep_old H6.out hHeld.2⟩; clear o6 b6
  refine hK.out _ _ hR (fun hHeld => ?_)
  clear hK K hR
  (try simp only [Act.put, sA, sZ, sS])
  obtain ⟨a6', m6', e6, rd6⟩ := rd_owned O6.out
  obtain ⟨rfl, rfl⟩ : a6 = a6' ∧ m6 = m6' := by simp at e6; exact ⟨e6.1, e6.2⟩
  have RD6 := hid rd6
  clear e6 rd6
  refine gk1 10 (fun K hK => ?_)
  go_simp
  go_at_call 38; refine (RP2.out _ _ _ RD6.out).mono ?_; rintro e w7 ⟨v7, rfl, o7, b7⟩; obtain ⟨a7, m7, rfl⟩ := row_form o7; have O7 := hid o7; have H7 := hid b7; have hR : (fun W : World => W.cell? ⟨w2.heap.size, 0, none⟩ = some (.int .i64 p.1) ∧ W.cell? ⟨w2.heap.size, 1, none⟩ = some (.int .i64 p.2)) w7 := ⟨keep_old H7.out hHeld.1, keep_old H7.out hHeld.2⟩; clear o7 b7
  refine hK.out _ _ hR (fun hHeld => ?_)
  clear hK K hR
  (try simp only [Act.put, sA, sZ, sS])
  refine gkp 11 ?_
  refine wpAnyK_done (by kernel_rfl) ?_ _
  go_wp2
  go_ret
  have e6 := H6.out.size
  have e2 := H2.out.size
  have eW := BW.out.size
  simp only [World.size_alloc] at e6 e2 eW
  have o7 := O7.out
  simp only [List.append_assoc] at o7 ⊢
  exact ⟨_, _, rfl, own_base o7 (by omega), BW.out.trans ((H2.out.mono (by simp; omega)).trans (((ext1 _).mono (by omega)).trans ((H6.out.mono (by simp; omega)).trans (H7.out.mono (by omega)))))⟩

set_option maxRecDepth 100000 in
set_option maxHeartbeats 4000000 in
theorem rput_line_true (s : Sh) (hk : s.k = 2) (w : World) (hS : Here (fun b => b < w.heap.size) w s) (hB : s.xn ≤ 1000000) :
    Calls Tryz.prog 92 #[.agg #[.int .i64 (s).k, .slice (s).xo (s).xn (s).xc, .slice (s).po (s).pn (s).pc], .bool true] w fun e w' => ∃ r m, e = .returned r ∧ w'.ownsRow w.heap.size 5 1 r m (bs (([1] ++ putN 2 4 true) ++ bytesI true ((s.xn, 4) :: s.xy.flatMap ptI))) ∧ Below w.heap.size w w' := by
  have RK := hid (show ∀ (g : Nat) (w : World), Rd w (some ⟨g, 0, none⟩) 1 1 [1] → Calls Tryz.prog 38 #[.slice (some ⟨g, 0, none⟩) 1 1, .int .u64 2, .int .i64 4, .bool true] w fun e w' => ∃ r, e = .returned r ∧ w'.ownsRow w.heap.size 5 1 r 5 (bs ([1] ++ putN 2 4 true)) ∧ Below w.heap.size w w' from fun g w h => rput_any (some ⟨g, 0, none⟩) 1 1 [1] 2 4 4 true w h (by omega) (by omega))
  have HS := hid hS
  have XW := hid ((Bx.new w s).keep (show Below (w.alloc (.cells #[.int .i64 (s).k, .slice (s).xo (s).xn (s).xc, .slice (s).po (s).pn (s).pc] 39)).heap.size (w.alloc (.cells #[.int .i64 (s).k, .slice (s).xo (s).xn (s).xc, .slice (s).po (s).pn (s).pc] 39)) (((w.alloc (.cells #[.int .i64 (s).k, .slice (s).xo (s).xn (s).xc, .slice (s).po (s).pn (s).pc] 39)).alloc (.cells #[.int .u8 0] 5)).alloc (.cells #[.int .u8 1] 5)) from (gt (ext1 _) (ext1 _))))
  obtain ⟨x0, x1, x2⟩ := XW.out.cells
  have RDW := hid (show Rd (((w.alloc (.cells #[.int .i64 (s).k, .slice (s).xo (s).xn (s).xc, .slice (s).po (s).pn (s).pc] 39)).alloc (.cells #[.int .u8 0] 5)).alloc (.cells #[.int .u8 1] 5)) (some ⟨(w.heap.size + 1 + 1), 0, none⟩) 1 1 [1] by have h := rd_one ((w.alloc (.cells #[.int .i64 (s).k, .slice (s).xo (s).xn (s).xc, .slice (s).po (s).pn (s).pc] 39)).alloc (.cells #[.int .u8 0] 5)) 1; simp only [World.size_alloc] at h; exact h)
  have BW := hid (show Below w.heap.size w (((w.alloc (.cells #[.int .i64 (s).k, .slice (s).xo (s).xn (s).xc, .slice (s).po (s).pn (s).pc] 39)).alloc (.cells #[.int .u8 0] 5)).alloc (.cells #[.int .u8 1] 5)) from gt (ext1 _) (gt (ext1 _) (ext1 _)))
  replace x0 := x0.trans (Enc.kI hk)
  have HK := hid hk
  have t1 := hid True.intro
  have RP := hid (fun (ao : Option Addr) (c : Nat) (W : World) (h : Rd W ao 5 c ([1] ++ putN 2 4 true)) (hb : Below w.heap.size w W) => rpoints_call (fun b => b < w.heap.size) ao 5 c _ s.xo s.xn s.xc s.xy true W h (by omega) hB hS.xl (hS.xr.of fun b hb' => ⟨hb.block b hb', hb'⟩) (fun b hb' => Nat.lt_of_lt_of_le hb' hb.size))
  clear hk hS
  go_enter Tryz.func92, Tryz.ntmps92
  go_wp2_with (first
    | (go_at_call 38; clear t1; refine (RK.out _ _ RDW.out).mono ?_; rintro e w2 ⟨v2, rfl, o2, b2⟩; obtain ⟨a2, c2, rfl⟩ := row_form o2; have O2 := hid o2; have H2 := hid b2; have X2 := hid (XW.out.keep b2); obtain ⟨x0, x1, x2⟩ := X2.out.cells; replace x0 := x0.trans (Enc.kI HK.out); have R2 := hid (rd_at o2); clear o2 b2)
    | (go_at_call 120; refine (RP.out _ _ _ R2.out (BW.out.trans (H2.out.mono BW.out.size))).mono ?_; rintro e w3 ⟨v3, m3, rfl, o3, b3⟩; have O3 := hid o3; have H3 := hid b3; clear o3 b3))
  go_ret
  have e2 := H2.out.size
  have eW := BW.out.size
  exact ⟨_, _, rfl, own_base O3.out (by omega), BW.out.trans ((H2.out.mono eW).trans (H3.out.mono (by omega)))⟩

set_option maxRecDepth 100000 in
set_option maxHeartbeats 4000000 in
theorem rput_parts_true_3 (s : Sh) (hk : s.k = 3) (w : World) (hS : Here (fun b => b < w.heap.size) w s) (hp : ∀ p ∈ s.ps, p.k = 0 ∧ Here (fun b => b < w.heap.size) w p) (hB : sizeI (s.ps.flatMap fun p => p.t.items true) ≤ 200000) :
    Calls Tryz.prog 92 #[.agg #[.int .i64 (s).k, .slice (s).xo (s).xn (s).xc, .slice (s).po (s).pn (s).pc], .bool true] w fun e w' => ∃ r m, e = .returned r ∧ w'.ownsRow w.heap.size 5 1 r m (bs ((([1] ++ putN 3 4 true) ++ putN s.pn 4 true) ++ bytesI true (s.ps.flatMap fun p => p.t.items true))) ∧ Below w.heap.size w w' := by
  have HS := hid hS
  have HB := hid hB
  have pb := hS.pb
  have pw := Enc.wrapN s.pn (by omega)
  have RK := hid (show ∀ (g : Nat) (w : World), Rd w (some ⟨g, 0, none⟩) 1 1 [1] → Calls Tryz.prog 38 #[.slice (some ⟨g, 0, none⟩) 1 1, .int .u64 3, .int .i64 4, .bool true] w fun e w' => ∃ r, e = .returned r ∧ w'.ownsRow w.heap.size 5 1 r 5 (bs ([1] ++ putN 3 4 true)) ∧ Below w.heap.size w w' from fun g w h => rput_any (some ⟨g, 0, none⟩) 1 1 [1] 3 4 4 true w h (by omega) (by omega))
  have RL := hid (fun ao c w h => rput_any ao 5 c ([1] ++ putN 3 4 true) s.pn 4 4 true w h (by omega) (by omega))
  have HP3 := hid hp
  have XW := hid ((Bx.new w s).keep (show Below (w.alloc (.cells #[.int .i64 (s).k, .slice (s).xo (s).xn (s).xc, .slice (s).po (s).pn (s).pc] 39)).heap.size (w.alloc (.cells #[.int .i64 (s).k, .slice (s).xo (s).xn (s).xc, .slice (s).po (s).pn (s).pc] 39)) (((w.alloc (.cells #[.int .i64 (s).k, .slice (s).xo (s).xn (s).xc, .slice (s).po (s).pn (s).pc] 39)).alloc (.cells #[.int .u8 0] 5)).alloc (.cells #[.int .u8 1] 5)) from (gt (ext1 _) (ext1 _))))
  obtain ⟨x0, x1, x2⟩ := XW.out.cells
  have RDW := hid (show Rd (((w.alloc (.cells #[.int .i64 (s).k, .slice (s).xo (s).xn (s).xc, .slice (s).po (s).pn (s).pc] 39)).alloc (.cells #[.int .u8 0] 5)).alloc (.cells #[.int .u8 1] 5)) (some ⟨(w.heap.size + 1 + 1), 0, none⟩) 1 1 [1] by have h := rd_one ((w.alloc (.cells #[.int .i64 (s).k, .slice (s).xo (s).xn (s).xc, .slice (s).po (s).pn (s).pc] 39)).alloc (.cells #[.int .u8 0] 5)) 1; simp only [World.size_alloc] at h; exact h)
  have BW := hid (show Below w.heap.size w (((w.alloc (.cells #[.int .i64 (s).k, .slice (s).xo (s).xn (s).xc, .slice (s).po (s).pn (s).pc] 39)).alloc (.cells #[.int .u8 0] 5)).alloc (.cells #[.int .u8 1] 5)) from gt (ext1 _) (gt (ext1 _) (ext1 _)))
  replace x0 := x0.trans (Enc.kI hk)
  have HK := hid hk
  have t1 := hid True.intro
  have t2 := hid True.intro
  clear hk hS hp hB
  go_enter Tryz.func92, Tryz.ntmps92
  go_wp2_with (first
    | (go_at_call 38; clear t1; refine (RK.out _ _ RDW.out).mono ?_; rintro e w2 ⟨v2, rfl, o2, b2⟩; obtain ⟨a2, c2, rfl⟩ := row_form o2; have O2 := hid o2; have H2 := hid b2; have X2 := hid (XW.out.keep b2); obtain ⟨x0, x1, x2⟩ := X2.out.cells; replace x0 := x0.trans (Enc.kI HK.out); have R2 := hid (rd_at o2); clear o2 b2)
    | (go_at_call 38; clear t2; refine (RL.out _ _ _ R2.out).mono ?_; rintro e w3 ⟨v3, rfl, o3, b3⟩; obtain ⟨a3, c3, rfl⟩ := row_form o3; have O3 := hid o3; have H3 := hid b3; have X3 := hid (X2.out.keep b3); obtain ⟨x0, x1, x2⟩ := X3.out.cells; replace x0 := x0.trans (Enc.kI HK.out); clear o3 b3))
  have e3 := H3.out.size
  have e2 := H2.out.size
  have eW := BW.out.size
  go_loopw [5, 59] (RqI w true s (([1] ++ putN 3 4 true) ++ putN s.pn 4 true) w.heap.size) (fun _ c _ => s.pn - (intOf c).toNat)
  case atStart => exact ⟨0, 9, a3, c3, by omega, rfl, rfl, hid (by simpa [bytesI] using own_base (B' := w.heap.size + 1) O3.out (by simp at e2; omega)), hid (BW.out.trans ((H2.out.mono eW).trans (H3.out.mono (by omega)))), X3⟩
  case round =>
    obtain ⟨i, n, ao, cap, hi, rfl, rfl, ho, hb, hx⟩ := hrel
    clear x0 x1 x2
    obtain ⟨x0, -, -⟩ := hx.out.cells
    replace x0 := x0.trans (Enc.kI HK.out)
    by_cases hlt : i < s.pn
    · obtain ⟨p, hp⟩ : ∃ p, s.ps[i]? = some p := ⟨_, List.getElem?_eq_getElem (by rw [HS.out.pl]; exact hlt)⟩
      obtain ⟨b, off, hpo, hSb, hat⟩ := HS.out.pr.resolve_left (by intro e; rw [e] at hp; simp at hp)
      obtain ⟨z0, z1, z2⟩ := (hat i p hp).of (hb.out.block b hSb)
      have HP := hid hp
      have HT := hid (Enc.size_take (fun p : Sh => p.t.items true) s.ps i p hp)
      have hn : n ≤ 300000 := by
        have h1 := ho.out.1
        rw [bs_length, List.length_append, bytesI_length] at h1
        have h2 := HT.out; have h3 := HB.out
        simp only [List.length_append, putN_length, List.length_cons, List.length_nil] at h1
        omega
      have hz := hb.out.size
      have XA := hid (hx.out.keep (ext1 (.cells #[.int .i64 (p).k, .slice (p).xo (p).xn (p).xc, .slice (p).po (p).pn (p).pc] 39)))
      obtain ⟨y0, -, -⟩ := XA.out.cells
      replace y0 := y0.trans (Enc.kI HK.out)
      have PB := hid (Bx.new wr p)
      obtain ⟨p0, p1, p2⟩ := PB.out.cells
      have RA := hid ((rd_at ho.out).keep (ext1 (.cells #[.int .i64 (p).k, .slice (p).xo (p).xn (p).xc, .slice (p).po (p).pn (p).pc] 39)))
      have OA := hid (own_below ho.out (ext1 (.cells #[.int .i64 (p).k, .slice (p).xo (p).xn (p).xc, .slice (p).po (p).pn (p).pc] 39)))
      obtain ⟨hp0, hpH⟩ := HP3.out p (List.mem_of_getElem? hp)
      have hxn : p.xn ≤ 1000000 := by
        have h1 := Nat.le_trans (Nat.le_trans (Nat.le_add_left _ _) HT.out) HB.out
        have h3 : sizeI (p.t.items true) = 4 + 16 * p.xy.length := by rw [ring_items true p.t (by rw [t_k, hp0]), sizeI_cons, sizeI_pts, t_xy]
        have h4 := hpH.xl
        omega
      have RPP := hid (rpoints_call (fun b => b < w.heap.size) ao n cap _ p.xo p.xn p.xc p.xy true _ RA.out (by omega) hxn hpH.xl (hpH.xr.of fun b hb' => ⟨(hb.out.trans ((ext1 (.cells #[.int .i64 (p).k, .slice (p).xo (p).xn (p).xc, .slice (p).po (p).pn (p).pc] 39)).mono hz)).block b hb', hb'⟩) (fun b hb' => by simp; omega))
      have EP := hid (show p.t.items true = (p.xn, 4) :: p.xy.flatMap ptI by rw [ring_items true p.t (by rw [t_k, hp0]), t_xy, hpH.xl])
      rw [hpo] at *
      clear hat hp hpo hp0 hpH hi
      go_wp2_with (go_at_call 120; refine RPP.out.mono ?_; rintro e w5 ⟨v5, m5, rfl, o5, b5⟩; obtain ⟨a5, c5, rfl⟩ := row_form o5; have O5 := hid o5; have H5 := hid b5; have M5 := hid (show m5 = m5 from rfl); clear o5 b5)
      go_roundw
      case measure => simp [intOf]; omega
      case rel =>
        refine ⟨i + 1, m5, a5, c5, by omega, by go_num, rfl, hid ?_, hid (hb.out.trans (((ext1 (.cells #[.int .i64 (p).k, .slice (p).xo (p).xn (p).xc, .slice (p).po (p).pn (p).pc] 39)).mono hz).trans (H5.out.mono (by simp; omega)))), hid (XA.out.keep H5.out)⟩
        rw [Enc.take_flat (fun p : Sh => p.t.items true) s.ps i p HP.out, bytesI_append, ← List.append_assoc, EP.out]
        exact own_base O5.out (by simp; omega)
    · obtain rfl : i = s.pn := by omega
      have hfin : s.ps.take s.pn = s.ps := by rw [← HS.out.pl]; simp
      rw [hfin] at ho
      go_wp2
      go_ret
      exact ⟨_, _, rfl, own_base ho.out (by omega), hb.out⟩

set_option maxRecDepth 100000 in
set_option maxHeartbeats 4000000 in
theorem rput_parts_true_n (s : Sh) (hk : s.k ≠ 1 ∧ s.k ≠ 2 ∧ s.k ≠ 3) (w : World) (hS : Here (fun b => b < w.heap.size) w s) (ih : ∀ p ∈ s.ps, ∀ W : World, Below w.heap.size w W → Calls Tryz.prog 92 #[.agg #[.int .i64 (p).k, .slice (p).xo (p).xn (p).xc, .slice (p).po (p).pn (p).pc], .bool true] W fun e w' => ∃ r m, e = .returned r ∧ w'.ownsRow W.heap.size 5 1 r m (bs (bytesI true (p.t.items true))) ∧ Below W.heap.size W w') (hB : sizeI (s.ps.flatMap fun p => p.t.items true) ≤ 200000) :
    Calls Tryz.prog 92 #[.agg #[.int .i64 (s).k, .slice (s).xo (s).xn (s).xc, .slice (s).po (s).pn (s).pc], .bool true] w fun e w' => ∃ r m, e = .returned r ∧ w'.ownsRow w.heap.size 5 1 r m (bs ((([1] ++ putN (U s.k) 4 true) ++ putN s.pn 4 true) ++ bytesI true (s.ps.flatMap fun p => p.t.items true))) ∧ Below w.heap.size w w' := by
  have HS := hid hS
  have HB := hid hB
  have pb := hS.pb
  have pw := Enc.wrapN s.pn (by omega)
  have uw := Enc.wrapU s.k
  have ul := U_lt s.k
  generalize U s.k = uu at *
  have RK := hid (show ∀ (g : Nat) (w : World), Rd w (some ⟨g, 0, none⟩) 1 1 [1] → Calls Tryz.prog 38 #[.slice (some ⟨g, 0, none⟩) 1 1, .int .u64 (uu : Int), .int .i64 4, .bool true] w fun e w' => ∃ r, e = .returned r ∧ w'.ownsRow w.heap.size 5 1 r 5 (bs ([1] ++ putN uu 4 true)) ∧ Below w.heap.size w w' from fun g w h => rput_any (some ⟨g, 0, none⟩) 1 1 [1] uu 4 4 true w h (by omega) (by omega))
  have RL := hid (fun ao c w h => rput_any ao 5 c ([1] ++ putN uu 4 true) s.pn 4 4 true w h (by omega) (by omega))
  have IH := hid ih
  have n1 : (s.k == 1) = false := by simp [hk.1]
  have n2 : (s.k == 2) = false := by simp [hk.2.1]
  have n3 : (s.k == 3) = false := by simp [hk.2.2]
  have XW := hid ((Bx.new w s).keep (show Below (w.alloc (.cells #[.int .i64 (s).k, .slice (s).xo (s).xn (s).xc, .slice (s).po (s).pn (s).pc] 39)).heap.size (w.alloc (.cells #[.int .i64 (s).k, .slice (s).xo (s).xn (s).xc, .slice (s).po (s).pn (s).pc] 39)) (((w.alloc (.cells #[.int .i64 (s).k, .slice (s).xo (s).xn (s).xc, .slice (s).po (s).pn (s).pc] 39)).alloc (.cells #[.int .u8 0] 5)).alloc (.cells #[.int .u8 1] 5)) from (gt (ext1 _) (ext1 _))))
  obtain ⟨x0, x1, x2⟩ := XW.out.cells
  have RDW := hid (show Rd (((w.alloc (.cells #[.int .i64 (s).k, .slice (s).xo (s).xn (s).xc, .slice (s).po (s).pn (s).pc] 39)).alloc (.cells #[.int .u8 0] 5)).alloc (.cells #[.int .u8 1] 5)) (some ⟨(w.heap.size + 1 + 1), 0, none⟩) 1 1 [1] by have h := rd_one ((w.alloc (.cells #[.int .i64 (s).k, .slice (s).xo (s).xn (s).xc, .slice (s).po (s).pn (s).pc] 39)).alloc (.cells #[.int .u8 0] 5)) 1; simp only [World.size_alloc] at h; exact h)
  have BW := hid (show Below w.heap.size w (((w.alloc (.cells #[.int .i64 (s).k, .slice (s).xo (s).xn (s).xc, .slice (s).po (s).pn (s).pc] 39)).alloc (.cells #[.int .u8 0] 5)).alloc (.cells #[.int .u8 1] 5)) from gt (ext1 _) (gt (ext1 _) (ext1 _)))

  skip
  have t1 := hid True.intro
  have t2 := hid True.intro
  clear hk hS ih hB
  go_enter Tryz.func92, Tryz.ntmps92
  go_wp2_with (first
    | (go_at_call 38; clear t1; refine (RK.out _ _ RDW.out).mono ?_; rintro e w2 ⟨v2, rfl, o2, b2⟩; obtain ⟨a2, c2, rfl⟩ := row_form o2; have O2 := hid o2; have H2 := hid b2; have X2 := hid (XW.out.keep b2); obtain ⟨x0, x1, x2⟩ := X2.out.cells; skip; have R2 := hid (rd_at o2); clear o2 b2)
    | (go_at_call 38; clear t2; refine (RL.out _ _ _ R2.out).mono ?_; rintro e w3 ⟨v3, rfl, o3, b3⟩; obtain ⟨a3, c3, rfl⟩ := row_form o3; have O3 := hid o3; have H3 := hid b3; have X3 := hid (X2.out.keep b3); obtain ⟨x0, x1, x2⟩ := X3.out.cells; skip; clear o3 b3))
  have e3 := H3.out.size
  have e2 := H2.out.size
  have eW := BW.out.size
  go_loopw [5, 59] (RqI w true s (([1] ++ putN uu 4 true) ++ putN s.pn 4 true) w.heap.size) (fun _ c _ => s.pn - (intOf c).toNat)
  case atStart => exact ⟨0, 9, a3, c3, by omega, rfl, rfl, hid (by simpa [bytesI] using own_base (B' := w.heap.size + 1) O3.out (by simp at e2; omega)), hid (BW.out.trans ((H2.out.mono eW).trans (H3.out.mono (by omega)))), X3⟩
  case round =>
    obtain ⟨i, n, ao, cap, hi, rfl, rfl, ho, hb, hx⟩ := hrel
    clear x0 x1 x2
    obtain ⟨x0, -, -⟩ := hx.out.cells
    skip
    by_cases hlt : i < s.pn
    · obtain ⟨p, hp⟩ : ∃ p, s.ps[i]? = some p := ⟨_, List.getElem?_eq_getElem (by rw [HS.out.pl]; exact hlt)⟩
      obtain ⟨b, off, hpo, hSb, hat⟩ := HS.out.pr.resolve_left (by intro e; rw [e] at hp; simp at hp)
      obtain ⟨z0, z1, z2⟩ := (hat i p hp).of (hb.out.block b hSb)
      have HP := hid hp
      have HT := hid (Enc.size_take (fun p : Sh => p.t.items true) s.ps i p hp)
      have hn : n ≤ 300000 := by
        have h1 := ho.out.1
        rw [bs_length, List.length_append, bytesI_length] at h1
        have h2 := HT.out; have h3 := HB.out
        simp only [List.length_append, putN_length, List.length_cons, List.length_nil] at h1
        omega
      have hz := hb.out.size
      have XA := hid (hx.out.keep (ext1 (.cells #[.int .i64 (p).k, .slice (p).xo (p).xn (p).xc, .slice (p).po (p).pn (p).pc] 39)))
      obtain ⟨y0, -, -⟩ := XA.out.cells
      skip
      have PB := hid (Bx.new wr p)
      obtain ⟨p0, p1, p2⟩ := PB.out.cells
      have RA := hid ((rd_at ho.out).keep (ext1 (.cells #[.int .i64 (p).k, .slice (p).xo (p).xn (p).xc, .slice (p).po (p).pn (p).pc] 39)))
      have OA := hid (own_below ho.out (ext1 (.cells #[.int .i64 (p).k, .slice (p).xo (p).xn (p).xc, .slice (p).po (p).pn (p).pc] 39)))
      have hsz : sizeI (p.t.items true) ≤ 200000 := Nat.le_trans (Nat.le_trans (Nat.le_add_left _ _) HT.out) HB.out
      have IP := hid (IH.out p (List.mem_of_getElem? hp) _ (hb.out.trans ((ext1 (.cells #[.int .i64 (p).k, .slice (p).xo (p).xn (p).xc, .slice (p).po (p).pn (p).pc] 39)).mono hz)))
      rw [hpo] at *
      clear hat hp hpo hi
      go_wp2_with (first
        | (go_at_call 92; refine IP.out.mono ?_; rintro e w5 ⟨v5, m5, rfl, o5, b5⟩; obtain ⟨a5, c5, rfl⟩ := row_form o5; have R5 := hid (rd_at o5); have H5 := hid b5; have OB := hid (own_below OA.out b5); have m5l := o5.1; rw [bs_length, bytesI_length] at m5l; have e5 := H5.out.size; simp only [World.size_alloc] at e5; clear o5 b5)
        | (at_builtin; refine wpList_append_rd rfl (.tmp 71) (.tmp 74) rfl (w.heap.size + 1) _ n _ rfl OB.out a5 m5 c5 _ rfl R5.out (by omega) (by omega) ?_; intro v6 w6 o6 b6; obtain ⟨a6, c6, rfl⟩ := row_form o6; have O6 := hid o6; have B6 := hid b6; clear o6 b6))
      go_roundw
      case measure => simp [intOf]; omega
      case rel =>
        have hbb : Below w.heap.size w w5 := hb.out.trans (((ext1 (.cells #[.int .i64 (p).k, .slice (p).xo (p).xn (p).xc, .slice (p).po (p).pn (p).pc] 39)).mono hz).trans (H5.out.mono (by simp; omega)))
        refine ⟨i + 1, n + m5, a6, c6, by omega, by go_num, rfl, hid ?_, hid (hbb.trans (B6.out.mono (by omega))), hid ((B6.out.block _ (by omega)).trans (XA.out.keep H5.out))⟩
        rw [Enc.take_flat (fun p : Sh => p.t.items true) s.ps i p HP.out, bytesI_append, ← List.append_assoc]
        exact O6.out
    · obtain rfl : i = s.pn := by omega
      have hfin : s.ps.take s.pn = s.ps := by rw [← HS.out.pl]; simp
      rw [hfin] at ho
      go_wp2
      go_ret
      exact ⟨_, _, rfl, own_base ho.out (by omega), hb.out⟩
end Go.Proofs.YtpmfedimjjifaaaGreatDoor
