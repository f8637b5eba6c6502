/- Shapes are compared, as the document has it; no statement of the seat is proved here. -/
import Derived.Test.YtjieegnmofimkaaDoorBa
namespace Go.Proofs.YtjieegnmofimkaaDoor
open Go.RowKit Go.Maps

mutual
def eqS : Sh → Sh → Bool
  | .mk k _ _ _ xy _ _ _ ps, .mk k' _ _ _ xy' _ _ _ ps' => (k == k') && ((xy == xy') && eqL ps ps')
def eqL : List Sh → List Sh → Bool
  | [], [] => true
  | p :: r, q :: r' => eqS p q && eqL r r'
  | [], _ :: _ => false
  | _ :: _, [] => false
end
theorem eqS_eq (a b : Sh) : eqS a b = ((a.k == b.k) && ((a.xy == b.xy) && eqL a.ps b.ps)) := by cases a; cases b; rw [eqS]; rfl
theorem eqL_len : ∀ {a b : List Sh}, a.length ≠ b.length → eqL a b = false
  | [], [], h => absurd rfl h
  | p :: r, q :: r', h => by rw [eqL, eqL_len (a := r) (b := r') (by simpa using h), Bool.and_false]
  | [], _ :: _, _ => by rw [eqL]
  | _ :: _, [], _ => by rw [eqL]
theorem eqL_cons (p q : Sh) (r r' : List Sh) : eqL (p :: r) (q :: r') = (eqS p q && eqL r r') := by rw [eqL]
theorem eqL_nil : eqL [] [] = true := by rw [eqL]

def QxI (a b : Sh) (w : World) (c : Value) (W : World) : Prop := ∃ i : Nat, i ≤ a.xn ∧ c = .int .i64 (i : Int) ∧ Hid ((a.xy == b.xy) = (a.xy.drop i == b.xy.drop i)) ∧ Hid (Below w.heap.size w W) ∧ Hid (Bx W w.heap.size a) ∧ Hid (Bx W (w.heap.size + 1) b)
def QpI (a b : Sh) (w : World) (c : Value) (W : World) : Prop := ∃ i : Nat, i ≤ a.pn ∧ c = .int .i64 (i : Int) ∧ Hid (eqL a.ps b.ps = eqL (a.ps.drop i) (b.ps.drop i)) ∧ Hid (Below w.heap.size w W) ∧ Hid (Bx W w.heap.size a) ∧ Hid (Bx W (w.heap.size + 1) b)

set_option maxRecDepth 100000 in
set_option maxHeartbeats 8000000 in
theorem refEqual_call : ∀ (N : Nat) (a b : Sh), a.nodes.length ≤ N → ∀ (w : World), In (fun b => b < w.heap.size) w a → In (fun b => b < w.heap.size) w b →
    Calls Tryd.prog 18 #[.agg #[.int .i64 (a).k, .slice (a).xo (a).xn (a).xc, .slice (a).po (a).pn (a).pc], .agg #[.int .i64 (b).k, .slice (b).xo (b).xn (b).xc, .slice (b).po (b).pn (b).pc]] w fun e w' => e = .returned (.bool (eqS a b)) ∧ Below w.heap.size w w' := by
  intro N
  induction N with
  | zero => intro a b h; rw [nodes_eq] at h; simp at h
  | succ N ih =>
    intro a b ha w hA hB
    have IH := hid ih
    have HN := hid ha
    have HA := hid hA; have HB := hid hB
    have A1 := hid ((Bx.new w a).keep (ext1 (.cells #[.int .i64 (b).k, .slice (b).xo (b).xn (b).xc, .slice (b).po (b).pn (b).pc] 25)))
    have B1 := hid (show Bx ((w.alloc (.cells #[.int .i64 (a).k, .slice (a).xo (a).xn (a).xc, .slice (a).po (a).pn (a).pc] 25)).alloc (.cells #[.int .i64 (b).k, .slice (b).xo (b).xn (b).xc, .slice (b).po (b).pn (b).pc] 25)) (w.heap.size + 1) b from (by have h := Bx.new (w.alloc (.cells #[.int .i64 (a).k, .slice (a).xo (a).xn (a).xc, .slice (a).po (a).pn (a).pc] 25)) b; rw [World.size_alloc] at h; exact h))
    have b0 : Hid (Below w.heap.size w ((w.alloc (.cells #[.int .i64 (a).k, .slice (a).xo (a).xn (a).xc, .slice (a).po (a).pn (a).pc] 25)).alloc (.cells #[.int .i64 (b).k, .slice (b).xo (b).xn (b).xc, .slice (b).po (b).pn (b).pc] 25))) := hid (gt (ext1 _) (ext1 _))
    obtain ⟨x0, x1, x2⟩ := A1.out.cells
    obtain ⟨y0, y1, y2⟩ := B1.out.cells
    have la := hA.here.lenI; have lb := hB.here.lenI
    have hmx : Tryd.prog.follows .mixedOrders = true := follows_mixed
    obtain ⟨R, hR⟩ : ∃ R, R = eqS a b := ⟨_, rfl⟩
    rw [← hR]
    have HR := hid (hR.trans (eqS_eq a b))
    clear ih ha hA hB hR
    by_cases hk : a.k = b.k
    · have n1 : (a.k == b.k) = true := by simp [hk]
      have n1' : (a.k != b.k) = false := by simp [hk]
      rw [n1, Bool.true_and] at HR
      clear hk n1
      by_cases hx : a.xn = b.xn
      · have n2 : ((a.xn : Int) != (b.xn : Int)) = false := by simp [hx]
        have HX := hid hx
        clear hx
        by_cases hp : a.pn = b.pn
        · have n3 : ((a.pn : Int) != (b.pn : Int)) = false := by simp [hp]
          have HP := hid hp
          clear hp
          go_enter Tryd.func18, Tryd.ntmps18
          go_wp2
          go_loopw [33] (QxI a b w) (fun c _ => a.xn - (intOf c).toNat)
          case atStart => exact ⟨0, by omega, rfl, hid rfl, b0, A1, B1⟩
          case round =>
            clear x0 x1 x2 y0 y1 y2
            obtain ⟨i, hi, rfl, he, hb, hBa, hBb⟩ := hrel
            obtain ⟨x0, x1, x2⟩ := hBa.out.cells
            obtain ⟨y0, y1, y2⟩ := hBb.out.cells
            by_cases hik : i < a.xn
            · have hik2 : i < b.xn := by have := HX.out; omega
              obtain ⟨p, hp⟩ : ∃ p, a.xy[i]? = some p := ⟨_, List.getElem?_eq_getElem (by rw [HA.out.here.xl]; exact hik)⟩
              obtain ⟨q, hq⟩ : ∃ q, b.xy[i]? = some q := ⟨_, List.getElem?_eq_getElem (by rw [HB.out.here.xl]; exact hik2)⟩
              obtain ⟨ab, ao, exo, hSb, hat⟩ := HA.out.here.xr.resolve_left (by intro e; rw [e] at hp; simp at hp)
              obtain ⟨bb, bo, eyo, hTb, hbt⟩ := HB.out.here.xr.resolve_left (by intro e; rw [e] at hq; simp at hq)
              obtain ⟨z0, z1⟩ := hat i p hp
              obtain ⟨v0, v1⟩ := hbt i q hq
              replace z0 := keep_old hb.out z0; replace z1 := keep_old hb.out z1; replace v0 := keep_old hb.out v0; replace v1 := keep_old hb.out v1
              have HE := hid (show (a.xy == b.xy) = ((p == q) && (a.xy.drop (i + 1) == b.xy.drop (i + 1))) by rw [he.out, drop_at hp, drop_at hq]; rfl)
              have PN := point_neq p.1 p.2 q.1 q.2
              have HD := hid (Below.drew hb.out)
              have hik' : (i : Int) < (b.xn : Int) := by omega
              rw [exo] at x1
              rw [eyo] at y1
              clear hat hbt hp hq he hb
              cases hpq : (p == q) with
              | true =>
                have hpq' : ((p.1, p.2) == (q.1, q.2)) = true := hpq
                rw [hpq] at HE
                rw [hpq'] at PN
                rw [Bool.true_and] at HE
                clear hpq hpq'
                go_wp2
                refine wp_region_K (S := (fun W : World => (W.cell? ⟨w.heap.size, 1, none⟩ = some (.slice (some ⟨ab, ao, none⟩) a.xn a.xc) ∧ W.cell? ⟨w.heap.size + 1, 1, none⟩ = some (.slice (some ⟨bb, bo, none⟩) b.xn b.xc)) ∧ (W.cell? ⟨ab, ao + i * 2, none⟩ = some (.int .i64 p.1) ∧ W.cell? ⟨ab, ao + i * 2 + 1, none⟩ = some (.int .i64 p.2)) ∧ W.cell? ⟨bb, bo + i * 2, none⟩ = some (.int .i64 q.1) ∧ W.cell? ⟨bb, bo + i * 2 + 1, none⟩ = some (.int .i64 q.2))) (fun _ => false) (by kernel_rfl) (by exact ⟨⟨x1, y1⟩, ⟨z0, z1⟩, v0, v1⟩) (fun hHeld => ?_)
                refine gkp 0 ?_
                refine gkt 1 ?_ (h := by intro W hSw; obtain ⟨⟨u0, u1⟩, ⟨r0, r1⟩, s0, s1⟩ := hSw; go_simp; first | done | with_reducible rfl)
                refine gkp 2 ?_
                refine gkp 3 ?_
                refine gkt 4 ?_ (h := by intro W hSw; obtain ⟨⟨u0, u1⟩, ⟨r0, r1⟩, s0, s1⟩ := hSw; go_simp; first | done | with_reducible rfl)
                refine gkp 5 ?_
                refine gkt 6 ?_ (h := by intro W hSw; obtain ⟨⟨u0, u1⟩, ⟨r0, r1⟩, s0, s1⟩ := hSw; go_simp; first | done | with_reducible rfl)
                refine gkp 7 ?_
                refine gkp 8 ?_
                refine gkt 9 ?_ (h := by intro W hSw; obtain ⟨⟨u0, u1⟩, ⟨r0, r1⟩, s0, s1⟩ := hSw; go_simp; first | done | with_reducible rfl)
                refine gkp 10 ?_ (v := .bool false) (h := by intro W hSw; go_simp; first | done | with_reducible rfl)
                refine wpAnyK_done (by kernel_rfl) ?_ _
                go_wp2
                go_roundw
                case measure => simp [intOf]; omega
                case rel => exact ⟨i + 1, by omega, by go_num, HE, HD, hBa, hBb⟩
              | false =>
                have hpq' : ((p.1, p.2) == (q.1, q.2)) = false := hpq
                rw [hpq] at HE
                rw [hpq'] at PN
                rw [Bool.false_and] at HE
                clear hpq hpq'
                go_wp2
                refine wp_region_K (S := (fun W : World => (W.cell? ⟨w.heap.size, 1, none⟩ = some (.slice (some ⟨ab, ao, none⟩) a.xn a.xc) ∧ W.cell? ⟨w.heap.size + 1, 1, none⟩ = some (.slice (some ⟨bb, bo, none⟩) b.xn b.xc)) ∧ (W.cell? ⟨ab, ao + i * 2, none⟩ = some (.int .i64 p.1) ∧ W.cell? ⟨ab, ao + i * 2 + 1, none⟩ = some (.int .i64 p.2)) ∧ W.cell? ⟨bb, bo + i * 2, none⟩ = some (.int .i64 q.1) ∧ W.cell? ⟨bb, bo + i * 2 + 1, none⟩ = some (.int .i64 q.2))) (fun _ => false) (by kernel_rfl) (by exact ⟨⟨x1, y1⟩, ⟨z0, z1⟩, v0, v1⟩) (fun hHeld => ?_)
                refine gkp 0 ?_
                refine gkt 1 ?_ (h := by intro W hSw; obtain ⟨⟨u0, u1⟩, ⟨r0, r1⟩, s0, s1⟩ := hSw; go_simp; first | done | with_reducible rfl)
                refine gkp 2 ?_
                refine gkp 3 ?_
                refine gkt 4 ?_ (h := by intro W hSw; obtain ⟨⟨u0, u1⟩, ⟨r0, r1⟩, s0, s1⟩ := hSw; go_simp; first | done | with_reducible rfl)
                refine gkp 5 ?_
                refine gkt 6 ?_ (h := by intro W hSw; obtain ⟨⟨u0, u1⟩, ⟨r0, r1⟩, s0, s1⟩ := hSw; go_simp; first | done | with_reducible rfl)
                refine gkp 7 ?_
                refine gkp 8 ?_
                refine gkt 9 ?_ (h := by intro W hSw; obtain ⟨⟨u0, u1⟩, ⟨r0, r1⟩, s0, s1⟩ := hSw; go_simp; first | done | with_reducible rfl)
                refine gkp 10 ?_ (v := .bool true) (h := by intro W hSw; go_simp; first | done | with_reducible rfl)
                refine wpAnyK_done (by kernel_rfl) ?_ _
                go_wp2
                go_ret
                exact ⟨by rw [HR.out, HE.out]; rfl, HD.out⟩
            · obtain rfl : i = a.xn := by omega
              have HE := hid (show (a.xy == b.xy) = true by rw [he.out, List.drop_of_length_le (by rw [HA.out.here.xl]; omega), List.drop_of_length_le (by rw [HB.out.here.xl]; have := HX.out; omega)]; rfl)
              have BW := hb
              clear he
              go_wp2
              go_loopw [51] (QpI a b w) (fun c _ => a.pn - (intOf c).toNat)
              case atStart => exact ⟨0, by omega, rfl, hid rfl, BW, hBa, hBb⟩
              case round =>
                clear x0 x1 x2 y0 y1 y2 BW hBa hBb hb
                obtain ⟨i, hi, rfl, he, hb, hBa, hBb⟩ := hrel
                obtain ⟨x0, x1, x2⟩ := hBa.out.cells
                obtain ⟨y0, y1, y2⟩ := hBb.out.cells
                by_cases hik : i < a.pn
                · have hik2 : i < b.pn := by have := HP.out; omega
                  obtain ⟨p, hp⟩ : ∃ p, a.ps[i]? = some p := ⟨_, List.getElem?_eq_getElem (by rw [HA.out.here.pl]; exact hik)⟩
                  obtain ⟨q, hq⟩ : ∃ q, b.ps[i]? = some q := ⟨_, List.getElem?_eq_getElem (by rw [HB.out.here.pl]; exact hik2)⟩
                  obtain ⟨ab, ao, exo, hSb, hat⟩ := HA.out.here.pr.resolve_left (by intro e; rw [e] at hp; simp at hp)
                  obtain ⟨bb, bo, eyo, hTb, hbt⟩ := HB.out.here.pr.resolve_left (by intro e; rw [e] at hq; simp at hq)
                  obtain ⟨z0, z1, z2⟩ := (hat i p hp).of (w' := wr) (hb.out.block ab hSb)
                  obtain ⟨v0, v1, v2⟩ := (hbt i q hq).of (w' := wr) (hb.out.block bb hTb)
                  have HE2 := hid (show eqL a.ps b.ps = (eqS p q && eqL (a.ps.drop (i + 1)) (b.ps.drop (i + 1))) by rw [he.out, drop_at hp, drop_at hq, eqL_cons])
                  have CC := hid (fun W (hw : Below w.heap.size w W) => IH.out p q (by have := nodes_lt (s := a) (List.mem_of_getElem? hp); have := HN.out; omega) W ((HA.out.part (List.mem_of_getElem? hp)).grow hw) ((HB.out.part (List.mem_of_getElem? hq)).grow hw))
                  have HD := hid (Below.drew hb.out)
                  have hik' : (i : Int) < (b.pn : Int) := by omega
                  rw [exo] at x2
                  rw [eyo] at y2
                  clear hat hbt hp hq he
                  cases hpq : eqS p q with
                  | true =>
                    rw [hpq] at HE2 CC
                    rw [Bool.true_and] at HE2
                    clear hpq
                    go_wp2
                    refine wp_region_K (S := (fun W : World => (W.cell? ⟨w.heap.size, 2, none⟩ = some (.slice (some ⟨ab, ao, none⟩) a.pn a.pc) ∧ W.cell? ⟨w.heap.size + 1, 2, none⟩ = some (.slice (some ⟨bb, bo, none⟩) b.pn b.pc)) ∧ (W.cell? ⟨ab, ao + i * 3, none⟩ = some (.int .i64 p.k) ∧ W.cell? ⟨ab, ao + i * 3 + 1, none⟩ = some (.slice p.xo p.xn p.xc) ∧ W.cell? ⟨ab, ao + i * 3 + 2, none⟩ = some (.slice p.po p.pn p.pc)) ∧ W.cell? ⟨bb, bo + i * 3, none⟩ = some (.int .i64 q.k) ∧ W.cell? ⟨bb, bo + i * 3 + 1, none⟩ = some (.slice q.xo q.xn q.xc) ∧ W.cell? ⟨bb, bo + i * 3 + 2, none⟩ = some (.slice q.po q.pn q.pc))) (fun _ => false) (by kernel_rfl) (by exact ⟨⟨x2, y2⟩, ⟨z0, z1, z2⟩, v0, v1, v2⟩) (fun hHeld => ?_)
                    refine gkp 0 ?_
                    refine gkt 1 ?_ (h := by intro W hSw; obtain ⟨⟨u0, u1⟩, ⟨r0, r1, r2⟩, s0, s1, s2⟩ := hSw; go_simp; first | done | with_reducible rfl)
                    refine gkp 2 ?_
                    refine gkp 3 ?_
                    refine gkt 4 ?_ (h := by intro W hSw; obtain ⟨⟨u0, u1⟩, ⟨r0, r1, r2⟩, s0, s1, s2⟩ := hSw; go_simp; first | done | with_reducible rfl)
                    refine gkp 5 ?_
                    refine gkt 6 ?_ (h := by intro W hSw; obtain ⟨⟨u0, u1⟩, ⟨r0, r1, r2⟩, s0, s1, s2⟩ := hSw; go_simp; first | done | with_reducible rfl)
                    refine gkp 7 ?_
                    refine gkp 8 ?_
                    refine gkt 9 ?_ (h := by intro W hSw; obtain ⟨⟨u0, u1⟩, ⟨r0, r1, r2⟩, s0, s1, s2⟩ := hSw; go_simp; first | done | with_reducible rfl)
                    refine gk1 10 (fun K hK => ?_)
                    go_simp
                    go_at_call 18; refine (CC.out _ HD.out).mono ?_; rintro e w9 ⟨rfl, hb9⟩; have H9 := hid hb9; clear hb9; have hR : (fun W : World => (W.cell? ⟨w.heap.size, 2, none⟩ = some (.slice (some ⟨ab, ao, none⟩) a.pn a.pc) ∧ W.cell? ⟨w.heap.size + 1, 2, none⟩ = some (.slice (some ⟨bb, bo, none⟩) b.pn b.pc)) ∧ (W.cell? ⟨ab, ao + i * 3, none⟩ = some (.int .i64 p.k) ∧ W.cell? ⟨ab, ao + i * 3 + 1, none⟩ = some (.slice p.xo p.xn p.xc) ∧ W.cell? ⟨ab, ao + i * 3 + 2, none⟩ = some (.slice p.po p.pn p.pc)) ∧ W.cell? ⟨bb, bo + i * 3, none⟩ = some (.int .i64 q.k) ∧ W.cell? ⟨bb, bo + i * 3 + 1, none⟩ = some (.slice q.xo q.xn q.xc) ∧ W.cell? ⟨bb, bo + i * 3 + 2, none⟩ = some (.slice q.po q.pn q.pc)) w9 := ⟨⟨keep_old H9.out hHeld.1.1, keep_old H9.out hHeld.1.2⟩, ⟨keep_old H9.out hHeld.2.1.1, keep_old H9.out hHeld.2.1.2.1, keep_old H9.out hHeld.2.1.2.2⟩, keep_old H9.out hHeld.2.2.1, keep_old H9.out hHeld.2.2.2.1, keep_old H9.out hHeld.2.2.2.2⟩
                    refine hK.out _ _ hR (fun hHeld => ?_)
                    clear hK K
                    (try simp only [Act.put, sA, sZ, sS])
                    refine gkp 11 ?_ (v := .bool false) (h := by intro W hSw; go_simp; first | done | with_reducible rfl)
                    refine wpAnyK_done (by kernel_rfl) ?_ _
                    go_wp2
                    go_roundw
                    case measure => simp [intOf]; omega
                    case rel => exact ⟨_, _, .int .i64 ((i : Int) + 1), ⟨i + 1, by omega, by go_num, HE2, hid (gt HD.out H9.out), hid (Bx.keep (show Bx wr.drew w.heap.size a from hBa.out) H9.out), hid (Bx.keep (show Bx wr.drew (w.heap.size + 1) b from hBb.out) H9.out)⟩, rfl, rfl, rfl⟩
                  | false =>
                    rw [hpq] at HE2 CC
                    rw [Bool.false_and] at HE2
                    clear hpq
                    go_wp2
                    refine wp_region_K (S := (fun W : World => (W.cell? ⟨w.heap.size, 2, none⟩ = some (.slice (some ⟨ab, ao, none⟩) a.pn a.pc) ∧ W.cell? ⟨w.heap.size + 1, 2, none⟩ = some (.slice (some ⟨bb, bo, none⟩) b.pn b.pc)) ∧ (W.cell? ⟨ab, ao + i * 3, none⟩ = some (.int .i64 p.k) ∧ W.cell? ⟨ab, ao + i * 3 + 1, none⟩ = some (.slice p.xo p.xn p.xc) ∧ W.cell? ⟨ab, ao + i * 3 + 2, none⟩ = some (.slice p.po p.pn p.pc)) ∧ W.cell? ⟨bb, bo + i * 3, none⟩ = some (.int .i64 q.k) ∧ W.cell? ⟨bb, bo + i * 3 + 1, none⟩ = some (.slice q.xo q.xn q.xc) ∧ W.cell? ⟨bb, bo + i * 3 + 2, none⟩ = some (.slice q.po q.pn q.pc))) (fun _ => false) (by kernel_rfl) (by exact ⟨⟨x2, y2⟩, ⟨z0, z1, z2⟩, v0, v1, v2⟩) (fun hHeld => ?_)
                    refine gkp 0 ?_
                    refine gkt 1 ?_ (h := by intro W hSw; obtain ⟨⟨u0, u1⟩, ⟨r0, r1, r2⟩, s0, s1, s2⟩ := hSw; go_simp; first | done | with_reducible rfl)
                    refine gkp 2 ?_
                    refine gkp 3 ?_
                    refine gkt 4 ?_ (h := by intro W hSw; obtain ⟨⟨u0, u1⟩, ⟨r0, r1, r2⟩, s0, s1, s2⟩ := hSw; go_simp; first | done | with_reducible rfl)
                    refine gkp 5 ?_
                    refine gkt 6 ?_ (h := by intro W hSw; obtain ⟨⟨u0, u1⟩, ⟨r0, r1, r2⟩, s0, s1, s2⟩ := hSw; go_simp; first | done | with_reducible rfl)
                    refine gkp 7 ?_
                    refine gkp 8 ?_
                    refine gkt 9 ?_ (h := by intro W hSw; obtain ⟨⟨u0, u1⟩, ⟨r0, r1, r2⟩, s0, s1, s2⟩ := hSw; go_simp; first | done | with_reducible rfl)
                    refine gk1 10 (fun K hK => ?_)
                    go_simp
                    go_at_call 18; refine (CC.out _ HD.out).mono ?_; rintro e w9 ⟨rfl, hb9⟩; have H9 := hid hb9; clear hb9; have hR : (fun W : World => (W.cell? ⟨w.heap.size, 2, none⟩ = some (.slice (some ⟨ab, ao, none⟩) a.pn a.pc) ∧ W.cell? ⟨w.heap.size + 1, 2, none⟩ = some (.slice (some ⟨bb, bo, none⟩) b.pn b.pc)) ∧ (W.cell? ⟨ab, ao + i * 3, none⟩ = some (.int .i64 p.k) ∧ W.cell? ⟨ab, ao + i * 3 + 1, none⟩ = some (.slice p.xo p.xn p.xc) ∧ W.cell? ⟨ab, ao + i * 3 + 2, none⟩ = some (.slice p.po p.pn p.pc)) ∧ W.cell? ⟨bb, bo + i * 3, none⟩ = some (.int .i64 q.k) ∧ W.cell? ⟨bb, bo + i * 3 + 1, none⟩ = some (.slice q.xo q.xn q.xc) ∧ W.cell? ⟨bb, bo + i * 3 + 2, none⟩ = some (.slice q.po q.pn q.pc)) w9 := ⟨⟨keep_old H9.out hHeld.1.1, keep_old H9.out hHeld.1.2⟩, ⟨keep_old H9.out hHeld.2.1.1, keep_old H9.out hHeld.2.1.2.1, keep_old H9.out hHeld.2.1.2.2⟩, keep_old H9.out hHeld.2.2.1, keep_old H9.out hHeld.2.2.2.1, keep_old H9.out hHeld.2.2.2.2⟩
                    refine hK.out _ _ hR (fun hHeld => ?_)
                    clear hK K
                    (try simp only [Act.put, sA, sZ, sS])
                    refine gkp 11 ?_ (v := .bool true) (h := by intro W hSw; go_simp; first | done | with_reducible rfl)
                    refine wpAnyK_done (by kernel_rfl) ?_ _
                    go_wp2
                    go_ret
                    exact ⟨by rw [HR.out, HE.out, HE2.out]; rfl, gt HD.out H9.out⟩
                · obtain rfl : i = a.pn := by omega
                  have HE2 := hid (show eqL a.ps b.ps = true by rw [he.out, List.drop_of_length_le (by rw [HA.out.here.pl]; omega), List.drop_of_length_le (by rw [HB.out.here.pl]; have := HP.out; omega)]; exact eqL_nil)
                  go_wp2
                  go_ret
                  exact ⟨by rw [HR.out, HE.out, HE2.out]; rfl, hb.out⟩
        · have n3 : ((a.pn : Int) != (b.pn : Int)) = true := by simp only [bne, Bool.not_eq_true', beq_eq_false_iff_ne]; omega
          have n3' : ¬ (a.pn : Int) = (b.pn : Int) := by omega
          rw [eqL_len (by rw [HA.out.here.pl, HB.out.here.pl]; exact hp), Bool.and_false] at HR
          rw [HR.out]
          clear hp HR
          go_enter Tryd.func18, Tryd.ntmps18
          go_wp2
          go_ret
          exact ⟨rfl, b0.out⟩
      · have n2 : ((a.xn : Int) != (b.xn : Int)) = true := by simp only [bne, Bool.not_eq_true', beq_eq_false_iff_ne]; omega
        have n2' : ¬ (a.xn : Int) = (b.xn : Int) := by omega
        rw [eq_len (by rw [HA.out.here.xl, HB.out.here.xl]; exact hx), Bool.false_and] at HR
        rw [HR.out]
        clear hx HR
        go_enter Tryd.func18, Tryd.ntmps18
        go_wp2
        go_ret
        exact ⟨rfl, b0.out⟩
    · have n1 : (a.k == b.k) = false := by simp [hk]
      have n1' : (a.k != b.k) = true := by simp [hk]
      rw [n1, Bool.false_and] at HR
      rw [HR.out]
      clear n1 HR
      go_enter Tryd.func18, Tryd.ntmps18
      go_wp2
      go_ret
      exact ⟨rfl, b0.out⟩
end Go.Proofs.YtjieegnmofimkaaDoor
