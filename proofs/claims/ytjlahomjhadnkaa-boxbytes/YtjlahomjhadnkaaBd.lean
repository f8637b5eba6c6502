/- Points of a row are told, one by one; no statement of the seat is proved here. -/
import Derived.Test.YtjlahomjhadnkaaBc
import Derived.Test.YtjlahomjhadnkaaAt
namespace Go.Proofs.Ytjlahomjhadnkaa
open Go.RowKit Go.Maps

/-- A box of a row. -/
def Rx (w : World) (b : Nat) (ao : Option Addr) (n c : Nat) : Prop := w.heap[b]? = some (.cells #[.slice ao n c] 42)
theorem Rx.cell {w : World} {b : Nat} {ao : Option Addr} {n c : Nat} (h : Rx w b ao n c) : w.cell? ⟨b, 0, none⟩ = some (.slice ao n c) := by unfold Rx at h; simp [World.cell?, h]
theorem Rx.lt {w : World} {b : Nat} {ao : Option Addr} {n c : Nat} (h : Rx w b ao n c) : b < w.heap.size := (Array.getElem?_eq_some_iff.1 h).1
theorem Rx.keep {w w' : World} {b : Nat} {ao : Option Addr} {n c : Nat} (h : Rx w b ao n c) (hb : Below w.heap.size w w') : Rx w' b ao n c := (hb.block b h.lt).trans h
theorem Rx.fz {w : World} {b : Nat} {ao : Option Addr} {n c : Nat} (h : Rx w b ao n c) : w.frozen? ⟨b, 0, none⟩ = false := by unfold Rx at h; simp [World.frozen?, h]

set_option maxRecDepth 100000 in
set_option maxHeartbeats 1000000 in
theorem values_call (ao : Option Addr) (n c : Nat) (w : World) : Calls Try.prog 73 #[.slice ao n c] w fun e w' => e = .returned (.func (.func 84) #[] #[.pointer (some ⟨w.heap.size, 0, none⟩)]) ∧ w' = w.alloc (.cells #[.slice ao n c] 42) := by
  go_enter Try.func73, Try.ntmps73
  go_wp2
  go_ret
  exact ⟨rfl, rfl⟩

/-- What a round is asked, at a point that is told. -/
def YdsP (m l : Nat) (pts : List (Int × Int)) (J : Nat → (Nat → Prop) → World → Prop) (Jx : (Nat → Prop) → World → Prop) : Prop :=
  ∀ k p G W, pts[k]? = some p → J k G W → YieldAt Fence.wide m Try.prog l #[.agg #[.int .i64 p.1, .int .i64 p.2]] W fun e W' => Sm G W W' ∧ ((e = .returned (.bool true) ∧ J (k + 1) G W') ∨ (e = .returned (.bool false) ∧ Jx G W'))
theorem YdsP.any {m l : Nat} {pts : List (Int × Int)} {J : Nat → (Nat → Prop) → World → Prop} {Jx : (Nat → Prop) → World → Prop} (h : YdsP m l pts J Jx) (m' : Nat) : YdsP m' l pts J Jx := fun k p G W h1 h2 => yield_any rfl m' (h k p G W h1 h2)

attribute [local go_sem] Oper.semAt_some
set_option maxRecDepth 100000 in
set_option maxHeartbeats 8000000 in
theorem values_in (N : Nat) (w0 : World) (pts : List (Int × Int)) (xo : Option Addr) (n c q m l : Nat) (J : Nat → (Nat → Prop) → World → Prop) (Jx : (Nat → Prop) → World → Prop) (G : Nat → Prop) (W : World)
    (hJ : ∀ k, Cns N w0 (J k)) (hJx : Cns N w0 Jx) (hY : YdsP (m - 1) l pts J Jx) (h0 : J 0 G W) (hq : Rx W q xo n c) (hr : XR G W xo pts) (hl : pts.length = n) (hn : n ≤ 9223372036854775806) :
    CallsIn Fence.wide m Try.prog 84 #[.func (.yield l) #[] #[], .pointer (some ⟨q, 0, none⟩)] W fun e W' => (∃ v, e = .returned v) ∧ (J n G W' ∨ Jx G W') := by
  have HJ := hid hJ; have HJx := hid hJx; have HY := hid hY; have HL := hid hl; have HR := hid hr
  have y0 := hq.cell
  have H0 := hid h0
  have HG := hid (fun i (h : G i) => (hJ 0).gd _ _ h0 i h)
  clear hJ hJx hY hl hr h0
  refine callsIn_of_wp_marks Try.func84 rfl trivial ?_ rfl
  simp only [Try.ntmps84, List.size_toArray, List.length_cons, List.length_nil, Nat.reduceAdd, Nat.reduceSub, Array.replicate_succ, Array.replicate_zero, List.push_toArray, List.append_toArray, List.nil_append, List.cons_append]
  gi_wp2
  refine wpIn_loop_ghost (fun g a V => ∃ (i : Nat) (u4 u8 u9 u10 u11 u12 u13 u14 u15 : Value), g = n - i ∧ i ≤ n ∧ a = ⟨#[.func (.yield l) #[] #[], .pointer (some ⟨q, 0, none⟩), undef, undef, u4, .slice xo n c, .int .i64 (n : Int), .int .i64 ((i : Int)), u8, u9, u10, u11, u12, u13, u14, u15], []⟩ ∧ J i G V ∧ Sm G W V) n ⟨0, _, _, _, _, _, _, _, _, _, rfl, by omega, rfl, H0.out, Sm.refl _ _⟩ ?_
  rintro g a V ⟨i, u4, u8, u9, u10, u11, u12, u13, u14, u15, rfl, hi, rfl, hj, hs⟩
  have HS := hid hs
  have HV := hid hj
  by_cases hin : i < n
  · have hlt : (i : Int) < (n : Int) := by omega
    obtain ⟨p, hp⟩ : ∃ p, pts[i]? = some p := ⟨_, List.getElem?_eq_getElem (by rw [HL.out]; exact hin)⟩
    obtain ⟨b, off, hxo, hGb, hat⟩ := HR.out.resolve_left (by intro e; rw [e] at hp; simp at hp)
    obtain ⟨z0, z1⟩ := hat i p hp
    have hV : ∀ j, V.cell? ⟨b, j, none⟩ = W.cell? ⟨b, j, none⟩ := fun j => World.cell?_of_block (a := ⟨b, j, none⟩) (hs.same b hGb)
    rw [← hV] at z0 z1
    obtain ⟨fn, tms, asg, bdy, hy, hYR⟩ := HY.out.any (m - 1) i p G (V.alloc (.cells #[.int .i64 p.1, .int .i64 p.2] 23)) hp ((HJ.out _).mv _ _ _ _ hj (Fr.alloc _ _ _) fun j hj => .inl hj)
    have HYR := hid hYR
    have HGV := hid (fun j (h : G j) => ((HJ.out _).gd _ _ hj j h).2)
    obtain ⟨c0, c1⟩ := pt_cells V p.1 p.2
    subst hxo
    clear hat hp hj hs hV hYR y0
    gi_wp2
    refine ⟨fun h => (by cases h), HYR.out.mono ?_⟩
    have SV := hid (HS.out.trans ((Fr.alloc (fun _ => False) V (.cells #[.int .i64 p.1, .int .i64 p.2] 23)).sm fun j hj => ⟨HGV.out j hj, fun h => h⟩))
    rintro e W2 ⟨hs2, ⟨rfl, hJ2⟩ | ⟨rfl, hJx2⟩⟩
    · have S2 := hid (SV.out.trans hs2)
      have J2 := hid hJ2
      clear hs2 hJ2 hy HYR z0 z1 c0 c1
      gi_wp2
      exact ⟨n - (i + 1), by omega, i + 1, _, _, _, _, _, _, _, _, _, rfl, by omega, rfl, J2.out, S2.out⟩
    · have J2 := hid hJx2
      clear hs2 hJx2 hy HYR z0 z1 c0 c1
      gi_wp2
      exact ⟨_, results_none rfl _ _ _, ⟨_, rfl⟩, .inr J2.out⟩
  · obtain rfl : i = n := by omega
    clear y0
    gi_wp2
    exact ⟨_, results_none rfl _ _ _, ⟨_, rfl⟩, .inl HV.out⟩
end Go.Proofs.Ytjlahomjhadnkaa
