/- All that lies in a shape is told, one by one; no statement of the seat is proved here. -/
import Derived.Test.YtjlahomjhadnkaaAc
import Derived.Test.YtjlahomjhadnkaaKk
namespace Go.Proofs.Ytjlahomjhadnkaa
open Go.RowKit Go.Maps

theorem room_none {F : Fence} (hd : F.depth = none) (k : Nat) : F.room k := fun d h => by rw [hd] at h; cases h
theorem round_any {F : Fence} (hd : F.depth = none) {m m' : Nat} {P : Program} {l : Nat} {f : FuncId} {tmps : Array Value} {assign body : Code} {w : World} {R : Ending → World → Prop}
    (h : RoundIn F m P l f tmps assign body w R) : RoundIn F m' P l f tmps assign body w R := ⟨h.1, fun c cs _ => h.2 c cs (room_none hd _)⟩
theorem yield_any {F : Fence} (hd : F.depth = none) {m : Nat} (m' : Nat) {P : Program} {l : Nat} {args : Array Value} {W : World} {R : Ending → World → Prop} (h : YieldAt F m P l args W R) : YieldAt F m' P l args W R := by
  obtain ⟨fn, tmps, assign, body, hy, hR⟩ := h
  exact ⟨fn, tmps, assign, body, hy, round_any hd hR⟩

/-- What a round is asked, at one that is told. -/
def Yds (m l : Nat) (its : List (Nat × Sh)) (J : Nat → (Nat → Prop) → World → Prop) (Jx : (Nat → Prop) → World → Prop) : Prop :=
  ∀ k x G W, its[k]? = some x → J k G W → YieldAt Fence.wide m Try.prog l #[.int .i64 (x.1 : Int), .agg #[.int .i64 (x.2).k, .slice (x.2).xo (x.2).xn (x.2).xc, .slice (x.2).po (x.2).pn (x.2).pc]] W fun e W' => Sm G W W' ∧ ((e = .returned (.bool true) ∧ J (k + 1) G W') ∨ (e = .returned (.bool false) ∧ Jx G W'))
theorem Yds.any {m l : Nat} {its : List (Nat × Sh)} {J : Nat → (Nat → Prop) → World → Prop} {Jx : (Nat → Prop) → World → Prop} (h : Yds m l its J Jx) (m' : Nat) : Yds m' l its J Jx := fun k x G W h1 h2 => yield_any rfl m' (h k x G W h1 h2)
theorem Yds.part {m l : Nat} {A B C : List (Nat × Sh)} {J : Nat → (Nat → Prop) → World → Prop} {Jx : (Nat → Prop) → World → Prop} (h : Yds m l (A ++ (B ++ C)) J Jx) : Yds m l B (fun k => J (A.length + k)) Jx := fun k x G W h1 h2 =>
  h (A.length + k) x G W (by
    rw [List.getElem?_append_right (by omega), show A.length + k - A.length = k by omega, List.getElem?_append_left (List.getElem?_eq_some_iff.1 h1).1]; exact h1) h2

/-- What is held between two parts. -/
structure Hold (N : Nat) (w0 : World) (J : Nat → (Nat → Prop) → World → Prop) (G : Nat → Prop) (yb Z2 Z3 : Nat) (W3 : World) (k : Nat) (Ds : List Nat) (W : World) : Prop where
  j : J k (fun i => (G i ∨ i = yb ∨ (Z2 ≤ i ∧ i < Z3)) ∨ i ∈ Ds) W
  sm : Sm (fun i => G i ∨ i = yb ∨ (Z2 ≤ i ∧ i < Z3)) W3 W
  nd : Ds.Nodup
  mks : ∀ D ∈ Ds, Mark D W
  lt : ∀ D ∈ Ds, Z3 ≤ D

/-- What was told ahead of the i-th part. -/
def pre (d : Nat) (s : Sh) (i : Nat) : List (Nat × Sh) := (d, s) :: ((seenL d s).take i).flatMap fun p => p.flat (din s.k p.k d)
theorem pre_split {d : Nat} {s p : Sh} {i : Nat} (h : (seenL d s)[i]? = some p) : ∃ C, s.flat d = pre d s i ++ (p.flat (din s.k p.k d) ++ C) ∧ pre d s (i + 1) = pre d s i ++ p.flat (din s.k p.k d) := by
  have hlt : i < (seenL d s).length := (List.getElem?_eq_some_iff.1 h).1
  have hp : (seenL d s)[i] = p := (List.getElem?_eq_some_iff.1 h).2
  refine ⟨((seenL d s).drop (i + 1)).flatMap fun p => p.flat (din s.k p.k d), ?_, ?_⟩
  · rw [flat_eq]
    have e : seenL d s = (seenL d s).take i ++ (p :: (seenL d s).drop (i + 1)) := by
      rw [← hp, ← List.drop_eq_getElem_cons hlt, List.take_append_drop]
    rw [show (d, s) :: (seenL d s).flatMap (fun p => p.flat (din s.k p.k d)) = (d, s) :: ((seenL d s).take i ++ (p :: (seenL d s).drop (i + 1))).flatMap (fun p => p.flat (din s.k p.k d)) by rw [← e]]
    simp [pre]
  · unfold pre
    rw [List.take_add_one, h]
    simp
theorem pre_all (d : Nat) (s : Sh) : pre d s (seenL d s).length = s.flat d := by unfold pre; rw [flat_eq]; simp
def NPost (R : Act → World → Prop) : Exit → Act → World → Prop
  | .normal, a, w => R a w
  | _, _, _ => False
def marks (Ds : List Nat) : List Deferred := Ds.map fun D => { target := .collected D, args := #[] }

/-- The way out, with so many marks. -/
theorem leave (N : Nat) (w0 : World) {J : (Nat → Prop) → World → Prop} (hJ : Cns N w0 J) (G : Nat → Prop) (m : Nat) (tmps : Array Value) (R : Ending → World → Prop) (hR : ∀ v W, J G W → R (.returned v) W) (Ds : List Nat) (W : World) (nd : Ds.Nodup) (mk : ∀ D ∈ Ds, Mark D W) (hj : J (fun i => G i ∨ i ∈ Ds) W) (hG : ∀ D ∈ Ds, ¬ G D) :
    LeavesInM Fence.wide m Try.prog Try.f81 tmps R (marks Ds) .returning W := by
  refine leaves_marks (fun Gs W => J (fun i => G i ∨ Gs i) W ∧ ∀ i, Gs i → ¬ G i) (fun D Gs W h hD => ⟨hJ.mv _ _ _ _ h.1 ((Fr.put W D _).mono fun i _ e => .inr (e ▸ hD)) (fun i hi => .inl (hi.imp id fun h => h.1)), fun i hi => h.2 i hi.1⟩) (fun W h => ?_) Ds W nd mk ⟨hj, hG⟩
  exact ⟨_, results_none rfl _ _ _, hR _ _ (hJ.less h.1 fun i hi => .inl hi)⟩

attribute [local go_sem] Oper.semAt_some

theorem follows_mixed : Try.prog.follows .mixedOrders = true := by kernel_rfl

set_option maxRecDepth 100000 in
set_option maxHeartbeats 8000000 in
theorem whole1_in (N : Nat) (w0 : World) (hN0 : N ≤ w0.heap.size) : ∀ (M : Nat) (s : Sh) (d : Nat), s.nodes.length ≤ M → d ≤ 17 → In (fun b => b < N) w0 s → ∀ (m l b1 b2 : Nat) (J : Nat → (Nat → Prop) → World → Prop) (Jx : (Nat → Prop) → World → Prop) (G : Nat → Prop) (W : World),
    (∀ k, Cns N w0 (J k)) → Cns N w0 Jx → Yds (m - 1) l (s.flat d) J Jx → J 0 G W → G b1 → G b2 → W.heap[b1]? = some (.cells #[.int .i64 (d : Int)] 3) → Bx W b2 s →
    CallsIn Fence.wide m Try.prog 81 #[.func (.yield l) #[] #[], .pointer (some ⟨b1, 0, none⟩), .pointer (some ⟨b2, 0, none⟩)] W fun e W' => (∃ v, e = .returned v) ∧ (J (s.flat d).length G W' ∨ Jx G W') := by
  intro M
  induction M with
  | zero => intro s d h; rw [nodes_eq] at h; simp at h
  | succ M ih =>
    intro s d hM hd hin m l b1 b2 J Jx G W hJ hJx hY h0 g1 g2 c1 c2
    have hmx := follows_mixed
    have HJ := hid hJ; have HJx := hid hJx; have HY := hid hY; have IH := hid ih; have HIN := hid hin; have HM := hid hM
    obtain ⟨yb, hyb⟩ : ∃ yb, yb = W.heap.size := ⟨_, rfl⟩
    have HYB := hid hyb
    have hb1 : b1 < W.heap.size := (Array.getElem?_eq_some_iff.1 c1).1
    have hb2 : b2 < W.heap.size := c2.lt
    have hNW : N ≤ W.heap.size := by have := ((hJ 0).base _ _ h0).size; omega
    have hG := hid (fun i (h : G i) => (hJ 0).gd _ _ h0 i h)
    have j1 : J 0 (fun i => G i ∨ i = yb) (W.alloc (.cells #[.func (.yield l) #[] #[]] 111)) := (hJ 0).mv _ _ _ _ h0 (Fr.alloc _ _ _) (fun i hi => hi.imp id fun e => ⟨by omega, by rw [e, hyb]; simp⟩)
    obtain ⟨fn, tms, asg, bdy, hy, hYR⟩ := hY 0 (d, s) _ _ (by rw [flat_eq]; rfl) j1
    have HYR := hid hYR
    have x1 : W.cell? ⟨b1, 0, none⟩ = some (.int .i64 (d : Int)) := by simp [World.cell?, c1]
    obtain ⟨y0, y1, y2⟩ := c2.cells
    have C1 := hid c1; have C2 := hid c2
    clear hJ hJx hY ih hin hM h0 j1 c1 c2 hYR hyb
    refine callsIn_of_wp_marks Try.func81 rfl trivial ?_ rfl
    simp only [Try.ntmps81, List.size_toArray, List.length_cons, List.length_nil, Nat.reduceAdd, Nat.reduceSub, Array.replicate_succ, Array.replicate_zero, List.push_toArray, List.append_toArray, List.nil_append, List.cons_append]
    gi_wp2
    refine ⟨fun h => (by cases h), HYR.out.mono ?_⟩
    rintro e W2 ⟨hs2, ⟨rfl, hJ2⟩ | ⟨rfl, hJx2⟩⟩
    · have Y2 := hid (show W2.heap[yb]? = some (.cells #[.func (.yield l) #[] #[]] 111) from (hs2.same yb (.inr rfl)).trans (by rw [HYB.out]; exact heap_alloc_new _ _))
      have C12 := hid ((hs2.same b1 (.inl g1)).trans (((ext1 _).block _ hb1).trans C1.out))
      have C22 := hid (show Bx W2 b2 s from (hs2.same b2 (.inl g2)).trans (((ext1 _).block _ hb2).trans C2.out))
      have hZ := hs2.size
      rw [World.size_alloc] at hZ
      have J2 := hid hJ2
      have B2 := hid ((HJ.out _).base _ _ hJ2)
      have SC := hid (seen_call N s d W2 (by omega) ((HIN.out.below B2.out).here) hd)
      have x2 : W2.cell? ⟨b1, 0, none⟩ = some (.int .i64 (d : Int)) := by simp [World.cell?, C12.out]
      obtain ⟨q0, q1, q2⟩ := C22.out.cells
      clear hs2 hJ2 hy HYR x1 y0 y1 y2
      rw [← HYB.out]
      gi_wp2_with (refine ⟨trivial, fun h => (by cases h), ?_⟩; refine (callsIn_wide.2 SC.out).mono ?_; rintro e W3 ⟨po, pc, rfl, hpr, hb3⟩; have PRH := hid hpr; have H3 := hid hb3; clear hpr hb3)
      obtain ⟨n, hn⟩ : ∃ n, n = (seenL d s).length := ⟨_, rfl⟩
      have HN := hid hn
      rw [← hn]
      have hz3 := H3.out.size
      have h0 : Hold N w0 J G yb W2.heap.size W3.heap.size W3 1 [] W3 := ⟨(HJ.out _).mv _ _ _ _ J2.out (Fr.of_below H3.out) (fun i hi => by
          rcases hi with (hi | hi | hi) | hi
          · exact .inl (.inl hi)
          · exact .inl (.inr hi)
          · exact .inr hi
          · cases hi), Sm.refl _ _, List.nodup_nil, (fun D h => by cases h), (fun D h => by cases h)⟩
      have H0 := hid h0
      have C13 := hid ((H3.out.block _ (by omega)).trans C12.out)
      have C23 := hid (C22.out.keep H3.out)
      have Y3 := hid ((H3.out.block yb (by have := HYB.out; omega)).trans Y2.out)
      have hNn : n ≤ 9223372036854775807 := by
        have h1 := ((HIN.out.below B2.out).here)
        have h2 := h1.pb
        have h3 : (seenL d s).length ≤ s.ps.length := List.length_filter_le _ _
        have h4 := h1.pl
        omega
      clear h0 x2 q0 q1 q2 hn C12 C22 Y2 SC
      refine wpIn_loop_ghost (fun g a V => ∃ (i : Nat) (Ds : List Nat) (u4 u5 u6 u7 u8 u9 u10 u11 u12 u13 u14 u18 u19 u20 u21 u22 u23 u24 u25 u26 u27 u28 u29 u30 u31 u32 u33 u34 : Value), g = n - i ∧ i ≤ n ∧ a = ⟨#[.func (.yield l) #[] #[], .pointer (some ⟨b1, 0, none⟩), .pointer (some ⟨b2, 0, none⟩), .pointer (some ⟨yb, 0, none⟩), u4, u5, u6, u7, u8, u9, u10, u11, u12, u13, u14, .slice po n pc, .int .i64 (n : Int), .int .i64 (i : Int), u18, u19, u20, u21, u22, u23, u24, u25, u26, u27, u28, u29, u30, u31, u32, u33, u34], marks Ds⟩ ∧ Hold N w0 J G yb W2.heap.size W3.heap.size W3 (pre d s i).length Ds V) n ⟨0, [], _, _, _, _, _, _, _, _, _, _, _, _, _, _, _, _, _, _, _, _, _, _, _, _, _, _, _, _, rfl, by omega, rfl, H0.out⟩ ?_
      rintro g a V ⟨i, Ds, u4, u5, u6, u7, u8, u9, u10, u11, u12, u13, u14, u18, u19, u20, u21, u22, u23, u24, u25, u26, u27, u28, u29, u30, u31, u32, u33, u34, rfl, hi, rfl, hh⟩
      have HH := hid hh
      have zV := hh.sm.size
      have C14 := hid ((hh.sm.same b1 (.inl g1)).trans C13.out)
      have C24 := hid (show Bx V b2 s from (hh.sm.same b2 (.inl g2)).trans C23.out)
      have Y4 := hid ((hh.sm.same yb (.inr (.inl rfl))).trans Y3.out)
      have BV := hid ((HJ.out _).base _ _ hh.j)
      clear hh
      by_cases hin : i < n
      · have hlt : (i : Int) < (n : Int) := by omega
        obtain ⟨p, hp⟩ : ∃ p, (seenL d s)[i]? = some p := ⟨_, List.getElem?_eq_getElem (by rw [← HN.out]; exact hin)⟩
        obtain ⟨rb, off, hpo, hrb, hat⟩ := PRH.out.resolve_left (by intro e; rw [e] at hp; simp at hp)
        have hrV : V.heap[rb]? = W3.heap[rb]? := by
          rcases hrb with h | h
          · exact (BV.out.block rb h).trans (((HJ.out _).base _ _ H0.out.j).block rb h).symm
          · exact HH.out.sm.same rb (.inr (.inr h))
        obtain ⟨e0, e1, e2⟩ := (hat i p hp).of hrV
        have HP := hid hp
        have hpm := hid (seenL_mem (List.mem_of_getElem? hp))
        have x3 : V.cell? ⟨b1, 0, none⟩ = some (.int .i64 (d : Int)) := by simp [World.cell?, C14.out]
        obtain ⟨q0, q1, q2⟩ := C24.out.cells
        have DC := hid (fun W => din_call s p d W (by omega))
        have WC := hid (fun d W => whole_call p d W)
        subst hpo
        clear hp hat hrV hrb
        gi_wp2
        have BP := hid (Bx.new V p)
        obtain ⟨p0, p1, p2⟩ := BP.out.cells
        have hbx : ∀ o : Obj, b2 < (V.alloc o).heap.size := fun o => by simp; omega
        refine wpIn_mono (show Code.wpIn Fence.wide m Try.prog _ (NPost fun a' W' => ∃ W5, Below (V.heap.size + 1) (V.alloc (.cells #[.int .i64 (p).k, .slice (p).xo (p).xn (p).xc, .slice (p).po (p).pn (p).pc] 45)) W5 ∧ a' = ⟨#[.func (.yield l) #[] #[], .pointer (some ⟨b1, 0, none⟩), .pointer (some ⟨b2, 0, none⟩), .pointer (some ⟨yb, 0, none⟩), u4, .pointer (some ⟨V.heap.size, 0, none⟩), u6, u7, u8, u9, u10, u11, u12, u13, u14, .slice (some ⟨rb, off, none⟩) n pc, .int .i64 (n : Int), .int .i64 (i : Int), .bool true, .pointer (some ⟨rb, off + i * 3, none⟩), .agg #[.int .i64 (p).k, .slice (p).xo (p).xn (p).xc, .slice (p).po (p).pn (p).pc], .agg #[.int .i64 (p).k, .slice (p).xo (p).xn (p).xc, .slice (p).po (p).pn (p).pc], .agg #[.int .i64 (s).k, .slice (s).xo (s).xn (s).xc, .slice (s).po (s).pn (s).pc], .agg #[.int .i64 (p).k, .slice (p).xo (p).xn (p).xc, .slice (p).po (p).pn (p).pc], .int .i64 (d : Int), .int .i64 (din s.k p.k d : Nat), .func (.func 81) #[] #[.pointer (some ⟨W5.heap.size + 1, 0, none⟩), .pointer (some ⟨W5.heap.size, 0, none⟩)], u27, u28, u29, u30, u31, u32, u33, u34], marks Ds⟩ ∧ W' = (W5.alloc (.cells #[.int .i64 (p).k, .slice (p).xo (p).xn (p).xc, .slice (p).po (p).pn (p).pc] 45)).alloc (.cells #[.int .i64 (din s.k p.k d : Nat)] 3)) _ _ from wpIn_wide.2 ?_) ?_
        · show Code.wp _ _ _ _ _
          refine wp_region_K (S := (fun W => (W.cell? ⟨V.heap.size, 0, none⟩ = some (.int .i64 p.k) ∧ W.cell? ⟨V.heap.size, 1, none⟩ = some (.slice p.xo p.xn p.xc) ∧ W.cell? ⟨V.heap.size, 2, none⟩ = some (.slice p.po p.pn p.pc)) ∧ (W.cell? ⟨b2, 0, none⟩ = some (.int .i64 s.k) ∧ W.cell? ⟨b2, 1, none⟩ = some (.slice s.xo s.xn s.xc) ∧ W.cell? ⟨b2, 2, none⟩ = some (.slice s.po s.pn s.pc)) ∧ W.cell? ⟨b1, 0, none⟩ = some (.int .i64 (d : Int)))) (fun _ => false) (by kernel_rfl) (by exact ⟨⟨p0, p1, p2⟩, ⟨keep_old (ext1 _) q0, keep_old (ext1 _) q1, keep_old (ext1 _) q2⟩, keep_old (ext1 _) x3⟩) (fun hHeld => ?_)
          refine gkt 0 ?_ (h := by intro W hSw; obtain ⟨⟨t0, t1, t2⟩, ⟨r0, r1, r2⟩, o1⟩ := hSw; go_simp; first | done | with_reducible rfl)
          refine gkt 1 ?_ (h := by intro W hSw; obtain ⟨⟨t0, t1, t2⟩, ⟨r0, r1, r2⟩, o1⟩ := hSw; go_simp; first | done | with_reducible rfl)
          refine gkt 2 ?_ (h := by intro W hSw; obtain ⟨⟨t0, t1, t2⟩, ⟨r0, r1, r2⟩, o1⟩ := hSw; go_simp; first | done | with_reducible rfl)
          refine gkt 3 ?_ (h := by intro W hSw; obtain ⟨⟨t0, t1, t2⟩, ⟨r0, r1, r2⟩, o1⟩ := hSw; go_simp; first | done | with_reducible rfl)
          refine gk1 4 (fun K hK => ?_)
          go_simp
          go_at_call 83; refine (DC.out _).mono ?_; rintro e W5 ⟨rfl, hb5⟩; have H5 := hid hb5; clear hb5; have hR : (fun W : World => (W.cell? ⟨V.heap.size, 0, none⟩ = some (.int .i64 p.k) ∧ W.cell? ⟨V.heap.size, 1, none⟩ = some (.slice p.xo p.xn p.xc) ∧ W.cell? ⟨V.heap.size, 2, none⟩ = some (.slice p.po p.pn p.pc)) ∧ (W.cell? ⟨b2, 0, none⟩ = some (.int .i64 s.k) ∧ W.cell? ⟨b2, 1, none⟩ = some (.slice s.xo s.xn s.xc) ∧ W.cell? ⟨b2, 2, none⟩ = some (.slice s.po s.pn s.pc)) ∧ W.cell? ⟨b1, 0, none⟩ = some (.int .i64 (d : Int))) W5 := ⟨⟨keep_old H5.out hHeld.1.1, keep_old H5.out hHeld.1.2.1, keep_old H5.out hHeld.1.2.2⟩, ⟨keep_old H5.out hHeld.2.1.1, keep_old H5.out hHeld.2.1.2.1, keep_old H5.out hHeld.2.1.2.2⟩, keep_old H5.out hHeld.2.2⟩
          refine hK.out _ _ hR (fun hHeld => ?_)
          clear hK K
          refine gk1 5 (fun K hK => ?_)
          go_simp
          go_at_call 72; refine (WC.out _ _).mono ?_; rintro e W6 ⟨rfl, h6⟩; subst h6; have hR : (fun W : World => (W.cell? ⟨V.heap.size, 0, none⟩ = some (.int .i64 p.k) ∧ W.cell? ⟨V.heap.size, 1, none⟩ = some (.slice p.xo p.xn p.xc) ∧ W.cell? ⟨V.heap.size, 2, none⟩ = some (.slice p.po p.pn p.pc)) ∧ (W.cell? ⟨b2, 0, none⟩ = some (.int .i64 s.k) ∧ W.cell? ⟨b2, 1, none⟩ = some (.slice s.xo s.xn s.xc) ∧ W.cell? ⟨b2, 2, none⟩ = some (.slice s.po s.pn s.pc)) ∧ W.cell? ⟨b1, 0, none⟩ = some (.int .i64 (d : Int))) ((W5.alloc (.cells #[.int .i64 (p).k, .slice (p).xo (p).xn (p).xc, .slice (p).po (p).pn (p).pc] 45)).alloc (.cells #[.int .i64 (din s.k p.k d : Nat)] 3)) := ⟨⟨keep_old (gt (ext1 _) (ext1 _)) hHeld.1.1, keep_old (gt (ext1 _) (ext1 _)) hHeld.1.2.1, keep_old (gt (ext1 _) (ext1 _)) hHeld.1.2.2⟩, ⟨keep_old (gt (ext1 _) (ext1 _)) hHeld.2.1.1, keep_old (gt (ext1 _) (ext1 _)) hHeld.2.1.2.1, keep_old (gt (ext1 _) (ext1 _)) hHeld.2.1.2.2⟩, keep_old (gt (ext1 _) (ext1 _)) hHeld.2.2⟩
          refine hK.out _ _ hR (fun hHeld => ?_)
          clear hK K
          refine wpAnyK_done (by kernel_rfl) ?_ _
          exact ⟨W5, by have := undrew H5.out; rwa [World.size_alloc] at this, rfl, rfl⟩
        intro e a5 W6 h6
        cases e with
        | normal =>
          obtain ⟨W5, hB5, rfl, rfl⟩ := h6
          clear q0 q1 q2 p0 p1 p2 x3 e0 e1 e2 hbx
          obtain ⟨dd, hdd⟩ : ∃ dd, dd = din s.k p.k d := ⟨_, rfl⟩
          have hd17 : dd ≤ 17 := by rw [hdd]; exact hpm.out.2
          obtain ⟨C, hC, hC2⟩ := pre_split HP.out
          have HC := hid hC; have HC2 := hid hC2; have HDD := hid hdd
          rw [← hdd] at HC HC2 ⊢
          clear hC hC2 hdd
          obtain ⟨Wc, hWc⟩ : ∃ Wc, Wc = (W5.alloc (.cells #[.int .i64 (p).k, .slice (p).xo (p).xn (p).xc, .slice (p).po (p).pn (p).pc] 45)).alloc (.cells #[.int .i64 (dd : Int)] 3) := ⟨_, rfl⟩
          rw [← hWc]
          have z5 := hB5.size
          rw [World.size_alloc] at z5
          have zc : Wc.heap.size = W5.heap.size + 2 := by rw [hWc]; simp
          have BVc : Below V.heap.size V Wc := by
            rw [hWc]
            exact (((ext1 _).trans (hB5.mono (by omega))).trans ((ext1 _).mono (by omega))).trans ((ext1 _).mono (by simp; omega))
          have BC := hid BVc
          have CB1 := hid (show Wc.heap[W5.heap.size + 1]? = some (.cells #[.int .i64 (dd : Int)] 3) from (by rw [hWc]; have := heap_alloc_new (W5.alloc (.cells #[.int .i64 (p).k, .slice (p).xo (p).xn (p).xc, .slice (p).po (p).pn (p).pc] 45)) (.cells #[.int .i64 (dd : Int)] 3); rwa [World.size_alloc] at this))
          have CB2 := hid (show Bx Wc W5.heap.size p from (by rw [hWc]; exact (Bx.new W5 p).keep (ext1 _)))
          have hgV := hid ((HJ.out _).gd _ _ HH.out.j)
          have YC := hid ((BC.out.block yb (by have := HYB.out; omega)).trans Y4.out)
          clear hWc hB5 BVc BP
          have ND9 := hid (show (Wc.heap.size :: Ds).Nodup from List.nodup_cons.2 ⟨fun h => (by have := (hgV.out _ (.inr h)).2; omega), HH.out.nd⟩)
          have MK9 := hid (fun (W9 : World) (h1 : Mark Wc.heap.size W9) (h2 : Sm (fun i => (G i ∨ i = yb ∨ (W2.heap.size ≤ i ∧ i < W3.heap.size)) ∨ i ∈ Ds) Wc W9) D (hD : D ∈ Wc.heap.size :: Ds) => show Mark D W9 from (by
            rcases List.mem_cons.1 hD with rfl | h
            · exact h1
            · exact (h2.same D (.inr h)).trans ((BC.out.block D (hgV.out D (.inr h)).2).trans (HH.out.mks D h))))
          have LT9 := hid (fun D (hD : D ∈ Wc.heap.size :: Ds) => show W3.heap.size ≤ D from (by
            rcases List.mem_cons.1 hD with rfl | h
            · omega
            · exact HH.out.lt D h))
          have NG9 := hid (fun D (hD : D ∈ Wc.heap.size :: Ds) (hGD : G D) => show False from (by have := LT9.out D hD; have := (hG.out D hGD).2; omega))
          simp only [Exit.then]
          gi_wp2
          refine range_g (N := N) (w0 := w0) (fun x : Nat × Sh => #[.int .i64 (x.1 : Int), .agg #[.int .i64 (x.2).k, .slice (x.2).xo (x.2).xn (x.2).xc, .slice (x.2).po (x.2).pn (x.2).pc]]) (p.flat dd) (gf := 81) (lb := #[.pointer (some ⟨W5.heap.size + 1, 0, none⟩), .pointer (some ⟨W5.heap.size, 0, none⟩)]) rfl (enters_of Try.func81 (by kernel_rfl) rfl) (fun _ => rfl)
            (fun k => J ((pre d s i).length + k)) (fun c Gs W => c = .ret ∧ Jx Gs W) (fun k => HJ.out _)
            (fun c => ⟨fun Gs W h => HJx.out.base _ _ h.2, fun Gs W h => HJx.out.gd _ _ h.2, fun Gs Gs' W W' h hf hs => ⟨h.1, HJx.out.mv _ _ _ _ h.2 hf hs⟩⟩)
            (fun i => i = W5.heap.size ∨ i = W5.heap.size + 1) (fun i => (G i ∨ i = yb ∨ (W2.heap.size ≤ i ∧ i < W3.heap.size)) ∨ i ∈ Ds)
            (fun i hi h => by have := (hgV.out i h).2; omega)
            ((HJ.out _).mv _ _ _ _ HH.out.j (Fr.of_below BC.out) (fun i hi => by
              rcases hi with hi | hi
              · exact .inr ⟨by omega, by omega⟩
              · exact .inl hi))
            ?hseq (fun x W => W.alloc (.cells #[.int .i64 (x.2).k, .slice (x.2).xo (x.2).xn (x.2).xc, .slice (x.2).po (x.2).pn (x.2).pc] 45)) (fun x W => Fr.alloc _ _ _) (fun x Wa => ⟨#[.func (.yield l) #[] #[], .pointer (some ⟨b1, 0, none⟩), .pointer (some ⟨b2, 0, none⟩), .pointer (some ⟨yb, 0, none⟩), u4, .pointer (some ⟨V.heap.size, 0, none⟩), .int .i64 (x.1 : Int), .pointer (some ⟨Wa.heap.size, 0, none⟩), u8, u9, u10, u11, u12, u13, u14, .slice (some ⟨rb, off, none⟩) n pc, .int .i64 (n : Int), .int .i64 (i : Int), .bool true, .pointer (some ⟨rb, off + i * 3, none⟩), .agg #[.int .i64 (p).k, .slice (p).xo (p).xn (p).xc, .slice (p).po (p).pn (p).pc], .agg #[.int .i64 (p).k, .slice (p).xo (p).xn (p).xc, .slice (p).po (p).pn (p).pc], .agg #[.int .i64 (s).k, .slice (s).xo (s).xn (s).xc, .slice (s).po (s).pn (s).pc], .agg #[.int .i64 (p).k, .slice (p).xo (p).xn (p).xc, .slice (p).po (p).pn (p).pc], .int .i64 (d : Int), .int .i64 (dd : Int), .func (.func 81) #[] #[.pointer (some ⟨W5.heap.size + 1, 0, none⟩), .pointer (some ⟨W5.heap.size, 0, none⟩)], .int .i64 (x.1 : Int), .agg #[.int .i64 (x.2).k, .slice (x.2).xo (x.2).xn (x.2).xc, .slice (x.2).po (x.2).pn (x.2).pc], u29, u30, u31, u32, u33, u34], []⟩) ?hassign ?hbody ?hdone ?hstop
          case hseq =>
            intro l' J' Jx' W' hF hJ' hJx' hY' hj0
            refine (IH.out p dd (by have := nodes_lt hpm.out.1; have := HM.out; omega) hd17 (HIN.out.part hpm.out.1) (m - 1) l' (W5.heap.size + 1) W5.heap.size J' Jx' _ W' hJ' hJx' (fun k x Gs W h1 h2 => hY' k x Gs W h1 h2) hj0 (.inr rfl) (.inl rfl) ((hF.blk _ (by omega) (fun h => h)).trans CB1.out) (show Bx W' W5.heap.size p from (hF.blk _ (by omega) (fun h => h)).trans CB2.out)).mono ?_
            rintro e W9 ⟨hv, h⟩
            exact ⟨hv, h.imp (fun h => (hJ' _).less h (fun i hi => hi.elim)) (fun h => hJx'.less h (fun i hi => hi.elim))⟩
          case hassign =>
            intro l' x W' K hK
            gi_wp2
            exact hK
          case hbody =>
            intro l' k x Gs Wa V' hx hI hg hsz hnew
            have hyb' := (hg yb (.inl (.inr (.inl rfl)))).2.trans YC.out
            have hbx : Bx V' Wa.heap.size x.2 := ((hnew _ (Nat.le_refl _)).1).trans (heap_alloc_new Wa _)
            obtain ⟨t0, t1, t2⟩ := hbx.cells
            have ty : V'.cell? ⟨yb, 0, none⟩ = some (.func (.yield l) #[] #[]) := by simp [World.cell?, hyb']
            have YY := (HC.out ▸ HY.out.any (m - 1 - 1 - 1) : Yds (m - 1 - 1 - 1) l (pre d s i ++ (p.flat dd ++ C)) J Jx).part
            obtain ⟨fn, tms, asg, bdy, hy, hYR⟩ := YY k x Gs V' hx hI
            have HYR := hid hYR
            clear YY hYR hg hnew hsz hbx hyb' hI hx
            gi_wp2
            refine ⟨fun h => (by cases h), HYR.out.mono ?_⟩
            rintro e W9 ⟨hs9, ⟨rfl, hJ9⟩ | ⟨rfl, hx9⟩⟩
            · have S9 := hid hs9; have J9 := hid hJ9
              clear hs9 hJ9 hy
              gi_wp2
              exact ⟨S9.out, J9.out⟩
            · have S9 := hid hs9; have J9 := hid hx9
              clear hs9 hx9 hy
              gi_wp2
              exact ⟨S9.out, rfl, J9.out⟩
          case hdone =>
            intro W9 hI hM9 hS9
            have I9 := hid hI; have M9 := hid hM9; have S9 := hid hS9
            clear hI hM9 hS9
            gi_wp2
            refine ⟨n - (i + 1), by omega, i + 1, Wc.heap.size :: Ds, _, _, _, _, _, _, _, _, _, _, _, _, _, _, _, _, _, _, _, _, _, _, _, _, _, _, _, _, rfl, by omega, rfl, ⟨?_, ?_, ND9.out, MK9.out W9 M9.out S9.out, LT9.out⟩⟩
            · rw [HC2.out, List.length_append]
              exact (HJ.out _).less I9.out fun j hj => by
                rcases hj with h | h
                · exact .inl (.inl h)
                · rcases List.mem_cons.1 h with h | h
                  · exact .inr h
                  · exact .inl (.inr h)
            · exact (HH.out.sm.trans ((Fr.of_below (S := fun _ => False) BC.out).sm fun j hj => ⟨(hgV.out j (.inl hj)).2, fun h => h⟩)).trans (S9.out.mono fun j hj => .inl hj)
          case hstop =>
            rintro c W9 ⟨rfl, hx9⟩ hM9 hS9
            have I9 := hid hx9; have M9 := hid hM9; have S9 := hid hS9
            clear hx9 hM9 hS9
            gi_wp2
            refine leave N w0 HJx.out G m _ _ (fun v W h => ⟨⟨_, rfl⟩, .inr h⟩) (Wc.heap.size :: Ds) W9 ND9.out (MK9.out W9 M9.out S9.out) (HJx.out.less I9.out fun j hj => ?_) NG9.out
            rcases hj with h | h
            · exact .inl (.inl (.inl h))
            · rcases List.mem_cons.1 h with h | h
              · exact .inr h
              · exact .inl (.inr h)
        | _ => exact h6.elim
      · obtain rfl : i = n := by omega
        gi_wp2
        refine leave N w0 (HJ.out (s.flat d).length) G m _ _ (fun v W h => ⟨⟨_, rfl⟩, .inl h⟩) Ds V HH.out.nd HH.out.mks ?_ (fun D hD hGD => by have := HH.out.lt D hD; have := (hG.out D hGD).2; omega)
        rw [← pre_all, ← HN.out]
        exact (HJ.out _).less HH.out.j fun j hj => hj.imp (fun h => .inl h) id
    · have J2 := hid hJx2
      clear hJx2 hs2 hy
      gi_wp2
      exact ⟨_, results_none rfl _ _ _, ⟨_, rfl⟩, .inr (HJx.out.less J2.out fun j hj => .inl hj)⟩
end Go.Proofs.Ytjlahomjhadnkaa
