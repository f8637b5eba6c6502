/- All that lies in a shape is told, one by one; no statement of the seat is proved here. -/
import Derived.Test.YtpmfedimjjifaaaGreatDoorJ01
namespace Go.Proofs.YtpmfedimjjifaaaGreatDoor
open Go.RowKit Go.Maps

set_option maxRecDepth 100000 in
theorem room_none {F : Fence} (hd : F.depth = none) (k : Nat) : F.room k := fun d h => by rw [hd] at h; cases h
set_option maxRecDepth 100000 in
theorem round_any {F : Fence} (hd : F.depth = none) {m m' : Nat} {P : Program} {l : Nat} {f : FuncId} {tmps : Array Value} {assign body : Code} {w : World} {R : Ending → World → Prop}
    (h : RoundIn F m P l f tmps assign body w R) : RoundIn F m' P l f tmps assign body w R := ⟨h.1, fun c cs _ => h.2 c cs (room_none hd _)⟩
set_option maxRecDepth 100000 in
theorem yield_any {F : Fence} (hd : F.depth = none) {m : Nat} (m' : Nat) {P : Program} {l : Nat} {args : Array Value} {W : World} {R : Ending → World → Prop} (h : YieldAt F m P l args W R) : YieldAt F m' P l args W R := by
  obtain ⟨fn, tmps, assign, body, hy, hR⟩ := h
  exact ⟨fn, tmps, assign, body, hy, round_any hd hR⟩

/-- What a round is asked, at one that is told. -/
def Yds (m l : Nat) (its : List (Nat × Sh)) (J : Nat → (Nat → Prop) → World → Prop) (Jx : (Nat → Prop) → World → Prop) : Prop :=
  ∀ k x G W, its[k]? = some x → J k G W → YieldAt Fence.wide m Tryz.prog l #[.int .i64 (x.1 : Int), .agg #[.int .i64 (x.2).k, .slice (x.2).xo (x.2).xn (x.2).xc, .slice (x.2).po (x.2).pn (x.2).pc]] W fun e W' => Sm G W W' ∧ ((e = .returned (.bool true) ∧ J (k + 1) G W') ∨ (e = .returned (.bool false) ∧ Jx G W'))
set_option maxRecDepth 100000 in
theorem Yds.any {m l : Nat} {its : List (Nat × Sh)} {J : Nat → (Nat → Prop) → World → Prop} {Jx : (Nat → Prop) → World → Prop} (h : Yds m l its J Jx) (m' : Nat) : Yds m' l its J Jx := fun k x G W h1 h2 => yield_any rfl m' (h k x G W h1 h2)
set_option maxRecDepth 100000 in
theorem Yds.part {m l : Nat} {A B C : List (Nat × Sh)} {J : Nat → (Nat → Prop) → World → Prop} {Jx : (Nat → Prop) → World → Prop} (h : Yds m l (A ++ (B ++ C)) J Jx) : Yds m l B (fun k => J (A.length + k)) Jx := fun k x G W h1 h2 =>
  h (A.length + k) x G W (by
    rw [List.getElem?_append_right (by omega), show A.length + k - A.length = k by omega, List.getElem?_append_left (List.getElem?_eq_some_iff.1 h1).1]; exact h1) h2

/-- What is held between two parts. -/
structure Hold (N : Nat) (w0 : World) (J : Nat → (Nat → Prop) → World → Prop) (G : Nat → Prop) (yb Z2 Z3 : Nat) (W3 : World) (k : Nat) (Ds : List Nat) (W : World) : Prop where
  j : J k (fun i => (G i ∨ i = yb ∨ (Z2 ≤ i ∧ i < Z3)) ∨ i ∈ Ds) W
  sm : Sm (fun i => G i ∨ i = yb ∨ (Z2 ≤ i ∧ i < Z3)) W3 W
  nd : Ds.Nodup
  mks : ∀ D ∈ Ds, Mark D W
  lt : ∀ D ∈ Ds, Z3 ≤ D

/-- What was told ahead of the i-th part. -/
def pre (d : Nat) (s : Sh) (i : Nat) : List (Nat × Sh) := (d, s) :: ((seenL d s).take i).flatMap fun p => p.flat (din s.k p.k d)
set_option maxRecDepth 100000 in
theorem pre_split {d : Nat} {s p : Sh} {i : Nat} (h : (seenL d s)[i]? = some p) : ∃ C, s.flat d = pre d s i ++ (p.flat (din s.k p.k d) ++ C) ∧ pre d s (i + 1) = pre d s i ++ p.flat (din s.k p.k d) := by
  have hlt : i < (seenL d s).length := (List.getElem?_eq_some_iff.1 h).1
  have hp : (seenL d s)[i] = p := (List.getElem?_eq_some_iff.1 h).2
  refine ⟨((seenL d s).drop (i + 1)).flatMap fun p => p.flat (din s.k p.k d), ?_, ?_⟩
  · rw [flat_eq]
    have e : seenL d s = (seenL d s).take i ++ (p :: (seenL d s).drop (i + 1)) := by
      rw [← hp, ← List.drop_eq_getElem_cons hlt, List.take_append_drop]
    rw [show (d, s) :: (seenL d s).flatMap (fun p => p.flat (din s.k p.k d)) = (d, s) :: ((seenL d s).take i ++ (p :: (seenL d s).drop (i + 1))).flatMap (fun p => p.flat (din s.k p.k d)) by rw [← e]]
    simp [pre]
  · unfold pre
    rw [List.take_add_one, h]
    simp
set_option maxRecDepth 100000 in
theorem pre_all (d : Nat) (s : Sh) : pre d s (seenL d s).length = s.flat d := by unfold pre; rw [flat_eq]; simp
def NPost (R : Act → World → Prop) : Exit → Act → World → Prop
  | .normal, a, w => R a w
  | _, _, _ => False
def marks (Ds : List Nat) : List Deferred := Ds.map fun D => { target := .collected D, args := #[] }

set_option maxRecDepth 100000 in
/-- The way out, with so many marks. -/
theorem leave (N : Nat) (w0 : World) {J : (Nat → Prop) → World → Prop} (hJ : Cns N w0 J) (G : Nat → Prop) (m : Nat) (tmps : Array Value) (R : Ending → World → Prop) (hR : ∀ v W, J G W → R (.returned v) W) (Ds : List Nat) (W : World) (nd : Ds.Nodup) (mk : ∀ D ∈ Ds, Mark D W) (hj : J (fun i => G i ∨ i ∈ Ds) W) (hG : ∀ D ∈ Ds, ¬ G D) :
    LeavesInM Fence.wide m Tryz.prog Tryz.f121 tmps R (marks Ds) .returning W := by
  refine leaves_marks (fun Gs W => J (fun i => G i ∨ Gs i) W ∧ ∀ i, Gs i → ¬ G i) (fun D Gs W h hD => ⟨hJ.mv _ _ _ _ h.1 ((Fr.put W D _).mono fun i _ e => .inr (e ▸ hD)) (fun i hi => .inl (hi.imp id fun h => h.1)), fun i hi => h.2 i hi.1⟩) (fun W h => ?_) Ds W nd mk ⟨hj, hG⟩
  exact ⟨_, results_none rfl _ _ _, hR _ _ (hJ.less h.1 fun i hi => .inl hi)⟩

attribute [local go_sem] Oper.semAt_some

set_option maxRecDepth 100000 in
theorem follows_mixed : Tryz.prog.follows .mixedOrders = true := by kernel_rfl

set_option maxRecDepth 100000 in
set_option maxHeartbeats 8000000 in
theorem whole1_in (N : Nat) (w0 : World) (hN0 : N ≤ w0.heap.size) : ∀ (M : Nat) (s : Sh) (d : Nat), s.nodes.length ≤ M → d ≤ 17 → In (fun b => b < N) w0 s → ∀ (m l b1 b2 : Nat) (J : Nat → (Nat → Prop) → World → Prop) (Jx : (Nat → Prop) → World → Prop) (G : Nat → Prop) (W : World),
    (∀ k, Cns N w0 (J k)) → Cns N w0 Jx → Yds (m - 1) l (s.flat d) J Jx → J 0 G W → G b1 → G b2 → W.heap[b1]? = some (.cells #[.int .i64 (d : Int)] 3) → Bx W b2 s →
    CallsIn Fence.wide m Tryz.prog 121 #[.func (.yield l) #[] #[], .pointer (some ⟨b1, 0, none⟩), .pointer (some ⟨b2, 0, none⟩)] W fun e W' => (∃ v, e = .returned v) ∧ (J (s.flat d).length G W' ∨ Jx G W') := by
  intro M
  induction M with
  | zero => intro s d h; rw [nodes_eq] at h; simp at h
  | succ M ih =>
    intro s d hM hd hin m l b1 b2 J Jx G W hJ hJx hY h0 g1 g2 c1 c2
    have hmx := follows_mixed
    have HJ := hid hJ; have HJx := hid hJx; have HY := hid hY; have IH := hid ih; have HIN := hid hin; have HM := hid hM
    obtain ⟨yb, hyb⟩ : ∃ yb, yb = W.heap.size := ⟨_, rfl⟩
    have HYB := hid hyb
    have hb1 : b1 < W.heap.size := (Array.getElem?_eq_some_iff.1 c1).1
    have hb2 : b2 < W.heap.size := c2.lt
    have hNW : N ≤ W.heap.size := by have := ((hJ 0).base _ _ h0).size; omega
    have hG := hid (fun i (h : G i) => (hJ 0).gd _ _ h0 i h)
    have j1 : J 0 (fun i => G i ∨ i = yb) (W.alloc (.cells #[.func (.yield l) #[] #[]] 178)) := (hJ 0).mv _ _ _ _ h0 (Fr.alloc _ _ _) (fun i hi => hi.imp id fun e => ⟨by omega, by rw [e, hyb]; simp⟩)
    obtain ⟨fn, tms, asg, bdy, hy, hYR⟩ := hY 0 (d, s) _ _ (by rw [flat_eq]; rfl) j1
    have HYR := hid hYR
    have x1 : W.cell? ⟨b1, 0, none⟩ = some (.int .i64 (d : Int)) := by simp [World.cell?, c1]
    obtain ⟨y0, y1, y2⟩ := c2.cells
    have C1 := hid c1; have C2 := hid c2
    clear hJ hJx hY ih hin hM h0 j1 c1 c2 hYR hyb
    refine callsIn_of_wp_marks Tryz.func121 rfl trivial ?_ rfl
    simp only [Tryz.ntmps121, List.size_toArray, List.length_cons, List.length_nil, Nat.reduceAdd, Nat.reduceSub, Array.replicate_succ, Array.replicate_zero, List.push_toArray, List.append_toArray, List.nil_append, List.cons_append]
    gi_wp2
    refine ⟨fun h => (by cases h), HYR.out.mono ?_⟩
    rintro e W2 ⟨hs2, ⟨rfl, hJ2⟩ | ⟨rfl, hJx2⟩⟩
    · have Y2 := hid (show W2.heap[yb]? = some (.cells #[.func (.yield l) #[] #[]] 178) from (hs2.same yb (.inr rfl)).trans (by rw [HYB.out]; exact heap_alloc_new _ _))
      have C12 := hid ((hs2.same b1 (.inl g1)).trans (((ext1 _).block _ hb1).trans C1.out))
      have C22 := hid (show Bx W2 b2 s from (hs2.same b2 (.inl g2)).trans (((ext1 _).block _ hb2).trans C2.out))
      have hZ := hs2.size
      rw [World.size_alloc] at hZ
      have J2 := hid hJ2
      have B2 := hid ((HJ.out _).base _ _ hJ2)
      have SC := hid (seen_call N s d W2 (by omega) ((HIN.out.below B2.out).here) hd)
      have x2 : W2.cell? ⟨b1, 0, none⟩ = some (.int .i64 (d : Int)) := by simp [World.cell?, C12.out]
      obtain ⟨q0, q1, q2⟩ := C22.out.cells
      clear hs2 hJ2 hy HYR x1 y0 y1 y2
      rw [← HYB.out]
      gi_wp2_with (refine ⟨trivial, fun h => (by cases h), ?_⟩; refine (callsIn_wide.2 SC.out).mono ?_; rintro e W3 ⟨po, pc, rfl, hpr, hb3⟩; have PRH := hid hpr; have H3 := hid hb3; clear hpr hb3)
      obtain ⟨n, hn⟩ : ∃ n, n = (seenL d s).length := ⟨_, rfl⟩
      have HN := hid hn
      rw [← hn]
      have hz3 := H3.out.size
      have h0 : Hold N w0 J G yb W2.heap.size W3.heap.size W3 1 [] W3 := ⟨(HJ.out _).mv _ _ _ _ J2.out (Fr.of_below H3.out) (fun i hi => by
          rcases hi with (hi | hi | hi) | hi
          · exact .inl (.inl hi)
          · exact .inl (.inr hi)
          · exact .inr hi
          · cases hi), Sm.refl _ _, List.nodup_nil, (fun D h => by cases h), (fun D h => by cases h)⟩
      have H0 := hid h0
      have C13 := hid ((H3.out.block _ (by omega)).trans C12.out)
      have C23 := hid (C22.out.keep H3.out)
      have Y3 := hid ((H3.out.block yb (by have := HYB.out; omega)).trans Y2.out)
      have hNn : n ≤ 9223372036854775807 := by
        have h1 := ((HIN.out.below B2.out).here)
        have h2 := h1.pb
        have h3 : (seenL d s).length ≤ s.ps.length := List.length_filter_le _ _
        have h4 := h1.pl
        omega
      clear h0 x2 q0 q1 q2 hn C12 C22 Y2 SC
      refine wpIn_loop_ghost (fun g a V => ∃ (i : Nat) (Ds : List Nat) (u4 u5 u6 u7 u8 u9 u10 u11 u12 u13 u14 u18 u19 u20 u21 u22 u23 u24 u25 u26 u27 u28 u29 u30 u31 u32 u33 u34 : Value), g = n - i ∧ i ≤ n ∧ a = ⟨#[.func (.yield l) #[] #[], .pointer (some ⟨b1, 0, none⟩), .pointer (some ⟨b2, 0, none⟩), .pointer (some ⟨yb, 0, none⟩), u4, u5, u6, u7, u8, u9, u10, u11, u12, u13, u14, .slice po n pc, .int .i64 (n : Int), .int .i64 (i : Int), u18, u19, u20, u21, u22, u23, u24, u25, u26, u27, u28, u29, u30, u31, u32, u33, u34], marks Ds⟩ ∧ Hold N w0 J G yb W2.heap.size W3.heap.size W3 (pre d s i).length Ds V) n ⟨0, [], _, _, _, _, _, _, _, _, _, _, _, _, _, _, _, _, _, _, _, _, _, _, _, _, _, _, _, _, rfl, by omega, rfl, H0.out⟩ ?_
      rintro g a V ⟨i, Ds, u4, u5, u6, u7, u8, u9, u10, u11, u12, u13, u14, u18, u19, u20, u21, u22, u23, u24, u25, u26, u27, u28, u29, u30, u31, u32, u33, u34, rfl, hi, rfl, hh⟩
      have HH := hid hh
      have zV := hh.sm.size
      have C14 := hid ((hh.sm.same b1 (.inl g1)).trans C13.out)
      have C24 := hid (show Bx V b2 s from (hh.sm.same b2 (.inl g2)).trans C23.out)
      have Y4 := hid ((hh.sm.same yb (.inr (.inl rfl))).trans Y3.out)
      have BV := hid ((HJ.out _).base _ _ hh.j)
      clear hh
      by_cases hin : i < n
      · have hlt : (i : Int) < (n : Int) := by omega
        obtain ⟨p, hp⟩ : ∃ p, (seenL d s)[i]? = some p := ⟨_, List.getElem?_eq_getElem (by rw [← HN.out]; exact hin)⟩
        obtain ⟨rb, off, hpo, hrb, hat⟩ := PRH.out.resolve_left (by intro e; rw [e] at hp; simp at hp)
        have hrV : V.heap[rb]? = W3.heap[rb]? := by
          rcases hrb with h | h
          · exact (BV.out.block rb h).trans (((HJ.out _).base _ _ H0.out.j).block rb h).symm
          · exact HH.out.sm.same rb (.inr (.inr h))
        obtain ⟨e0, e1, e2⟩ := (hat i p hp).of hrV
        have HP := hid hp
        have hpm := hid (seenL_mem (List.mem_of_getElem? hp))
        have x3 : V.cell? ⟨b1, 0, none⟩ = some (.int .i64 (d : Int)) := by simp [World.cell?, C14.out]
        obtain ⟨q0, q1, q2⟩ := C24.out.cells
        have DC := hid (fun W => din_call s p d W (by omega))
        have WC := hid (fun d W => whole_call p d W)
        subst hpo
        clear hp hat hrV hrb
        gi_wp2
        have BP := hid (Bx.new V p)
        obtain ⟨p0, p1, p2⟩ := BP.out.cells
        have hbx : ∀ o : Obj, b2 < (V.alloc o).heap.size := fun o => by simp; omega
        refine wpIn_mono (show Code.wpIn Fence.wide m Tryz.prog _ (NPost fun a' W' => ∃ W5, Below (V.heap.size + 1) (V.alloc (.cells #[.int .i64 (p).k, .slice (p).xo (p).xn (p).xc, .slice (p).po (p).pn (p).pc] 39)) W5 ∧ a' = ⟨#[.func (.yield l) #[] #[], .pointer (some ⟨b1, 0, none⟩), .pointer (some ⟨b2, 0, none⟩), .pointer (some ⟨yb, 0, none⟩), u4, .pointer (some ⟨V.heap.size, 0, none⟩), u6, u7, u8, u9, u10, u11, u12, u13, u14, .slice (some ⟨rb, off, none⟩) n pc, .int .i64 (n : Int), .int .i64 (i : Int), .bool true, .pointer (some ⟨rb, off + i * 3, none⟩), .agg #[.int .i64 (p).k, .slice (p).xo (p).xn (p).xc, .slice (p).po (p).pn (p).pc], .agg #[.int .i64 (p).k, .slice (p).xo (p).xn (p).xc, .slice (p).po (p).pn (p).pc], .agg #[.int .i64 (s).k, .slice (s).xo (s).xn (s).xc, .slice (s).po (s).pn (s).pc], .agg #[.int .i64 (p).k, .slice (p).xo (p).xn (p).xc, .slice (p).po (p).pn (p).pc], .int .i64 (d : Int), .int .i64 (din s.k p.k d : Nat), .func (.func 121) #[] #[.pointer (some ⟨W5.heap.size + 1, 0, none⟩), .pointer (some ⟨W5.heap.size, 0, none⟩)], u27, u28, u29, u30, u31, u32, u33, u34], marks Ds⟩ ∧ W' = (W5.alloc (.cells #[.int .i64 (p).k, .slice (p).xo (p).xn (p).xc, .slice (p).po (p).pn (p).pc] 39)).alloc (.cells #[.int .i64 (din s.k p.k d : Nat)] 3)) _ _ from wpIn_wide.2 ?_) ?_
        · show Code.wp _ _ _ _ _
          refine wp_region_K (S := (fun W => (W.cell? ⟨V.heap.size, 0, none⟩ = some (.int .i64 p.k) ∧ W.cell? ⟨V.heap.size, 1, none⟩ = some (.slice p.xo p.xn p.xc) ∧ W.cell? ⟨V.heap.size, 2, none⟩ = some (.slice p.po p.pn p.pc)) ∧ (W.cell? ⟨b2, 0, none⟩ = some (.int .i64 s.k) ∧ W.cell? ⟨b2, 1, none⟩ = some (.slice s.xo s.xn s.xc) ∧ W.cell? ⟨b2, 2, none⟩ = some (.slice s.po s.pn s.pc)) ∧ W.cell? ⟨b1, 0, none⟩ = some (.int .i64 (d : Int)))) (fun _ => false) (by kernel_rfl) (by exact ⟨⟨p0, p1, p2⟩, ⟨keep_old (ext1 _) q0, keep_old (ext1 _) q1, keep_old (ext1 _) q2⟩, keep_old (ext1 _) x3⟩) (fun hHeld => ?_)
          refine gkt 0 ?_ (h := by intro W hSw; obtain ⟨⟨t0, t1, t2⟩, ⟨r0, r1, r2⟩, o1⟩ := hSw; go_simp; first | done | with_reducible rfl)
          refine gkt 1 ?_ (h := by intro W hSw; obtain ⟨⟨t0, t1, t2⟩, ⟨r0, r1, r2⟩, o1⟩ := hSw; go_simp; first | done | with_reducible rfl)
          refine gkt 2 ?_ (h := by intro W hSw; obtain ⟨⟨t0, t1, t2⟩, ⟨r0, r1, r2⟩, o1⟩ := hSw; go_simp; first | done | with_reducible rfl)
          refine gkt 3 ?_ (h := by intro W hSw; obtain ⟨⟨t0, t1, t2⟩, ⟨r0, r1, r2⟩, o1⟩ := hSw; go_simp; first | done | with_reducible rfl)
          refine gk1 4 (fun K hK => ?_)
          go_simp
          go_at_call 123; refine (DC.out _).mono ?_; rintro e W5 ⟨rfl, hb5⟩; have H5 := hid hb5; clear hb5; have hR : (fun W : World => (W.cell? ⟨V.heap.size, 0, none⟩ = some (.int .i64 p.k) ∧ W.cell? ⟨V.heap.size, 1, none⟩ = some (.slice p.xo p.xn p.xc) ∧ W.cell? ⟨V.heap.size, 2, none⟩ = some (.slice p.po p.pn p.pc)) ∧ (W.cell? ⟨b2, 0, none⟩ = some (.int .i64 s.k) ∧ W.cell? ⟨b2, 1, none⟩ = some (.slice s.xo s.xn s.xc) ∧ W.cell? ⟨b2, 2, none⟩ = some (.slice s.po s.pn s.pc)) ∧ W.cell? ⟨b1, 0, none⟩ = some (.int .i64 (d : Int))) W5 := ⟨⟨keep_old H5.out hHeld.1.1, keep_old H5.out hHeld.1.2.1, keep_old H5.out hHeld.1.2.2⟩, ⟨keep_old H5.out hHeld.2.1.1, keep_old H5.out hHeld.2.1.2.1, keep_old H5.out hHeld.2.1.2.2⟩, keep_old H5.out hHeld.2.2⟩
          refine hK.out _ _ hR (fun hHeld => ?_)
          clear hK K
          refine gk1 5 (fun K hK => ?_)
          go_simp
          go_at_call 93; refine (WC.out _ _).mono ?_; rintro e W6 ⟨rfl, h6⟩; subst h6; have hR : (fun W : World => (W.cell? ⟨V.heap.size, 0, none⟩ = some (.int .i64 p.k) ∧ W.cell? ⟨V.heap.size, 1, none⟩ = some (.slice p.xo p.xn p.xc) ∧ W.cell? ⟨V.heap.size, 2, none⟩ = some (.slice p.po p.pn p.pc)) ∧ (W.cell? ⟨b2, 0, none⟩ = some (.int .i64 s.k) ∧ W.cell? ⟨b2, 1, none⟩ = some (.slice s.xo s.xn s.xc) ∧ W.cell? ⟨b2, 2, none⟩ = some (.slice s.po s.pn s.pc)) ∧ W.cell? ⟨b1, 0, none⟩ = some (.int .i64 (d : Int))) ((W5.alloc (.cells #[.int .i64 (p).k, .slice (p).xo (p).xn (p).xc, .slice (p).po (p).pn (p).pc] 39)).alloc (.cells #[.int .i64 (din s.k p.k d : Nat)] 3)) := ⟨⟨keep_old (gt (ext1 _) (ext1 _)) hHeld.1.1, keep_old (gt (ext1 _) (ext1 _)) hHeld.1.2.1, keep_old (gt (ext1 _) (ext1 _)) hHeld.1.2.2⟩, ⟨keep_old (gt (ext1 _) (ext1 _)) hHeld.2.1.1, keep_old (gt (ext1 _) (ext1 _)) hHeld.2.1.2.1, keep_old (gt (ext1 _) (ext1 _)) hHeld.2.1.2.2⟩, keep_old (gt (ext1 _) (ext1 _)) hHeld.2.2⟩
          refine hK.out _ _ hR (fun hHeld => ?_)
          clear hK K
          refine wpAnyK_done (by kernel_rfl) ?_ _
          exact ⟨W5, by have := undrew H5.out; rwa [World.size_alloc] at this, rfl, rfl⟩
        intro e a5 W6 h6
        cases e with
        | normal =>
          obtain ⟨W5, hB5, rfl, rfl⟩ := h6
          clear q0 q1 q2 p0 p1 p2 x3 e0 e1 e2 hbx
          obtain ⟨dd, hdd⟩ : ∃ dd, dd = din s.k p.k d := ⟨_, rfl⟩
          have hd17 : dd ≤ 17 := by rw [hdd]; exact hpm.out.2
          obtain ⟨C, hC, hC2⟩ := pre_split HP.out
          have HC := hid hC; have HC2 := hid hC2; have HDD := hid hdd
          rw [← hdd] at HC HC2 ⊢
          clear hC hC2 hdd
          obtain ⟨Wc, hWc⟩ : ∃ Wc, Wc = (W5.alloc (.cells #[.int .i64 (p).k, .slice (p).xo (p).xn (p).xc, .slice (p).po (p).pn (p).pc] 39)).alloc (.cells #[.int .i64 (dd : Int)] 3) := ⟨_, rfl⟩
          rw [← hWc]
          have z5 := hB5.size
          rw [World.size_alloc] at z5
          have zc : Wc.heap.size = W5.heap.size + 2 := by rw [hWc]; simp
          have BVc : Below V.heap.size V Wc := by
            rw [hWc]
            exact (((ext1 _).trans (hB5.mono (by omega))).trans ((ext1 _).mono (by omega))).trans ((ext1 _).mono (by simp; omega))
          have BC := hid BVc
          have CB1 := hid (show Wc.heap[W5.heap.size + 1]? = some (.cells #[.int .i64 (dd : Int)] 3) from (by rw [hWc]; have := heap_alloc_new (W5.alloc (.cells #[.int .i64 (p).k, .slice (p).xo (p).xn (p).xc, .slice (p).po (p).pn (p).pc] 39)) (.cells #[.int .i64 (dd : Int)] 3); rwa [World.size_alloc] at this))
          have CB2 := hid (show Bx Wc W5.heap.size p from (by rw [hWc]; exact (Bx.new W5 p).keep (ext1 _)))
          have hgV := hid ((HJ.out _).gd _ _ HH.out.j)
          have YC := hid ((BC.out.block yb (by have := HYB.out; omega)).trans Y4.out)
          clear hWc hB5 BVc BP
          have ND9 := hid (show (Wc.heap.size :: Ds).Nodup from List.nodup_cons.2 ⟨fun h => (by have := (hgV.out _ (.inr h)).2; omega), HH.out.nd⟩)
          have MK9 := hid (fun (W9 : World) (h1 : Mark Wc.heap.size W9) (h2 : Sm (fun i => (G i ∨ i = yb ∨ (W2.heap.size ≤ i ∧ i < W3.heap.size)) ∨ i ∈ Ds) Wc W9) D (hD : D ∈ Wc.heap.size :: Ds) => show Mark D W9 from (by
            rcases List.mem_cons.1 hD with rfl | h
            · exact h1
            · exact (h2.same D (.inr h)).trans ((BC.out.block D (hgV.out D (.inr h)).2).trans (HH.out.mks D h))))
          have LT9 := hid (fun D (hD : D ∈ Wc.heap.size :: Ds) => show W3.heap.size ≤ D from (by
            rcases List.mem_cons.1 hD with rfl | h
            · omega
            · exact HH.out.lt D h))
          have NG9 := hid (fun D (hD : D ∈ Wc.heap.size :: Ds) (hGD : G D) => show False from (by have := LT9.out D hD; have := (hG.out D hGD).2; omega))
          simp only [Exit.then]
          gi_wp2
          refine range_g (N := N) (w0 := w0) (fun x : Nat × Sh => #[.int .i64 (x.1 : Int), .agg #[.int .i64 (x.2).k, .slice (x.2).xo (x.2).xn (x.2).xc, .slice (x.2).po (x.2).pn (x.2).pc]]) (p.flat dd) (gf := 121) (lb := #[.pointer (some ⟨W5.heap.size + 1, 0, none⟩), .pointer (some ⟨W5.heap.size, 0, none⟩)]) rfl (enters_of Tryz.func121 (by kernel_rfl) rfl) (fun _ => rfl)
            (fun k => J ((pre d s i).length + k)) (fun c Gs W => c = .ret ∧ Jx Gs W) (fun k => HJ.out _)
            (fun c => ⟨fun Gs W h => HJx.out.base _ _ h.2, fun Gs W h => HJx.out.gd _ _ h.2, fun Gs Gs' W W' h hf hs => ⟨h.1, HJx.out.mv _ _ _ _ h.2 hf hs⟩⟩)
            (fun i => i = W5.heap.size ∨ i = W5.heap.size + 1) (fun i => (G i ∨ i = yb ∨ (W2.heap.size ≤ i ∧ i < W3.heap.size)) ∨ i ∈ Ds)
            (fun i hi h => by have := (hgV.out i h).2; omega)
            ((HJ.out _).mv _ _ _ _ HH.out.j (Fr.of_below BC.out) (fun i hi => by
              rcases hi with hi | hi
              · exact .inr ⟨by omega, by omega⟩
              · exact .inl hi))
            ?hseq (fun x W => W.alloc (.cells #[.int .i64 (x.2).k, .slice (x.2).xo (x.2).xn (x.2).xc, .slice (x.2).po (x.2).pn (x.2).pc] 39)) (fun x W => Fr.alloc _ _ _) (fun x Wa => ⟨#[.func (.yield l) #[] #[], .pointer (some ⟨b1, 0, none⟩), .pointer (some ⟨b2, 0, none⟩), .pointer (some ⟨yb, 0, none⟩), u4, .pointer (some ⟨V.heap.size, 0, none⟩), .int .i64 (x.1 : Int), .pointer (some ⟨Wa.heap.size, 0, none⟩), u8, u9, u10, u11, u12, u13, u14, .slice (some ⟨rb, off, none⟩) n pc, .int .i64 (n : Int), .int .i64 (i : Int), .bool true, .pointer (some ⟨rb, off + i * 3, none⟩), .agg #[.int .i64 (p).k, .slice (p).xo (p).xn (p).xc, .slice (p).po (p).pn (p).pc], .agg #[.int .i64 (p).k, .slice (p).xo (p).xn (p).xc, .slice (p).po (p).pn (p).pc], .agg #[.int .i64 (s).k, .slice (s).xo (s).xn (s).xc, .slice (s).po (s).pn (s).pc], .agg #[.int .i64 (p).k, .slice (p).xo (p).xn (p).xc, .slice (p).po (p).pn (p).pc], .int .i64 (d : Int), .int .i64 (dd : Int), .func (.func 121) #[] #[.pointer (some ⟨W5.heap.size + 1, 0, none⟩), .pointer (some ⟨W5.heap.size, 0, none⟩)], .int .i64 (x.1 : Int), .agg #[.int .i64 (x.2).k, .slice (x.2).xo (x.2).xn (x.2).xc, .slice (x.2).po (x.2).pn (x.2).pc], u29, u30, u31, u32, u33, u34], []⟩) ?hassign ?hbody ?hdone ?hstop
          case hseq =>
            intro l' J' Jx' W' hF hJ' hJx' hY' hj0
            refine (IH.out p dd (by have := nodes_lt hpm.out.1; have := HM.out; omega) hd17 (HIN.out.part hpm.out.1) (m - 1) l' (W5.heap.size + 1) W5.heap.size J' Jx' _ W' hJ' hJx' (fun k x Gs W h1 h2 => hY' k x Gs W h1 h2) hj0 (.inr rfl) (.inl rfl) ((hF.blk _ (by omega) (fun h => h)).trans CB1.out) (show Bx W' W5.heap.size p from (hF.blk _ (by omega) (fun h => h)).trans CB2.out)).mono ?_
            rintro e W9 ⟨hv, h⟩
            exact ⟨hv, h.imp (fun h => (hJ' _).less h (fun i hi => hi.elim)) (fun h => hJx'.less h (fun i hi => hi.elim))⟩
          case hassign =>
            intro l' x W' K hK
            gi_wp2
            exact hK
          case hbody =>
            intro l' k x Gs Wa V' hx hI hg hsz hnew
            have hyb' := (hg yb (.inl (.inr (.inl rfl)))).2.trans YC.out
            have hbx : Bx V' Wa.heap.size x.2 := ((hnew _ (Nat.le_refl _)).1).trans (heap_alloc_new Wa _)
            obtain ⟨t0, t1, t2⟩ := hbx.cells
            have ty : V'.cell? ⟨yb, 0, none⟩ = some (.func (.yield l) #[] #[]) := by simp [World.cell?, hyb']
            have YY := (HC.out ▸ HY.out.any (m - 1 - 1 - 1) : Yds (m - 1 - 1 - 1) l (pre d s i ++ (p.flat dd ++ C)) J Jx).part
            obtain ⟨fn, tms, asg, bdy, hy, hYR⟩ := YY k x Gs V' hx hI
            have HYR := hid hYR
            clear YY hYR hg hnew hsz hbx hyb' hI hx
            gi_wp2
            refine ⟨fun h => (by cases h), HYR.out.mono ?_⟩
            rintro e W9 ⟨hs9, ⟨rfl, hJ9⟩ | ⟨rfl, hx9⟩⟩
            · have S9 := hid hs9; have J9 := hid hJ9
              clear hs9 hJ9 hy
              gi_wp2
              exact ⟨S9.out, J9.out⟩
            · have S9 := hid hs9; have J9 := hid hx9
              clear hs9 hx9 hy
              gi_wp2
              exact ⟨S9.out, rfl, J9.out⟩
          case hdone =>
            intro W9 hI hM9 hS9
            have I9 := hid hI; have M9 := hid hM9; have S9 := hid hS9
            clear hI hM9 hS9
            gi_wp2
            refine ⟨n - (i + 1), by omega, i + 1, Wc.heap.size :: Ds, _, _, _, _, _, _, _, _, _, _, _, _, _, _, _, _, _, _, _, _, _, _, _, _, _, _, _, _, rfl, by omega, rfl, ⟨?_, ?_, ND9.out, MK9.out W9 M9.out S9.out, LT9.out⟩⟩
            · rw [HC2.out, List.length_append]
              exact (HJ.out _).less I9.out fun j hj => by
                rcases hj with h | h
                · exact .inl (.inl h)
                · rcases List.mem_cons.1 h with h | h
                  · exact .inr h
                  · exact .inl (.inr h)
            · exact (HH.out.sm.trans ((Fr.of_below (S := fun _ => False) BC.out).sm fun j hj => ⟨(hgV.out j (.inl hj)).2, fun h => h⟩)).trans (S9.out.mono fun j hj => .inl hj)
          case hstop =>
            rintro c W9 ⟨rfl, hx9⟩ hM9 hS9
            have I9 := hid hx9; have M9 := hid hM9; have S9 := hid hS9
            clear hx9 hM9 hS9
            gi_wp2
            refine leave N w0 HJx.out G m _ _ (fun v W h => ⟨⟨_, rfl⟩, .inr h⟩) (Wc.heap.size :: Ds) W9 ND9.out (MK9.out W9 M9.out S9.out) (HJx.out.less I9.out fun j hj => ?_) NG9.out
            rcases hj with h | h
            · exact .inl (.inl (.inl h))
            · rcases List.mem_cons.1 h with h | h
              · exact .inr h
              · exact .inl (.inr h)
        | _ => exact h6.elim
      · obtain rfl : i = n := by omega
        gi_wp2
        refine leave N w0 (HJ.out (s.flat d).length) G m _ _ (fun v W h => ⟨⟨_, rfl⟩, .inl h⟩) Ds V HH.out.nd HH.out.mks ?_ (fun D hD hGD => by have := HH.out.lt D hD; have := (hG.out D hGD).2; omega)
        rw [← pre_all, ← HN.out]
        exact (HJ.out _).less HH.out.j fun j hj => hj.imp (fun h => .inl h) id
    · have J2 := hid hJx2
      clear hJx2 hs2 hy
      gi_wp2
      exact ⟨_, results_none rfl _ _ _, ⟨_, rfl⟩, .inr (HJx.out.less J2.out fun j hj => .inl hj)⟩
end Go.Proofs.YtpmfedimjjifaaaGreatDoor

/- What is counted of a shape; no statement of the seat is proved here. -/
namespace Go.Proofs.YtpmfedimjjifaaaGreatDoor
open Go.RowKit Go.Maps

/-- Boxes of one's own. -/
def Own (N : Nat) (w0 : World) (bs : List (Nat × Obj)) (G : Nat → Prop) (W : World) : Prop :=
  Below N w0 W ∧ (∀ i, G i → (N ≤ i ∧ i < W.heap.size) ∧ ∀ x ∈ bs, i ≠ x.1) ∧ ∀ x ∈ bs, W.heap[x.1]? = some x.2
set_option maxRecDepth 100000 in
theorem own_cns (N : Nat) (w0 : World) (hN : N ≤ w0.heap.size) (bs : List (Nat × Obj)) : Cns N w0 (Own N w0 bs) := by
  refine ⟨fun G W h => h.1, fun G W h i hi => (h.2.1 i hi).1, fun G G' W W' h hf hs => ⟨h.1.trans (hf.below (Nat.le_trans hN h.1.size) fun k hk hG => ?_), fun i hi => ?_, fun x hx => ?_⟩⟩
  · have := (h.2.1 k hG).1.1; omega
  · rcases hs i hi with h1 | h1
    · have := h.2.1 i h1
      exact ⟨⟨this.1.1, Nat.lt_of_lt_of_le this.1.2 hf.size⟩, this.2⟩
    · refine ⟨⟨by have := h.1.size; omega, h1.2⟩, fun x hx e => ?_⟩
      have := (Array.getElem?_eq_some_iff.1 (h.2.2 x hx)).1
      omega
  · exact (hf.blk _ (Array.getElem?_eq_some_iff.1 (h.2.2 x hx)).1 fun hG => (h.2.1 _ hG).2 x hx rfl).trans (h.2.2 x hx)

set_option maxRecDepth 100000 in
theorem and_cns {N : Nat} {w0 : World} {p : Prop} {J : (Nat → Prop) → World → Prop} (h : Cns N w0 J) : Cns N w0 (fun G W => p ∧ J G W) :=
  ⟨fun _ _ q => h.base _ _ q.2, fun _ _ q => h.gd _ _ q.2, fun _ _ _ _ q hf hs => ⟨q.1, h.mv _ _ _ _ q.2 hf hs⟩⟩
set_option maxRecDepth 100000 in
theorem Own.put1 {N : Nat} {w0 : World} {bs bs' : List (Nat × Obj)} {G : Nat → Prop} {V V' : World} (h : Own N w0 bs G V) (b : Nat) (hN : N ≤ b) (hF : Fr (fun i => i = b) V V') (hz : N ≤ w0.heap.size) (hb : ∃ x ∈ bs, x.1 = b) (hbs : ∀ x ∈ bs', (x.1 = b ∧ V'.heap[b]? = some x.2) ∨ (x.1 ≠ b ∧ x ∈ bs)) : Own N w0 bs' G V' ∧ Sm G V V' := by
  have hg : ∀ i, G i → i ≠ b := fun i hi e => by obtain ⟨x, hx, rfl⟩ := hb; exact (h.2.1 i hi).2 x hx e
  refine ⟨⟨h.1.trans (hF.below (Nat.le_trans hz h.1.size) fun k hk e => by omega), fun i hi => ⟨⟨(h.2.1 i hi).1.1, Nat.lt_of_lt_of_le (h.2.1 i hi).1.2 hF.size⟩, fun x hx e => ?_⟩, fun x hx => ?_⟩, hF.sm fun i hi => ⟨(h.2.1 i hi).1.2, hg i hi⟩⟩
  · rcases hbs x hx with h1 | h1
    · exact hg i hi (e.trans h1.1)
    · exact (h.2.1 i hi).2 x h1.2 e
  · rcases hbs x hx with h1 | h1
    · rw [h1.1]; exact h1.2
    · exact (hF.blk _ (Array.getElem?_eq_some_iff.1 (h.2.2 x h1.2)).1 h1.1).trans (h.2.2 x h1.2)
/-- A box of one value. -/
def B1 (W : World) (b : Nat) (t : TypeId) (v : Value) : Prop := W.heap[b]? = some (.cells #[v] t)
set_option maxRecDepth 100000 in
theorem B1.cell {W : World} {b : Nat} {t : TypeId} {v : Value} (h : B1 W b t v) : W.cell? ⟨b, 0, none⟩ = some v := by unfold B1 at h; simp [World.cell?, h]
set_option maxRecDepth 100000 in
theorem B1.fz {W : World} {b : Nat} {t : TypeId} {v : Value} (h : B1 W b t v) : W.frozen? ⟨b, 0, none⟩ = false := by unfold B1 at h; simp [World.frozen?, h]
set_option maxRecDepth 100000 in
theorem B1.set {W : World} {b : Nat} {t : TypeId} {v : Value} (h : B1 W b t v) (u : Value) : (W.setCell ⟨b, 0, none⟩ u).heap[b]? = some (.cells #[u] t) := heap_setCell_same W b 0 #[v] t u h
set_option maxRecDepth 100000 in
theorem Own.b1 {N : Nat} {w0 : World} {bs : List (Nat × Obj)} {G : Nat → Prop} {W : World} (h : Own N w0 bs G W) {b : Nat} {t : TypeId} {v : Value} (hx : (b, Obj.cells #[v] t) ∈ bs) : B1 W b t v := h.2.2 _ hx
set_option maxRecDepth 100000 in
theorem results_cell1 {fn : Func} {p : Tmp} {ty : TypeId} (h : fn.results = #[.cell p ty]) (tmps : Array Value) (P : Program) (w : World) :
    (results fn tmps).run P w = ((asAddr (tmps.getD p undef)).run P w).andThen fun a w₁ => (loadVar ty a).run P w₁ := by
  simp only [results, h]
  simp [Sem.run_bind, Result.andThen]
set_option maxRecDepth 100000 in
theorem ret_b1 {fn : Func} {a : Tmp} {t t' : TypeId} (h : fn.results = #[.cell a t]) (ha : ∀ W, (isAgg t).run Tryz.prog W = .ok false W) {tmps : Array Value} {W : World} {q : Nat} {v : Value}
    (hp : tmps.getD a undef = .pointer (some ⟨q, 0, none⟩)) (hb : B1 W q t' v) : (results fn tmps).run Tryz.prog W = .ok v W := by
  rw [results_cell1 h, hp]
  have := hb.cell
  simp [asAddr, loadVar, ha, Sem.run_bind, Result.andThen, load, Sem.run, this]
set_option maxRecDepth 100000 in
theorem at_new {w : World} {o : Obj} {n : Nat} (h : n = w.heap.size) : (w.alloc o).heap[n]? = some o := by rw [h]; exact heap_alloc_new w o
set_option maxRecDepth 100000 in
theorem at_old {w : World} {o : Obj} {n : Nat} {v : Obj} (h : w.heap[n]? = some v) : (w.alloc o).heap[n]? = some v := (heap_alloc_old w o (Array.getElem?_eq_some_iff.1 h).1).trans h
/-- How many points all have. -/
def sumX (l : List (Nat × Sh)) : Nat := (l.map fun x => x.2.xn).sum
set_option maxRecDepth 100000 in
theorem sumX_snoc (l : List (Nat × Sh)) (k : Nat) (x : Nat × Sh) (h : l[k]? = some x) : sumX (l.take (k + 1)) = sumX (l.take k) + x.2.xn := by
  unfold sumX; rw [List.take_add_one, h]; simp
set_option maxRecDepth 100000 in
theorem sumX_le (l : List (Nat × Sh)) (k : Nat) : sumX (l.take k) ≤ sumX l := by
  unfold sumX
  conv => rhs; rw [← List.take_append_drop k l]
  rw [List.map_append, List.sum_append]
  omega
def ptsN (l : List (Nat × Sh)) : Nat := min 4001 (sumX l)

section
variable {n : Nat} {g : Operand} {ps : Array Tmp} {assign body : Code} {Q : Exit → Act → World → Prop} {a : Act} {w : World}
set_option maxRecDepth 100000 in
/-- A loop over a shape and all in it. -/
theorem range_whole {N : Nat} {w0 : World} (hN : N ≤ w0.heap.size) (s : Sh) (d : Nat) (hd : d ≤ 17) (hin : In (fun b => b < N) w0 s) (q : Nat) (hg : a.eval g = .func (.func 121) #[] #[.pointer (some ⟨q + 1, 0, none⟩), .pointer (some ⟨q, 0, none⟩)])
    (c1 : w.heap[q + 1]? = some (.cells #[.int .i64 (d : Int)] 3)) (c2 : Bx w q s) (hps : ps.size = 2)
    (I : Nat → (Nat → Prop) → World → Prop) (X : Code → (Nat → Prop) → World → Prop) (hI : ∀ k, Cns N w0 (I k)) (hX : ∀ c, Cns N w0 (X c)) (h0 : I 0 (fun i => i = q ∨ i = q + 1) w)
    (aw : Nat × Sh → World → World) (haw : ∀ x W, Fr (fun _ => False) W (aw x W)) (a₁ : Nat × Sh → World → Act)
    (hassign : ∀ (l : Nat) (x : Nat × Sh) (W : World) (K : Act → World → Prop), K (a₁ x W) (aw x W) →
      assign.wpIn (Fence.wide.inRound l) (n - 1 - 1) Tryz.prog (Exit.then K (fun _ _ _ => False)) { tmps := (ps.zip #[.int .i64 (x.1 : Int), .agg #[.int .i64 (x.2).k, .slice (x.2).xo (x.2).xn (x.2).xc, .slice (x.2).po (x.2).pn (x.2).pc]]).foldl (fun t (p, v) => t.setIfInBounds p v) a.tmps, defers := [] } W)
    (hbody : ∀ (l k : Nat) (x : Nat × Sh) (G : Nat → Prop) (Wa V : World), (s.flat d)[k]? = some x → I k G V → V.heap.size = (aw x Wa).heap.size → (∀ i, Wa.heap.size ≤ i → V.heap[i]? = (aw x Wa).heap[i]? ∧ (i < V.heap.size → G i)) →
      body.wpIn (Fence.wide.inRound l) (n - 1 - 1) Tryz.prog (GPost G (I (k + 1)) X V) (a₁ x Wa) V)
    (hdone : ∀ W, I (s.flat d).length (fun i => i = w.heap.size) W → Mark w.heap.size W → Q .normal { a with defers := { target := .collected w.heap.size, args := #[] } :: a.defers } W)
    (hstop : ∀ c W, X c (fun i => i = w.heap.size) W → Mark w.heap.size W → c.wpIn Fence.wide n Tryz.prog Q { a with defers := { target := .collected w.heap.size, args := #[] } :: a.defers } W) :
    (Code.rangeFunc g ps assign body).wpIn Fence.wide n Tryz.prog Q a w := by
  have hq := c2.lt
  have hq1 : q + 1 < w.heap.size := (Array.getElem?_eq_some_iff.1 c1).1
  refine range_g (N := N) (w0 := w0) (fun x : Nat × Sh => #[.int .i64 (x.1 : Int), .agg #[.int .i64 (x.2).k, .slice (x.2).xo (x.2).xn (x.2).xc, .slice (x.2).po (x.2).pn (x.2).pc]]) (s.flat d) (gf := 121) hg (enters_of Tryz.func121 (by kernel_rfl) rfl) (fun _ => hps.symm) I X hI hX (fun i => i = q ∨ i = q + 1) (fun _ => False) (fun _ _ h => h)
    ((hI 0).less h0 fun i hi => hi.elim id False.elim) ?_ aw haw a₁ hassign (fun l k x G Wa V h1 h2 _ h4 h5 => hbody l k x G Wa V h1 h2 h4 h5) (fun W h1 h2 _ => hdone W ((hI _).less h1 fun i hi => .inr hi) h2) (fun c W h1 h2 _ => hstop c W ((hX _).less h1 fun i hi => .inr hi) h2)
  intro l' J' Jx' W' hF hJ' hJx' hY' hj0
  refine (whole1_in N w0 hN s.nodes.length s d (Nat.le_refl _) hd hin (n - 1) l' (q + 1) q J' Jx' _ W' hJ' hJx' (fun k x Gs W h1 h2 => hY' k x Gs W h1 h2) hj0 (.inr rfl) (.inl rfl) ((hF.blk _ hq1 (fun h => h)).trans c1) (show Bx W' q s from (hF.blk _ hq (fun h => h)).trans c2)).mono ?_
  rintro e W9 ⟨hv, h⟩
  exact ⟨hv, h.imp (fun h => (hJ' _).less h (fun i hi => hi.elim)) (fun h => hJx'.less h (fun i hi => hi.elim))⟩
end

set_option maxRecDepth 100000 in
/-- The way out of a function with one such loop. -/
theorem leave1 {J : (Nat → Prop) → World → Prop} {N : Nat} {w0 : World} (hJ : Cns N w0 J) {D m : Nat} {fn : Func} {tmps : Array Value} {R : Ending → World → Prop} {W : World} (hj : J (fun i => i = D) W) (hm : Mark D W)
    (hR : ∀ W', J (fun _ => False) W' → ∃ v, (results fn tmps).run Tryz.prog W' = .ok v W' ∧ R (.returned v) W') : LeavesInM Fence.wide m Tryz.prog fn tmps R [{ target := .collected D, args := #[] }] .returning W :=
  ⟨by simp, .inl ⟨D, _, rfl, run_takeDeferred hm, hR _ (hJ.mv _ _ _ _ hj (Fr.put W D _) fun i hi => hi.elim)⟩⟩

attribute [local go_sem] Oper.semAt_some
set_option maxRecDepth 100000 in
set_option maxHeartbeats 4000000 in
theorem points_call (s : Sh) (w : World) (h : In (fun b => b < w.heap.size) w s) : Calls Tryz.prog 63 #[.agg #[.int .i64 (s).k, .slice (s).xo (s).xn (s).xc, .slice (s).po (s).pn (s).pc]] w fun e w' => e = .returned (.int .i64 (ptsN (s.flat 1) : Nat)) ∧ Below w.heap.size w w' := by
  have H := hid h
  have WC := hid (fun d W => whole_call s d W)
  clear h
  obtain ⟨m, -⟩ : ∃ m : Nat, m = 3 := ⟨3, rfl⟩
  refine (callsIn_wide (n := m)).1 ?_
  refine callsIn_of_wp_marks Tryz.func63 rfl trivial ?_ rfl
  simp only [Tryz.ntmps63, List.size_toArray, List.length_cons, List.length_nil, Nat.reduceAdd, Nat.reduceSub, Array.replicate_succ, Array.replicate_zero, List.push_toArray, List.append_toArray, List.nil_append, List.cons_append]
  gi_wp2_with (refine ⟨trivial, fun h => (by cases h), ?_⟩; gi_at_call 93; refine (callsIn_wide.2 (WC.out _ _)).mono ?_; rintro e W6 ⟨rfl, h6⟩; subst h6)
  have hz : ∀ n : Nat, w.heap.size ≤ w.heap.size + n := fun n => by omega
  refine range_whole (N := w.heap.size) (w0 := w) (Nat.le_refl _) s 1 (by omega) H.out (w.heap.size + 1 + 1 + 1) rfl (by repeat (first | (refine at_new ?_; first | with_reducible rfl | (simp only [World.size_alloc]; done)) | refine at_old ?_)) (show Bx _ _ _ from (by repeat (first | (refine at_new ?_; first | with_reducible rfl | (simp only [World.size_alloc]; done)) | refine at_old ?_))) rfl
    (fun k G W => sumX ((s.flat 1).take k) ≤ 4000 ∧ Own w.heap.size w [(w.heap.size + 1, .cells #[.int .i64 0] 3), (w.heap.size + 1 + 1, .cells #[.int .i64 (sumX ((s.flat 1).take k) : Nat)] 3)] G W)
    (fun c G W => (c = .ret ∧ 4000 < sumX (s.flat 1)) ∧ Own w.heap.size w [(w.heap.size + 1, .cells #[.int .i64 4001] 3)] G W)
    (fun k => and_cns (own_cns _ _ (Nat.le_refl _) _)) (fun c => and_cns (own_cns _ _ (Nat.le_refl _) _)) ?h0 (fun x W => W.alloc (.cells #[.int .i64 (x.2).k, .slice (x.2).xo (x.2).xn (x.2).xc, .slice (x.2).po (x.2).pn (x.2).pc] 39)) (fun x W => Fr.alloc _ _ _)
    (fun x Wa => ⟨#[.agg #[.int .i64 (s).k, .slice (s).xo (s).xn (s).xc, .slice (s).po (s).pn (s).pc], .pointer (some ⟨w.heap.size, 0, none⟩), .pointer (some ⟨w.heap.size + 1, 0, none⟩), .pointer (some ⟨w.heap.size + 1 + 1, 0, none⟩), undef, .pointer (some ⟨Wa.heap.size, 0, none⟩), .agg #[.int .i64 (s).k, .slice (s).xo (s).xn (s).xc, .slice (s).po (s).pn (s).pc], .func (.func 121) #[] #[.pointer (some ⟨w.heap.size + 1 + 1 + 1 + 1, 0, none⟩), .pointer (some ⟨w.heap.size + 1 + 1 + 1, 0, none⟩)], .int .i64 (x.1 : Int), .agg #[.int .i64 (x.2).k, .slice (x.2).xo (x.2).xn (x.2).xc, .slice (x.2).po (x.2).pn (x.2).pc], undef, undef, undef, undef, undef, undef, undef, undef], []⟩) ?hassign ?hbody ?hdone ?hstop
  case h0 =>
    refine ⟨by simp [sumX], (by repeat (first | with_reducible exact Below.refl _ _ | with_reducible refine Below.alloc ?_ (by simp <;> omega) _)), fun i hi => ⟨⟨by omega, by simp only [World.size_alloc]; omega⟩, fun x hx => by simp at hx; rcases hx with rfl | rfl <;> (show i ≠ _; omega)⟩, fun x hx => ?_⟩
    simp at hx
    rcases hx with rfl | rfl
    · exact (by repeat (first | (refine at_new ?_; first | with_reducible rfl | (simp only [World.size_alloc]; done)) | refine at_old ?_))
    · exact (by repeat (first | (refine at_new ?_; first | with_reducible rfl | (simp only [World.size_alloc]; done)) | refine at_old ?_))
  case hassign =>
    intro l' x W' K hK
    gi_wp2
    exact hK
  case hbody =>
    intro l' k x G Wa V hx hI hsz hnew
    obtain ⟨hle, hO⟩ := hI
    have hbx : Bx V Wa.heap.size x.2 := ((hnew _ (Nat.le_refl _)).1).trans (heap_alloc_new Wa _)
    have hr : B1 V (w.heap.size + 1) 3 (.int .i64 0) := hO.b1 (by simp)
    have hn : B1 V (w.heap.size + 1 + 1) 3 (.int .i64 (sumX ((s.flat 1).take k) : Nat)) := hO.b1 (by simp)
    have hs := sumX_snoc _ _ _ hx
    have hb : x.2.xn * 16 ≤ 140737488355328 := (H.out.node (flat_mem _ s 1 (Nat.le_refl _) (by omega) x (List.mem_of_getElem? hx)).1).xb
    have htot := sumX_le (s.flat 1) (k + 1)
    obtain ⟨-, t1, -⟩ := hbx.cells
    have n0 := hn.cell; have n1 := hn.fz; have r0 := hr.cell; have r1 := hr.fz
    have HN := hid hn; have HR := hid hr; have HO := hid hO; have HS := hid hs; have HT := hid htot
    obtain ⟨T, hT⟩ : ∃ T, T = sumX ((s.flat 1).take k) := ⟨_, rfl⟩
    rw [← hT] at n0 HN hle HO HS
    clear hn hr hO hs hsz hnew hbx hx htot hT
    by_cases hc : T + x.2.xn ≤ 4000
    · have hc' : ¬ (4000 : Int) < (T : Int) + (x.2.xn : Int) := by omega
      gi_wp2
      have e : (T : Int) + (x.2.xn : Int) = ((T + x.2.xn : Nat) : Int) := by omega
      obtain ⟨p1, p2⟩ := HO.out.put1 (bs' := [(w.heap.size + 1, .cells #[.int .i64 0] 3), (w.heap.size + 1 + 1, .cells #[.int .i64 ((T : Int) + (x.2.xn : Int))] 3)]) (w.heap.size + 1 + 1) (by omega) (Fr.set V (w.heap.size + 1 + 1) 0 (.int .i64 ((T : Int) + (x.2.xn : Int)))) (Nat.le_refl _) ⟨_, List.mem_cons_of_mem _ (List.mem_cons_self), rfl⟩ (fun y hy => by
        simp at hy
        rcases hy with rfl | rfl
        · exact .inr ⟨by simp, by simp⟩
        · exact .inl ⟨rfl, HN.out.set _⟩)
      exact ⟨p2, by rw [HS.out]; exact hc, by rw [HS.out, ← e]; exact p1⟩
    · have hc' : (4000 : Int) < (T : Int) + (x.2.xn : Int) := by omega
      gi_wp2
      obtain ⟨p1, p2⟩ := HO.out.put1 (bs' := [(w.heap.size + 1, .cells #[.int .i64 0] 3), (w.heap.size + 1 + 1, .cells #[.int .i64 ((T : Int) + (x.2.xn : Int))] 3)]) (w.heap.size + 1 + 1) (by omega) (Fr.set V (w.heap.size + 1 + 1) 0 (.int .i64 ((T : Int) + (x.2.xn : Int)))) (Nat.le_refl _) ⟨_, List.mem_cons_of_mem _ (List.mem_cons_self), rfl⟩ (fun y hy => by
        simp at hy
        rcases hy with rfl | rfl
        · exact .inr ⟨by simp, by simp⟩
        · exact .inl ⟨rfl, HN.out.set _⟩)
      obtain ⟨p3, p4⟩ := p1.put1 (bs' := [(w.heap.size + 1, .cells #[.int .i64 4001] 3)]) (w.heap.size + 1) (by omega) (Fr.set _ (w.heap.size + 1) 0 (.int .i64 4001)) (Nat.le_refl _) ⟨_, List.mem_cons_self, rfl⟩ (fun y hy => by
        simp at hy
        subst hy
        exact .inl ⟨rfl, (p1.b1 (List.mem_cons_self)).set _⟩)
      exact ⟨p2.trans p4, ⟨rfl, by have := HT.out; rw [HS.out] at this; omega⟩, p3⟩
  case hdone =>
    rintro W9 ⟨hle, hO⟩ hM
    have hr : B1 W9 (w.heap.size + 1) 3 (.int .i64 0) := hO.b1 (by simp)
    have hn : B1 W9 (w.heap.size + 1 + 1) 3 (.int .i64 (sumX ((s.flat 1).take (s.flat 1).length) : Nat)) := hO.b1 (by simp)
    rw [List.take_length] at hn hle hO
    have n0 := hn.cell; have n1 := hn.fz; have r0 := hr.cell; have r1 := hr.fz
    have HR := hid hr; have HO := hid hO; have HM := hid hM
    clear hn hr hO hM
    gi_wp2
    obtain ⟨p1, p2⟩ := HO.out.put1 (bs' := [(w.heap.size + 1, .cells #[.int .i64 (sumX (s.flat 1) : Nat)] 3)]) (w.heap.size + 1) (by omega) (Fr.set W9 (w.heap.size + 1) 0 (.int .i64 (sumX (s.flat 1) : Nat))) (Nat.le_refl _) ⟨_, List.mem_cons_self, rfl⟩ (fun y hy => by
        simp at hy
        subst hy
        exact .inl ⟨rfl, HR.out.set _⟩)
    refine leave1 (own_cns _ _ (Nat.le_refl _) _) p1 ((p2.same _ rfl).trans HM.out) (fun W' h' => ⟨_, ret_b1 rfl (fun W => by kernel_rfl) rfl (h'.b1 (List.mem_cons_self)), by rw [show ptsN (s.flat 1) = sumX (s.flat 1) by unfold ptsN; omega], h'.1⟩)
  case hstop =>
    rintro c W9 ⟨⟨rfl, hgt⟩, hO⟩ hM
    have HO := hid hO; have HM := hid hM
    clear hO hM
    gi_wp2
    exact leave1 (own_cns _ _ (Nat.le_refl _) _) HO.out HM.out (fun W' h' => ⟨_, ret_b1 rfl (fun W => by kernel_rfl) rfl (h'.b1 (List.mem_cons_self)), by rw [show ptsN (s.flat 1) = 4001 by unfold ptsN; omega]; rfl, h'.1⟩)
end Go.Proofs.YtpmfedimjjifaaaGreatDoor
