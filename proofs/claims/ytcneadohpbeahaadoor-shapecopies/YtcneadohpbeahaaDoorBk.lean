/- Shapes are copied: the walk; no statement of the seat is proved here. -/
import Derived.Test.YtcneadohpbeahaaDoorBj
namespace Go.Proofs.YtcneadohpbeahaaDoor
open Go.RowKit Go.Maps

theorem step_append_sh {w : World} {ops : Array Oper} {o : Oper} {a : Act} {K : Act → World → Prop} {Q : Exit → Act → World → Prop} {E' : Prop} (hgd : o.guard = none) (s x : Operand) (ho : o.op = .call { callee := .builtin .append, args := #[s, x], argTypes := #[23, 23] }) (B : Nat) (v : Value) (n : Nat) (xs : List Sh) (hs : a.eval s = v) (hown : w.ownsRow B 25 3 v n (cv3 xs))
    (g cc : Nat) (c : Sh) (hx : a.eval x = .slice (some ⟨g, 0, none⟩) 1 cc) (hg : At3 w g 0 c) (hb : (n + 1) * 56 ≤ 140737488355328) (hB : B ≤ w.heap.size)
    (h : ∀ v' w', w'.ownsRow B 25 3 v' (n + 1) (cv3 (xs ++ [c])) → w.grownBy w' v.ownBlock → (v'.ownBlock = v.ownBlock ∨ v'.ownBlock = some w.heap.size) → K (a.put o.dst v') w') : if Region.wanted o (yielded ops a.tmps) = true then Oper.wp Tryd.prog o a w K Q else E' := by
  have hw : Region.wanted o (yielded ops a.tmps) = true := by simp [Region.wanted, hgd]
  rw [if_pos hw]
  exact wp_append_sh s x ho B v n xs hs hown g cc c hx hg hb hB h
theorem grown_new {s : Sh} {w : World} {ob cap : Nat} {ao : Option Addr} {i : Nat} {qs : List Sh} {po : Option Addr} {pc : Nat} {R : Nat → Prop} {V w8 w9 : World} (h : CpH s w ob cap ao i qs po pc R V) (hg : w8.grownBy w9 (Value.slice po i pc).ownBlock) : ∀ b, V.heap.size ≤ b → b < w8.heap.size → w9.heap[b]? = w8.heap[b]? := fun b h1 h2 => hg.block b h2 fun e => by
  cases hpo : po with
  | none => rw [hpo] at e; simp [Value.ownBlock] at e
  | some a =>
    rw [hpo] at e
    simp only [Value.ownBlock, Option.some.injEq] at e
    have := (rowg_blk h.prow hpo).2.1
    omega
theorem prow_set {w : World} {B cap : Nat} {po : Option Addr} {n : Nat} {l : List Sh} (h : w.ownsRow B 25 3 (.slice po n cap) n (cv3 l)) (hl : l.length = n) : PR (inB po) w po l ∧ NF w (inB po) ∧ ∀ b, inB po b → B ≤ b ∧ b < w.heap.size := by
  refine ⟨?_, fun b hb => ?_, fun b hb => ?_⟩
  · rcases pr_own h hl with h9 | ⟨b, off, e9, _, hat⟩
    · exact .inl h9
    · exact .inr ⟨b, off, e9, ⟨_, e9, rfl⟩, hat⟩
  · obtain ⟨a, ha, rfl⟩ := hb
    obtain ⟨_, _, cur, e⟩ := rowg_blk h ha
    exact ⟨cur, 25, e⟩
  · obtain ⟨a, ha, rfl⟩ := hb
    obtain ⟨h1, h2, _⟩ := rowg_blk h ha
    exact ⟨h1, h2⟩
theorem ret_c25 {fn : Func} {p : Tmp} (h : fn.results = #[.cell p 25]) {tmps : Array Value} {W : World} {q : Nat} {c : Sh}
    (hp : tmps.getD p undef = .pointer (some ⟨q, 0, none⟩)) (hb : Bx W q c) : (results fn tmps).run Tryd.prog W = .ok (.agg #[.int .i64 (c).k, .slice (c).xo (c).xn (c).xc, .slice (c).po (c).pn (c).pc]) W := by
  rw [results_cell1 h, hp]
  simp [asAddr, load3 Tryd.isAgg25 Tryd.sizeOf25 hb]
theorem In.mk2 {S : Nat → Prop} {w : World} {s : Sh} (h : Here S w s) (hp : ∀ p ∈ s.ps, In S w p) : In S w s := by
  intro q hq
  rw [nodes_eq] at hq
  rcases List.mem_cons.1 hq with rfl | hq
  · exact h
  · generalize s.ps = l at hq hp
    induction l with
    | nil => rw [nodesL] at hq; cases hq
    | cons a r ih =>
      rw [nodesL, List.mem_append] at hq
      rcases hq with hq | hq
      · exact hp a (by simp) q hq
      · exact ih hq fun p h => hp p (by simp [h])

/-- What a copy is. -/
def CopyIs (s : Sh) (w : World) (e : Ending) (w' : World) : Prop := (∃ (c : Sh) (R : Nat → Prop), e = .returned (.agg #[.int .i64 (c).k, .slice (c).xo (c).xn (c).xc, .slice (c).po (c).pn (c).pc]) ∧ eqS c s = true ∧ In R w' c ∧ NF w' R ∧ ∀ b, R b → w.heap.size ≤ b ∧ b < w'.heap.size) ∧ Below w.heap.size w w'
theorem CpH.done {s : Sh} {w : World} {ob cap : Nat} {ao : Option Addr} {qs : List Sh} {po : Option Addr} {pc : Nat} {R : Nat → Prop} {V W' : World} (h : CpH s w ob cap ao s.pn qs po pc R V) (hs : In (fun b => b < w.heap.size) w s) (hF : Fr (fun i => i = w.heap.size + 1) V W') :
    CopyIs s w (.returned (.agg #[.int .i64 (Sh.mk s.k ao s.xn cap s.xy po s.pn pc qs).k, .slice (Sh.mk s.k ao s.xn cap s.xy po s.pn pc qs).xo (Sh.mk s.k ao s.xn cap s.xy po s.pn pc qs).xn (Sh.mk s.k ao s.xn cap s.xy po s.pn pc qs).xc, .slice (Sh.mk s.k ao s.xn cap s.xy po s.pn pc qs).po (Sh.mk s.k ao s.xn cap s.xy po s.pn pc qs).pn (Sh.mk s.k ao s.xn cap s.xy po s.pn pc qs).pc])) W' := by
  have hH := hs.here
  obtain ⟨x1, x2, x3⟩ := row_set h.row hH.xl
  obtain ⟨p1, p2, p3⟩ := prow_set h.prow h.len
  have kp : ∀ b, w.heap.size + 2 ≤ b → b < V.heap.size → W'.heap[b]? = V.heap[b]? := fun b h1 h2 => hF.blk b h2 (by omega)
  have kx : ∀ b, inB ao b → W'.heap[b]? = V.heap[b]? := fun b hb => kp b (x3 b hb).1 (x3 b hb).2
  have kq : ∀ b, inB po b → W'.heap[b]? = V.heap[b]? := fun b hb => kp b (p3 b hb).1 (p3 b hb).2
  have kr : ∀ b, R b → W'.heap[b]? = V.heap[b]? := fun b hb => kp b (h.rb b hb).1 (h.rb b hb).2.1
  refine ⟨⟨_, fun b => inB ao b ∨ inB po b ∨ R b, rfl, ?_, In.mk2 { kI := hH.kI, xl := hH.xl, xm := own_cap h.row, xb := hH.xb, x0 := own_none h.row, xr := x1.of fun b hb => ⟨kx b hb, .inl hb⟩, pl := h.len, pm := own_cap h.prow, pb := hH.pb, p0 := own_none h.prow, pr := p1.of fun b hb => ⟨kq b hb, .inr (.inl hb)⟩ } ?_, ?_, ?_⟩, ?_⟩
  · rw [eqS_eq]
    have he := h.eq
    rw [← hH.pl, List.take_length] at he
    show ((s.k == s.k) && ((s.xy == s.xy) && eqL qs s.ps)) = true
    rw [he]
    simp
  · exact fun q hq => (h.ins q hq).of fun b hb => ⟨kr b hb, .inr (.inr hb)⟩
  · intro b hb
    rcases hb with hb | hb | hb
    · obtain ⟨cur, t, e⟩ := x2 b hb; exact ⟨cur, t, (kx b hb).trans e⟩
    · obtain ⟨cur, t, e⟩ := p2 b hb; exact ⟨cur, t, (kq b hb).trans e⟩
    · obtain ⟨cur, t, e⟩ := h.nf b hb; exact ⟨cur, t, (kr b hb).trans e⟩
  · have hz := hF.size
    intro b hb
    rcases hb with hb | hb | hb
    · have := x3 b hb; exact ⟨by omega, by omega⟩
    · have := p3 b hb; exact ⟨by omega, by omega⟩
    · have := h.rb b hb; exact ⟨by omega, by omega⟩
  · exact h.bl.trans (hF.below h.bl.size fun i hi e => by omega)

def CpI (s : Sh) (w : World) (ob cap : Nat) (ao : Option Addr) (c : Value) (W : World) : Prop := ∃ (i : Nat) (qs : List Sh) (po : Option Addr) (pc : Nat) (R : Nat → Prop), i ≤ s.pn ∧ c = .int .i64 (i : Int) ∧ Hid (CpH s w ob cap ao i qs po pc R W)
set_option maxRecDepth 100000 in
set_option maxHeartbeats 8000000 in
theorem copied_call : ∀ (N : Nat) (s : Sh) (k : Nat), s.nodes.length ≤ N → N ≤ k → k ≤ 65536 → (ptsOf s).length ≤ 4000 → ∀ (w : World), In (fun b => b < w.heap.size) w s →
    Calls Tryd.prog 42 #[.agg #[.int .i64 (s).k, .slice (s).xo (s).xn (s).xc, .slice (s).po (s).pn (s).pc], .int .i64 (k : Int)] w (CopyIs s w) := by
  intro N
  induction N with
  | zero => intro s k h; rw [nodes_eq] at h; simp at h
  | succ N ih =>
    intro s k hN hNk hk6 hpt w hI
    have h4 : s.xn ≤ 4000 := by rw [ptsOf_eq, List.length_append, hI.here.xl] at hpt; omega
    have hk0 : 0 < k := by omega
    have n0 : ((k : Int) == 0) = false := by simp; omega
    have wk : IntKind.i64.wrap ((k : Int) - 1) = (k : Int) - 1 := IntWalk.i64_in _ (by omega)
    have ek : ((k - 1 : Nat) : Int) = (k : Int) - 1 := by omega
    have hln := hI.here.lenI
    have IHP := hid (fun i p W (hp : s.ps[i]? = some p) (hW : Below w.heap.size w W) => ih p (k - 1) (by have := nodes_lt (s := s) (List.mem_of_getElem? hp); omega) (by omega) (by omega) (by have := ptsOf_part hp; omega) W ((hI.part (List.mem_of_getElem? hp)).grow hW))
    rw [ek] at IHP
    clear ih hN hNk hpt ek
    have B1 := hid ((Bx.new w s).keep (ext1 (.cells #[.int .i64 0, .slice none 0 0, .slice none 0 0] 25)))
    have Z1 : Hid (Bx ((w.alloc (.cells #[.int .i64 (s).k, .slice (s).xo (s).xn (s).xc, .slice (s).po (s).pn (s).pc] 25)).alloc (.cells #[.int .i64 0, .slice none 0 0, .slice none 0 0] 25)) (w.heap.size + 1) zSh) := hid (Bx.new2 w (.cells #[.int .i64 (s).k, .slice (s).xo (s).xn (s).xc, .slice (s).po (s).pn (s).pc] 25) zSh)
    have b0 : Hid (Below w.heap.size w ((w.alloc (.cells #[.int .i64 (s).k, .slice (s).xo (s).xn (s).xc, .slice (s).po (s).pn (s).pc] 25)).alloc (.cells #[.int .i64 0, .slice none 0 0, .slice none 0 0] 25))) := hid (gt (ext1 _) (ext1 _))
    obtain ⟨x0, x1, x2⟩ := B1.out.cells
    have hmx : Tryd.prog.follows .mixedOrders = true := follows_mixed
    have CL := hid (fun W (hW : Below w.heap.size w W) => clone_call (fun b => b < W.heap.size) s.xo s.xn s.xc s.xy W (hI.grow hW).here.xr hI.here.xl hI.here.x0 (fun _ h => h) (by omega))
    have HI := hid hI
    clear hI
    go_enter Tryd.func42, Tryd.ntmps42
    go_wp2
    refine Code.wp_mono ?_ (show Code.wp Tryd.prog _ (NPost (Reg1 s k w)) _ _ from ?_)
    · intro e a5 W5 h5
      cases e with
      | normal =>
        obtain ⟨ob, ao, cap, rfl, hc1⟩ := h5
        have H0 := hid (CpH.start hc1)
        obtain ⟨y0, y1, y2⟩ := hc1.src.cells
        clear x0 x1 x2 B1 Z1 b0 CL hc1
        simp only [Exit.then]
        go_wp2
        go_loopw [20] (CpI s w ob cap ao) (fun c _ => s.pn - (intOf c).toNat)
        case atStart => exact ⟨0, [], none, 0, _, by omega, rfl, H0⟩
        case round =>
          clear y0 y1 y2 H0
          obtain ⟨i, qs, po, pc, R, hi, rfl, hh⟩ := hrel
          obtain ⟨y0, y1, y2⟩ := hh.out.src.cells
          obtain ⟨o0, o1, o2⟩ := hh.out.out.cells
          by_cases hik : i < s.pn
          · obtain ⟨p, hp⟩ : ∃ p, s.ps[i]? = some p := ⟨_, List.getElem?_eq_getElem (by rw [HI.out.here.pl]; exact hik)⟩
            obtain ⟨b, off, hpo, hbl, hat⟩ := HI.out.here.pr.resolve_left (by intro e; rw [e] at hp; simp at hp)
            obtain ⟨u0, u1, u2⟩ := (hat i p hp).of (w' := wr) (hh.out.bl.block b hbl)
            have h56 : (i + 1) * 56 ≤ 140737488355328 := by have := HI.out.here.pb; omega
            have HP := hid hp
            have KB := hid (gt hh.out.bl (ext1 (.cells #[.int .i64 (p).k, .slice (p).xo (p).xn (p).xc, .slice (p).po (p).pn (p).pc] 25)))
            obtain ⟨q0, q1, q2⟩ := (Bx.new wr p).cells
            have z2 := keep_old (ext1 (.cells #[.int .i64 (p).k, .slice (p).xo (p).xn (p).xc, .slice (p).po (p).pn (p).pc] 25)) o2
            have y2' := keep_old (ext1 (.cells #[.int .i64 (p).k, .slice (p).xo (p).xn (p).xc, .slice (p).po (p).pn (p).pc] 25)) y2
            rw [hpo] at y2 y2' ⊢
            clear hat hp hpo hbl
            go_wp2
            refine wp_region_K (S := (fun W : World => W.cell? ⟨ob, 2, none⟩ = some (.slice po i pc) ∧ W.cell? ⟨wr.heap.size, 0, none⟩ = some (.int .i64 p.k) ∧ W.cell? ⟨wr.heap.size, 1, none⟩ = some (.slice p.xo p.xn p.xc) ∧ W.cell? ⟨wr.heap.size, 2, none⟩ = some (.slice p.po p.pn p.pc))) (fun i => i == 9) (by kernel_rfl) (by exact ⟨z2, q0, q1, q2⟩) (fun hHeld => ?_)
            refine gkp 0 ?_
            refine gkt 1 ?_ (h := by intro W hSw; obtain ⟨s0, r0, r1, r2⟩ := hSw; go_simp; first | done | with_reducible rfl)
            refine gkt 2 ?_ (h := by intro W hSw; obtain ⟨s0, r0, r1, r2⟩ := hSw; go_simp; first | done | with_reducible rfl)
            refine gkp 3 ?_
            refine gkp 4 ?_ (v := .int .i64 ((k : Int) - 1)) (h := by intro W hSw; rw [← wk]; go_simp; first | done | with_reducible rfl)
            refine gk1 5 (fun K hK => ?_)
            go_simp
            go_at_call 42; refine (IHP.out i p _ HP.out KB.out.drew).mono ?_; rintro e w7 ⟨⟨c, R', rfl, hce, hcin, hcnf, hcb⟩, hb7⟩; have H7 := hid hb7; have HCE := hid hce; have HCI := hid hcin; have HCN := hid hcnf; have HCB := hid hcb; clear hce hcin hcnf hcb hb7; have hR : (fun W : World => W.cell? ⟨ob, 2, none⟩ = some (.slice po i pc) ∧ W.cell? ⟨wr.heap.size, 0, none⟩ = some (.int .i64 p.k) ∧ W.cell? ⟨wr.heap.size, 1, none⟩ = some (.slice p.xo p.xn p.xc) ∧ W.cell? ⟨wr.heap.size, 2, none⟩ = some (.slice p.po p.pn p.pc)) w7 := ⟨keep_old H7.out hHeld.1, keep_old H7.out hHeld.2.1, keep_old H7.out hHeld.2.2.1, keep_old H7.out hHeld.2.2.2⟩
            refine hK.out _ _ hR (fun hHeld => ?_)
            clear hK K
            (try simp only [Act.put, sA, sZ, sS])
            refine gk1 6 (fun K hK => ?_)
            go_simp
            have hR : (fun W : World => W.cell? ⟨ob, 2, none⟩ = some (.slice po i pc) ∧ W.cell? ⟨wr.heap.size, 0, none⟩ = some (.int .i64 p.k) ∧ W.cell? ⟨wr.heap.size, 1, none⟩ = some (.slice p.xo p.xn p.xc) ∧ W.cell? ⟨wr.heap.size, 2, none⟩ = some (.slice p.po p.pn p.pc)) (w7.alloc (.cells #[.int .i64 (c).k, .slice (c).xo (c).xn (c).xc, .slice (c).po (c).pn (c).pc] 25)) := ⟨keep_old (ext1 _) hHeld.1, keep_old (ext1 _) hHeld.2.1, keep_old (ext1 _) hHeld.2.2.1, keep_old (ext1 _) hHeld.2.2.2⟩
            refine hK.out _ _ hR (fun hHeld => ?_)
            clear hK K
            (try simp only [Act.put, sA, sZ, sS])
            have PB7 := hid (Bx.keep (show Bx (wr.alloc (.cells #[.int .i64 (p).k, .slice (p).xo (p).xn (p).xc, .slice (p).po (p).pn (p).pc] 25)).drew wr.heap.size p from Bx.new wr p) H7.out)
            have hz7 := H7.out.size
            have hzd : (wr.alloc (.cells #[.int .i64 (p).k, .slice (p).xo (p).xn (p).xc, .slice (p).po (p).pn (p).pc] 25)).drew.heap.size = wr.heap.size + 1 := by show (wr.alloc (.cells #[.int .i64 (p).k, .slice (p).xo (p).xn (p).xc, .slice (p).po (p).pn (p).pc] 25)).heap.size = _; simp
            rw [hzd] at hz7
            have hge2 : w.heap.size + 2 ≤ w7.heap.size := by have := hh.out.res.lt; omega
            have PR8 := own_below (own_below (show (wr.alloc (.cells #[.int .i64 (p).k, .slice (p).xo (p).xn (p).xc, .slice (p).po (p).pn (p).pc] 25)).drew.ownsRow (w.heap.size + 2) 25 3 (.slice po i pc) i (cv3 qs) from own_below hh.out.prow (Below.drew (ext1 (.cells #[.int .i64 (p).k, .slice (p).xo (p).xn (p).xc, .slice (p).po (p).pn (p).pc] 25)))) H7.out) (ext1 (.cells #[.int .i64 (c).k, .slice (c).xo (c).xn (c).xc, .slice (c).po (c).pn (c).pc] 25))
            have B8 := hid (show Below wr.heap.size wr (w7.alloc (.cells #[.int .i64 (c).k, .slice (c).xo (c).xn (c).xc, .slice (c).po (c).pn (c).pc] 25)) from gt (gt (Below.drew (ext1 (.cells #[.int .i64 (p).k, .slice (p).xo (p).xn (p).xc, .slice (p).po (p).pn (p).pc] 25))) H7.out) (ext1 _))
            have IN8 := hid (HCI.out.of (w' := w7.alloc (.cells #[.int .i64 (c).k, .slice (c).xo (c).xn (c).xc, .slice (c).po (c).pn (c).pc] 25)) (T := R') fun b hb => ⟨(ext1 _).block b (HCB.out b hb).2, hb⟩)
            have NF8 := hid (show NF (w7.alloc (.cells #[.int .i64 (c).k, .slice (c).xo (c).xn (c).xc, .slice (c).po (c).pn (c).pc] 25)) R' from HCN.out.of fun b hb => ⟨hb, (ext1 _).block b (HCB.out b hb).2⟩)
            have RB8 := hid (fun b (hb : R' b) => show wr.heap.size ≤ b ∧ b < (w7.alloc (.cells #[.int .i64 (c).k, .slice (c).xo (c).xn (c).xc, .slice (c).po (c).pn (c).pc] 25)).heap.size from ⟨by have := (HCB.out b hb).1; rw [hzd] at this; omega, by have := (HCB.out b hb).2; simp only [World.size_alloc]; omega⟩)
            refine gk1 7 (fun K hK => ?_)
            refine step_append_sh rfl (.tmp 25) (.tmp 30) rfl (w.heap.size + 2) (.slice po i pc) i qs rfl PR8 w7.heap.size 1 c rfl (Bx.new w7 c).cells (by omega) (by simp only [World.size_alloc]; exact Nat.le_trans hge2 (Nat.le_succ _)) ?_
            intro v9 w9 ho9 hg9 h59
            obtain ⟨po', pc', e9, hO9, hst⟩ := CpH.step hh.out HP.out HCE.out B8.out IN8.out NF8.out RB8.out ho9 hg9 h59
            subst e9
            have HST := hid hst
            have GN := grown_new hh.out hg9
            have O9 := hid hO9
            have f9 := O9.out.fz 2
            have PB9 := hid (show Bx w9 wr.heap.size p from (GN _ (Nat.le_refl _) (by simp only [World.size_alloc]; exact Nat.lt_succ_of_lt (Nat.lt_of_lt_of_le (Nat.lt_succ_self _) hz7))).trans ((PB7.out.keep (ext1 _))))
            clear ho9 hg9 h59 hst hO9 GN
            have hR : (fun W : World => W.cell? ⟨ob, 2, none⟩ = some (.slice po i pc) ∧ W.cell? ⟨wr.heap.size, 0, none⟩ = some (.int .i64 p.k) ∧ W.cell? ⟨wr.heap.size, 1, none⟩ = some (.slice p.xo p.xn p.xc) ∧ W.cell? ⟨wr.heap.size, 2, none⟩ = some (.slice p.po p.pn p.pc)) w9 := ⟨O9.out.cells.2.2, PB9.out.cells.1, PB9.out.cells.2.1, PB9.out.cells.2.2⟩
            refine hK.out _ _ hR (fun hHeld => ?_)
            clear hK K
            (try simp only [Act.put, sA, sZ, sS])
            refine gkp 8 ?_
            refine gkl 9 (fun K hK => ?_)
            go_simp
            refine hK.out _ _ ?_
            clear hK K
            (try simp only [Act.put, sA, sZ, sS])
            refine wpAnyK_done (by kernel_rfl) ?_ _
            go_wp2
            go_roundw
            case measure => simp [intOf]; omega
            case rel => exact ⟨i + 1, qs ++ [c], po', pc', _, by omega, by go_num, HST⟩
          · obtain rfl : i = s.pn := by omega
            obtain ⟨e0, e1, e2⟩ := hh.out.res.cells
            have ef := hh.out.res.fz
            go_wp2
            refine bodyPost_ret (ret_c25 (c := .mk s.k ao s.xn cap s.xy po s.pn pc qs) rfl rfl (hh.out.res.set3 (.mk s.k ao s.xn cap s.xy po s.pn pc qs))) rfl ?_
            exact hh.out.done HI.out (fr3 _ _ _)
      | _ => exact h5.elim
    · obtain ⟨W0, hW0⟩ : ∃ W0, W0 = (w.alloc (.cells #[.int .i64 (s).k, .slice (s).xo (s).xn (s).xc, .slice (s).po (s).pn (s).pc] 25)).alloc (.cells #[.int .i64 0, .slice none 0 0, .slice none 0 0] 25) := ⟨_, rfl⟩
      have hz0 : W0.heap.size = w.heap.size + 2 := by rw [hW0]; simp
      rw [← hW0] at x0 x1 x2 B1 Z1 b0 ⊢
      clear hW0 x2
      refine wp_region_K (S := (fun W : World => W.cell? ⟨w.heap.size, 0, none⟩ = some (.int .i64 s.k) ∧ W.cell? ⟨w.heap.size, 1, none⟩ = some (.slice s.xo s.xn s.xc))) (fun i => i == 7) (by kernel_rfl) (by exact ⟨x0, x1⟩) (fun hHeld => ?_)
      refine gkp 0 ?_
      refine gkt 1 ?_ (h := by intro W hSw; obtain ⟨r0, r1⟩ := hSw; go_simp; first | done | with_reducible rfl)
      refine gkp 2 ?_
      refine gkt 3 ?_ (h := by intro W hSw; obtain ⟨r0, r1⟩ := hSw; go_simp; first | done | with_reducible rfl)
      refine gk2 4 6 (fun K hK => ?_) (fun K hK => ?_)
      · go_simp
        go_at_call 54; refine (CL.out _ (b0.out.drew)).mono ?_; rintro e w1 ⟨⟨ao, cap, rfl, hro⟩, hb1⟩; have H1 := hid hb1; have RO := hid hro; clear hb1 hro; have hR : (fun W : World => W.cell? ⟨w.heap.size, 0, none⟩ = some (.int .i64 s.k) ∧ W.cell? ⟨w.heap.size, 1, none⟩ = some (.slice s.xo s.xn s.xc)) w1 := ⟨keep_old H1.out hHeld.1, keep_old H1.out hHeld.2⟩
        refine hK.out _ _ hR (fun hHeld => ?_)
        clear hK K
        (try simp only [Act.put, sA, sZ, sS])
        refine gkp 5 ?_
        refine gk1 6 (fun K hK => ?_)
        go_simp
        have hR : (fun W : World => W.cell? ⟨w.heap.size, 0, none⟩ = some (.int .i64 s.k) ∧ W.cell? ⟨w.heap.size, 1, none⟩ = some (.slice s.xo s.xn s.xc)) (w1.alloc (.cells #[.int .i64 0, .slice none 0 0, .slice none 0 0] 25)) := ⟨keep_old (ext1 _) hHeld.1, keep_old (ext1 _) hHeld.2⟩
        refine hK.out _ _ hR (fun hHeld => ?_)
        clear hK K
        (try simp only [Act.put, sA, sZ, sS])
        refine gkl 7 (fun K hK => ?_)
        go_simp
        refine hK.out _ _ ?_
        clear hK K
        (try simp only [Act.put, sA, sZ, sS])
        refine wpAnyK_done (by kernel_rfl) ?_ _
        have hz1 := H1.out.size
        have hzd : W0.drew.heap.size = w.heap.size + 2 := hz0
        rw [hzd] at hz1
        exact ⟨w1.heap.size, ao, cap, rfl, { out := heap_alloc_new w1 _, src := ((show Bx W0.drew w.heap.size s from B1.out).keep H1.out).keep (ext1 _), res := ((show Bx W0.drew (w.heap.size + 1) zSh from Z1.out).keep H1.out).keep (ext1 _), row := own_below (row_base RO.out (Nat.le_of_eq hzd.symm)) (ext1 _), ge := hz1, bl := gt (gt b0.out.drew H1.out) (ext1 _) }⟩
      · go_simp
        have hR : (fun W : World => W.cell? ⟨w.heap.size, 0, none⟩ = some (.int .i64 s.k) ∧ W.cell? ⟨w.heap.size, 1, none⟩ = some (.slice s.xo s.xn s.xc)) (W0.drew.alloc (.cells #[.int .i64 0, .slice none 0 0, .slice none 0 0] 25)) := ⟨keep_old (ext1 _) hHeld.1, keep_old (ext1 _) hHeld.2⟩
        refine hK.out _ _ hR (fun hHeld => ?_)
        clear hK K
        (try simp only [Act.put, sA, sZ, sS])
        refine gk1 4 (fun K hK => ?_)
        go_simp
        go_at_call 54; refine (CL.out _ (gt b0.out.drew (ext1 _))).mono ?_; rintro e w1 ⟨⟨ao, cap, rfl, hro⟩, hb1⟩; have H1 := hid hb1; have RO := hid hro; clear hb1 hro; have hR : (fun W : World => W.cell? ⟨w.heap.size, 0, none⟩ = some (.int .i64 s.k) ∧ W.cell? ⟨w.heap.size, 1, none⟩ = some (.slice s.xo s.xn s.xc)) w1 := ⟨keep_old H1.out hHeld.1, keep_old H1.out hHeld.2⟩
        refine hK.out _ _ hR (fun hHeld => ?_)
        clear hK K
        (try simp only [Act.put, sA, sZ, sS])
        refine gkp 5 ?_
        have OB0 := Bx.keep (show Bx (W0.drew.alloc (.cells #[.int .i64 0, .slice none 0 0, .slice none 0 0] 25)) W0.heap.size zSh from heap_alloc_new W0.drew (.cells #[.int .i64 0, .slice none 0 0, .slice none 0 0] 25)) H1.out
        rw [hz0] at OB0
        have OB := hid OB0
        clear OB0
        obtain ⟨q0, q1, q2⟩ := OB.out.cells
        have qf := OB.out.fz
        refine gkl 7 (fun K hK => ?_)
        go_simp
        refine hK.out _ _ ?_
        clear hK K
        (try simp only [Act.put, sA, sZ, sS])
        refine wpAnyK_done (by kernel_rfl) ?_ _
        have FB := hid (fr3 (w := w1) (b := w.heap.size + 2) (.int .i64 s.k) (.slice ao s.xn cap) (.slice none 0 0))
        exact ⟨w.heap.size + 2, ao, cap, rfl, { out := OB.out.set3 (.mk s.k ao s.xn cap s.xy none 0 0 []), src := (((show Bx W0.drew w.heap.size s from B1.out).keep (ext1 _)).keep H1.out).fr FB.out (by omega), res := (((show Bx W0.drew (w.heap.size + 1) zSh from Z1.out).keep (ext1 _)).keep H1.out).fr FB.out (by omega), row := row_fr (row_base RO.out (by simp only [World.size_alloc]; exact Nat.le_trans (Nat.le_of_eq hz0.symm) (Nat.le_succ _))) FB.out OB.out, ge := Nat.le_refl _, bl := (gt (gt b0.out.drew (ext1 _)) H1.out).trans (FB.out.below (gt (gt b0.out.drew (ext1 _)) H1.out).size (fun i hi e => by omega)) }⟩
end Go.Proofs.YtcneadohpbeahaaDoor
