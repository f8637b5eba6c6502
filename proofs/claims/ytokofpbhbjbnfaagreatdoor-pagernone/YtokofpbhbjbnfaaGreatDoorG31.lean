/- Regions that draw their order: what is held may grow as the walk goes; records that can be read. No statement of the seat is proved here. -/
import Derived.Test.YtokofpbhbjbnfaaGreatDoorG30
import Derived.Test.YtokofpbhbjbnfaaGreatDoorG29
import Derived.Test.YtokofpbhbjbnfaaGreatDoorG09
import Derived.Test.YtokofpbhbjbnfaaGreatDoorG00
namespace Go.Proofs.YtokofpbhbjbnfaaGreatDoor
open Go.RowKit Go.Maps
open Dsk (gt hid undrew keep_old keep_cell lt_cell Rd DS FS Sec DiskP DFrame Grew From writeD syncD cutD lenD readD newD known)
open Cch (wpAnyK)

/-- What is held may be more from here on. -/
theorem wpAnyK_more {P : Program} {ops : Array Oper} {Q : Exit → Act → World → Prop} {md : Region.Mode} {S S' : World → Prop} {E : Nat → Bool} (hSS : ∀ w, S' w → S w) : ∀ {fuel : Nat} {listed : Array Bool} {a : Act} {w : World}, wpAnyK P md ops Q S' E fuel listed a w → wpAnyK P md ops Q S E fuel listed a w
  | 0, _, _, _, h => h
  | _ + 1, _, _, _, h => ⟨h.1, fun i hi => wpOp_mono (fun _ _ h' => ⟨fun hc => hSS _ (h'.1 hc), wpAnyK_more hSS h'.2⟩) (h.2 i hi)⟩

/-- A world that has grown out of another one. -/
abbrev Gr (w W : World) : Prop := Below w.heap.size w W

/-- The same, but for the block of the row o. -/
abbrev Gv (o : Value) (w W : World) : Prop := Cch.Fr (fun b => o.ownBlock = some b) w W
theorem gvt {o : Value} {w a b : World} (h : Gv o w a) (k : Gv o a b) : Gv o w b :=
  ⟨k.os.trans h.os, k.tape.trans h.tape, k.output.trans h.output, Nat.le_trans h.size k.size, fun i hi hn => (k.blk i (Nat.lt_of_lt_of_le hi h.size) hn).trans (h.blk i hi hn)⟩
theorem gv_below {o : Value} {w a : World} (h : Below w.heap.size w a) : Gv o w a := Cch.Fr.of_below h
theorem gv_grown {o : Value} {w a : World} (h : w.grownBy a o.ownBlock) : Gv o w a := ⟨h.os, h.tape, h.output, h.size, fun k hk hn => h.block k hk (fun e => hn e.symm)⟩
theorem gv_cell {o : Value} {w W : World} (h : Gv o w W) {b i : Nat} {v : Value} (hc : w.cell? ⟨b, i, none⟩ = some v) (hb : o.ownBlock ≠ some b) : W.cell? ⟨b, i, none⟩ = some v :=
  (World.cell?_of_block (h.blk b (lt_cell hc) hb)).trans hc

/-- Records that can be read, in blocks that nobody writes to. -/
def RecsO (W : World) (N : Nat → Prop) (ao : Option Addr) (L : Nat) (P : Nat → Int) (D : Nat → List Nat) : Prop :=
  0 < L → ∃ b off, ao = some ⟨b, off, none⟩ ∧ Out W N b ∧ ∀ i, i < L → ∃ a c, W.cell? ⟨b, off + i * 2, none⟩ = some (.int .i64 (P i)) ∧ W.cell? ⟨b, off + i * 2 + 1, none⟩ = some (.slice (some a) 512 c) ∧ Rd W (some a) 512 c (D i) ∧ Out W N a.block

theorem RecsO.turn {w w' : World} {N N' : Nat → Prop} {ao : Option Addr} {L : Nat} {P : Nat → Int} {D : Nat → List Nat} (h : RecsO w N ao L P D) (ho : ∀ b, Out w N b → Out w' N' b) (hc : ∀ b o v, Out w N b → w.cell? ⟨b, o, none⟩ = some v → w'.cell? ⟨b, o, none⟩ = some v) : RecsO w' N' ao L P D := fun hl => by
  obtain ⟨b, off, rfl, hb, hh⟩ := h hl
  refine ⟨b, off, rfl, ho _ hb, fun i hi => ?_⟩
  obtain ⟨a, c, k0, k1, hr, hao⟩ := hh i hi
  refine ⟨a, c, hc _ _ _ hb k0, hc _ _ _ hb k1, ⟨hr.1, hr.2.1, hr.2.2.1, fun hp => ?_⟩, ho _ hao⟩
  obtain ⟨b', off', e, h2⟩ := hr.2.2.2 hp
  obtain rfl := Option.some.inj e
  exact ⟨b', off', rfl, fun t ht => hc _ _ _ hao (h2 t ht)⟩
theorem RecsO.later {w w' : World} {N : Nat → Prop} {ao : Option Addr} {L : Nat} {P : Nat → Int} {D : Nat → List Nat} (h : RecsO w N ao L P D) (hb : Below w.heap.size w w') : RecsO w' N ao L P D :=
  h.turn (fun _ ho => ho.later hb.size) (fun _ _ _ _ hc => keep_old hb hc)
theorem RecsO.disk {w w' : World} {q : Nat} {P P' : Dsk.Parts} {ao : Option Addr} {L : Nat} {Pg : Nat → Int} {D : Nat → List Nat} (h : RecsO w (DN q P) ao L Pg D) (hf : DFrame w w' q P.all) (hg : Grew P w P') : RecsO w' (DN q P') ao L Pg D :=
  h.turn (fun _ ho => ho.grew hf.size hg) (fun _ _ _ ho hc => cell_df hf hc ho)
theorem RecsO.recs {w : World} {N : Nat → Prop} {ao : Option Addr} {L : Nat} {P : Nat → Int} {D : Nat → List Nat} (h : RecsO w N ao L P D) : Jrn.Recs w ao L P D := fun hl => by
  obtain ⟨b, off, rfl, hb, hh⟩ := h hl
  refine ⟨b, off, rfl, fun i hi => ?_⟩
  obtain ⟨a, c, k0, k1, hr, _⟩ := hh i hi
  exact ⟨some a, 512, c, k0, k1, hr⟩

theorem rd_sec {w : World} {ao : Option Addr} {c : Nat} {x : List Nat} (h : Rd w ao 512 c x) : Rd w ao 512 c (chunks 4 x).flatten := by
  rw [chunks_flatten 4 x (by rw [h.1])]; exact h

/-- What a record's writing back is. -/
def backL (P : Nat → Int) (D : Nat → List Nat) (n : Nat) : List Stp := (List.range n).map fun i => .wr 0 ((P i - 1) * 4) (chunks 4 (D i))
theorem backL_succ (P : Nat → Int) (D : Nat → List Nat) (n : Nat) : backL P D (n + 1) = backL P D n ++ [.wr 0 ((P n - 1) * 4) (chunks 4 (D n))] := by simp [backL, List.range_succ]
theorem backL_length (P : Nat → Int) (D : Nat → List Nat) (n : Nat) : (backL P D n).length = n := by simp [backL]
/-- What replay does. -/
def replayL (pg : Int) (P : Nat → Int) (D : Nat → List Nat) (n : Nat) : List Stp := backL P D n ++ [.ct 0 (pg * 4), .sy 0, .ct 1 0]

theorem lit_src (w : World) (us : List Value) (e : TypeId) (h1 : ∀ u ∈ us, u.oneCell' = true) : Cch.Src (w.alloc (.cells us.toArray e)) (some ⟨w.heap.size, 0, none⟩) us.length us.length us :=
  ⟨rfl, fun h => (by cases h), fun ad e j u hu => by
    obtain rfl := Option.some.inj e
    rw [Addr.add_lit, World.cell?_alloc_at _ _ _ _ rfl]
    simpa using hu, h1⟩
theorem step_one {w : World} {q : Nat} {N : Nat → Prop} {v : Value} {s : Stp} (h : StepAt w q N v s) : v.oneCell' = true := by
  cases s with
  | wr f a ss => obtain ⟨b0, b1, b2, b3, ao, n, cap, rfl, _⟩ := h; rfl
  | sy f => obtain ⟨b0, b1, rfl, _⟩ := h; rfl
  | ct f m => obtain ⟨b0, b1, b2, rfl, _⟩ := h; rfl
theorem step_func {w : World} {q : Nat} {N : Nat → Prop} {v : Value} {s : Stp} (h : StepAt w q N v s) : ∃ n cs, v = .func (.func n) #[] cs := by
  cases s with
  | wr f a ss => obtain ⟨b0, b1, b2, b3, ao, n, cap, rfl, _⟩ := h; exact ⟨_, _, rfl⟩
  | sy f => obtain ⟨b0, b1, rfl, _⟩ := h; exact ⟨_, _, rfl⟩
  | ct f m => obtain ⟨b0, b1, b2, rfl, _⟩ := h; exact ⟨_, _, rfl⟩
theorem StepAt.wider {w : World} {q : Nat} {N N' : Nat → Prop} {v : Value} {s : Stp} (h : StepAt w q N v s) (hn : ∀ k, N' k → N k) : StepAt w q N' v s :=
  h.turn (fun _ hb => ⟨hb.1, fun hk => hb.2 (hn _ hk)⟩) (fun _ _ _ _ hc => hc)

/-- A world that grew but for a block of the call's own. -/
theorem below_grown {w W W' : World} {v : Value} (hb : Below w.heap.size w W) (hg : W.grownBy W' v.ownBlock) (hv : ∀ k, v.ownBlock = some k → w.heap.size ≤ k) : Below w.heap.size w W' :=
  ⟨hg.os.trans hb.os, hg.tape.trans hb.tape, hg.output.trans hb.output, Nat.le_trans hb.size hg.size, fun k hk => (hg.block k (Nat.lt_of_lt_of_le hk hb.size) (fun e => by have := hv k e.symm; omega)).trans (hb.block k hk)⟩

end Go.Proofs.YtokofpbhbjbnfaaGreatDoor

/- What replay is; no statement of the seat is proved here. -/
namespace Go.Proofs.YtokofpbhbjbnfaaGreatDoor
open Go.RowKit Go.Maps
open Dsk (gt hid undrew keep_old keep_cell lt_cell Rd DS FS Sec DiskP DFrame Grew From writeD syncD cutD lenD readD newD known op_at)
open Cch (wpAnyK wpAnyK_take wpAnyK_pure wpAnyK_ready wpAnyK_done wp_region_K AllReadyK.cons AllReadyK.nil)

theorem own_bound {w : World} {e : TypeId} {v : Value} {n : Nat} {xs : List Value} (h : w.ownsRow 0 e 1 v n xs) {k : Nat} (hk : v.ownBlock = some k) : k < w.heap.size := by
  rcases h.2 with ⟨h1, _⟩ | ⟨g, cap, cur, h1, _, hg, _⟩
  · subst h1; cases hk
  · subst h1
    have : g = k := by simpa [Value.ownBlock] using hk
    subst this
    rcases Nat.lt_or_ge g w.heap.size with hlt | hge
    · exact hlt
    · rw [Array.getElem?_eq_none hge] at hg; cases hg

set_option maxHeartbeats 4000000 in
set_option maxRecDepth 20000 in
theorem replay_make (q : Nat) (c pg : Int) (m : Nat) (lo : Option Addr) (L cap : Nat) (P : Nat → Int) (D : Nat → List Nat) (N : Nat → Prop) (w : World) (hN : ∀ k, N k → k < w.heap.size)
    (hr : RecsO w N lo L P D) (hL : L ≤ 100000) (hP : ∀ i, i < L → -1000000 ≤ P i ∧ P i ≤ 1000000) (hpg : 0 ≤ pg ∧ pg ≤ 1000000) :
    Calls Tryz.prog 82 #[.pointer (some ⟨q, 0, none⟩), .agg #[.int .i64 c, .int .i64 pg, .int .u64 (m : Int)], .slice lo L cap] w fun e w' => ∃ ao cp, e = .returned (.slice ao (replayL pg P D L).length cp) ∧ StepsAt w' q N ao (replayL pg P D L) ∧ Below w.heap.size w w' := by
  have HN := hid hN; have HR := hid hr; have HP := hid hP
  have A0 : Below w.heap.size w (w.alloc (.cells #[.int .i64 c, .int .i64 pg, .int .u64 (m : Int)] 122)) := Below.alloc (Below.refl _ _) (Nat.le_refl _) _
  have q0 := hid (Jrn.HB.new 122 w c pg m).cells.2.1
  have o0 := hid (StRow.nil (w.alloc (.cells #[.int .i64 c, .int .i64 pg, .int .u64 (m : Int)] 122)) q N (w.heap.size + 1) (fun k hk => Nat.lt_succ_of_lt (hN k hk)) (by simp))
  have A0' := hid A0
  have hpw : IntKind.i64.wrap (pg * 4) = pg * 4 := IntWalk.i64_in _ ⟨by omega, by omega⟩
  clear hN hr hP A0 hpg
  go_enter Tryz.func82, Tryz.ntmps82
  go_wp2
  go_loopw [7, 12] (fun o cc W => ∃ (i : Nat) (us : List Value), i ≤ L ∧ cc = .int .i64 (i : Int) ∧ Hid (StRow W q N (w.heap.size + 1) o us (backL P D i)) ∧ Hid (Below w.heap.size w W) ∧ Hid (W.cell? ⟨w.heap.size, 1, none⟩ = some (.int .i64 pg))) (fun _ cc _ => L - (Lib.intOf cc).toNat)
  case atStart => exact ⟨0, [], by omega, rfl, o0, A0', q0⟩
  case round =>
    obtain ⟨i, us, hi, rfl, OO, BB, QQ⟩ := hrel
    clear o0 A0' q0
    by_cases hiL : i < L
    · obtain ⟨b0, off, rfl, hbo, hc⟩ := HR.out (by omega)
      obtain ⟨a, c1, k0, k1, rd, hao⟩ := hc i hiL
      obtain ⟨p, hp⟩ : ∃ p, P i = p := ⟨_, rfl⟩
      obtain ⟨d, hd⟩ : ∃ d, D i = d := ⟨_, rfl⟩
      rw [hp] at k0; rw [hd] at rd
      have hpr : Hid (-1000000 ≤ p ∧ p ≤ 1000000) := hid (by rw [← hp]; exact HP.out i hiL)
      have hdl : Hid (d.length = 512) := hid rd.1
      have rd5 := hid rd; have ao5 := hid hao
      have hno : Hid (¬ NV N u7 a.block) := hid (fun hk => by
        rcases hk with hk | hk
        · exact hao.2 hk
        · have := (OO.out.blk _ hk).1; have := hao.1; omega)
      have k0' := keep_old BB.out k0
      have k1' := keep_old BB.out k1
      have hbs : Hid (backL P D (i + 1) = backL P D i ++ [.wr 0 ((p - 1) * 4) (chunks 4 d)]) := hid (by rw [backL_succ, hp, hd])
      have hiI : (i : Int) < (L : Int) := by omega
      have hi0 : (0 : Int) ≤ (i : Int) := by omega
      clear k0 k1 rd hao hc hp hd hbo
      go_upto_region 5 with fail
      obtain ⟨r, hr⟩ : ∃ r, r = wr.heap.size := ⟨_, rfl⟩
      obtain ⟨W3, hW3⟩ : ∃ W3, W3 = wr.alloc (.cells #[.int .i64 p, .slice (some a) 512 c1] 153) := ⟨_, rfl⟩
      have hb : Below wr.heap.size wr W3.drew := by rw [hW3]; exact (Below.alloc (Below.refl _ _) (Nat.le_refl _) _).drew
      have YY : Jrn.RB 153 W3.drew r p (some a) 512 c1 := by rw [hW3, hr]; exact (Jrn.RB.new 153 wr p (some a) 512 c1).keep (Below.refl _ _).drew
      have Y0 := hid YY.cells.1
      have Y1 := hid YY.cells.2.1
      have hor : Hid (u7.ownBlock ≠ some r) := hid (fun e => by have := (OO.out.blk _ e).2; omega)
      replace OO := hid (OO.out.later hb); replace BB := hid (gt BB.out hb); replace QQ := hid (keep_old hb QQ.out)
      rw [← hW3, ← hr]
      clear hW3 hr hb YY k0' k1'
      refine wp_region_K (S := Gv u7 W3.drew) (fun _ => false) (by kernel_rfl) (Cch.Fr.refl _ _) (fun hHeld => ?_)
      refine wpAnyK_pure (i := 0) (v := ?_) (op_at _ 0 _ rfl) (by kernel_rfl) (by kernel_rfl) (by kernel_rfl) (by kernel_rfl) (fun _ _ _ h => h) (Or.inl ⟨by rfl, ?_⟩) (Or.inl (by assumption)) ?_
      rotate_left 1
      focus (intro W hSw; go_simp; first | done | with_reducible rfl)
      (try simp only [Act.put, List.setIfInBounds_toArray, List.set_cons_zero, List.set_cons_succ])
      refine wpAnyK_pure (i := 1) (v := ?_) (op_at _ 1 _ rfl) (by kernel_rfl) (by kernel_rfl) (by kernel_rfl) (by kernel_rfl) (fun _ _ _ h => h) (Or.inl ⟨by rfl, ?_⟩) (Or.inl (by assumption)) ?_
      rotate_left 1
      focus (intro W hSw; go_simp; first | done | with_reducible rfl)
      (try simp only [Act.put, List.setIfInBounds_toArray, List.set_cons_zero, List.set_cons_succ])
      refine wpAnyK_pure (i := 2) (v := ?_) (op_at _ 2 _ rfl) (by kernel_rfl) (by kernel_rfl) (by kernel_rfl) (by kernel_rfl) (fun _ _ _ h => h) (Or.inl ⟨by rfl, ?_⟩) (Or.inl (by assumption)) ?_
      rotate_left 1
      focus (intro W hSw; go_simp; first | done | with_reducible rfl)
      (try simp only [Act.put, List.setIfInBounds_toArray, List.set_cons_zero, List.set_cons_succ])
      refine wpAnyK_take (i := 3) (v := ?_) (op_at _ 3 _ rfl) (by kernel_rfl) (by kernel_rfl) (by kernel_rfl) (by kernel_rfl) (fun _ _ _ h => h) (Or.inl ⟨by rfl, ?_⟩) (by assumption) ?_
      rotate_left 1
      focus (intro W hSw; have a0 := gv_cell hSw Y0.out hor.out; have a1 := gv_cell hSw Y1.out hor.out; go_simp; first | done | with_reducible rfl)
      (try simp only [Act.put, List.setIfInBounds_toArray, List.set_cons_zero, List.set_cons_succ])
      refine wpAnyK_pure (i := 5) (v := ?_) (op_at _ 5 _ rfl) (by kernel_rfl) (by kernel_rfl) (by kernel_rfl) (by kernel_rfl) (fun _ _ _ h => h) (Or.inl ⟨by rfl, ?_⟩) (Or.inl (by assumption)) ?_
      rotate_left 1
      focus (intro W hSw; go_simp; first | done | with_reducible rfl)
      (try simp only [Act.put, List.setIfInBounds_toArray, List.set_cons_zero, List.set_cons_succ])
      refine wpAnyK_take (i := 6) (v := ?_) (op_at _ 6 _ rfl) (by kernel_rfl) (by kernel_rfl) (by kernel_rfl) (by kernel_rfl) (fun _ _ _ h => h) (Or.inl ⟨by rfl, ?_⟩) (by assumption) ?_
      rotate_left 1
      focus (intro W hSw; have a0 := gv_cell hSw Y0.out hor.out; have a1 := gv_cell hSw Y1.out hor.out; go_simp; first | done | with_reducible rfl)
      (try simp only [Act.put, List.setIfInBounds_toArray, List.set_cons_zero, List.set_cons_succ])
      refine wpAnyK_ready (rs := [4]) (by kernel_rfl) (by simp) ?_
      refine AllReadyK.cons (op_at _ 4 _ rfl) (fun K hK => ?_) AllReadyK.nil
      go_simp
      go_at_call 97; refine (place_any _ _ hpr.out).mono ?_; rintro e w4 ⟨rfl, hw⟩; have hb : Below W3.drew.heap.size W3.drew w4 := (by rw [hw]; exact Below.refl _ _); have hR : Gv u7 W3.drew w4 := gv_below hb; replace OO := hid (OO.out.later hb); replace Y0 := hid (keep_old hb Y0.out); replace Y1 := hid (keep_old hb Y1.out); replace BB := hid (gt BB.out hb); replace QQ := hid (keep_old hb QQ.out); clear hw hb
      refine hK.out _ _ hR (fun hHeld => ?_)
      clear hK K
      (try simp only [Act.put, List.setIfInBounds_toArray, List.set_cons_zero, List.set_cons_succ])
      clear hHeld
      refine wpAnyK_more (S' := Gv u7 w4) (fun W h => gvt hR h) ?_
      have hHeld : Gv u7 w4 w4 := Cch.Fr.refl _ _
      clear hR
      refine wpAnyK_ready (rs := [7]) (by kernel_rfl) (by simp) ?_
      refine AllReadyK.cons (op_at _ 7 _ rfl) (fun K hK => ?_) AllReadyK.nil
      go_simp
      go_at_call 109; refine (write_make q 0 ((p - 1) * 4) (some a) 512 c1 (chunks 4 d) (NV N u7) w4 (fun k hk => OO.out.lt hk) (rd_sec (rd5.out.keep BB.out)) (fun _ x hx => (by obtain rfl := Option.some.inj hx; exact ⟨Nat.lt_of_lt_of_le ao5.out.1 BB.out.size, fun hk => hno.out hk⟩)) (by rw [chunks_length]) (chunks_each 4 d (by rw [hdl.out])) (by rw [chunks_length]; omega)).mono ?_; rintro e w5 ⟨u, rfl, hst, hb⟩; have hR : Gv u7 w4 w5 := gv_below hb; replace OO := hid (OO.out.later hb); replace Y0 := hid (keep_old hb Y0.out); replace Y1 := hid (keep_old hb Y1.out); replace BB := hid (gt BB.out hb); replace QQ := hid (keep_old hb QQ.out); obtain ⟨n5, cs5, rfl⟩ := step_func hst; have ST := hid hst; clear hst hb
      refine hK.out _ _ hR (fun hHeld => ?_)
      clear hK K
      (try simp only [Act.put, List.setIfInBounds_toArray, List.set_cons_zero, List.set_cons_succ])
      clear hHeld
      refine wpAnyK_more (S' := Gv u7 w5) (fun W h => gvt hR h) ?_
      have hHeld : Gv u7 w5 w5 := Cch.Fr.refl _ _
      clear hR
      refine wpAnyK_ready (rs := [8]) (by kernel_rfl) (by simp) ?_
      refine AllReadyK.cons (op_at _ 8 _ rfl) (fun K hK => ?_) AllReadyK.nil
      go_simp
      have hb : Below w5.heap.size w5 (w5.alloc (.cells #[.func (.func n5) #[] cs5] 115)) := Below.alloc (Below.refl _ _) (Nat.le_refl _) _; have hR : Gv u7 w5 (w5.alloc (.cells #[.func (.func n5) #[] cs5] 115)) := gv_below hb; replace OO := hid (OO.out.later hb); replace Y0 := hid (keep_old hb Y0.out); replace Y1 := hid (keep_old hb Y1.out); replace BB := hid (gt BB.out hb); replace QQ := hid (keep_old hb QQ.out); replace ST := hid (ST.out.later hb); have SR := hid (lit_src w5 [(.func (.func n5) #[] cs5)] 115 (by intro x hx; simp at hx; subst hx; exact step_one ST.out)); clear hb
      refine hK.out _ _ hR (fun hHeld => ?_)
      clear hK K
      (try simp only [Act.put, List.setIfInBounds_toArray, List.set_cons_zero, List.set_cons_succ])
      clear hHeld
      refine wpAnyK_more (S' := Gv u7 (w5.alloc (.cells #[.func (.func n5) #[] cs5] 115))) (fun W h => gvt hR h) ?_
      have hHeld : Gv u7 (w5.alloc (.cells #[.func (.func n5) #[] cs5] 115)) (w5.alloc (.cells #[.func (.func n5) #[] cs5] 115)) := Cch.Fr.refl _ _
      clear hR
      refine wpAnyK_ready (rs := [9]) (by kernel_rfl) (by simp) ?_
      refine AllReadyK.cons (op_at _ 9 _ rfl) (fun K hK => ?_) AllReadyK.nil
      refine Cch.step_app rfl (.tmp 16) (.tmp 24) el113 rfl u7 (backL P D i).length us rfl OO.out.row (some ⟨w5.heap.size, 0, none⟩) 1 1 [(.func (.func n5) #[] cs5)] rfl SR.out (by rw [backL_length]; omega) ?_; intro a7 c7 w7 ho7 hg7 ha7; have hR : Gv u7 (w5.alloc (.cells #[.func (.func n5) #[] cs5] 115)) w7 := gv_grown hg7; have O7 := hid ho7; have G7 := hid hg7; have A7 := hid ha7; clear ho7 hg7 ha7
      refine hK.out _ _ hR (fun hHeld => ?_)
      clear hK K
      (try simp only [Act.put, List.setIfInBounds_toArray, List.set_cons_zero, List.set_cons_succ])
      clear hR
      refine wpAnyK_pure (i := 10) (v := ?_) (op_at _ 10 _ rfl) (by kernel_rfl) (by kernel_rfl) (by kernel_rfl) (by kernel_rfl) (fun _ _ _ h => h) (Or.inl ⟨by rfl, ?_⟩) (Or.inl (by assumption)) ?_
      rotate_left 1
      focus (intro W hSw; go_simp; first | done | with_reducible rfl)
      (try simp only [Act.put, List.setIfInBounds_toArray, List.set_cons_zero, List.set_cons_succ])
      refine wpAnyK_done (by kernel_rfl) ?_ _
      go_wp2
      go_roundw
      case rel =>
        have hlt : ∀ x, a7 = some x → x.block < w7.heap.size := fun x hx => own_bound O7.out (by rw [hx]; rfl)
        have hP7 := OO.out.push (ls := [.wr 0 ((p - 1) * 4) (chunks 4 d)]) (ys := [(.func (.func n5) #[] cs5)]) (m := 1) (fun j s hs => by
          cases j with
          | zero => simp at hs; subst hs; exact ⟨_, rfl, ST.out⟩
          | succ j => simp at hs) rfl rfl O7.out G7.out A7.out hlt
        rw [← hbs.out] at hP7
        refine ⟨i + 1, us ++ [(.func (.func n5) #[] cs5)], by omega, by go_num, hid hP7, hid (below_grown BB.out G7.out (fun k hk => Nat.le_of_succ_le (OO.out.blk k hk).1)), hid (cell_grown G7.out QQ.out (fun e => by have := (OO.out.blk _ e).1; omega))⟩
      case measure => simp [Lib.intOf]; omega
    · obtain rfl : i = L := by omega
      have q1 := QQ.out
      have t1 : Hid True := hid trivial
      go_wp2_with (first
        | (go_at_call 78; clear t1; refine (cut_make q 0 (pg * 4) (NV N u7) wr (fun k hk => OO.out.lt hk)).mono ?_; rintro e w1 ⟨x1, rfl, s1, b1⟩; obtain ⟨n1, cs1, rfl⟩ := step_func s1; replace OO := hid (OO.out.later b1); replace BB := hid (gt BB.out b1); have S1 := hid s1; clear s1 b1 q1 QQ)
        | (go_at_call 110; refine (sync_make q 0 (NV N u7) w1 (fun k hk => OO.out.lt hk)).mono ?_; rintro e w2 ⟨x2, rfl, s2, b2⟩; obtain ⟨n2, cs2, rfl⟩ := step_func s2; replace OO := hid (OO.out.later b2); replace BB := hid (gt BB.out b2); replace S1 := hid (S1.out.later b2); have S2 := hid s2; clear s2 b2)
        | (go_at_call 78; refine (cut_make q 1 0 (NV N u7) w2 (fun k hk => OO.out.lt hk)).mono ?_; rintro e w3 ⟨x3, rfl, s3, b3⟩; obtain ⟨n3, cs3, rfl⟩ := step_func s3; have b4 : Below w3.heap.size w3 (w3.alloc (.cells #[.func (.func n1) #[] cs1, .func (.func n2) #[] cs2, .func (.func n3) #[] cs3] 115)) := Below.alloc (Below.refl _ _) (Nat.le_refl _) _; have SR := hid (lit_src w3 [(.func (.func n1) #[] cs1), (.func (.func n2) #[] cs2), (.func (.func n3) #[] cs3)] 115 (by intro x hx; simp at hx; rcases hx with rfl | rfl | rfl <;> rfl)); replace OO := hid ((OO.out.later b3).later b4); replace BB := hid (gt (gt BB.out b3) b4); replace S1 := hid ((S1.out.later b3).later b4); replace S2 := hid ((S2.out.later b3).later b4); have S3 := hid (s3.later b4); clear s3 b3 b4)
        | ((with_reducible refine Dsk.here_op 38 ?_); refine Cch.wpList_app rfl (.tmp 27) (.tmp 37) el113 rfl u7 (backL P D i).length us rfl OO.out.row (some ⟨w3.heap.size, 0, none⟩) 3 3 [(.func (.func n1) #[] cs1), (.func (.func n2) #[] cs2), (.func (.func n3) #[] cs3)] rfl SR.out (by rw [backL_length]; omega) ?_; intro a7 c7 w7 ho7 hg7 ha7; have O7 := hid ho7; have G7 := hid hg7; have A7 := hid ha7; clear ho7 hg7 ha7))
      go_ret
      have hlt : ∀ x, a7 = some x → x.block < w7.heap.size := fun x hx => own_bound O7.out (by rw [hx]; rfl)
      have hP7 := OO.out.push (ls := [.ct 0 (pg * 4), .sy 0, .ct 1 0]) (ys := [(.func (.func n1) #[] cs1), (.func (.func n2) #[] cs2), (.func (.func n3) #[] cs3)]) (m := 3) (fun j s hs => by
          match j with
          | 0 => simp at hs; subst hs; exact ⟨_, rfl, S1.out⟩
          | 1 => simp at hs; subst hs; exact ⟨_, rfl, S2.out⟩
          | 2 => simp at hs; subst hs; exact ⟨_, rfl, S3.out⟩
          | j + 3 => simp at hs) rfl rfl O7.out G7.out A7.out hlt
      obtain ⟨hn, hst⟩ := hP7.steps
      refine ⟨a7, c7, by rw [hn]; rfl, hst, below_grown BB.out G7.out (fun k hk => Nat.le_of_succ_le (OO.out.blk k hk).1)⟩

end Go.Proofs.YtokofpbhbjbnfaaGreatDoor

/- The map of pages that a transaction changed: how it lies in memory, and what the library does to it. No statement of the seat is proved here. -/
namespace Go.Proofs.YtokofpbhbjbnfaaGreatDoor
open Go.RowKit Go.Maps Go.Sort Go.Shelf
open Dsk (gt hid undrew keep_old keep_cell lt_cell Rd DS FS Sec DiskP DFrame Grew From secD secD_inj idx entry dirtD was mem_idx canon_dirt has_dirt at_dirt size_dirt keys_dirt dirt_ext mem_insert behind)

/-- A slice of bytes, by its four numbers. -/
def slV : List Nat → Value
  | [b, o, n, c] => .slice (some ⟨b, o, none⟩) n c
  | _ => .slice none 0 0
/-- How it reads as a map's element. -/
def slR : Value → Option (DataW Unit × List MemPlace)
  | .slice (some ⟨b, o, none⟩) n c => some (secD [b, o, n, c], [])
  | .slice none _ _ => some (secD [], [])
  | _ => none
theorem slR_mk (b o n c : Nat) : slR (.slice (some ⟨b, o, none⟩) n c) = some (secD [b, o, n, c], []) := rfl
theorem slR_nil : slR (.slice none 0 0) = some (secD [], []) := rfl
theorem slR_inv {v : Value} {b o n c : Nat} {ps : List MemPlace} (h : slR v = some (secD [b, o, n, c], ps)) : v = .slice (some ⟨b, o, none⟩) n c := by
  unfold slR at h
  split at h
  · simp only [Option.some.injEq, Prod.mk.injEq] at h
    have e := secD_inj h.1
    simp only [List.cons.injEq, and_true] at e
    obtain ⟨rfl, rfl, rfl, rfl⟩ := e
    rfl
  · simp only [Option.some.injEq, Prod.mk.injEq] at h
    have e := secD_inj h.1
    simp at e
  · cases h

/-- A page's slice is noted. -/
theorem put_ch {dirt dirt' : List Bool} {old old' : List Sec} {i : Nat} {x : Sec} (hd : ∀ j, dirt'.getD j false = (dirt.getD j false || decide (j = i))) (ho : ∀ j, dirt.getD j false = true → j ≠ i → was old' j = was old j) (hx : was old' i = x)
    (hc : Canon ((dirtD dirt old).put (.int .i64 (i : Int)) (secD x))) : (dirtD dirt old).put (.int .i64 (i : Int)) (secD x) = dirtD dirt' old' := by
  refine dirt_ext hc dirt' old' fun es he p => ?_
  simp only [dirtD, DataW.put, DataW.map.injEq] at he
  rw [← he, mem_insert, List.mem_filter]
  constructor
  · rintro (rfl | ⟨hp, hs⟩)
    · exact ⟨i, by rw [hd]; simp, by rw [entry, hx]⟩
    · obtain ⟨j, hj, rfl⟩ := List.mem_map.1 hp
      have hji : j ≠ i := by
        intro e
        subst e
        simp [entry, Lit.sameKey] at hs
      exact ⟨j, by rw [hd, mem_idx.1 hj]; rfl, by rw [entry, entry, ho j (mem_idx.1 hj) hji]⟩
  · rintro ⟨j, hj, rfl⟩
    by_cases hji : j = i
    · subst hji; left; rw [entry, hx]
    · right
      rw [hd] at hj
      simp only [hji, decide_false, Bool.or_false] at hj
      refine ⟨List.mem_map.2 ⟨j, mem_idx.2 hj, by rw [entry, entry, ho j hj hji]⟩, ?_⟩
      simp only [entry, Lit.sameKey, true_and, Bool.not_eq_true', decide_eq_false_iff_not]
      omega

/-- The pages that a transaction changed, in a map: c says which, now their bytes. -/
structure Chg (w : World) (N : Nat → Prop) (m n : Nat) (now : List (List Nat)) (c : List Bool) (enc : List Sec) : Prop where
  map : w.ownsMap Tryz.prog 3 slR m n (dirtD (false :: c) enc)
  len : c.length = now.length
  el : enc.length = c.length + 1
  at_ : ∀ i, c.getD i false = true → ∃ b o cap, was enc (i + 1) = [b, o, 512, cap] ∧ Rd w (some ⟨b, o, none⟩) 512 cap (now.getD i []) ∧ Out w N b

theorem map_df {w w' : World} {m n : Nat} {D : DataW Unit} (h : w.ownsMap Tryz.prog 3 slR m n D) (hb : w'.heap[m]? = w.heap[m]?) : w'.ownsMap Tryz.prog 3 slR m n D := by
  obtain ⟨es, clock, h1, h2⟩ := h
  exact ⟨es, clock, hb.trans h1, h2⟩

theorem Chg.turn {w w' : World} {N N' : Nat → Prop} {m n : Nat} {now : List (List Nat)} {c : List Bool} {enc : List Sec} (h : Chg w N m n now c enc) (hm : w'.heap[m]? = w.heap[m]?) (ho : ∀ b, Out w N b → Out w' N' b) (hc : ∀ b o v, Out w N b → w.cell? ⟨b, o, none⟩ = some v → w'.cell? ⟨b, o, none⟩ = some v) : Chg w' N' m n now c enc :=
  ⟨map_df h.map hm, h.len, h.el, fun i hi => by
    obtain ⟨b, o, cap, e, hr, hob⟩ := h.at_ i hi
    refine ⟨b, o, cap, e, ⟨hr.1, hr.2.1, hr.2.2.1, fun hp => ?_⟩, ho _ hob⟩
    obtain ⟨b', o', e', h2⟩ := hr.2.2.2 hp
    simp only [Option.some.injEq, Addr.mk.injEq, and_true] at e'
    obtain ⟨rfl, rfl⟩ := e'
    exact ⟨b, o, rfl, fun t ht => hc _ _ _ hob (h2 t ht)⟩⟩
theorem Chg.later {w w' : World} {N : Nat → Prop} {m n : Nat} {now : List (List Nat)} {c : List Bool} {enc : List Sec} (h : Chg w N m n now c enc) (hb : Below w.heap.size w w') : Chg w' N m n now c enc :=
  h.turn (hb.block m h.map.lt) (fun _ ho => ho.later hb.size) (fun _ _ _ _ hc => keep_old hb hc)

/-- The pages that were changed, rising. -/
def chL (c : List Bool) : List Nat := idx (false :: c)
theorem chL_mem {c : List Bool} {i : Nat} (h : i ∈ chL c) : 1 ≤ i ∧ i ≤ c.length ∧ c.getD (i - 1) false = true := by
  have h1 := mem_idx.1 h
  cases i with
  | zero => simp at h1
  | succ i =>
    have h2 : c.getD i false = true := by simpa using h1
    have h3 : i < c.length := by
      rcases Nat.lt_or_ge i c.length with h | h
      · exact h
      · simp [List.getD, List.getElem?_eq_none h] at h2
    exact ⟨by omega, by omega, by simpa using h2⟩

theorem sortsB (m : Nat) : AnyZI.SortsIn Tryz.prog Tryz.sortedA_ren Fence.wide m :=
  ⟨fun blk off cap ss W hH hblk hsz => callsIn_wide.2 (AnyM.slices_Sort_int Tryz.sortA blk off cap ss W hH hblk hsz),
   fun p cap W => callsIn_wide.2 (AnyM.slices_Sort_int_none Tryz.sortA p cap W)⟩

theorem keysB_any (mb : Option Nat) (w : World) : Calls Tryz.prog 86 #[.map mb] w fun e w' => e = .returned (.func (.func 113) #[] #[.pointer (some ⟨w.heap.size, 0, none⟩)]) ∧ w' = w.alloc (.cells #[.map mb] 71) :=
  (callsIn_wide (n := 5)).1 (AnyZI.keys_in Tryz.keysB Fence.wide 5 trivial rfl mb w)

theorem sortedB_any (b n : Nat) (c : List Bool) (enc : List Sec) (w : World) (hown : w.ownsMap Tryz.prog 3 slR b n (dirtD c enc)) (hmax : (idx c).length ≤ 100000) :
    Calls Tryz.prog 85 #[.func (.func 113) #[] #[.pointer (some ⟨w.heap.size, 0, none⟩)]] (w.alloc (.cells #[.map (some b)] 71)) fun e w' => ∃ v : Value, e = .returned v ∧
      w'.ownsRow w.heap.size 3 1 v (idx c).length ((idx c).map fun i : Nat => .int .i64 (i : Int)) ∧ Below w.heap.size w w' := by
  have hbl := hown.lt
  have hseq : SeqGives Fence.wide 2 Tryz.prog 113 #[.pointer (some ⟨w.heap.size, 0, none⟩)] encZ (fun ss => ss.Perm (intKeys (dirtD c enc))) (Maps.size (dirtD c enc)) (w.alloc (.cells #[.map (some b)] 71)) :=
    AnyZI.keys_gives (ρ := Tryz.keysB_ren) { Tryz.keysB with } Fence.wide _ trivial rfl (by omega) w.heap.size b _ (dirtD c enc) _ (by simp) (by simp) (map_df hown (heap_alloc_old _ _ _ hbl))
  have hs := size_dirt c enc
  have cS := AnyZI.sorted_in Tryz.sortedA Fence.wide 5 trivial trivial trivial trivial rfl (by omega) (sortsB _) (enters_of Tryz.func112 (by kernel_rfl) rfl) 113 #[.pointer (some ⟨w.heap.size, 0, none⟩)] trivial (enters_of Tryz.func113 (by kernel_rfl) rfl) _ _ (by rw [hs]; unfold maxLen; omega) (by rw [hs]; omega) _ hseq
  change CallsIn _ _ Tryz.prog 85 _ _ _ at cS
  refine (callsIn_wide.1 cS).mono ?_
  rintro e w' ⟨v, ss, rfl, hS, hrow, _, hb⟩
  rw [Dsk.keys_sorted hS] at hrow
  have hl : ss.length = (idx c).length := by rw [hS.length_eq, keys_dirt]; simp
  rw [hl, List.map_map] at hrow
  refine ⟨v, rfl, ownsRow_base_a hrow (by simp), ((Below.refl _ w).alloc (Nat.le_refl _) _).trans (hb.mono (by simp))⟩

theorem cloneB_any (b n : Nat) (D : DataW Unit) (w : World) (h : w.ownsMap Tryz.prog 3 slR b n D) :
    Calls Tryz.prog 98 #[.map (some b)] w fun e w' => e = .returned (.map (some w.heap.size)) ∧ w'.ownsMap Tryz.prog 3 slR w.heap.size n D ∧ Below w.heap.size w w' :=
  (AnyW.maps_Clone_owns Tryz.cloneB 3 slR b n D w h).mono fun _ _ ⟨he, h1, _, hb⟩ => ⟨he, h1, hb⟩

theorem zeroB (W : World) : (zeroValue 60).run Tryz.prog W = .ok (.slice none 0 0) W := by kernel_rfl
theorem lenB {w : World} {m n : Nat} {D : DataW Unit} (h : w.ownsMap Tryz.prog 3 slR m n D) : (Builtin.len_ #[71] 3 #[.map (some m)]).run Tryz.prog w = .ok (.int .i64 (Maps.size D)) w := h.len Tryz.underlying71 3

/-- What a look into the map tells. -/
theorem lookB {w : World} {m n : Nat} {D : DataW Unit} (h : w.ownsMap Tryz.prog 3 slR m n D) (k : Int) (hk : (Lit.int .i64 k).wf = true) (b o l c : Nat) (hat : D.atKey (.int .i64 k) (secD []) = secD [b, o, l, c]) :
    (Instr.lookup 71 (.map (some m)) (.int .i64 k) false).run Tryz.prog w = .ok (.slice (some ⟨b, o, none⟩) l c) w := by
  obtain ⟨v, ps, hrun, hv⟩ := h.lookup (int_keyed Tryz.underlying3) Tryz.underlying71 (zeroB w) slR_nil (keyOf_int_mk Tryz.underlying3 hk)
  rw [hat] at hv
  rw [slR_inv hv] at hrun
  exact hrun

end Go.Proofs.YtokofpbhbjbnfaaGreatDoor
