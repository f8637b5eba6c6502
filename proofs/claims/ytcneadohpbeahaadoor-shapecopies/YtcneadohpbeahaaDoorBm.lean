/- Copy, and the law's own turn; no statement of the seat is proved here. -/
import Derived.Test.YtcneadohpbeahaaDoorBk
namespace Go.Proofs.YtcneadohpbeahaaDoor
open Go.RowKit Go.Maps

set_option maxHeartbeats 4000000 in
theorem copy_call (s : Sh) (w : World) (hI : In (fun b => b < w.heap.size) w s) (hN : s.nodes.length ≤ 65536) (hpt : (ptsOf s).length ≤ 4000) : Calls Tryd.prog 31 #[.agg #[.int .i64 (s).k, .slice (s).xo (s).xn (s).xc, .slice (s).po (s).pn (s).pc]] w (CopyIs s w) := by
  have B1 := hid ((Bx.new w s).keep (ext1 (.cells #[.int .i64 0, .slice none 0 0, .slice none 0 0] 25)))
  have Z1 : Hid (Bx ((w.alloc (.cells #[.int .i64 (s).k, .slice (s).xo (s).xn (s).xc, .slice (s).po (s).pn (s).pc] 25)).alloc (.cells #[.int .i64 0, .slice none 0 0, .slice none 0 0] 25)) (w.heap.size + 1) zSh) := hid (Bx.new2 w (.cells #[.int .i64 (s).k, .slice (s).xo (s).xn (s).xc, .slice (s).po (s).pn (s).pc] 25) zSh)
  have b0 : Hid (Below w.heap.size w ((w.alloc (.cells #[.int .i64 (s).k, .slice (s).xo (s).xn (s).xc, .slice (s).po (s).pn (s).pc] 25)).alloc (.cells #[.int .i64 0, .slice none 0 0, .slice none 0 0] 25))) := hid (gt (ext1 _) (ext1 _))
  obtain ⟨x0, x1, x2⟩ := B1.out.cells
  have C := hid (copied_call _ s 65536 (Nat.le_refl _) hN (Nat.le_refl _) hpt _ (hI.grow b0.out))
  rw [show ((65536 : Nat) : Int) = 65536 from rfl] at C
  clear hI hN hpt
  go_enter Tryd.func31, Tryd.ntmps31
  go_wp2_with (go_at_call 42; refine C.out.mono ?_; rintro e w1 ⟨⟨c, R, rfl, hce, hcin, hcnf, hcb⟩, hb1⟩; have H1 := hid hb1; have HCE := hid hce; have HCI := hid hcin; have HCN := hid hcnf; have HCB := hid hcb; clear hce hcin hcnf hcb hb1; have Z2 := hid (Z1.out.keep H1.out); obtain ⟨q0, q1, q2⟩ := Z2.out.cells; have qf := Z2.out.fz)
  refine bodyPost_ret (ret_c25 (c := c) rfl rfl (Z2.out.set3 c)) rfl ?_
  have F := fr3 (w := w1) (b := w.heap.size + 1) (.int .i64 c.k) (.slice c.xo c.xn c.xc) (.slice c.po c.pn c.pc)
  have hz := H1.out.size
  simp only [World.size_alloc] at hz
  have hb : ∀ b, R b → w.heap.size + 2 ≤ b ∧ b < w1.heap.size := fun b hb => by have := HCB.out b hb; simp only [World.size_alloc] at this; exact ⟨by omega, this.2⟩
  have hk : ∀ b, R b → _ = w1.heap[b]? := fun b hb' => F.blk b (hb b hb').2 (by have := (hb b hb').1; omega)
  refine ⟨⟨c, R, rfl, HCE.out, HCI.out.of fun b hb' => ⟨hk b hb', hb'⟩, HCN.out.of fun b hb' => ⟨hb', hk b hb'⟩, fun b hb' => ⟨by have := (hb b hb').1; omega, Nat.lt_of_lt_of_le (hb b hb').2 F.size⟩⟩, ?_⟩
  exact (gt b0.out H1.out).trans (F.below (gt b0.out H1.out).size fun i hi e => by omega)

/-- A box of a point. -/
def Tx (w : World) (b : Nat) (u v : Int) : Prop := w.heap[b]? = some (.cells #[.int .i64 u, .int .i64 v] 41)
theorem Tx.cells {w : World} {b : Nat} {u v : Int} (h : Tx w b u v) : w.cell? ⟨b, 0, none⟩ = some (.int .i64 u) ∧ w.cell? ⟨b, 1, none⟩ = some (.int .i64 v) := by unfold Tx at h; simp [World.cell?, h]
theorem Tx.lt {w : World} {b : Nat} {u v : Int} (h : Tx w b u v) : b < w.heap.size := (Array.getElem?_eq_some_iff.1 h).1
theorem Tx.keep {w w' : World} {b : Nat} {u v : Int} (h : Tx w b u v) (hb : Below w.heap.size w w') : Tx w' b u v := (hb.block b h.lt).trans h
theorem Tx.new2 (w : World) (o : Obj) (u v : Int) : Tx ((w.alloc o).alloc (.cells #[.int .i64 u, .int .i64 v] 41)) (w.heap.size + 1) u v := by have h := heap_alloc_new (w.alloc o) (.cells #[.int .i64 u, .int .i64 v] 41); rw [World.size_alloc] at h; exact h

/-- What a turn comes to. -/
def TurnIs (c : Sh) (S : Nat → Prop) (w : World) (e : Ending) (w' : World) : Prop := (e = .returned (.bool false) ∧ Below w.heap.size w w') ∨ (e = .returned (.bool true) ∧ ptsOf c ≠ [] ∧ Fr S w w')
def TnI (c : Sh) (u v : Int) (w : World) (x : Value) (W : World) : Prop := ∃ i : Nat, i ≤ c.pn ∧ x = .int .i64 (i : Int) ∧ Hid (Below w.heap.size w W) ∧ Hid (Bx W w.heap.size c) ∧ Hid (Tx W (w.heap.size + 1) u v)
set_option maxRecDepth 100000 in
set_option maxHeartbeats 8000000 in
theorem turn_call (S : Nat → Prop) (u v : Int) : ∀ (N : Nat) (c : Sh) (d : Nat), c.nodes.length ≤ N → d ≤ 100000 → ∀ (w : World), In S w c → NF w S → (∀ b, S b → b < w.heap.size) →
    Calls Tryd.prog 32 #[.agg #[.int .i64 (c).k, .slice (c).xo (c).xn (c).xc, .slice (c).po (c).pn (c).pc], .agg #[.int .i64 u, .int .i64 v], .int .i64 (d : Int)] w (TurnIs c S w) := by
  intro N
  induction N with
  | zero => intro c d h; rw [nodes_eq] at h; simp at h
  | succ N ih =>
    intro c d hN hd w hI hF hS
    have B1 := hid ((Bx.new w c).keep (ext1 (.cells #[.int .i64 u, .int .i64 v] 41)))
    have T1 := hid (Tx.new2 w (.cells #[.int .i64 (c).k, .slice (c).xo (c).xn (c).xc, .slice (c).po (c).pn (c).pc] 25) u v)
    have b0 : Hid (Below w.heap.size w ((w.alloc (.cells #[.int .i64 (c).k, .slice (c).xo (c).xn (c).xc, .slice (c).po (c).pn (c).pc] 25)).alloc (.cells #[.int .i64 u, .int .i64 v] 41))) := hid (gt (ext1 _) (ext1 _))
    obtain ⟨x0, x1, x2⟩ := B1.out.cells
    obtain ⟨t0, t1⟩ := T1.out.cells
    have hln := hI.here.lenI
    have HI := hid hI; have HF := hid hF; have HS := hid hS
    have IH := hid (fun i p W (hp : c.ps[i]? = some p) (hd' : d ≤ 20) (hW : Below w.heap.size w W) => ih p (d + 1) (by have := nodes_lt (s := c) (List.mem_of_getElem? hp); omega) (by omega) W ((hI.part (List.mem_of_getElem? hp)).of fun b hb => ⟨hW.block b (hS b hb), hb⟩) (hF.of fun b hb => ⟨hb, hW.block b (hS b hb)⟩) (fun b hb => Nat.lt_of_lt_of_le (hS b hb) hW.size))
    clear ih hN hI hF hS
    by_cases h20 : 20 < d
    · have h20' : (20 : Int) < (d : Int) := by omega
      go_enter Tryd.func32, Tryd.ntmps32
      go_wp2
      go_ret
      exact .inl ⟨rfl, b0.out⟩
    · have h20' : (d : Int) ≤ 20 := by omega
      have hd20 : d ≤ 20 := by omega
      by_cases hx : 0 < c.xn
      · have hx' : (0 : Int) < (c.xn : Int) := by omega
        obtain ⟨p, hp⟩ : ∃ p, c.xy[0]? = some p := ⟨_, List.getElem?_eq_getElem (by rw [HI.out.here.xl]; exact hx)⟩
        obtain ⟨b, off, hxo, hSb, hat⟩ := HI.out.here.xr.resolve_left (by intro e; rw [e] at hp; simp at hp)
        obtain ⟨z0, z1⟩ := hat 0 p hp
        rw [Nat.zero_mul, Nat.add_zero] at z0 z1
        have hbl := HS.out b hSb
        have f0 := HF.out.fz hSb off
        have f1 := HF.out.fz hSb (off + 1)
        have y0 := keep_cell b0.out z0 hbl
        have y1 := keep_cell b0.out z1 hbl
        rw [hxo] at x1 ⊢
        have hne : ptsOf c ≠ [] := by
          rw [ptsOf_eq]
          intro e
          have := congrArg List.length e
          rw [List.length_append, HI.out.here.xl] at this
          simp at this; omega
        have HNE := hid hne
        clear hat hp hxo hne
        go_enter Tryd.func32, Tryd.ntmps32
        go_wp2
        go_ret
        exact .inr ⟨rfl, HNE.out, (((Fr.set w b off (.int .i64 u)).trans (Fr.set _ b (off + 1) (.int .i64 v))).mono (fun k _ e => e ▸ hSb)).trans ((Fr.alloc _ _ _).trans (Fr.alloc _ _ _))⟩
      · have hx' : (c.xn : Int) ≤ 0 := by omega
        have dx : decide (0 < c.xn) = false := by simp; omega
        clear hx
        go_enter Tryd.func32, Tryd.ntmps32
        go_wp2
        go_loopw [22] (TnI c u v w) (fun x _ => c.pn - (intOf x).toNat)
        case atStart => exact ⟨0, by omega, rfl, b0, B1, T1⟩
        case round =>
          clear x0 x1 x2 t0 t1 B1 T1 b0
          obtain ⟨i, hi, rfl, hb, hB, hT⟩ := hrel
          obtain ⟨x0, x1, x2⟩ := hB.out.cells
          obtain ⟨t0, t1⟩ := hT.out.cells
          by_cases hik : i < c.pn
          · obtain ⟨p, hp⟩ : ∃ p, c.ps[i]? = some p := ⟨_, List.getElem?_eq_getElem (by rw [HI.out.here.pl]; exact hik)⟩
            obtain ⟨b, off, hpo, hbl, hat⟩ := HI.out.here.pr.resolve_left (by intro e; rw [e] at hp; simp at hp)
            obtain ⟨z0, z1, z2⟩ := (hat i p hp).of (w' := wr) (hb.out.block b (HS.out b hbl))
            have KB := hid (gt hb.out (ext1 (.cells #[.int .i64 (p).k, .slice (p).xo (p).xn (p).xc, .slice (p).po (p).pn (p).pc] 25)))
            have CC := hid (IH.out i p _ hp hd20 KB.out)
            have ed : ((d + 1 : Nat) : Int) = (d : Int) + 1 := by omega
            rw [ed] at CC
            have BP := hid (Bx.new wr p)
            obtain ⟨q0, q1, q2⟩ := BP.out.cells
            have t0' := keep_old (ext1 (.cells #[.int .i64 (p).k, .slice (p).xo (p).xn (p).xc, .slice (p).po (p).pn (p).pc] 25)) t0; have t1' := keep_old (ext1 (.cells #[.int .i64 (p).k, .slice (p).xo (p).xn (p).xc, .slice (p).po (p).pn (p).pc] 25)) t1
            have B2 := hid (hB.out.keep (ext1 (.cells #[.int .i64 (p).k, .slice (p).xo (p).xn (p).xc, .slice (p).po (p).pn (p).pc] 25)))
            have T2 := hid (hT.out.keep (ext1 (.cells #[.int .i64 (p).k, .slice (p).xo (p).xn (p).xc, .slice (p).po (p).pn (p).pc] 25)))
            have HPN := hid (show ptsOf p ≠ [] → ptsOf c ≠ [] from fun h e => h (by
              have := ptsOf_part hp
              rw [e, List.length_nil] at this
              exact List.eq_nil_of_length_eq_zero (by omega)))
            rw [hpo] at x2 ⊢
            clear hat hp hpo ed
            go_wp2_with (go_at_call 32; refine CC.out.mono ?_; rintro e w3 (⟨rfl, hb3⟩ | ⟨rfl, hne3, hf3⟩))
            · have H3 := hid hb3
              clear hb3
              go_wp2
              go_roundw
              case measure => simp [intOf]; omega
              case rel => exact ⟨i + 1, by omega, by go_num, hid (gt KB.out H3.out), hid (B2.out.keep H3.out), hid (T2.out.keep H3.out)⟩
            · have F3 := hid hf3
              have N3 := hid (HPN.out hne3)
              clear hne3 hf3
              go_wp2
              go_ret
              exact .inr ⟨rfl, N3.out, (Fr.b KB.out).trans F3.out⟩
          · obtain rfl : i = c.pn := by omega
            go_wp2
            go_ret
            exact .inl ⟨rfl, hb.out⟩
end Go.Proofs.YtcneadohpbeahaaDoor
